/- law 5: slices of triples that came in; Made of whatever. · law 5: what is made, cut, and with more behind it. · HdrCuts. · law 12: over. · pe: an image whose directories are turned is one. · pe: a text as bytes of the call's own; what PeFirst lays. · law 6: awake. · the document's answer: SameHead of two heads that are the same; Int. · the document's answer: Head: what its tests on texts say. · the document's answer: Head: what its loops keep. · Cuts and loops over great frames: what is kept is told by one list, all else by one function of the slots' numbers (a binder a slot, hundreds of them, fells the kernel). · the document's Head, cut into declarations: the pieces of its code, and what is known of a frame. -/
import Derived.Test.YtplgdpjbkdagfaaGreatAwake5
import Derived.Test.YtplgdpjbkdagfaaGreatMadeH
import Derived.Test.YtplgdpjbkdagfaaGreatMask
import Derived.Deep.RegionHeld3
import Derived.Test.YtplgdpjbkdagfaaGreatMgF
import Derived.Test.YtplgdpjbkdagfaaGreatMdApp
import Derived.Test.YtplgdpjbkdagfaaGreatTail
import Derived.Test.YtplgdpjbkdagfaaGreatRefPut
import Derived.Test.YtplgdpjbkdagfaaGreatMade0
import Derived.Test.YtplgdpjbkdagfaaGreatHdrN
import Derived.Test.YtplgdpjbkdagfaaGreatRef1
import Derived.DeepKeys
import Derived.Deep.Cut
import Derived.Deep.LoopGhost
import Derived.KernelRfl
namespace Go.Proofs.YtplgdpjbkdagfaaGreat
set_option maxRecDepth 100000
open Go.ChangeShapes Go.WideShapes Go.ChangeAt Go.RowKit
set_option linter.unusedVariables false
set_option linter.unusedSimpArgs false

theorem slT_trips {w : World} {a : Option Addr} {len cap : Nat} {zs : List Trip}
    (h : (a = none ∧ len = 0 ∧ cap = 0 ∧ zs = []) ∨ ∃ x, a = some x ∧ len ≤ cap ∧ cap ≤ maxLen ∧ zs.length = cap ∧ ∀ i (h : i < zs.length), w.cell? (x.add (i * 3)) = some (.int .i64 zs[i].1) ∧ w.cell? (x.add (i * 3 + 1)) = some (.int .i64 zs[i].2.1) ∧ w.cell? (x.add (i * 3 + 2)) = some (.int .i64 zs[i].2.2)) :
    (zs.take len).length = len ∧ len ≤ 9223372036854775807 ∧ SlT tripC 3 w a (zs.take len) := by
  rcases h with ⟨rfl, rfl, rfl, rfl⟩ | ⟨x, rfl, hl, hm, hz, hc⟩
  · exact ⟨rfl, by omega, .inl rfl⟩
  · have hlen : (zs.take len).length = len := by rw [List.length_take]; omega
    refine ⟨hlen, by unfold maxLen at hm; omega, ?_⟩
    rcases Nat.eq_zero_or_pos len with h0 | h0
    · left; rw [h0]; rfl
    · obtain ⟨b, off, spot⟩ := x
      have hspot : spot = none := by simpa [Addr.add] using World.cell?_spot (hc 0 (by omega)).1
      subst hspot
      have hadd : ∀ i, (⟨b, off, none⟩ : Addr).add i = ⟨b, off + i, none⟩ := fun i => by unfold Addr.add; split <;> simp_all
      refine .inr ⟨b, off, rfl, ?_, fun i hi j v hv => ?_⟩
      · have h1 := (hc 0 (by omega)).1
        rw [hadd] at h1
        rcases Nat.lt_or_ge b w.heap.size with hlt | hge
        · exact hlt
        · simp [World.cell?, Array.getElem?_eq_none hge] at h1
      · obtain ⟨c0, c1, c2⟩ := hc i (by omega)
        rw [hadd] at c0 c1 c2
        simp only [List.getElem_take] at hv
        rcases j with _ | _ | _ | j
        · simp [tripC] at hv; subst hv; simpa using c0
        · simp [tripC] at hv; subst hv; rw [← c1]
        · simp [tripC] at hv; subst hv; rw [← c2]
        · simp [tripC] at hv

/-- Made, whatever sections are asked for. -/
theorem made_ex (AS : Option Addr) (l : List Trip) (cs : Nat) (w : World) (hS : SlT tripC 3 w AS l) :
    Calls Tryz.prog 25 #[.slice AS l.length cs, .slice none 0 0] w fun e w' =>
      ∃ L n g c F, 1 ≤ n ∧ n ≤ 6 ∧ e = .returned (.slice (some ⟨g, 0, none⟩) (atS L n) c) ∧ OwnC w' w.heap.size g (atS L n) c F ∧ MadeP L n F ∧ Below w.heap.size w w' := by
  rcases l with _ | ⟨t, r⟩
  · refine (made_none AS cs (fun _ => (16, 512, 3)) (fun _ => rfl) w).mono ?_
    rintro e w' ⟨g, c, F, rfl, h1, h2, h3⟩
    exact ⟨_, 1, g, c, F, by omega, by omega, rfl, h1, h2, h3⟩
  · refine (made_any AS (t :: r) cs (fun i => (t :: r).getD i t) (fun i => ?_) w (by simp) hS).mono ?_
    · rcases Nat.lt_or_ge i (t :: r).length with h | h
      · left
        rw [List.getD_eq_getElem?_getD, List.getElem?_eq_getElem h]; rfl
      · exact .inr h
    · rintro e w' ⟨g, c, F, rfl, h1, h2, h3⟩
      exact ⟨_, min (t :: r).length 6, g, c, F, by simp; omega, by omega, rfl, h1, h2, h3⟩
end Go.Proofs.YtplgdpjbkdagfaaGreat
namespace Go.Proofs.YtplgdpjbkdagfaaGreat
set_option maxRecDepth 100000
open Go.ChangeShapes Go.WideShapes Go.ChangeAt Go.RowKit
set_option linter.unusedVariables false
set_option linter.unusedSimpArgs false

theorem MadeI.chain_inv {L : Nat → Trip} {n : Int} {f : Nat → Int} {t : Nat} (x : MadeI L n t f) (size : Int) (k : Nat) : ∀ (m i : Nat) (nx : Int), i + m = t → chainP size k nx ((List.range' i m).map fun j => sectS f (328 + 40 * j)) → atS L i ≤ k → atS L t ≤ k
  | 0, i, nx, h, _, h2 => by
    obtain rfl : i = t := by omega
    exact h2
  | m + 1, i, nx, h, hc, h2 => by
    rw [List.range'_succ, List.map_cons] at hc
    obtain ⟨hs, hc⟩ := hc
    refine x.chain_inv size k m (i + 1) _ (by omega) hc ?_
    rw [x.sect (by omega)] at hs
    obtain ⟨_, _, _, _, _, h6⟩ := hs
    have h3 := rawS_bd (L i)
    have h6' : ¬ (0 < rawS (L i) ∧ (k : Int) < (atS L i : Int) + rawS (L i)) := h6
    simp only [atS]
    omega

/-- Cut ahead of its end it is none. -/
theorem MadeP.cut {L : Nat → Trip} {n : Nat} {f : Nat → Int} (x : MadeP L n f) (k : Nat) (hk : k < atS L n) (h1 : 1 ≤ n) (h6 : n ≤ 6) : headE k f ≠ 0 := by
  have h := x.all.hd
  by_cases c : k < 328
  · have hb : beginS k f = (0, 2) := by
      unfold beginS
      by_cases c2 : k < 64
      · rw [if_pos c2]
      · rw [if_neg c2, h.pe, h.m0, h.m1, if_neg (by omega), if_pos (by omega)]
    unfold headE
    rw [if_pos (by rw [hb]; simp), hb]
    simp
  · have hb : (beginS k f).1 = 64 := by rw [x.begin' k (by omega)]
    have hb2 : (beginS k f).2 = 0 := by rw [x.begin' k (by omega)]
    have hr := rvaS_bd L n
    have hal : alignS f 64 (readS f 64).base (readS f 64).size := by
      refine ⟨h.al, h.fal, ?_⟩
      simp only [readS]
      rw [h.base, x.size]
      have h0 := rvaS_mono L (show 1 ≤ n by omega)
      have hf := fullS_bd (L 0)
      omega
    unfold headE
    rw [if_neg (by omega), hb, show ((64 : Int).toNat) = 64 from rfl, if_neg (by rw [x.opt]; omega), if_neg (fun k => k hal)]
    by_cases c3 : k < 1024
    · rw [if_pos]
      · omega
      · intro hp
        have := hp.2.2.2.2
        simp only [readS] at this
        rw [h.hdrs] at this
        omega
    · rw [if_neg (fun hn => hn (by
        simp only [readS]
        rw [h.hdrs, h.cnt]
        unfold headersP
        omega)), if_pos]
      · omega
      · intro hc
        simp only [readS] at hc
        rw [h.hdrs, h.cnt, x.size, show roundS 1024 4096 = 4096 by rfl, Int.toNat_natCast] at hc
        unfold YtplgdpjbkdagfaaGreat.sectsS at hc
        rw [List.range_eq_range'] at hc
        have := x.all.chain_inv (rvaS L n) k n 0 4096 (by omega) hc (by show 1024 ≤ k; omega)
        omega

theorem MadeP.cat {L : Nat → Trip} {n : Nat} {f : Nat → Int} (x : MadeP L n f) (h : Nat → Int) (hn : n ≤ 6) : MadeP L n (catF (atS L n) f h) := by
  have ha := atS_bd L n
  have e : ∀ q, q < atS L n → catF (atS L n) f h q = f q := fun q hq => catF_lt hq
  refine ⟨⟨x.all.hd.congr fun q h1 _ => e q (by omega), fun j hj => (x.all.sec j hj).congr fun q h1 h2 => e q (by omega), fun j k hj hk => ?_, fun q h1 h2 => ?_⟩, ?_⟩
  · have h1 := atS_mono L (show j + 1 ≤ n by omega)
    simp only [atS] at h1
    rw [e _ (by omega)]
    exact x.all.dat j k hj hk
  · rw [e q (by omega)]
    exact x.all.nul q h1 h2
  · rw [rd_cat_lt (by omega)]
    exact x.size
end Go.Proofs.YtplgdpjbkdagfaaGreat
namespace Go.Proofs.YtplgdpjbkdagfaaGreat
set_option maxRecDepth 100000
open Go.ChangeShapes Go.WideShapes Go.ChangeAt Go.RowKit
set_option linter.unusedVariables false
set_option linter.unusedSimpArgs false

/-- Behind a head that was stored into a cell of its own: what lies there. -/
theorem headCell {w4 : World} {cs2 : Array Value} {h : HeadN} {sv : Value} (hv : HeadV cs2 h sv) :
    ((w4.alloc (.cells (headC 0 0 0 0 0 0) 41)).setRow w4.heap.size cs2).heap[w4.heap.size]? = some (.cells cs2 41 (0, 0)) ∧
    Below w4.heap.size w4 ((w4.alloc (.cells (headC 0 0 0 0 0 0) 41)).setRow w4.heap.size cs2) :=
  ⟨setRow_heap _ _ _ _ _ _ (heap_alloc_new _ _), below_setRow ((Below.refl _ w4).alloc (Nat.le_refl _) _) (Nat.le_refl _) _⟩

theorem OwnC.empty (w : World) : OwnC (w.alloc (.cells #[] 5)) w.heap.size w.heap.size 0 0 (fun _ => 0) :=
  ⟨Nat.le_refl _, by simp, fun i hi => by omega, fun _ => by omega, Nat.le_refl _, by omega, fun j hj => by omega⟩

theorem RowB.take {w : World} {b off n cap k : Nat} {f : Nat → Int} (h : RowB w b off n cap f) (hk : k ≤ n) : RowB w b off k cap f := ⟨fun i hi => h.row i (by omega), h.by255, h.lt, Nat.le_trans hk h.len, h.most⟩

theorem HeadR.any {w : World} {N : Nat} {f : Nat → Int} {v : Value} (h : HeadR w N f v) : ∃ cs, v = .tuple #[.agg cs, .int .i64 (headE N f)] ∧ cs.size = 39 ∧ cs.all (·.oneCell') = true := by
  obtain ⟨cs, hv, ⟨_, h⟩ | ⟨_, g, h, _⟩⟩ := h
  · exact ⟨cs, hv, h.size, h.one rfl⟩
  · exact ⟨cs, hv, h.size, h.one rfl⟩

end Go.Proofs.YtplgdpjbkdagfaaGreat
namespace Go.Proofs.YtplgdpjbkdagfaaGreat
open Go.ChangeShapes Go.WideShapes Go.ChangeAt Go.RowKit
set_option linter.unusedVariables false
set_option linter.unusedSimpArgs false
set_option maxRecDepth 100000

/-- Bytes laid over others. -/
def overF (f : Nat → Int) (at_ m : Nat) (h : Nat → Int) (j : Nat) : Int := if at_ ≤ j ∧ j < at_ + m then h (j - at_) else f j
theorem overF_zero (f : Nat → Int) (at_ : Nat) (h : Nat → Int) : overF f at_ 0 h = f := funext fun j => by unfold overF; rw [if_neg (by omega)]
theorem overF_succ (f : Nat → Int) (at_ i : Nat) (h : Nat → Int) : setF (overF f at_ i h) (at_ + i) (h i) = overF f at_ (i + 1) h := funext fun j => by
  unfold setF overF
  by_cases e : j = at_ + i
  · rw [if_pos e, if_pos (by omega), show j - at_ = i by omega]
  · rw [if_neg e]
    by_cases c : at_ ≤ j ∧ j < at_ + i
    · rw [if_pos c, if_pos (by omega)]
    · rw [if_neg c, if_neg (by omega)]
theorem over255 {f h : Nat → Int} (hf : Bytes255 f) (hh : Bytes255 h) (at_ m : Nat) : Bytes255 (overF f at_ m h) := fun j => by
  unfold overF; split
  · exact hh _
  · exact hf _

set_option maxHeartbeats 4000000 in
theorem over_any (b off n cap : Nat) (f : Nat → Int) (at_ : Nat) (b2 off2 m cap2 : Nat) (h : Nat → Int) (w : World) (hr : RowB w b off n cap f) (hm : RowB w b2 off2 m cap2 h) (hn : n ≤ 1000000) (hm1 : m ≤ 1000000) (ha : at_ ≤ 1000000) :
    Calls Tryz.prog 9 #[.slice (some ⟨b, off, none⟩) n cap, .int .i64 at_, .slice (some ⟨b2, off2, none⟩) m cap2] w fun e u => ∃ g c, e = .returned (.slice (some ⟨g, 0, none⟩) n c) ∧ OwnC u w.heap.size g n c (overF f at_ m h) ∧ Below w.heap.size w u := by
  have HR := Lib.hid hr
  have HM := Lib.hid hm
  have HN := Lib.hid (And.intro hn (And.intro hm1 ha))
  have HB0 := Lib.hid ((Below.refl w.heap.size w).alloc (Nat.le_refl _) (.cells #[] 5))
  clear hr hm hn hm1 ha
  go_enter Tryz.func9, Tryz.ntmps9
  go_wp2_with (at_builtin; refine wpList_appC rfl _ _ rfl (OwnC.empty w) (.inr ⟨b, off, rfl, Nat.lt_of_lt_of_le HR.out.lt (by simp), (HR.out.below HB0.out).row⟩) HR.out.by255 (by have := HN.out.1; omega) (by simp) rfl rfl ?_; intro g c w1 ho hb; have HO1 := Lib.hid ho; have HB1 := Lib.hid (HB0.out.trans hb); clear ho hb)
  rw [Nat.zero_add] at HO1
  try simp only [Nat.zero_add]
  --L1
  go_loopw [8] (fun v8 wr => ∃ i : Nat, i ≤ m ∧ v8 = .int .i64 i ∧ OwnC wr w.heap.size g n c (overF f at_ i h) ∧ Below w.heap.size w wr) (fun v8 _ => m - (intOf v8).toNat)
  case atStart => exact ⟨0, by omega, rfl, by rw [overF_zero]; exact HO1.out.congr HR.out.by255 (fun i hi => by unfold catF; rw [if_neg (by omega)]; rfl), HB1.out⟩
  case round =>
    obtain ⟨i, hi, rfl, ho, hb⟩ := hrel
    have HO := Lib.hid ho
    have HB := Lib.hid hb
    have hn := HN.out.1
    have hm1 := HN.out.2.1
    have ha := HN.out.2.2
    clear ho hb
    by_cases hlt : i < m
    · have hlt' : (i : Int) < m := by omega
      have hc2 := (HM.out.below HB.out).row i hlt
      by_cases hin : at_ + i < n
      · have hin' : (at_ : Int) + i < n := by omega
        have hcs := HO.out.row (at_ + i) hin
        have hwr := HO.out.wr (at_ + i) (by have := HO.out.len; omega)
        have d1 : decide ((0 : Int) ≤ at_ + i) = true := decide_eq_true (by omega)
        have d2 : decide ((at_ : Int) + i ≥ 0) = true := decide_eq_true (by omega)
        have d3 : decide ((at_ : Int) + i < n) = true := decide_eq_true hin'
        obtain ⟨hc3, hf3⟩ := hwr
        rw [Nat.zero_add] at hcs
        --L2
        go_wp2_with fail
        have hv := HM.out.by255 i
        exact ⟨⟨i + 1, by omega, by push_cast; rfl, by rw [← overF_succ]; exact HO.out.set (at_ + i) (h i) hin hv.1 hv.2, below_setCells' HO.out.le [.int .u8 (h i)] (at_ + i) wr HB.out⟩, by simp only [intOf]; omega⟩
      · have d1 : decide ((0 : Int) ≤ at_ + i) = true := decide_eq_true (by omega)
        have d2 : decide ((at_ : Int) + i ≥ 0) = true := decide_eq_true (by omega)
        have d3 : decide ((at_ : Int) + i < n) = false := decide_eq_false (by omega)
        go_wp2_with fail
        exact ⟨⟨i + 1, by omega, by push_cast; rfl, HO.out.congr (over255 HR.out.by255 HM.out.by255 _ _) (fun j hj => by rw [← overF_succ]; unfold setF; rw [if_neg (by omega)]), HB.out⟩, by simp only [intOf]; omega⟩
    · obtain rfl : i = m := by omega
      go_wp2_with fail
      go_ret
      exact ⟨g, c, rfl, HO.out, HB.out⟩
end Go.Proofs.YtplgdpjbkdagfaaGreat
namespace Go.Proofs.YtplgdpjbkdagfaaGreat
open Go.ChangeShapes Go.WideShapes Go.ChangeAt Go.RowKit
set_option linter.unusedVariables false
set_option linter.unusedSimpArgs false
set_option maxRecDepth 100000

theorem firstZ_congr {f f' : Nat → Int} : ∀ (n o : Nat), (∀ i, i < n → f' (o + i) = f (o + i)) → firstZ f' o n = firstZ f o n
  | 0, _, _ => rfl
  | n + 1, o, h => by
    unfold firstZ
    have h0 := h 0 (by omega)
    simp only [Nat.add_zero] at h0
    have h1 := firstZ_congr (f := f) (f' := f') n (o + 1) (fun i hi => by have := h (i + 1) (by omega); rw [show o + (i + 1) = o + 1 + i by omega] at this; exact this)
    rw [h0, h1]
theorem sectS_congr {f f' : Nat → Int} {o : Nat} (h : ∀ i, i < 40 → f' (o + i) = f (o + i)) : sectS f' o = sectS f o := by
  have k : ∀ d, d + 4 ≤ 40 → rdF f' (o + d) 4 = rdF f (o + d) 4 := fun d hd => rdF_congr 4 _ fun i hi => by rw [Nat.add_assoc]; exact h _ (by omega)
  have hz := firstZ_congr (f := f) (f' := f') 8 o (fun i hi => h i (by omega))
  unfold sectS nameS
  rw [hz, strF_congr (f := f') (f' := f) (o := o) (o' := o) (fun i hi => h i (by have := firstZ_le f o 8; omega)), k 8 (by omega), k 12 (by omega), k 16 (by omega), k 20 (by omega), k 36 (by omega)]

/-- The same bytes, but for the directories and what lies behind the sections' heads. -/
def SameH (n : Nat) (f f' : Nat → Int) : Prop := ∀ q, q < 328 + 40 * n → (q < 200 ∨ 328 ≤ q) → f' q = f q
theorem SameH.rd {n : Nat} {f f' : Nat → Int} (h : SameH n f f') (o k : Nat) (h1 : o + k ≤ 328 + 40 * n) (h2 : o + k ≤ 200 ∨ 328 ≤ o) : rdF f' o k = rdF f o k := rdF_congr k o fun i hi => h _ (by omega) (by omega)
theorem SameH.sects {n : Nat} {f f' : Nat → Int} (h : SameH n f f') : sectsS f' 328 n = sectsS f 328 n := by
  unfold sectsS
  refine List.map_congr_left fun j hj => ?_
  have hj := List.mem_range.1 hj
  exact sectS_congr fun i hi => h _ (by omega) (by omega)
theorem SameH.refl (n : Nat) (f : Nat → Int) : SameH n f f := fun _ _ _ => rfl
theorem SameH.trans {n : Nat} {f g h : Nat → Int} (a : SameH n f g) (b : SameH n g h) : SameH n f h := fun q h1 h2 => (b q h1 h2).trans (a q h1 h2)
theorem SameH.over {n : Nat} (f : Nat → Int) (at_ m : Nat) (h : Nat → Int) (hx : (200 ≤ at_ ∧ at_ + m ≤ 328) ∨ 328 + 40 * n ≤ at_) : SameH n f (overF f at_ m h) := fun q h1 h2 => by
  unfold overF; rw [if_neg (by omega)]

section
variable {L : Nat → Trip} {n : Nat} {f f' : Nat → Int}
theorem SameH.begin' (h : SameH n f f') (x : MadeP L n f) (N : Nat) (hN : 328 ≤ N) : beginS N f' = (64, 0) := by
  have y := x.all.hd
  have k : ∀ q v, q < 200 → f q = v → f' q = v := fun q v a b => (h q (by omega) (by omega)).trans b
  have z0 := k 0 77 (by omega) y.m0
  have z1 := k 1 90 (by omega) y.m1
  have z2 : rdF f' 60 4 = 64 := (h.rd 60 4 (by omega) (by omega)).trans y.pe
  unfold beginS
  rw [z2, z0, z1, if_neg (by omega), if_neg (by omega), if_neg (by omega)]
  show (if f' 64 ≠ 80 ∨ f' (64 + 1) ≠ 69 ∨ f' (64 + 2) ≠ 0 ∨ f' (64 + 3) ≠ 0 then ((0 : Int), (3 : Int)) else (64, 0)) = _
  rw [k 64 80 (by omega) y.p0, k 65 69 (by omega) y.p1, k 66 0 (by omega) y.p2, k 67 0 (by omega) y.p3, if_neg (by omega)]
theorem SameH.headP (h : SameH n f f') (x : MadeP L n f) (N : Nat) (hN : 328 ≤ N) : headP N f' = 64 := by
  unfold YtplgdpjbkdagfaaGreat.headP
  rw [h.begin' x N hN]
  rfl
theorem SameH.cnt (h : SameH n f f') (x : MadeP L n f) : rdF f' 70 2 = n := (h.rd 70 2 (by omega) (by omega)).trans x.all.hd.cnt
theorem SameH.headK (h : SameH n f f') (x : MadeP L n f) (N : Nat) (hN : 328 ≤ N) : headK N f' = n := by
  unfold YtplgdpjbkdagfaaGreat.headK
  rw [h.headP x N hN, h.cnt x]
  omega
theorem SameH.size (h : SameH n f f') (x : MadeP L n f) : (readS f' 64).size = rvaS L n := (h.rd 144 4 (by omega) (by omega)).trans x.size
theorem SameH.hdrs (h : SameH n f f') (x : MadeP L n f) : (readS f' 64).headers = 1024 := (h.rd 148 4 (by omega) (by omega)).trans x.all.hd.hdrs
theorem SameH.base (h : SameH n f f') (x : MadeP L n f) : (readS f' 64).base = 65536 := (h.rd 112 8 (by omega) (by omega)).trans x.all.hd.base
/-- It is an image. -/
theorem SameH.ok (h : SameH n f f') (x : MadeP L n f) (N : Nat) (hN : atS L n ≤ N) (h1 : 1 ≤ n) (h6 : n ≤ 6) : headE N f' = 0 := by
  have ha := atS_bd L n
  have hr := rvaS_bd L n
  have h0 := rvaS_mono L (show 1 ≤ n by omega)
  have hf := fullS_bd (L 0)
  have y := x.all.hd
  have hb : (beginS N f').1 = 64 := by rw [h.begin' x N (by omega)]
  have hb2 : (beginS N f').2 = 0 := by rw [h.begin' x N (by omega)]
  have ho : optS f' 64 = 0 := by
    unfold optS
    rw [(h.rd 68 2 (by omega) (by omega)).trans y.mach, (h.rd 84 2 (by omega) (by omega)).trans y.opt, (h.rd 88 2 (by omega) (by omega)).trans y.mg, (h.rd 196 4 (by omega) (by omega)).trans y.nd, if_neg (by omega), if_neg (by omega)]
  have hal : alignS f' 64 (readS f' 64).base (readS f' 64).size := by
    refine ⟨(h.rd 120 4 (by omega) (by omega)).trans y.al, (h.rd 124 4 (by omega) (by omega)).trans y.fal, ?_⟩
    rw [h.base x, h.size x]
    omega
  have hhp : headersP N 64 (readS f' 64).headers (rdF f' (64 + 6) 2) := by
    rw [h.hdrs x, h.cnt x]
    unfold headersP
    omega
  have hch : chainP (readS f' 64).size N (roundS (readS f' 64).headers 4096) (sectsS f' (64 + 264) (rdF f' (64 + 6) 2).toNat) := by
    rw [h.hdrs x, h.cnt x, h.size x, show roundS 1024 4096 = 4096 by rfl, Int.toNat_natCast, h.sects]
    have k := x.all.chain N hN n 0 (by omega)
    rw [← List.range_eq_range'] at k
    exact k
  have hen : (readS f' 64).entry = 0 := (h.rd 104 4 (by omega) (by omega)).trans y.ent
  unfold headE
  rw [if_neg (by omega), hb, show ((64 : Int).toNat) = 64 from rfl, if_neg (by rw [ho]; omega), if_neg (fun k => k hal), if_neg (fun k => k hhp), if_neg (fun k => k hch), if_neg]
  rw [h.size x, hen]
  simp only [rvaS] at h0
  omega
end

theorem rdF_shift {f g : Nat → Int} : ∀ (n o o' : Nat), (∀ i, i < n → f (o + i) = g (o' + i)) → rdF f o n = rdF g o' n
  | 0, _, _, _ => rfl
  | n + 1, o, o', h => by
    unfold rdF
    have h0 := h 0 (by omega)
    simp only [Nat.add_zero] at h0
    rw [h0, rdF_shift n (o + 1) (o' + 1) (fun i hi => by rw [show o + 1 + i = o + (i + 1) by omega, show o' + 1 + i = o' + (i + 1) by omega]; exact h (i + 1) (by omega))]
theorem dirs_over (f d : Nat → Int) (k i : Nat) : (readS (overF f (200 + 8 * k) 8 d) 64).dirs i = if i = k then (rdF d 0 4, rdF d 4 4) else (readS f 64).dirs i := by
  show (rdF (overF f (200 + 8 * k) 8 d) (64 + 136 + 8 * i) 4, rdF (overF f (200 + 8 * k) 8 d) (64 + 136 + 8 * i + 4) 4) = _
  by_cases e : i = k
  · subst e
    rw [if_pos rfl, rdF_shift (g := d) 4 (64 + 136 + 8 * i) 0 (fun j hj => by unfold overF; rw [if_pos (by omega)]; congr 1; omega), rdF_shift (g := d) 4 (64 + 136 + 8 * i + 4) 4 (fun j hj => by unfold overF; rw [if_pos (by omega)]; congr 1; omega)]
  · rw [if_neg e]
    show _ = (rdF f (64 + 136 + 8 * i) 4, rdF f (64 + 136 + 8 * i + 4) 4)
    rw [rdF_shift (f := overF f (200 + 8 * k) 8 d) (g := f) 4 (64 + 136 + 8 * i) (64 + 136 + 8 * i) (fun j hj => by unfold overF; rw [if_neg (by omega)]), rdF_shift (f := overF f (200 + 8 * k) 8 d) (g := f) 4 (64 + 136 + 8 * i + 4) (64 + 136 + 8 * i + 4) (fun j hj => by unfold overF; rw [if_neg (by omega)])]
theorem dirs_behind (f d : Nat → Int) (at_ m i : Nat) (h : 328 ≤ at_) (hi : i < 16) : (readS (overF f at_ m d) 64).dirs i = (readS f 64).dirs i := by
  show (rdF (overF f at_ m d) (64 + 136 + 8 * i) 4, rdF (overF f at_ m d) (64 + 136 + 8 * i + 4) 4) = (rdF f (64 + 136 + 8 * i) 4, rdF f (64 + 136 + 8 * i + 4) 4)
  rw [rdF_shift (f := overF f at_ m d) (g := f) 4 (64 + 136 + 8 * i) (64 + 136 + 8 * i) (fun j hj => by unfold overF; rw [if_neg (by omega)]), rdF_shift (f := overF f at_ m d) (g := f) 4 (64 + 136 + 8 * i + 4) (64 + 136 + 8 * i + 4) (fun j hj => by unfold overF; rw [if_neg (by omega)])]
theorem MadeP.dirs0 {L : Nat → Trip} {n : Nat} {f : Nat → Int} (x : MadeP L n f) (i : Nat) (hi : i < 16) : (readS f 64).dirs i = (0, 0) := by
  show (rdF f (64 + 136 + 8 * i) 4, rdF f (64 + 136 + 8 * i + 4) 4) = _
  have h1 := x.all.hd.dirs (2 * i) (by omega)
  have h2 := x.all.hd.dirs (2 * i + 1) (by omega)
  rw [show 64 + 136 + 8 * i = 200 + 4 * (2 * i) by omega, h1, show 200 + 4 * (2 * i) + 4 = 200 + 4 * (2 * i + 1) by omega, h2]

/-- The sections of law 12's images. -/
def L12 (_ : Nat) : Trip := (12287, 8191, 7)
theorem at12 : atS L12 1 = 8704 := by decide +kernel
theorem rva12 : rvaS L12 1 = 16384 := by decide +kernel
/-- A directory that lies far beyond. -/
def far8 : ByteArray := ⟨#[0, 0, 16, 0, 64, 0, 0, 0]⟩
theorem far8_a : rdF (PlainAid.bt far8) 0 4 = 1048576 := by decide +kernel
theorem far8_b : rdF (PlainAid.bt far8) 4 4 = 64 := by decide +kernel
theorem far8_s : strF (byteOf 1048576) 0 4 ++ strF (byteOf 64) 0 4 = far8 := by decide +kernel
/-- Law 12's image, one or two directories of which are turned. -/
theorem dirs12 {F f : Nat → Int} (x : MadeP L12 1 F) (h : ∀ i, i < 16 → (readS f 64).dirs i = (rvB false, szB false)) (a : Nat) (i : Nat) : (readS (overF f (200 + 8 * a) 8 (PlainAid.bt far8)) 64).dirs i = if i = a then (rvB true, szB true) else (readS f 64).dirs i := by
  rw [dirs_over, far8_a, far8_b]
  rfl
end Go.Proofs.YtplgdpjbkdagfaaGreat
namespace Go.Proofs.YtplgdpjbkdagfaaGreat
open Go.ChangeShapes Go.WideShapes Go.ChangeAt Go.RowKit
set_option linter.unusedVariables false
set_option linter.unusedSimpArgs false
set_option maxRecDepth 100000

theorem conv_own (w : World) (S : ByteArray) (hl : S.size ≤ 1000000) : ∃ C w', (convert 9 25 (.string S)).run Tryz.prog w = .ok (.slice (some ⟨w.heap.size, 0, none⟩) S.size C) w' ∧ OwnC w' w.heap.size w.heap.size S.size C (PlainAid.bt S) ∧ Below w.heap.size w w' := by
  have hcv := run_bytes_of_string (P := Tryz.prog) w 9 25 5 S Tryz.underlying9 Tryz.underlying25 Tryz.underlying5
  have hcap := grownCap_ge w S.size 0 5
  have hcm := grownCap_le_maxLen w S.size 0 5 (by simp only [maxLen]; omega)
  simp only [maxLen] at hcm
  obtain ⟨C, hC⟩ : ∃ C, grownCap w S.size 0 5 = C := ⟨_, rfl⟩
  rw [hC] at hcv hcap hcm
  have hrz : (bytesRow S C).size = C := by
    have h1 : S.data.size = S.size := rfl
    simp [bytesRow]; omega
  rw [hrz] at hcv
  exact ⟨C, _, hcv, OwnC.bytes w.drew S C C (C + 1) hcap hcm (Nat.le_refl _), (Below.refl w.heap.size w).drew.alloc (Nat.le_refl _) _⟩

theorem far_1 (w : World) : Calls Tryz.prog 10 #[.int .u64 1048576, .int .i64 4] w fun e w' => e = .returned (.string ⟨#[0, 0, 16, 0]⟩) ∧ Below w.heap.size w w' := by
  have h := rbytes_any 1048576 4 4 w (by omega) (by omega) (by omega)
  rw [show strF (byteOf 1048576) 0 4 = ⟨#[0, 0, 16, 0]⟩ by decide +kernel] at h
  exact h
theorem far_2 (w : World) : Calls Tryz.prog 10 #[.int .u64 64, .int .i64 4] w fun e w' => e = .returned (.string ⟨#[64, 0, 0, 0]⟩) ∧ Below w.heap.size w w' := by
  have h := rbytes_any 64 4 4 w (by omega) (by omega) (by omega)
  rw [show strF (byteOf 64) 0 4 = ⟨#[64, 0, 0, 0]⟩ by decide +kernel] at h
  exact h

def ordN (k : Nat) : Nat := if k = 0 then 0 else if k = 1 then 1 else if k = 2 then 5 else if k = 3 then 9 else if k = 4 then 11 else 13
def errN (k : Nat) : Int := if k = 0 then 11 else if k = 1 then 10 else if k = 2 then 9 else if k = 3 then 12 else if k = 4 then 8 else 10
def setN (a b j : Nat) : Bool := j == ordN a || j == ordN b
theorem first_ab : ∀ a, a < 6 → ∀ b, b < 6 → firstE (erB (setN a b 0) 11) (erB (setN a b 1) 10) (erB (setN a b 5) 9) (erB (setN a b 9) 12) (erB (setN a b 11) 8) (erB (setN a b 13) 10) = errN (min a b) := by decide
theorem errN_ne : ∀ a, a < 6 → ¬ errN a = 0 := by decide
theorem ordN_lt : ∀ a, a < 6 → ordN a ≤ 13 := by decide
/-- Law 12's image, as its two directories are turned one behind the other. -/
def twoF (F : Nat → Int) (a b : Nat) (i : Nat) : Nat → Int :=
  if i = 0 then F else if i = 1 then overF F (200 + 8 * ordN a) 8 (PlainAid.bt far8) else overF (overF F (200 + 8 * ordN a) 8 (PlainAid.bt far8)) (200 + 8 * ordN b) 8 (PlainAid.bt far8)
theorem twoF_succ (F : Nat → Int) (a b i k : Nat) (hi : i < 2) (hk : k = if i = 0 then a else b) : overF (twoF F a b i) (200 + 8 * ordN k) 8 (PlainAid.bt far8) = twoF F a b (i + 1) := by
  rcases (by omega : i = 0 ∨ i = 1) with rfl | rfl
  · rw [hk]; rfl
  · rw [hk]; rfl
theorem twoF_same {F F' : Nat → Int} (a b : Nat) (ha : a < 6) (hb : b < 6) (h : SameH 1 F F') : SameH 1 F (twoF F' a b 2) := by
  have h1 := ordN_lt a ha
  have h2 := ordN_lt b hb
  exact (h.trans (SameH.over F' _ _ _ (.inl (by omega)))).trans (SameH.over _ _ _ _ (.inl (by omega)))
theorem twoF_dirs {F' : Nat → Int} (a b : Nat) (h : ∀ i, i < 16 → (readS F' 64).dirs i = (0, 0)) (i : Nat) (hi : i < 16) : (readS (twoF F' a b 2) 64).dirs i = (rvB (setN a b i), szB (setN a b i)) := by
  unfold twoF setN
  rw [if_neg (by omega), if_neg (by omega), dirs_over, dirs_over, far8_a, far8_b, h i hi]
  by_cases e1 : i = ordN b
  · rw [if_pos e1]; subst e1; simp [rvB, szB]
  · rw [if_neg e1]
    by_cases e2 : i = ordN a
    · rw [if_pos e2]; subst e2; simp [rvB, szB]
    · rw [if_neg e2]
      rw [show (i == ordN a) = false by simpa using e2, show (i == ordN b) = false by simpa using e1]
      rfl
end Go.Proofs.YtplgdpjbkdagfaaGreat
namespace Go.Proofs.YtplgdpjbkdagfaaGreat
set_option maxRecDepth 100000
open Go.ChangeShapes Go.WideShapes Go.ChangeAt Go.RowKit
set_option linter.unusedVariables false
set_option linter.unusedSimpArgs false

theorem sects0_of {F : Nat → Int} (x : MadeP L0 1 F) : sectsS F 328 1 = [⟨nameS F 328, 17, 4096, 512, 1024, 1610612736⟩] := by
  show [sectS F (328 + 40 * 0)] = _
  rw [x.all.sect (by omega)]
  rfl

/-- The load of a row by an operation that is asked for. -/
theorem wpList_load_row_g {P : Program} {ops : Array Oper} {rest : List Oper} {o : Oper} {a : Act} {w : World} {Q : Exit → Act → World → Prop} (hw : Region.wanted o (yielded ops a.tmps) = true) (ty : TypeId) (x : Operand) (ho : o.op = .load ty x)
    (g : Nat) (hx : a.eval x = .pointer (some ⟨g, 0, none⟩)) (t : TypeId) (cs : Array Value) (fr : Nat × Nat) (d : TypeDesc) (hg : w.heap[g]? = some (.cells cs t fr))
    (hu : P.underlying ty = some d) (hd : (match d with | .struct _ | .array _ _ => true | _ => false) = true) (hi : (P.info? ty).map (·.size) = some cs.size)
    (h : wpList P ops Q rest (a.put o.dst (.agg cs)) w) : wpList P ops Q (o :: rest) a w :=
  wpList_step fun K hK => by
    rw [if_pos hw]
    exact wp_load_row ty x ho g hx t cs fr d hg hu hd hi (hK _ _ h)

end Go.Proofs.YtplgdpjbkdagfaaGreat
namespace Go.Proofs.YtplgdpjbkdagfaaGreat
set_option maxRecDepth 100000
open Go.ChangeShapes Go.WideShapes Go.ChangeAt Go.RowKit
set_option linter.unusedVariables false
set_option linter.unusedSimpArgs false

/-- A slice of sections, or none. -/
def SectSl (w : World) (sv : Value) (l : List SectN) : Prop := ∃ A c, sv = .slice A l.length c ∧ SlT SectN.cells 6 w A l ∧ l.length ≤ 16

theorem SlT.at6o {w : World} {b o : Nat} {l : List SectN} (h : SlT SectN.cells 6 w (some ⟨b, o, none⟩) l) (i : Nat) (hi : i < l.length) :
    b < w.heap.size ∧ w.cell? ⟨b, o + i * 6, none⟩ = some (.string l[i].name) ∧ w.cell? ⟨b, o + i * 6 + 1, none⟩ = some (.int .i64 l[i].vsize) ∧ w.cell? ⟨b, o + i * 6 + 2, none⟩ = some (.int .i64 l[i].rva) ∧
    w.cell? ⟨b, o + i * 6 + 3, none⟩ = some (.int .i64 l[i].raw) ∧ w.cell? ⟨b, o + i * 6 + 4, none⟩ = some (.int .i64 l[i].spot) ∧ w.cell? ⟨b, o + i * 6 + 5, none⟩ = some (.int .i64 l[i].chars) := by
  rcases h with rfl | ⟨b', off, hb, hlt, hc⟩
  · simp at hi
  · injection hb with hb
    injection hb with h1 h2
    subst h1 h2
    have k := fun j v hv => hc i hi j v hv
    exact ⟨hlt, k 0 _ rfl, k 1 _ rfl, k 2 _ rfl, k 3 _ rfl, k 4 _ rfl, k 5 _ rfl⟩

/-- The directories of a head, as one row. -/
theorem HeadV.dirs {cs cs' : Array Value} {h : HeadN} {sv sv' : Value} (x : HeadV cs h sv) (y : HeadV cs' h sv') (j : Nat) (hj : j < 38) : cs[j]? = cs'[j]? := by
  rcases (by omega : j = 0 ∨ j = 1 ∨ j = 2 ∨ j = 3 ∨ j = 4 ∨ j = 5 ∨ ((j - 6) / 2 < 16 ∧ j = 6 + 2 * ((j - 6) / 2)) ∨ ((j - 6) / 2 < 16 ∧ j = 6 + 2 * ((j - 6) / 2) + 1)) with h | h | h | h | h | h | ⟨hi, h⟩ | ⟨hi, h⟩
  · rw [h, x.c0, y.c0]
  · rw [h, x.c1, y.c1]
  · rw [h, x.c2, y.c2]
  · rw [h, x.c3, y.c3]
  · rw [h, x.c4, y.c4]
  · rw [h, x.c5, y.c5]
  · rw [h, x.dir0 _ hi, y.dir0 _ hi]
  · rw [h, x.dir1 _ hi, y.dir1 _ hi]

/-- The directories of a head. -/
def dirL (h : HeadN) : List Value := [.int .i64 (h.dirs 0).1, .int .i64 (h.dirs 0).2, .int .i64 (h.dirs 1).1, .int .i64 (h.dirs 1).2, .int .i64 (h.dirs 2).1, .int .i64 (h.dirs 2).2, .int .i64 (h.dirs 3).1, .int .i64 (h.dirs 3).2, .int .i64 (h.dirs 4).1, .int .i64 (h.dirs 4).2, .int .i64 (h.dirs 5).1, .int .i64 (h.dirs 5).2, .int .i64 (h.dirs 6).1, .int .i64 (h.dirs 6).2, .int .i64 (h.dirs 7).1, .int .i64 (h.dirs 7).2, .int .i64 (h.dirs 8).1, .int .i64 (h.dirs 8).2, .int .i64 (h.dirs 9).1, .int .i64 (h.dirs 9).2, .int .i64 (h.dirs 10).1, .int .i64 (h.dirs 10).2, .int .i64 (h.dirs 11).1, .int .i64 (h.dirs 11).2, .int .i64 (h.dirs 12).1, .int .i64 (h.dirs 12).2, .int .i64 (h.dirs 13).1, .int .i64 (h.dirs 13).2, .int .i64 (h.dirs 14).1, .int .i64 (h.dirs 14).2, .int .i64 (h.dirs 15).1, .int .i64 (h.dirs 15).2]

theorem HeadV.dirRow {cs : Array Value} {h : HeadN} {sv : Value} (x : HeadV cs h sv) {w : World} {g : Nat} (hg : w.heap[g]? = some (.cells cs 41 (0, 0))) : w.rangeAt g 6 (dirL h) := fun j v hj => by
  rw [cell_of_row _ _ _ _ _ _ hg]
  have hl : j < 32 := (List.getElem?_eq_some_iff.1 hj).1
  rcases (by omega : j = 0 ∨ j = 1 ∨ j = 2 ∨ j = 3 ∨ j = 4 ∨ j = 5 ∨ j = 6 ∨ j = 7 ∨ j = 8 ∨ j = 9 ∨ j = 10 ∨ j = 11 ∨ j = 12 ∨ j = 13 ∨ j = 14 ∨ j = 15 ∨ j = 16 ∨ j = 17 ∨ j = 18 ∨ j = 19 ∨ j = 20 ∨ j = 21 ∨ j = 22 ∨ j = 23 ∨ j = 24 ∨ j = 25 ∨ j = 26 ∨ j = 27 ∨ j = 28 ∨ j = 29 ∨ j = 30 ∨ j = 31) with rfl | rfl | rfl | rfl | rfl | rfl | rfl | rfl | rfl | rfl | rfl | rfl | rfl | rfl | rfl | rfl | rfl | rfl | rfl | rfl | rfl | rfl | rfl | rfl | rfl | rfl | rfl | rfl | rfl | rfl | rfl | rfl
  · rw [← hj]; exact x.dir0 0 (by omega)
  · rw [← hj]; exact x.dir1 0 (by omega)
  · rw [← hj]; exact x.dir0 1 (by omega)
  · rw [← hj]; exact x.dir1 1 (by omega)
  · rw [← hj]; exact x.dir0 2 (by omega)
  · rw [← hj]; exact x.dir1 2 (by omega)
  · rw [← hj]; exact x.dir0 3 (by omega)
  · rw [← hj]; exact x.dir1 3 (by omega)
  · rw [← hj]; exact x.dir0 4 (by omega)
  · rw [← hj]; exact x.dir1 4 (by omega)
  · rw [← hj]; exact x.dir0 5 (by omega)
  · rw [← hj]; exact x.dir1 5 (by omega)
  · rw [← hj]; exact x.dir0 6 (by omega)
  · rw [← hj]; exact x.dir1 6 (by omega)
  · rw [← hj]; exact x.dir0 7 (by omega)
  · rw [← hj]; exact x.dir1 7 (by omega)
  · rw [← hj]; exact x.dir0 8 (by omega)
  · rw [← hj]; exact x.dir1 8 (by omega)
  · rw [← hj]; exact x.dir0 9 (by omega)
  · rw [← hj]; exact x.dir1 9 (by omega)
  · rw [← hj]; exact x.dir0 10 (by omega)
  · rw [← hj]; exact x.dir1 10 (by omega)
  · rw [← hj]; exact x.dir0 11 (by omega)
  · rw [← hj]; exact x.dir1 11 (by omega)
  · rw [← hj]; exact x.dir0 12 (by omega)
  · rw [← hj]; exact x.dir1 12 (by omega)
  · rw [← hj]; exact x.dir0 13 (by omega)
  · rw [← hj]; exact x.dir1 13 (by omega)
  · rw [← hj]; exact x.dir0 14 (by omega)
  · rw [← hj]; exact x.dir1 14 (by omega)
  · rw [← hj]; exact x.dir0 15 (by omega)
  · rw [← hj]; exact x.dir1 15 (by omega)

/-- The directories' numbers are some that may be. -/
def DirBd (h : HeadN) : Prop := ∀ i, i < 16 → 0 ≤ (h.dirs i).1 ∧ (h.dirs i).1 < 4294967296 ∧ 0 ≤ (h.dirs i).2 ∧ (h.dirs i).2 < 4294967296

theorem lits_pair (x y : Int) (d : Nat) (hx : (Lit.int .i64 x).wf = true) (hy : (Lit.int .i64 y).wf = true) : Tryz.prog.keyLits (d + 2) 37 [.int .i64 x, .int .i64 y] = some [.int .i64 x, .int .i64 y] := by
  have e : ∀ z : Int, (Lit.int .i64 z).wf = true → Tryz.prog.keyLits (d + 1) 3 [.int .i64 z] = some [.int .i64 z] := fun z hz => by
    unfold Program.keyLits
    rw [Tryz.underlying3]
    simp [hz]
  unfold Program.keyLits
  rw [Tryz.underlying37]
  have c28 : Tryz.prog.cellsOf 37 = 2 := by kernel_rfl
  have c3 : Tryz.prog.cellsOf 3 = 1 := by kernel_rfl
  simp [c28, c3, e x hx, e y hy]

theorem eq_dirs (h : HeadN) (hb : DirBd h) (W : World) : (Op.equalIn 10000 38 (.agg (dirL h).toArray) (.agg (dirL h).toArray)).run Tryz.prog W = .ok true W := by
  have hf : (Value.agg (dirL h).toArray).formed Tryz.prog 38 = true := by rfl
  have hw : ∀ z : Int, 0 ≤ z → z < 4294967296 → (Lit.int .i64 z).wf = true := fun z h0 h1 => by
    simp [Lit.wf, IntKind.min, IntKind.max, IntKind.bits, IntKind.signed]
    omega
  have hp : ∀ i, i < 16 → Tryz.prog.keyLits 9 37 [.int .i64 (h.dirs i).1, .int .i64 (h.dirs i).2] = some [.int .i64 (h.dirs i).1, .int .i64 (h.dirs i).2] := fun i hi => by
    obtain ⟨h1, h2, h3, h4⟩ := hb i hi
    exact lits_pair _ _ 7 (hw _ h1 h2) (hw _ h3 h4)
  have hk : ∃ la, Tryz.prog.keyLits 10 38 (Value.agg (dirL h).toArray).cells.toList = some la := by
    have c28 : Tryz.prog.cellsOf 37 = 2 := by kernel_rfl
    have c29 : Tryz.prog.cellsOf 38 = 32 := by kernel_rfl
    have hr : List.range 16 = [0, 1, 2, 3, 4, 5, 6, 7, 8, 9, 10, 11, 12, 13, 14, 15] := rfl
    have hc : (Value.agg (dirL h).toArray).cells.toList = dirL h := rfl
    rw [hc]
    unfold Program.keyLits
    rw [Tryz.underlying38]
    simp only [c29, c28, hr]
    rw [if_pos (by rfl)]
    simp only [List.mapM_cons, List.mapM_nil, dirL, List.drop_zero, List.drop_succ_cons, List.take_succ_cons, List.take_zero, Nat.zero_mul, Nat.one_mul, Nat.reduceMul]
    rw [hp 0 (by omega), hp 1 (by omega), hp 2 (by omega), hp 3 (by omega), hp 4 (by omega), hp 5 (by omega), hp 6 (by omega), hp 7 (by omega), hp 8 (by omega), hp 9 (by omega), hp 10 (by omega), hp 11 (by omega), hp 12 (by omega), hp 13 (by omega), hp 14 (by omega), hp 15 (by omega)]
    exact ⟨_, rfl⟩
  obtain ⟨la, hk⟩ := hk
  obtain ⟨r, hr, hi⟩ := run_equalIn_deep (P := Tryz.prog) 9990 10 38 (by kernel_rfl) W 10 10 _ _ la la hf hf hk hk
  rw [hi.2 rfl] at hr
  exact hr

theorem eq_sect (s : SectN) (W : World) : (Op.equalIn 10000 72 (.agg s.arr) (.agg s.arr)).run Tryz.prog W = .ok true W := by
  have hS : Tryz.prog.underlying 72 = some (.struct (Tryz.prog.fieldsOf 72)) := by kernel_rfl
  have hp : Tryz.prog.stoodInHeld 72 = false := by kernel_rfl
  have u3 := Tryz.underlying3
  have u9 := Tryz.underlying9
  rw [show (10000 : Nat) = 9999 + 1 from rfl, run_equalIn_agg W 9999 72 _ _ hS hp]
  simp only [Program.fieldsOf, Tryz.underlying72, SectN.arr]
  go_simp

theorem wpList_load_mid_g {P : Program} {ops : Array Oper} {rest : List Oper} {o : Oper} {a : Act} {w : World} {Q : Exit → Act → World → Prop} (hw : Region.wanted o (yielded ops a.tmps) = true) (ty : TypeId) (x : Operand) (ho : o.op = .load ty x)
    (b off : Nat) (hx : a.eval x = .pointer (some ⟨b, off, none⟩)) (cs : List Value) (d : TypeDesc) (hc : w.rangeAt b off cs)
    (hu : P.underlying ty = some d) (hd : d.isRow = true) (hi : (P.info? ty).map (·.size) = some cs.length)
    (h : wpList P ops Q rest (a.put o.dst (.agg cs.toArray)) w) : wpList P ops Q (o :: rest) a w :=
  wpList_step fun K hK => by
    rw [if_pos hw]
    exact wp_load_mid ty x ho b off hx cs d hc hu hd hi (hK _ _ h)

set_option maxRecDepth 100000 in
set_option maxHeartbeats 4000000 in
theorem same_any (cs cs' : Array Value) (h : HeadN) (sv sv' : Value) (l : List SectN) (w : World) (x : HeadV cs h sv) (y : HeadV cs' h sv') (hs : SectSl w sv l) (hs' : SectSl w sv' l) (hdb : DirBd h) :
    Calls Tryz.prog 43 #[.agg cs, .agg cs'] w fun e u => e = .returned (.bool true) ∧ Below w.heap.size w u := by
  obtain ⟨A, c, rfl, hsl, hl16⟩ := hs
  obtain ⟨A', c', rfl, hsl', _⟩ := hs'
  have HX := Lib.hid x
  have HY := Lib.hid y
  have HSL := Lib.hid hsl
  have HSL' := Lib.hid hsl'
  have a0 := x.c0
  have a1 := x.c1
  have a2 := x.c2
  have a3 := x.c3
  have a4 := x.c4
  have a5 := x.c5
  have a38 := x.c38
  have b0 := y.c0
  have b1 := y.c1
  have b2 := y.c2
  have b3 := y.c3
  have b4 := y.c4
  have b5 := y.c5
  have b38 := y.c38
  clear hsl hsl' x y
  go_enter Tryz.func43, Tryz.ntmps43
  have heq := eq_dirs h hdb
  have HG0 := Lib.hid (heap_alloc2_old w (.cells cs 41) (.cells cs' 41))
  have HG1 := Lib.hid (heap_alloc2_new w (.cells cs 41) (.cells cs' 41))
  go_wp2_with (first
    | (refine wpList_load_mid_g (by rfl) 38 _ rfl w.heap.size 6 rfl (dirL h) _ (HX.out.dirRow HG0.out) rfl rfl rfl ?_)
    | (refine wpList_load_mid_g (by rfl) 38 _ rfl (w.heap.size + 1) 6 rfl (dirL h) _ (HY.out.dirRow HG1.out) rfl rfl rfl ?_))
  have k38 := (cell_of_row _ _ 38 _ _ _ HG0.out).trans a38
  have k38' := (cell_of_row _ _ 38 _ _ _ HG1.out).trans b38
  have HB1 := Lib.hid (((Below.refl w.heap.size w).alloc (Nat.le_refl _) (.cells cs 41)).alloc (by simp) (.cells cs' 41))
  have hs0 : w.heap.size < ((w.alloc (.cells cs 41)).alloc (.cells cs' 41)).heap.size := by simp; omega
  have hs1 : w.heap.size + 1 < ((w.alloc (.cells cs 41)).alloc (.cells cs' 41)).heap.size := by simp
  clear heq a0 a1 a2 a3 a4 a5 a38 b0 b1 b2 b3 b4 b5 b38
  generalize (w.alloc (.cells cs 41)).alloc (.cells cs' 41) = w1 at *
  go_loopw [5] (fun o5 wr => ∃ i : Nat, i ≤ l.length ∧ o5 = .int .i64 i ∧ Below w1.heap.size w1 wr) (fun o5 _ => l.length - (intOf o5).toNat)
  case atStart => exact ⟨0, by omega, rfl, Below.refl _ _⟩
  case round =>
    obtain ⟨i, hi, rfl, hb⟩ := hrel
    have HB := Lib.hid hb
    have HBW : Hid (Below w.heap.size w wr) := Lib.hid (HB1.out.trans (hb.mono HB1.out.size))
    have j38 := (hb.cell (p := ⟨w.heap.size, 38, none⟩) hs0).trans k38
    have j38' := (hb.cell (p := ⟨w.heap.size + 1, 38, none⟩) hs1).trans k38'
    clear hb k38 k38' hs0 hs1
    by_cases hlt : i < l.length
    · have hlt' : (i : Int) < l.length := by omega
      obtain ⟨b, o, rfl⟩ : ∃ b o, A = some ⟨b, o, none⟩ := by
        rcases HSL.out with h | ⟨b, o, h, _⟩
        · rw [h] at hlt; simp at hlt
        · exact ⟨b, o, h⟩
      obtain ⟨b', o', rfl⟩ : ∃ b o, A' = some ⟨b, o, none⟩ := by
        rcases HSL'.out with h | ⟨b, o, h, _⟩
        · rw [h] at hlt; simp at hlt
        · exact ⟨b, o, h⟩
      obtain ⟨_, d0, d1, d2, d3, d4, d5⟩ := (HSL.out.below HBW.out).at6o i hlt
      obtain ⟨_, e0, e1, e2, e3, e4, e5⟩ := (HSL'.out.below HBW.out).at6o i hlt
      have hes := eq_sect l[i]
      generalize l[i] = s at *
      obtain ⟨nm, v, rva, raw, spot, ch⟩ := s
      simp only [SectN.arr] at d0 d1 d2 d3 d4 d5 e0 e1 e2 e3 e4 e5 hes
      go_wp2_with fail
      go_region
      go_wp2_with fail
      go_roundw
      case rel => exact ⟨i + 1, by omega, by go_num, HB.out.drew⟩
      case measure => simp [intOf]; omega
    · obtain rfl : i = l.length := by omega
      go_wp2_with fail
      go_ret
      exact ⟨rfl, HBW.out⟩

/-- The document's Int, where the bytes are there. -/
theorem rint_yes (S : ByteArray) (o n : Nat) (w : World) (hs : S.size ≤ 1000000) (hn : n ≤ 4) (h : o + n ≤ S.size) :
    Calls Tryz.prog 72 #[.string S, .int .i64 o, .int .i64 n] w fun e w' => e = .returned (.int .i64 (rdF (PlainAid.bt S) o n)) ∧ w = w' := by
  have HR := Lib.hid (rnum_yes S o n w (by omega) (by omega) h)
  have hb := rdF_bd (PlainAid.bt S) (bt255 S) n o
  have hp : (256 : Int) ^ n ≤ 4294967296 := by
    rcases (by omega : n = 0 ∨ n = 1 ∨ n = 2 ∨ n = 3 ∨ n = 4) with rfl | rfl | rfl | rfl | rfl <;> decide
  have h1 : rdF (PlainAid.bt S) o n < 4294967296 := by omega
  have h0 := hb.1
  clear hb hp
  generalize rdF (PlainAid.bt S) o n = x at *
  go_enter Tryz.func72, Tryz.ntmps72
  go_wp2_with (go_fit HR.out; rintro e u ⟨rfl, rfl⟩)
  go_ret
  exact ⟨rfl, rfl⟩
end Go.Proofs.YtplgdpjbkdagfaaGreat
namespace Go.Proofs.YtplgdpjbkdagfaaGreat
set_option maxRecDepth 100000
open Go.ChangeShapes Go.WideShapes Go.ChangeAt Go.RowKit
set_option linter.unusedVariables false
set_option linter.unusedSimpArgs false

/-- A part of a text is a text, byte by byte. -/
theorem text_eq {f : Nat → Int} (hb : Bytes255 f) (xs : List UInt8) (o : Nat) : ((strF f o xs.length).toList == xs) = true ↔ ∀ i (h : i < xs.length), f (o + i) = (xs[i].toNat : Int) := by
  have hl : (strF f o xs.length).toList = Lib.bytesOf ((List.range xs.length).map fun i => f (o + i)) := Lib.strOfNums_toList _
  rw [hl, beq_iff_eq]
  constructor
  · intro h i hi
    have h2 := congrArg (fun z => z[i]?) h
    simp only [Lib.bytesOf, List.getElem?_map, List.getElem?_range hi, Option.map_some, List.getElem?_eq_getElem hi, Option.some.injEq] at h2
    have h3 := congrArg UInt8.toNat h2
    have := hb (o + i)
    simp at h3
    omega
  · intro h
    apply List.ext_getElem?
    intro i
    rcases Nat.lt_or_ge i xs.length with hi | hi
    · simp only [Lib.bytesOf, List.getElem?_map, List.getElem?_range hi, Option.map_some, List.getElem?_eq_getElem hi, Option.some.injEq]
      rw [h i hi]
      simp
    · rw [List.getElem?_eq_none hi, List.getElem?_eq_none]
      simpa [Lib.bytesOf] using hi

theorem text_mz (S : ByteArray) (h : 2 ≤ S.size) : ((S.extract 0 2).toList == [77, 90]) = true ↔ PlainAid.bt S 0 = 77 ∧ PlainAid.bt S 1 = 90 := by
  have e := extract_bt S 0 2 (by omega)
  rw [Nat.zero_add] at e
  rw [e]
  have k := text_eq (bt255 S) [77, 90] 0
  refine k.trans ⟨fun h => ⟨h 0 (by simp), h 1 (by simp)⟩, fun h i hi => ?_⟩
  have hi' : i < 2 := hi
  rcases (by omega : i = 0 ∨ i = 1) with rfl | rfl
  · exact h.1
  · exact h.2

theorem text_pe (S : ByteArray) (p : Nat) (h : p + 4 ≤ S.size) : ((S.extract p (p + 4)).toList == [80, 69, 0, 0]) = true ↔ PlainAid.bt S p = 80 ∧ PlainAid.bt S (p + 1) = 69 ∧ PlainAid.bt S (p + 2) = 0 ∧ PlainAid.bt S (p + 3) = 0 := by
  rw [extract_bt S p 4 h]
  have k := text_eq (bt255 S) [80, 69, 0, 0] p
  refine k.trans ⟨fun h => ⟨h 0 (by simp), h 1 (by simp), h 2 (by simp), h 3 (by simp)⟩, fun h i hi => ?_⟩
  have hi' : i < 4 := hi
  rcases (by omega : i = 0 ∨ i = 1 ∨ i = 2 ∨ i = 3) with rfl | rfl | rfl | rfl
  · exact h.1
  · exact h.2.1
  · exact h.2.2.1
  · exact h.2.2.2

/-- What the document's Head tells of a text. -/
def HeadQ (w : World) (n : Nat) (f : Nat → Int) (v : Value) : Prop :=
  ∃ cs, v = .tuple #[.agg cs, .int .i64 (headE n f)] ∧
    ((headE n f ≠ 0 ∧ HeadV cs noHead (.slice none 0 0)) ∨ (headE n f = 0 ∧ ∃ sv, HeadV cs (readS f (headP n f)) sv ∧ SectSl w sv (sectsS f (headP n f + 264) (headK n f))))
end Go.Proofs.YtplgdpjbkdagfaaGreat
namespace Go.Proofs.YtplgdpjbkdagfaaGreat
set_option maxRecDepth 100000
open Go.ChangeShapes Go.WideShapes Go.ChangeAt Go.RowKit
set_option linter.unusedVariables false
set_option linter.unusedSimpArgs false

theorem built_head6 (b s c e z h : Int) : Tryz.prog.built 41 [(0, .int .u64 b), (1, .int .i64 s), (2, .int .i64 c), (3, .int .i64 e), (4, .int .i64 z), (5, .int .i64 h)] = some (headC b s c e z h) := by
  kernel_rfl
theorem HeadPart.start6 (h : HeadN) : HeadPart (headC h.base h.stamp h.chars h.entry h.size h.headers) h 0 :=
  ⟨rfl, rfl, rfl, rfl, rfl, rfl, rfl, fun j hj => by omega, fun j hj => by omega, rfl, by simp [headC, Value.oneCell']⟩

/-- The world while directories are read: i of them are there. -/
structure HeadAt2 (w u : World) (g : Nat) (h : HeadN) (i : Nat) : Prop where
  bel : Below w.heap.size w u
  le : w.heap.size + 1 < g
  z0 : u.heap[w.heap.size]? = some (.cells (headC 0 0 0 0 0 0) 41 (0, 0))
  z1 : u.heap[w.heap.size + 1]? = some (.cells (headC 0 0 0 0 0 0) 41 (0, 0))
  cs : ∃ cs, u.heap[g]? = some (.cells cs 41 (0, 0)) ∧ HeadPart cs h i

theorem HeadAt2.next {w u : World} {g : Nat} {h : HeadN} {i : Nat} (x : HeadAt2 w u g h i) (hi : i < 16) (v1 v2 : Int) (e1 : v1 = (h.dirs i).1) (e2 : v2 = (h.dirs i).2) :
    HeadAt2 w ((u.setCell ⟨g, 6 + i * 2, none⟩ (.int .i64 v1)).setCell ⟨g, 6 + i * 2 + 1, none⟩ (.int .i64 v2)) g h (i + 1) := by
  subst e1 e2
  rw [Nat.mul_comm i 2]
  obtain ⟨cs, hc, hp⟩ := x.cs
  have hl := x.le
  refine ⟨(x.bel.setCell (show w.heap.size ≤ g by omega) _).setCell (show w.heap.size ≤ g by omega) _, hl, ?_, ?_, ⟨_, heap_setCell_same _ _ _ _ _ _ (heap_setCell_same _ _ _ _ _ _ hc), hp.next hi⟩⟩
  · rw [heap_setCell_other _ _ _ _ (show w.heap.size ≠ g by omega), heap_setCell_other _ _ _ _ (show w.heap.size ≠ g by omega)]
    exact x.z0
  · rw [heap_setCell_other _ _ _ _ (show w.heap.size + 1 ≠ g by omega), heap_setCell_other _ _ _ _ (show w.heap.size + 1 ≠ g by omega)]
    exact x.z1

/-- The world while sections are read: l of them are there. -/
structure SectW (w u : World) (g : Nat) (h : HeadN) (l : List SectN) : Prop where
  bel : Below w.heap.size w u
  le : w.heap.size + 1 < g
  z0 : u.heap[w.heap.size]? = some (.cells (headC 0 0 0 0 0 0) 41 (0, 0))
  z1 : u.heap[w.heap.size + 1]? = some (.cells (headC 0 0 0 0 0 0) 41 (0, 0))
  cs : ∃ cs A c, u.heap[g]? = some (.cells cs 41 (0, 0)) ∧ HeadV cs h (.slice A l.length c) ∧ OwnT SectN.cells 6 u (g + 1) 72 (.slice A l.length c) l

theorem HeadAt2.all {w u : World} {g : Nat} {h : HeadN} (x : HeadAt2 w u g h 16) : SectW w u g h [] := by
  obtain ⟨cs, hc, hp⟩ := x.cs
  exact ⟨x.bel, x.le, x.z0, x.z1, cs, none, 0, hc, hp.all, OwnT.nil _ _ _⟩

theorem SectW.below {w u u' : World} {g : Nat} {h : HeadN} {l : List SectN} (x : SectW w u g h l) (hb : Below u.heap.size u u') : SectW w u' g h l := by
  obtain ⟨cs, A, c, hc, hv, ho⟩ := x.cs
  exact ⟨x.bel.trans (hb.mono x.bel.size), x.le, (hb.block _ (Array.getElem?_eq_some_iff.1 x.z0).1).trans x.z0, (hb.block _ (Array.getElem?_eq_some_iff.1 x.z1).1).trans x.z1,
    cs, A, c, (hb.block _ (Array.getElem?_eq_some_iff.1 hc).1).trans hc, hv, ho.below hb⟩

/-- One section more. -/
theorem SectW.add {w u u' : World} {g : Nat} {h : HeadN} {l : List SectN} {s : SectN} {A : Option Addr} {c g' cap : Nat} {cs : Array Value} (x : SectW w u g h l) (hc : u.heap[g]? = some (.cells cs 41 (0, 0))) (hv : HeadV cs h (.slice A l.length c))
    (ho : OwnT SectN.cells 6 u (g + 1) 72 (.slice A l.length c) l)
    (hg : u.grownBy u' (Value.ownBlock (.slice A l.length c))) (ho' : OwnT SectN.cells 6 u' (g + 1) 72 (.slice (some ⟨g', 0, none⟩) (l.length + 1) cap) (l ++ [s])) :
    SectW w (u'.setCell ⟨g, 38, none⟩ (.slice (some ⟨g', 0, none⟩) (l.length + 1) cap)) g h (l ++ [s]) := by
  have hl := x.le
  have hlt := (Array.getElem?_eq_some_iff.1 hc).1
  have hbel : Below (g + 1) u u' := ho.grew (Below.refl _ _) (Nat.le_refl _) (by omega) hg
  have hb := hbel.mono (show w.heap.size ≤ g + 1 by omega)
  have k := ho'.lt g' rfl
  refine ⟨(x.bel.trans hb).setCell (show w.heap.size ≤ g by omega) _, hl, ?_, ?_, cs.setIfInBounds 38 (.slice (some ⟨g', 0, none⟩) (l.length + 1) cap), some ⟨g', 0, none⟩, cap, heap_setCell_same _ _ _ _ _ _ ((hbel.block _ (by omega)).trans hc), ?_, ?_⟩
  · rw [heap_setCell_other _ _ _ _ (show w.heap.size ≠ g by omega)]
    exact (hbel.block _ (by omega)).trans x.z0
  · rw [heap_setCell_other _ _ _ _ (show w.heap.size + 1 ≠ g by omega)]
    exact (hbel.block _ (by omega)).trans x.z1
  · rw [List.length_append]; exact hv.sects _
  · rw [List.length_append]
    exact ho'.of_block (fun q hq => heap_setCell_other _ _ _ _ (by have := (ho'.lt q hq).1; show q ≠ g; omega))

/-- Behind the append of a section: what lies where the sections' slice is kept, and all of it behind the store. -/
theorem SectW.app {w u u' : World} {g n : Nat} {h : HeadN} {l : List SectN} {s : SectN} {A : Option Addr} {c g' cap : Nat} {cs : Array Value} (x : SectW w u g h l) (hc : u.heap[g]? = some (.cells cs 41 (0, 0))) (hv : HeadV cs h (.slice A n c)) (hn : l.length = n)
    (ho : OwnT SectN.cells 6 u (g + 1) 72 (.slice A n c) l)
    (hg : u.grownBy u' (Value.ownBlock (.slice A n c))) (ho' : OwnT SectN.cells 6 u' (g + 1) 72 (.slice (some ⟨g', 0, none⟩) (l.length + 1) cap) (l ++ [s])) :
    u'.cell? ⟨g, 38, none⟩ = some (.slice A n c) ∧ u'.frozen? ⟨g, 38, none⟩ = false ∧ SectW w (u'.setCell ⟨g, 38, none⟩ (.slice (some ⟨g', 0, none⟩) (l.length + 1) cap)) g h (l ++ [s]) := by
  subst hn
  have hlt := (Array.getElem?_eq_some_iff.1 hc).1
  have hbel : Below (g + 1) u u' := ho.grew (Below.refl _ _) (Nat.le_refl _) (by omega) hg
  have hg5 := (hbel.block g (by omega)).trans hc
  exact ⟨(cell_of_row _ _ 38 _ _ _ hg5).trans hv.c38, frozen_of_row _ _ 38 _ _ hg5, x.add hc hv ho hg ho'⟩

theorem infoSect : (Tryz.prog.info? 72).map (fun i => (i.zero, i.size, i.bytes)) = some (some (.agg #[.string ⟨#[]⟩, .int .i64 0, .int .i64 0, .int .i64 0, .int .i64 0, .int .i64 0]), 6, 56) := by kernel_rfl
theorem sectN_one (s : SectN) : ∀ u ∈ s.cells, u.oneCell' = true := by
  intro u hu
  simp [SectN.cells] at hu
  rcases hu with rfl | rfl | rfl | rfl | rfl | rfl <;> rfl
theorem row_cells {w : World} {g : Nat} {s : SectN} {t : TypeId} {fr : Nat × Nat} (h : w.heap[g]? = some (.cells s.arr t fr)) : ∀ j u, s.cells[j]? = some u → w.cell? ⟨g, j, none⟩ = some u := fun j u hu => by
  rw [cell_of_row _ _ _ _ _ _ h]
  rw [← SectN.arr_list, Array.getElem?_toList] at hu
  exact hu

theorem firstZ_ne (f : Nat → Int) : ∀ (n o i : Nat), i < firstZ f o n → f (o + i) ≠ 0
  | 0, _, i, h => by simp [firstZ] at h
  | n + 1, o, i, h => by
    unfold firstZ at h
    by_cases e : f o = 0
    · rw [if_pos e] at h; omega
    · rw [if_neg e] at h
      rcases i with _ | i
      · simpa using e
      · have := firstZ_ne f n (o + 1) i (by omega)
        rwa [show o + 1 + i = o + (i + 1) from by omega] at this
theorem firstZ_at (f : Nat → Int) : ∀ (n o : Nat), firstZ f o n < n → f (o + firstZ f o n) = 0
  | 0, _, h => by omega
  | n + 1, o, h => by
    unfold firstZ at h ⊢
    by_cases e : f o = 0
    · rw [if_pos e]; simpa using e
    · rw [if_neg e] at h ⊢
      have := firstZ_at f n (o + 1) (by omega)
      rwa [show o + 1 + firstZ f (o + 1) n = o + (firstZ f (o + 1) n + 1) from by omega] at this

theorem bt_extract (S : ByteArray) (o n i : Nat) (h : o + n ≤ S.size) (hi : i < n) : PlainAid.bt (S.extract o (o + n)) i = PlainAid.bt S (o + i) := by
  rw [extract_bt S o n h, bt_strF (bt255 S) hi]
theorem size_extract8 (S : ByteArray) (o : Nat) (h : o + 8 ≤ S.size) : (S.extract o (o + 8)).size = 8 := by
  rw [extract_bt S o 8 h, strF_size]

/-- The document's Text of a section's name. -/
theorem rname_yes (S : ByteArray) (o : Nat) (w : World) (h : o + 8 ≤ S.size) (hf : firstZ (PlainAid.bt S) o 8 < 8) :
    Calls Tryz.prog 75 #[.string (S.extract o (o + 8)), .int .i64 0, .int .i64 8] w fun e w' => e = .returned (.tuple #[.string (nameS (PlainAid.bt S) o), .bool true]) ∧ w = w' := by
  have hz := size_extract8 S o h
  have k := rtext_yes (S.extract o (o + 8)) 0 (firstZ (PlainAid.bt S) o 8) 8 w (by omega) (by omega) (by omega) (by rw [Nat.zero_add, bt_extract S o 8 _ h hf]; exact firstZ_at _ _ _ hf) (fun i hi => by rw [Nat.zero_add, bt_extract S o 8 _ h (by omega)]; exact firstZ_ne _ _ _ _ hi)
  have e : strF (PlainAid.bt (S.extract o (o + 8))) 0 (firstZ (PlainAid.bt S) o 8) = nameS (PlainAid.bt S) o := strF_congr (fun i hi => by rw [Nat.zero_add, bt_extract S o 8 _ h (by omega)])
  rw [e] at k
  exact k
theorem rname_no (S : ByteArray) (o : Nat) (w : World) (h : o + 8 ≤ S.size) (hf : ¬ firstZ (PlainAid.bt S) o 8 < 8) :
    Calls Tryz.prog 75 #[.string (S.extract o (o + 8)), .int .i64 0, .int .i64 8] w fun e w' => e = .returned (.tuple #[.string ByteArray.empty, .bool false]) ∧ w = w' := by
  have hz := size_extract8 S o h
  exact rtext_no (S.extract o (o + 8)) 0 8 w (by omega) (by omega) (fun i hi _ => by rw [Nat.zero_add, bt_extract S o 8 _ h (by omega)]; exact firstZ_ne _ 8 _ _ (by omega))
theorem rname_all (S : ByteArray) (o : Nat) (h : o + 8 ≤ S.size) (hf : ¬ firstZ (PlainAid.bt S) o 8 < 8) : S.extract o (o + 8) = nameS (PlainAid.bt S) o := by
  have := firstZ_le (PlainAid.bt S) o 8
  rw [extract_bt S o 8 h]
  unfold nameS
  rw [show firstZ (PlainAid.bt S) o 8 = 8 by omega]
end Go.Proofs.YtplgdpjbkdagfaaGreat
namespace Go.Proofs.YtplgdpjbkdagfaaGreat
set_option maxRecDepth 100000
open Go

/-- The n-th of a list. -/
def nth : List Value → Nat → Option Value
  | [], _ => none
  | x :: _, 0 => some x
  | _ :: l, n + 1 => nth l n

theorem nth_lt : ∀ (l : List Value) (k : Nat), k < l.length → nth l k = l[k]?
  | x :: _, 0, _ => rfl
  | x :: l, k + 1, h => by
    show nth l k = _
    rw [nth_lt l k (by simpa using h)]
    simp

/-- What those hold that are listed. -/
def at_ (l : List Value) : List Nat → List (Option Value)
  | [] => []
  | k :: ks => nth l k :: at_ l ks

/-- What a slot holds. -/
def sl (a : Act) (k : Nat) : Value := (nth a.tmps.toList k).getD default

theorem open_list (l : List Value) (d : List Deferred) (N : Nat) (h : l.length = N) : l = (List.range N).map (sl ⟨⟨l⟩, d⟩) := by
  apply List.ext_getElem
  · simp [h]
  · intro i h1 h2
    simp only [List.getElem_map, List.getElem_range]
    show l[i] = (nth l i).getD default
    rw [nth_lt l i h1, List.getElem?_eq_getElem h1]
    rfl

/-- A frame of N slots, in which those that are listed hold what they held. -/
structure Same (N : Nat) (ix : List Nat) (a a' : Act) : Prop where
  size : a'.tmps.toList.length = N
  dfr : a'.defers = []
  low : at_ a'.tmps.toList ix = at_ a.tmps.toList ix

theorem wp_cutS {P : Program} {s : Code} {K : Act → World → Prop} {Q' : Exit → Act → World → Prop} {a : Act} {w : World} (N : Nat) (ix : List Nat) (R : (Nat → Value) → World → Prop)
    (first : ∀ (J K' : Act → World → Prop), (∀ a' w', (Same N ix a a' ∧ R (sl a') w') → J a' w') → (∀ a' w', Met J a' w' → K' a' w') → s.wp P (Exit.then K' Q') a w)
    (rest : ∀ a' w', Same N ix a a' → R (sl a') w' → K a' w') : s.wp P (Exit.then K Q') a w :=
  wp_cut (fun a' w' => Same N ix a a' ∧ R (sl a') w') (fun a' w' h => rest a' w' h.1 h.2) first

theorem wp_loopS {P : Program} {Q : Exit → Act → World → Prop} {a : Act} {w : World} {c : Code} (N : Nat) (ix : List Nat) (R : Nat → (Nat → Value) → World → Prop) (n₀ : Nat)
    (h₀ : Same N ix a a) (h₁ : R n₀ (sl a) w)
    (round : ∀ n a' w', Same N ix a a' → R n (sl a') w' → ∀ (J : Nat → Act → World → Prop) (K : Act → World → Prop), (∀ k a'' w'', (Same N ix a a'' ∧ R k (sl a'') w'') → J k a'' w'') → (∀ a'' w'', Handed J n a'' w'' → K a'' w'') → c.wp P (Exit.then K Q) a' w') :
    (Code.loop c).wp P Q a w :=
  wp_loop_ghost_k (fun n a' w' => Same N ix a a' ∧ R n (sl a') w') n₀ ⟨h₀, h₁⟩ (fun n a' w' h J K hJ hK => round n a' w' h.1 h.2 J K hJ hK)
end Go.Proofs.YtplgdpjbkdagfaaGreat
namespace Go.Proofs.YtplgdpjbkdagfaaGreat
set_option maxRecDepth 100000
open Go.ChangeShapes Go.WideShapes Go.ChangeAt Go.RowKit
set_option linter.unusedVariables false
set_option linter.unusedSimpArgs false

/-- What stands behind the first so many statements. -/
def dropS : Nat → Code → Code
  | 0, c => c
  | n + 1, .seq _ b => dropS n b
  | _, c => c
def headS : Code → Code
  | .seq a _ => a
  | c => c
def inBlock : Code → Code
  | .block _ c => c
  | c => c
def inLoop : Code → Code
  | .loop c => c
  | c => c
noncomputable def bodyH : Code := (Tryz.f26.body).getD .skip

/-- A frame of N slots, in which those that are listed hold these. -/
structure Has (N : Nat) (ix : List Nat) (vs : List Value) (a : Act) : Prop where
  size : a.tmps.toList.length = N
  dfr : a.defers = []
  low : at_ a.tmps.toList ix = vs.map some

open Classical in
/-- Which error is left behind the sections' number. -/
noncomputable def headE7 (n : Nat) (f : Nat → Int) (P K : Nat) (h : HeadN) : Int :=
  if ¬ chainP h.size n (roundS h.headers 4096) (sectsS f (P + 264) K) then 7 else if h.size ≤ h.entry then 5 else 0
open Classical in
noncomputable def headE6 (n : Nat) (f : Nat → Int) (P : Nat) (h : HeadN) : Int :=
  if ¬ headersP n P h.headers (rdF f (P + 6) 2) then 7 else headE7 n f P (rdF f (P + 6) 2).toNat h
open Classical in
noncomputable def headE5 (n : Nat) (f : Nat → Int) (P : Nat) (h : HeadN) : Int :=
  if ¬ alignS f P h.base h.size then 6 else headE6 n f P h
theorem headE_opt {n : Nat} {f : Nat → Int} {P : Nat} {e : Int} (h1 : beginS n f = ((P : Int), 0)) (h2 : optS f P = e) (h3 : e ≠ 0) : headE n f = e := by
  unfold headE
  rw [if_neg (by rw [h1]; simp), if_pos (by rw [h1]; simp [h2, h3]), h1]
  exact h2

/-- Its name while it is told apart. -/
noncomputable def if_align (n : Nat) (f : Nat → Int) (P : Nat) (h : HeadN) : Int := headE5 n f P h
theorem align_yes {n : Nat} {f : Nat → Int} {P : Nat} {h : HeadN} (k : alignS f P h.base h.size) : if_align n f P h = headE6 n f P h := by
  unfold if_align headE5; rw [if_neg (fun hn => hn k)]
theorem align_no {n : Nat} {f : Nat → Int} {P : Nat} {h : HeadN} (k : ¬ alignS f P h.base h.size) : if_align n f P h = 6 := by
  unfold if_align headE5; rw [if_pos k]
theorem headE_5 {n : Nat} {f : Nat → Int} {P : Nat} (h1 : beginS n f = ((P : Int), 0)) (h2 : optS f P = 0) : headE n f = headE5 n f P (readS f P) := by
  unfold headE
  rw [if_neg (by rw [h1]; simp), if_neg (by rw [h1]; simp [h2])]
  rw [h1]
  rfl

/-- What Head is to come to. -/
def QF (S : ByteArray) (f : Nat → Int) (w : World) : Exit → Act → World → Prop :=
  bodyPost Tryz.prog Tryz.f26 fun e w' => (∃ v, e = .returned v ∧ HeadQ w' S.size f v) ∧ Below w.heap.size w w'
end Go.Proofs.YtplgdpjbkdagfaaGreat
