import Derived.Test.YtplgdpjbkdagfaaGreatZPeV
import Derived.Test.YtplgdpjbkdagfaaGreatZMd
import Derived.Test.YtplgdpjbkdagfaaGreatZHdrD
import Derived.Test.YtplgdpjbkdagfaaGreatZAwake1
import Derived.Test.YtplgdpjbkdagfaaGreatRefPut
import Derived.Test.YtplgdpjbkdagfaaGreatZFold
import Derived.Test.YtplgdpjbkdagfaaGreatZHdrA
import Derived.Deep.AppendSrc
import Derived.Deep.MidRow
namespace Go.Proofs.YtplgdpjbkdagfaaGreat
open Go.ChangeShapes Go.WideShapes Go.ChangeAt Go.RowKit
set_option linter.unusedVariables false
set_option linter.unusedSimpArgs false
set_option maxRecDepth 100000
def overF (f : Nat → Int) (at_ m : Nat) (h : Nat → Int) (j : Nat) : Int := if at_ ≤ j ∧ j < at_ + m then h (j - at_) else f j
theorem overF_zero (f : Nat → Int) (at_ : Nat) (h : Nat → Int) : overF f at_ 0 h = f := funext fun j => by unfold overF; rw [if_neg (by omega)]
theorem overF_succ (f : Nat → Int) (at_ i : Nat) (h : Nat → Int) : setF (overF f at_ i h) (at_ + i) (h i) = overF f at_ (i + 1) h := funext fun j => by
  unfold setF overF
  by_cases e : j = at_ + i
  · rw [if_pos e, if_pos (by omega), show j - at_ = i by omega]
  · rw [if_neg e]
    by_cases c : at_ ≤ j ∧ j < at_ + i
    · rw [if_pos c, if_pos (by omega)]
    · rw [if_neg c, if_neg (by omega)]
theorem over255 {f h : Nat → Int} (hf : Bytes255 f) (hh : Bytes255 h) (at_ m : Nat) : Bytes255 (overF f at_ m h) := fun j => by
  unfold overF; split
  · exact hh _
  · exact hf _
set_option maxHeartbeats 4000000 in
theorem over_any (b off n cap : Nat) (f : Nat → Int) (at_ : Nat) (b2 off2 m cap2 : Nat) (h : Nat → Int) (w : World) (hr : RowB w b off n cap f) (hm : RowB w b2 off2 m cap2 h) (hn : n ≤ 1000000) (hm1 : m ≤ 1000000) (ha : at_ ≤ 1000000) :
    Calls Tryz.prog 9 #[.slice (some ⟨b, off, none⟩) n cap, .int .i64 at_, .slice (some ⟨b2, off2, none⟩) m cap2] w fun e u => ∃ g c, e = .returned (.slice (some ⟨g, 0, none⟩) n c) ∧ OwnC u w.heap.size g n c (overF f at_ m h) ∧ Below w.heap.size w u := by
  have HR := Lib.hid hr
  have HM := Lib.hid hm
  have HN := Lib.hid (And.intro hn (And.intro hm1 ha))
  have HB0 := Lib.hid ((Below.refl w.heap.size w).alloc (Nat.le_refl _) (.cells #[] 5))
  clear hr hm hn hm1 ha
  go_enter Tryz.func9, Tryz.ntmps9
  go_wp2_with (at_builtin; refine wpList_appC rfl _ _ rfl (OwnC.empty w) (.inr ⟨b, off, rfl, Nat.lt_of_lt_of_le HR.out.lt (by simp), (HR.out.below HB0.out).row⟩) HR.out.by255 (by have := HN.out.1; omega) (by simp) rfl rfl ?_; intro g c w1 ho hb; have HO1 := Lib.hid ho; have HB1 := Lib.hid (HB0.out.trans hb); clear ho hb)
  rw [Nat.zero_add] at HO1
  try simp only [Nat.zero_add]
  go_loopw [8] (fun v8 wr => ∃ i : Nat, i ≤ m ∧ v8 = .int .i64 i ∧ OwnC wr w.heap.size g n c (overF f at_ i h) ∧ Below w.heap.size w wr) (fun v8 _ => m - (intOf v8).toNat)
  case atStart => exact ⟨0, by omega, rfl, by rw [overF_zero]; exact HO1.out.congr HR.out.by255 (fun i hi => by unfold catF; rw [if_neg (by omega)]; rfl), HB1.out⟩
  case round =>
    obtain ⟨i, hi, rfl, ho, hb⟩ := hrel
    have HO := Lib.hid ho
    have HB := Lib.hid hb
    have hn := HN.out.1
    have hm1 := HN.out.2.1
    have ha := HN.out.2.2
    clear ho hb
    by_cases hlt : i < m
    · have hlt' : (i : Int) < m := by omega
      have hc2 := (HM.out.below HB.out).row i hlt
      by_cases hin : at_ + i < n
      · have hin' : (at_ : Int) + i < n := by omega
        have hcs := HO.out.row (at_ + i) hin
        have hwr := HO.out.wr (at_ + i) (by have := HO.out.len; omega)
        have d1 : decide ((0 : Int) ≤ at_ + i) = true := decide_eq_true (by omega)
        have d2 : decide ((at_ : Int) + i ≥ 0) = true := decide_eq_true (by omega)
        have d3 : decide ((at_ : Int) + i < n) = true := decide_eq_true hin'
        obtain ⟨hc3, hf3⟩ := hwr
        rw [Nat.zero_add] at hcs
        go_wp2_with fail
        have hv := HM.out.by255 i
        exact ⟨⟨i + 1, by omega, by push_cast; rfl, by rw [← overF_succ]; exact HO.out.set (at_ + i) (h i) hin hv.1 hv.2, below_setCells' HO.out.le [.int .u8 (h i)] (at_ + i) wr HB.out⟩, by simp only [intOf]; omega⟩
      · have d1 : decide ((0 : Int) ≤ at_ + i) = true := decide_eq_true (by omega)
        have d2 : decide ((at_ : Int) + i ≥ 0) = true := decide_eq_true (by omega)
        have d3 : decide ((at_ : Int) + i < n) = false := decide_eq_false (by omega)
        go_wp2_with fail
        exact ⟨⟨i + 1, by omega, by push_cast; rfl, HO.out.congr (over255 HR.out.by255 HM.out.by255 _ _) (fun j hj => by rw [← overF_succ]; unfold setF; rw [if_neg (by omega)]), HB.out⟩, by simp only [intOf]; omega⟩
    · obtain rfl : i = m := by omega
      go_wp2_with fail
      go_ret
      exact ⟨g, c, rfl, HO.out, HB.out⟩
theorem firstZ_congr {f f' : Nat → Int} : ∀ (n o : Nat), (∀ i, i < n → f' (o + i) = f (o + i)) → firstZ f' o n = firstZ f o n
  | 0, _, _ => rfl
  | n + 1, o, h => by
    unfold firstZ
    have h0 := h 0 (by omega)
    simp only [Nat.add_zero] at h0
    have h1 := firstZ_congr (f := f) (f' := f') n (o + 1) (fun i hi => by have := h (i + 1) (by omega); rw [show o + (i + 1) = o + 1 + i by omega] at this; exact this)
    rw [h0, h1]
theorem sectS_congr {f f' : Nat → Int} {o : Nat} (h : ∀ i, i < 40 → f' (o + i) = f (o + i)) : sectS f' o = sectS f o := by
  have k : ∀ d, d + 4 ≤ 40 → rdF f' (o + d) 4 = rdF f (o + d) 4 := fun d hd => rdF_congr 4 _ fun i hi => by rw [Nat.add_assoc]; exact h _ (by omega)
  have hz := firstZ_congr (f := f) (f' := f') 8 o (fun i hi => h i (by omega))
  unfold sectS nameS
  rw [hz, strF_congr (f := f') (f' := f) (o := o) (o' := o) (fun i hi => h i (by have := firstZ_le f o 8; omega)), k 8 (by omega), k 12 (by omega), k 16 (by omega), k 20 (by omega), k 36 (by omega)]
def SameH (n : Nat) (f f' : Nat → Int) : Prop := ∀ q, q < 328 + 40 * n → (q < 200 ∨ 328 ≤ q) → f' q = f q
theorem SameH.rd {n : Nat} {f f' : Nat → Int} (h : SameH n f f') (o k : Nat) (h1 : o + k ≤ 328 + 40 * n) (h2 : o + k ≤ 200 ∨ 328 ≤ o) : rdF f' o k = rdF f o k := rdF_congr k o fun i hi => h _ (by omega) (by omega)
theorem SameH.sects {n : Nat} {f f' : Nat → Int} (h : SameH n f f') : sectsS f' 328 n = sectsS f 328 n := by
  unfold sectsS
  refine List.map_congr_left fun j hj => ?_
  have hj := List.mem_range.1 hj
  exact sectS_congr fun i hi => h _ (by omega) (by omega)
theorem SameH.refl (n : Nat) (f : Nat → Int) : SameH n f f := fun _ _ _ => rfl
theorem SameH.trans {n : Nat} {f g h : Nat → Int} (a : SameH n f g) (b : SameH n g h) : SameH n f h := fun q h1 h2 => (b q h1 h2).trans (a q h1 h2)
theorem SameH.over {n : Nat} (f : Nat → Int) (at_ m : Nat) (h : Nat → Int) (hx : (200 ≤ at_ ∧ at_ + m ≤ 328) ∨ 328 + 40 * n ≤ at_) : SameH n f (overF f at_ m h) := fun q h1 h2 => by
  unfold overF; rw [if_neg (by omega)]
section
variable {L : Nat → Trip} {n : Nat} {f f' : Nat → Int}
theorem SameH.begin' (h : SameH n f f') (x : MadeP L n f) (N : Nat) (hN : 328 ≤ N) : beginS N f' = (64, 0) := by
  have y := x.all.hd
  have k : ∀ q v, q < 200 → f q = v → f' q = v := fun q v a b => (h q (by omega) (by omega)).trans b
  have z0 := k 0 77 (by omega) y.m0
  have z1 := k 1 90 (by omega) y.m1
  have z2 : rdF f' 60 4 = 64 := (h.rd 60 4 (by omega) (by omega)).trans y.pe
  unfold beginS
  rw [z2, z0, z1, if_neg (by omega), if_neg (by omega), if_neg (by omega)]
  show (if f' 64 ≠ 80 ∨ f' (64 + 1) ≠ 69 ∨ f' (64 + 2) ≠ 0 ∨ f' (64 + 3) ≠ 0 then ((0 : Int), (3 : Int)) else (64, 0)) = _
  rw [k 64 80 (by omega) y.p0, k 65 69 (by omega) y.p1, k 66 0 (by omega) y.p2, k 67 0 (by omega) y.p3, if_neg (by omega)]
theorem SameH.headP (h : SameH n f f') (x : MadeP L n f) (N : Nat) (hN : 328 ≤ N) : headP N f' = 64 := by
  unfold YtplgdpjbkdagfaaGreat.headP
  rw [h.begin' x N hN]
  rfl
theorem SameH.cnt (h : SameH n f f') (x : MadeP L n f) : rdF f' 70 2 = n := (h.rd 70 2 (by omega) (by omega)).trans x.all.hd.cnt
theorem SameH.headK (h : SameH n f f') (x : MadeP L n f) (N : Nat) (hN : 328 ≤ N) : headK N f' = n := by
  unfold YtplgdpjbkdagfaaGreat.headK
  rw [h.headP x N hN, h.cnt x]
  omega
theorem SameH.size (h : SameH n f f') (x : MadeP L n f) : (readS f' 64).size = rvaS L n := (h.rd 144 4 (by omega) (by omega)).trans x.size
theorem SameH.hdrs (h : SameH n f f') (x : MadeP L n f) : (readS f' 64).headers = 1024 := (h.rd 148 4 (by omega) (by omega)).trans x.all.hd.hdrs
theorem SameH.base (h : SameH n f f') (x : MadeP L n f) : (readS f' 64).base = 65536 := (h.rd 112 8 (by omega) (by omega)).trans x.all.hd.base
theorem SameH.ok (h : SameH n f f') (x : MadeP L n f) (N : Nat) (hN : atS L n ≤ N) (h1 : 1 ≤ n) (h6 : n ≤ 6) : headE N f' = 0 := by
  have ha := atS_bd L n
  have hr := rvaS_bd L n
  have h0 := rvaS_mono L (show 1 ≤ n by omega)
  have hf := fullS_bd (L 0)
  have y := x.all.hd
  have hb : (beginS N f').1 = 64 := by rw [h.begin' x N (by omega)]
  have hb2 : (beginS N f').2 = 0 := by rw [h.begin' x N (by omega)]
  have ho : optS f' 64 = 0 := by
    unfold optS
    rw [(h.rd 68 2 (by omega) (by omega)).trans y.mach, (h.rd 84 2 (by omega) (by omega)).trans y.opt, (h.rd 88 2 (by omega) (by omega)).trans y.mg, (h.rd 196 4 (by omega) (by omega)).trans y.nd, if_neg (by omega), if_neg (by omega)]
  have hal : alignS f' 64 (readS f' 64).base (readS f' 64).size := by
    refine ⟨(h.rd 120 4 (by omega) (by omega)).trans y.al, (h.rd 124 4 (by omega) (by omega)).trans y.fal, ?_⟩
    rw [h.base x, h.size x]
    omega
  have hhp : headersP N 64 (readS f' 64).headers (rdF f' (64 + 6) 2) := by
    rw [h.hdrs x, h.cnt x]
    unfold headersP
    omega
  have hch : chainP (readS f' 64).size N (roundS (readS f' 64).headers 4096) (sectsS f' (64 + 264) (rdF f' (64 + 6) 2).toNat) := by
    rw [h.hdrs x, h.cnt x, h.size x, show roundS 1024 4096 = 4096 by rfl, Int.toNat_natCast, h.sects]
    have k := x.all.chain N hN n 0 (by omega)
    rw [← List.range_eq_range'] at k
    exact k
  have hen : (readS f' 64).entry = 0 := (h.rd 104 4 (by omega) (by omega)).trans y.ent
  unfold headE
  rw [if_neg (by omega), hb, show ((64 : Int).toNat) = 64 from rfl, if_neg (by rw [ho]; omega), if_neg (fun k => k hal), if_neg (fun k => k hhp), if_neg (fun k => k hch), if_neg]
  rw [h.size x, hen]
  simp only [rvaS] at h0
  omega
end
theorem rdF_shift {f g : Nat → Int} : ∀ (n o o' : Nat), (∀ i, i < n → f (o + i) = g (o' + i)) → rdF f o n = rdF g o' n
  | 0, _, _, _ => rfl
  | n + 1, o, o', h => by
    unfold rdF
    have h0 := h 0 (by omega)
    simp only [Nat.add_zero] at h0
    rw [h0, rdF_shift n (o + 1) (o' + 1) (fun i hi => by rw [show o + 1 + i = o + (i + 1) by omega, show o' + 1 + i = o' + (i + 1) by omega]; exact h (i + 1) (by omega))]
theorem dirs_behind (f d : Nat → Int) (at_ m i : Nat) (h : 328 ≤ at_) (hi : i < 16) : (readS (overF f at_ m d) 64).dirs i = (readS f 64).dirs i := by
  show (rdF (overF f at_ m d) (64 + 136 + 8 * i) 4, rdF (overF f at_ m d) (64 + 136 + 8 * i + 4) 4) = (rdF f (64 + 136 + 8 * i) 4, rdF f (64 + 136 + 8 * i + 4) 4)
  rw [rdF_shift (f := overF f at_ m d) (g := f) 4 (64 + 136 + 8 * i) (64 + 136 + 8 * i) (fun j hj => by unfold overF; rw [if_neg (by omega)]), rdF_shift (f := overF f at_ m d) (g := f) 4 (64 + 136 + 8 * i + 4) (64 + 136 + 8 * i + 4) (fun j hj => by unfold overF; rw [if_neg (by omega)])]
theorem MadeP.dirs0 {L : Nat → Trip} {n : Nat} {f : Nat → Int} (x : MadeP L n f) (i : Nat) (hi : i < 16) : (readS f 64).dirs i = (0, 0) := by
  show (rdF f (64 + 136 + 8 * i) 4, rdF f (64 + 136 + 8 * i + 4) 4) = _
  have h1 := x.all.hd.dirs (2 * i) (by omega)
  have h2 := x.all.hd.dirs (2 * i + 1) (by omega)
  rw [show 64 + 136 + 8 * i = 200 + 4 * (2 * i) by omega, h1, show 200 + 4 * (2 * i) + 4 = 200 + 4 * (2 * i + 1) by omega, h2]
def L12 (_ : Nat) : Trip := (12287, 8191, 7)
theorem at12 : atS L12 1 = 8704 := by decide +kernel
theorem rva12 : rvaS L12 1 = 16384 := by decide +kernel
theorem conv_own (w : World) (S : ByteArray) (hl : S.size ≤ 1000000) : ∃ C w', (convert 9 25 (.string S)).run Tryz.prog w = .ok (.slice (some ⟨w.heap.size, 0, none⟩) S.size C) w' ∧ OwnC w' w.heap.size w.heap.size S.size C (PlainAid.bt S) ∧ Below w.heap.size w w' := by
  have hcv := run_bytes_of_string (P := Tryz.prog) w 9 25 5 S Tryz.underlying9 Tryz.underlying25 Tryz.underlying5
  have hcap := grownCap_ge w S.size 0 5
  have hcm := grownCap_le_maxLen w S.size 0 5 (by simp only [maxLen]; omega)
  simp only [maxLen] at hcm
  obtain ⟨C, hC⟩ : ∃ C, grownCap w S.size 0 5 = C := ⟨_, rfl⟩
  rw [hC] at hcv hcap hcm
  have hrz : (bytesRow S C).size = C := by
    have h1 : S.data.size = S.size := rfl
    simp [bytesRow]; omega
  rw [hrz] at hcv
  exact ⟨C, _, hcv, OwnC.bytes w.drew S C C (C + 1) hcap hcm (Nat.le_refl _), (Below.refl w.heap.size w).drew.alloc (Nat.le_refl _) _⟩
structure OwnD (w : World) (base g cap : Nat) (bs : List Nat) : Prop where
  le : base ≤ g
  lt : g < w.heap.size
  row : Row w g 0 bs.length (lF bs)
  lb : Lb bs
  len : bs.length ≤ cap
  most : cap ≤ 9223372036854775807
  wr : ∀ j, j < cap → (w.cell? ⟨g, j, none⟩).isSome = true ∧ w.frozen? ⟨g, j, none⟩ = false
theorem OwnD.of_block {w w' : World} {base g cap : Nat} {bs : List Nat} (h : OwnD w base g cap bs) (hs : w.heap.size ≤ w'.heap.size) (hb : w'.heap[g]? = w.heap[g]?) : OwnD w' base g cap bs :=
  ⟨h.le, Nat.lt_of_lt_of_le h.lt hs, fun i hi => (World.cell?_of_block (a := ⟨g, _, none⟩) hb).trans (h.row i hi), h.lb, h.len, h.most, fun j hj => by
    rw [World.cell?_of_block (a := ⟨g, j, none⟩) hb, World.frozen?_of_block (a := ⟨g, j, none⟩) hb]; exact h.wr j hj⟩
theorem OwnD.below {w w' : World} {base g cap : Nat} {bs : List Nat} (h : OwnD w base g cap bs) (hb : Below w.heap.size w w') : OwnD w' base g cap bs := h.of_block hb.size (hb.block g h.lt)
theorem OwnD.weaken {w : World} {base base' g cap : Nat} {bs : List Nat} (h : OwnD w base g cap bs) (hb : base' ≤ base) : OwnD w base' g cap bs := ⟨Nat.le_trans hb h.le, h.lt, h.row, h.lb, h.len, h.most, h.wr⟩
theorem OwnD.alloc {w : World} {base g cap : Nat} {bs : List Nat} (h : OwnD w base g cap bs) (o : Obj) : OwnD (w.alloc o) base g cap bs := h.below ((Below.refl _ _).alloc (Nat.le_refl _) o)
theorem OwnD.slB {w : World} {base g cap : Nat} {bs : List Nat} (h : OwnD w base g cap bs) : SlB w (some ⟨g, 0, none⟩) bs.length (lF bs) := .inr ⟨g, 0, rfl, h.lt, h.row⟩
theorem OwnD.noughts {w : World} {base g n : Nat} (h : Own w g n (fun _ => .int .u8 0)) (hb : base ≤ g) (hm : n ≤ 9223372036854775807) : OwnD w base g n (List.replicate n 0) := by
  refine ⟨hb, h.1, fun i hi => ?_, fun v hv => by rw [List.eq_of_mem_replicate hv]; omega, by simp, hm, fun j hj => ⟨by rw [h.cell hj]; rfl, h.frozen hj⟩⟩
  have hi' : i < n := by simpa using hi
  rw [Nat.zero_add, h.cell hi']
  unfold lF
  simp [List.getD, hi']
theorem OwnD.conv (w : World) (bs : List Nat) (cap lo hi : Nat) (hb : Lb bs) (h : bs.length ≤ cap) (hm : cap ≤ 9223372036854775807) (h1 : cap ≤ lo) :
    OwnD (w.alloc (.cells (bytesRow (txt bs) cap) 5 (lo, hi))) w.heap.size w.heap.size cap bs := by
  have hz : (bytesRow (txt bs) cap).size = cap := by
    have : (txt bs).data.size = (txt bs).size := rfl
    have := txt_size bs
    simp [bytesRow]
    omega
  refine ⟨Nat.le_refl _, by simp, fun i hi' => ?_, hb, h, hm, fun j hj => ⟨?_, ?_⟩⟩
  · have hi2 : i < (txt bs).data.size := by have := txt_size bs; exact (show i < (txt bs).size by omega)
    rw [Nat.zero_add, World.cell?_alloc_mark w (bytesRow (txt bs) cap) 5 (lo, hi) i, bytesRow_at (txt bs) cap i hi2, ← txt_bt hb hi']
    unfold PlainAid.bt
    rw [dif_pos (show i < (txt bs).size from hi2)]
    rfl
  · rw [World.cell?_alloc_mark w (bytesRow (txt bs) cap) 5 (lo, hi) j, Array.getElem?_eq_getElem (by omega)]
    rfl
  · rw [World.frozen?_alloc_mark w (bytesRow (txt bs) cap) 5 lo hi j]
    simp only [Bool.and_eq_false_iff, decide_eq_false_iff_not]
    left
    omega
theorem lF_cat (bs cs : List Nat) (i : Nat) : lF (bs ++ cs) i = catF bs.length (lF bs) (lF cs) i := by
  unfold lF catF
  by_cases h : i < bs.length
  · rw [if_pos h]; simp [List.getD, List.getElem?_append_left h]
  · rw [if_neg h]; simp [List.getD, List.getElem?_append_right (Nat.le_of_not_lt h)]
theorem src_txt {w : World} (t : List Nat) (h : Lb t) : Src Tryz.prog 1 9 (.string (txt t)) t.length (bytesL t.length (lF t)) w := by
  have h' := src_str (w := w) (txt t)
  rw [txt_size, bytesL_congr (f' := lF t) (fun i hi => txt_bt h hi)] at h'
  exact h'
theorem size_setCells (g : Nat) : ∀ (vs : List Value) (o : Nat) (w : World), (w.setCells g o vs).heap.size = w.heap.size
  | [], _, _ => rfl
  | v :: r, o, w => by rw [World.setCells, size_setCells g r]; simp
theorem wpList_appD {w : World} {ops : Array Oper} {rest : List Oper} {o : Oper} {a : Act} {Q : Exit → Act → World → Prop} (hgd : o.guard = none) (s x : Operand) (tx : TypeId)
    (ho : o.op = .call { callee := .builtin .append, args := #[s, x], argTypes := #[25, tx] })
    {base g n cap m : Nat} {bs cs : List Nat} (X : Value) (hown : OwnD w base g cap bs) (hbn : n = bs.length) (hcm : m = cs.length) (hs1 : Src Tryz.prog 1 tx X m (bytesL m (lF cs)) w) (hcs : Lb cs) (hnm : n + m ≤ 1000000) (hbase : base ≤ w.heap.size)
    (hv : a.eval s = .slice (some ⟨g, 0, none⟩) n cap) (hx : a.eval x = X)
    (hK : ∀ g' cap' w', OwnD w' base g' cap' (bs ++ cs) → Below base w w' → wpList Tryz.prog ops Q rest (a.put o.dst (.slice (some ⟨g', 0, none⟩) (n + m) cap')) w') : wpList Tryz.prog ops Q (o :: rest) a w := by
  obtain ⟨i0, hi, hz0, hz1, hz2⟩ := info_parts infoU8
  subst hbn hcm
  have hs : Src Tryz.prog i0.size tx X cs.length (bytesL cs.length (lF cs)) w := by rw [hz1]; exact hs1
  have hrun : ∃ g' cap' w', (Builtin.append_ #[25, tx] o.type #[.slice (some ⟨g, 0, none⟩) bs.length cap, X]).run Tryz.prog w = .ok (.slice (some ⟨g', 0, none⟩) (bs.length + cs.length) cap') w' ∧ OwnD w' base g' cap' (bs ++ cs) ∧ Below base w w' := by
    by_cases hroom : bs.length + cs.length ≤ cap
    · have hin : ∀ j, j < (bytesL cs.length (lF cs)).length → (w.cell? ⟨g, bs.length + j, none⟩).isSome = true := fun j hj => (hown.wr (bs.length + j) (by rw [bytesL_len] at hj; omega)).1
      have hr := run_append_room_src (P := Tryz.prog) w 25 tx o.type 5 i0 Tryz.underlying25 hi g 0 bs.length cap X cs.length _ hs hroom
        (fun j hj => by rw [hz1, Nat.mul_one, Nat.zero_add]; exact hin j hj) (fun j hj => by rw [hz1, Nat.mul_one, Nat.zero_add]; exact (hown.wr (bs.length + j) (by rw [bytesL_len] at hj; omega)).2)
      rw [hz1, Nat.mul_one, Nat.zero_add] at hr
      refine ⟨_, _, _, hr, ⟨hown.le, by rw [size_setCells]; exact hown.lt, fun i hi => ?_, hown.lb.append hcs, by rw [List.length_append]; exact hroom, hown.most, fun j hj => ⟨World.isSome_setCells _ _ _ _ _ (hown.wr j hj).1, by rw [World.frozen?_setCells]; exact (hown.wr j hj).2⟩⟩, below_setCells hown.le _ _ _ (Below.refl base w)⟩
      rw [lF_cat]
      unfold catF
      rw [List.length_append] at hi
      rw [Nat.zero_add]
      by_cases e : i < bs.length
      · rw [if_pos e, World.cell?_setCells_out _ _ _ _ _ (fun _ _ => .inl e)]
        have := hown.row i e
        rwa [Nat.zero_add] at this
      · rw [if_neg e]
        have := World.cell?_setCells_in g (bytesL cs.length (lF cs)) bs.length w hin (i - bs.length) (by rw [bytesL_len]; omega)
        rw [show bs.length + (i - bs.length) = i by omega] at this
        rw [this]
        simp [bytesL]
    · have hold : (Builtin.firstCells i0.size bs.length (.slice (some ⟨g, 0, none⟩) bs.length cap)).run Tryz.prog w.drew = .ok (bytesL bs.length (lF bs)).toArray w.drew := by
        rw [hz1]
        refine run_firstCells_some w.drew 1 bs.length ⟨g, 0, none⟩ bs.length cap (bytesL bs.length (lF bs)) (by rw [bytesL_len, Nat.mul_one]) fun j u hu => ?_
        have hj : j < bs.length := by
          rcases Nat.lt_or_ge j bs.length with hj | hj
          · exact hj
          · rw [List.getElem?_eq_none (by rw [bytesL_len]; omega)] at hu; cases hu
        rw [bytesL_get bs.length (lF bs) hj] at hu
        obtain rfl := Option.some.inj hu
        have hadd : (⟨g, 0, none⟩ : Addr).add j = ⟨g, 0 + j, none⟩ := by unfold Addr.add; split <;> simp_all
        rw [hadd]
        exact hown.row j hj
      have hr := run_append_grow_src (P := Tryz.prog) w 25 tx o.type 5 i0 (.int .u8 0) Tryz.underlying25 hi hz0 (some ⟨g, 0, none⟩) bs.length cap (bytesL bs.length (lF bs)) hold X cs.length _ hs (by omega) (by omega) (growslice_fits (by omega) (by rw [hz2]; omega))
      have hcap := grownCap_ge w (bs.length + cs.length) cap 5
      have hcm := grownCap_le_maxLen w (bs.length + cs.length) cap 5 (by simp only [maxLen]; omega)
      simp only [maxLen] at hcm
      have hz : (Value.int .u8 0).cells = #[.int .u8 0] := rfl
      have hh := heap_alloc_new w.drew (.cells ((bytesL bs.length (lF bs) ++ bytesL cs.length (lF cs)).toArray ++ Builtin.zeroCells (Value.int .u8 0).cells (grownCap w (bs.length + cs.length) cap 5 - (bs.length + cs.length))) 5)
      have hsz : ((bytesL bs.length (lF bs) ++ bytesL cs.length (lF cs)).toArray ++ Builtin.zeroCells (Value.int .u8 0).cells (grownCap w (bs.length + cs.length) cap 5 - (bs.length + cs.length))).size = grownCap w (bs.length + cs.length) cap 5 := by
        rw [Array.size_append, size_zeroCells, hz]
        simp [bytesL_len]
        omega
      refine ⟨_, _, _, hr, ⟨hbase, by simp, fun i hi => ?_, hown.lb.append hcs, by rw [List.length_append]; exact hcap, by omega, fun j hj => ⟨?_, frozen_of_row _ _ _ _ _ hh⟩⟩, ((Below.refl base w).drew).alloc (by simpa using hbase) _⟩
      · rw [List.length_append] at hi
        rw [Nat.zero_add, lF_cat]
        have := cell_of_row _ _ i _ _ _ hh
        refine Eq.trans this ?_
        rw [bytesL_cat, Array.getElem?_append_left (by simpa [bytesL_len] using hi), List.getElem?_toArray, bytesL_get _ _ hi]
      · have := cell_of_row _ _ j _ _ _ hh
        refine Eq.trans (congrArg Option.isSome this) ?_
        rw [Array.getElem?_eq_getElem (by omega)]
        rfl
  refine wpList_plain hgd fun K hK' => ?_
  obtain ⟨g', cap', w', hrun, r1, r2⟩ := hrun
  unfold Oper.wp execOp
  simp only [ho, resolve, invoke, builtin, Sem.run_bind, Sem.run_pure, Result.andThen_ok, List.map_toArray, List.map_cons, List.map_nil, hv, hx, hrun]
  exact hK' _ _ (hK g' cap' w' r1 r2)
def bytN (v n : Nat) : List Nat := (List.range n).map fun i => v / 2 ^ (8 * i) % 256
theorem bytN_len (v n : Nat) : (bytN v n).length = n := by simp [bytN]
theorem bytN_get (v n j : Nat) (h : j < n) : lF (bytN v n) j = byteOf (v : Int) j := by
  have e : (bytN v n)[j]? = some (v / 2 ^ (8 * j) % 256) := by unfold bytN; rw [List.getElem?_map, List.getElem?_range h]; rfl
  unfold lF byteOf
  rw [List.getD, e, Option.getD_some, Int.natCast_emod, Int.natCast_ediv, Int.natCast_pow]
  rfl
def putL (b : List Nat) (o n v : Nat) : List Nat := b.take o ++ (bytN v n ++ b.drop (o + n))
theorem putL_len {b : List Nat} {o n : Nat} (h : o + n ≤ b.length) (v : Nat) : (putL b o n v).length = b.length := by
  simp only [putL, List.length_append, List.length_take, List.length_drop, bytN_len]; omega
theorem putL_lb {b : List Nat} (hb : Lb b) (o n v : Nat) : Lb (putL b o n v) := by
  refine (hb.take o).append (Lb.append (fun x hx => ?_) (hb.drop _))
  obtain ⟨i, _, rfl⟩ := List.mem_map.mp hx
  omega
theorem putL_get {b : List Nat} {o n : Nat} (h : o + n ≤ b.length) (v i : Nat) (hi : i < b.length) : lF (putL b o n v) i = putI (lF b) o (v : Int) n i := by
  have hl : (b.take o).length = o := by rw [List.length_take]; omega
  unfold putL putI
  rw [lF_cat, hl]
  unfold catF
  by_cases h1 : i < o
  · rw [if_pos h1, if_neg (by omega), lF_take _ _ _ h1]
  · rw [if_neg h1, lF_cat, bytN_len]
    unfold catF
    by_cases h2 : i < o + n
    · rw [if_pos (by omega), if_pos (by omega)]
      exact bytN_get v n (i - o) (by omega)
    · rw [if_neg (by omega), if_neg (by omega), lF_drop]
      congr 1
      omega
theorem put_list (bs : List Nat) (o n v : Nat) (w : World) (hb : Lb bs) (hl : bs.length ≤ 1000000) (h1 : 1 ≤ n) (h8 : n ≤ 8) (h : o + n ≤ bs.length) (hv : v ≤ 18446744073709551615) :
    Calls Tryz.prog 78 #[.string (txt bs), .int .i64 o, .int .i64 n, .int .u64 v] w fun e w' => e = .returned (.tuple #[.string (txt (putL bs o n v)), .bool true]) ∧ Below w.heap.size w w' := by
  refine (rput_yes (txt bs) o n v w (by rw [txt_size]; exact hl) h1 h8 (by rw [txt_size]; exact h) (by omega) (by omega)).mono ?_
  rintro e w' ⟨rfl, hw⟩
  refine ⟨?_, hw⟩
  have : strF (putI (PlainAid.bt (txt bs)) o v n) 0 (txt bs).size = txt (putL bs o n v) := by
    unfold txt at *
    rw [strF_size, putL_len h]
    refine strF_congr fun i hi => ?_
    rw [Nat.zero_add, putL_get h v i hi]
    unfold putI
    split
    · rfl
    · exact txt_bt hb hi
  rw [this]
end Go.Proofs.YtplgdpjbkdagfaaGreat
