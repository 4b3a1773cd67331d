/- package hdr: Parse. -/
import Derived.Test.YtplgdpjbkdagfaaGreatHdrG
namespace Go.Proofs.YtplgdpjbkdagfaaGreat
set_option maxRecDepth 100000
open Go.ChangeShapes Go.WideShapes Go.ChangeAt Go.RowKit
set_option linter.unusedVariables false
set_option linter.unusedSimpArgs false

open Classical in
/-- Why n bytes f are no image; 0: they are one. -/
noncomputable def headE (n : Nat) (f : Nat → Int) : Int :=
  if (beginS n f).2 ≠ 0 then (beginS n f).2 else
  if optS f (beginS n f).1.toNat ≠ 0 then optS f (beginS n f).1.toNat else
  if ¬ alignS f (beginS n f).1.toNat (readS f (beginS n f).1.toNat).base (readS f (beginS n f).1.toNat).size then 6 else
  if ¬ headersP n (beginS n f).1.toNat (readS f (beginS n f).1.toNat).headers (rdF f ((beginS n f).1.toNat + 6) 2) then 7 else
  if ¬ chainP (readS f (beginS n f).1.toNat).size n (roundS (readS f (beginS n f).1.toNat).headers 4096) (sectsS f ((beginS n f).1.toNat + 264) (rdF f ((beginS n f).1.toNat + 6) 2).toNat) then 7 else
  if (readS f (beginS n f).1.toNat).size ≤ (readS f (beginS n f).1.toNat).entry then 5 else 0

/-- The head of an image that begins at p. -/
def headP (n : Nat) (f : Nat → Int) : Nat := (beginS n f).1.toNat
/-- How many sections it has. -/
def headK (n : Nat) (f : Nat → Int) : Nat := (rdF f (headP n f + 6) 2).toNat

def noHead : HeadN := ⟨0, 0, 0, 0, 0, 0, fun _ => (0, 0)⟩
theorem headV_none : HeadV (headC 0 0 0 0 0 0) noHead (.slice none 0 0) := by
  refine ⟨rfl, rfl, rfl, rfl, rfl, rfl, rfl, fun i hi => ?_, fun i hi => ?_, rfl⟩
  · rcases (by omega : i = 0 ∨ i = 1 ∨ i = 2 ∨ i = 3 ∨ i = 4 ∨ i = 5 ∨ i = 6 ∨ i = 7 ∨ i = 8 ∨ i = 9 ∨ i = 10 ∨ i = 11 ∨ i = 12 ∨ i = 13 ∨ i = 14 ∨ i = 15) with h | h | h | h | h | h | h | h | h | h | h | h | h | h | h | h <;> subst h <;> rfl
  · rcases (by omega : i = 0 ∨ i = 1 ∨ i = 2 ∨ i = 3 ∨ i = 4 ∨ i = 5 ∨ i = 6 ∨ i = 7 ∨ i = 8 ∨ i = 9 ∨ i = 10 ∨ i = 11 ∨ i = 12 ∨ i = 13 ∨ i = 14 ∨ i = 15) with h | h | h | h | h | h | h | h | h | h | h | h | h | h | h | h <;> subst h <;> rfl

theorem HeadV.one {cs : Array Value} {h : HeadN} {sv : Value} (x : HeadV cs h sv) (hs : sv.oneCell' = true) : cs.all (·.oneCell') = true := by
  refine Array.all_eq_true_iff_forall_mem.2 fun v hv => ?_
  obtain ⟨j, hj, rfl⟩ := Array.mem_iff_getElem.1 hv
  have hsz := x.size
  have k : ∀ u, cs[j]? = some u → u.oneCell' = true → cs[j].oneCell' = true := fun u h1 h2 => by
    rw [Array.getElem?_eq_getElem hj] at h1
    injection h1 with h1
    rw [h1]; exact h2
  rcases (by omega : j = 0 ∨ j = 1 ∨ j = 2 ∨ j = 3 ∨ j = 4 ∨ j = 5 ∨ j = 38 ∨ ((j - 6) / 2 < 16 ∧ j = 6 + 2 * ((j - 6) / 2)) ∨ ((j - 6) / 2 < 16 ∧ j = 6 + 2 * ((j - 6) / 2) + 1)) with h | h | h | h | h | h | h | ⟨hi, h⟩ | ⟨hi, h⟩
  · exact k _ (by rw [h]; exact x.c0) rfl
  · exact k _ (by rw [h]; exact x.c1) rfl
  · exact k _ (by rw [h]; exact x.c2) rfl
  · exact k _ (by rw [h]; exact x.c3) rfl
  · exact k _ (by rw [h]; exact x.c4) rfl
  · exact k _ (by rw [h]; exact x.c5) rfl
  · exact k _ (by rw [h]; exact x.c38) hs
  · exact k _ (by rw [h]; exact x.dir0 _ hi) rfl
  · exact k _ (by rw [h]; exact x.dir1 _ hi) rfl

theorem HeadV.sects {cs : Array Value} {h : HeadN} {sv : Value} (x : HeadV cs h sv) (sv' : Value) : HeadV (cs.setIfInBounds 38 sv') h sv' := by
  have hs := x.size
  have k : ∀ j v, j ≠ 38 → cs[j]? = some v → (cs.setIfInBounds 38 sv')[j]? = some v := fun j v h1 h2 => by
    rw [Array.getElem?_setIfInBounds_ne (by omega)]; exact h2
  exact ⟨by simp [hs], k _ _ (by omega) x.c0, k _ _ (by omega) x.c1, k _ _ (by omega) x.c2, k _ _ (by omega) x.c3, k _ _ (by omega) x.c4, k _ _ (by omega) x.c5, fun i hi => k _ _ (by omega) (x.dir0 i hi), fun i hi => k _ _ (by omega) (x.dir1 i hi), by rw [Array.getElem?_setIfInBounds_self_of_lt (by omega)]⟩

/-- What Parse tells of n bytes f: why they are none, or a head and its sections. -/
def HeadR (w : World) (n : Nat) (f : Nat → Int) (v : Value) : Prop :=
  ∃ cs, v = .tuple #[.agg cs, .int .i64 (headE n f)] ∧
    ((headE n f ≠ 0 ∧ HeadV cs noHead (.slice none 0 0)) ∨
     (headE n f = 0 ∧ ∃ g, HeadV cs (readS f (headP n f)) (.slice (some ⟨g, 0, none⟩) (headK n f) (headK n f)) ∧ SlT SectN.cells 6 w (some ⟨g, 0, none⟩) (sectsS f (headP n f + 264) (headK n f)) ∧ g < w.heap.size))

theorem results_cell_tmp {P : Program} {fn : Func} {p q : Tmp} {ty : TypeId} (h : fn.results = #[.cell p ty, .tmp q]) (tmps : Array Value) (w : World) (g : Nat) (t : TypeId) (cs : Array Value) (fr : Nat × Nat) (d : TypeDesc) (v : Value)
    (hp : tmps.getD p undef = .pointer (some ⟨g, 0, none⟩)) (hq : tmps.getD q undef = v) (hg : w.heap[g]? = some (.cells cs t fr))
    (hu : P.underlying ty = some d) (hd : (match d with | .struct _ | .array _ _ => true | _ => false) = true) (hi : (P.info? ty).map (·.size) = some cs.size) :
    (results fn tmps).run P w = .ok (.tuple #[.agg cs, v]) w := by
  have hp' : tmps[p]?.getD undef = .pointer (some ⟨g, 0, none⟩) := by simpa using hp
  have hq' : tmps[q]?.getD undef = v := by simpa using hq
  simp [results, h, hp', hq', asAddr, run_loadVar_row w g t ty cs fr d hg hu hd hi]

theorem beginS_ok {n : Nat} {f : Nat → Int} (hf : Bytes255 f) (h : (beginS n f).2 = 0) : ∃ p : Nat, (beginS n f).1 = p ∧ 64 ≤ p ∧ p % 4 = 0 ∧ p + 264 ≤ n ∧ p < 4294967296 := by
  have hb := rdF_bd f hf 4 60
  unfold beginS at h ⊢
  split at h
  · cases h
  · split at h
    · cases h
    · split at h
      · cases h
      · split at h
        · cases h
        · rename_i h1 h2 h3 h4
          rw [if_neg h1, if_neg h2, if_neg h3, if_neg h4]
          refine ⟨(rdF f 60 4).toNat, ?_, ?_, ?_, ?_, ?_⟩ <;> simp only [] at * <;> omega

set_option maxRecDepth 100000 in
set_option maxHeartbeats 4000000 in
theorem hparse_any (b off n cap : Nat) (f : Nat → Int) (w : World) (h : RowB w b off n cap f) :
    Calls Tryz.prog 23 #[.slice (some ⟨b, off, none⟩) n cap] w fun e w' => (∃ v, e = .returned v ∧ HeadR w' n f v) ∧ Below w.heap.size w w' := by
  have hbx := begin_any b off n cap f
  have hZ := heap_alloc_new w (.cells (headC 0 0 0 0 0 0) 41)
  have HB0 := Lib.hid ((Below.refl w.heap.size w).alloc (Nat.le_refl _) (.cells (headC 0 0 0 0 0 0) 41))
  have hs1 : (w.alloc (.cells (headC 0 0 0 0 0 0) 41)).heap.size = w.heap.size + 1 := by simp
  have HR1 := Lib.hid (h.below HB0.out)
  clear h
  go_enter Tryz.func23, Tryz.ntmps23
  go_wp2_with fail
  rw [zero_head]
  generalize w.alloc (.cells (headC 0 0 0 0 0 0) 41) = w1 at hZ HB0 HR1 hs1 ⊢
  refine (hbx w1 HR1.out).mono ?_
  rintro e w2 ⟨rfl, hb2⟩
  have HB2 := Lib.hid (HB0.out.trans (hb2.mono (by omega)))
  have HR2 := Lib.hid (HR1.out.below hb2)
  have hZ2 := (hb2.block w.heap.size (by omega)).trans hZ
  have H255 := Lib.hid HR1.out.by255
  clear hbx hZ HB0 HR1 hb2 hs1
  by_cases e0 : (beginS n f).2 ≠ 0
  · have hE : headE n f = (beginS n f).2 := by unfold headE; rw [if_pos e0]
    have HE := Lib.hid hE
    clear hE
    generalize (beginS n f).2 = x2 at *
    generalize (beginS n f).1 = x1 at *
    have e1 : (x2 != 0) = true := by simpa using e0
    go_wp2_with (refine wpList_store_row rfl 41 _ _ rfl w.heap.size (headC 0 0 0 0 0 0) rfl rfl 41 _ hZ2 rfl rfl (headC_one _ _ _ _ _ _) ?_)
    refine bodyPost_ret (v := .tuple #[.agg (headC 0 0 0 0 0 0), .int .i64 x2]) (results_cell_tmp rfl _ _ w.heap.size 41 _ (0, 0) _ _ rfl rfl (setRow_heap _ _ _ _ _ _ hZ2) rfl rfl rfl) rfl ⟨⟨_, rfl, _, by rw [HE.out], .inl ⟨by rw [HE.out]; exact e0, headV_none⟩⟩, below_setRow HB2.out (Nat.le_refl _) _⟩
  · have e0' : (beginS n f).2 = 0 := by omega
    obtain ⟨p, hp, p0, p1, p2, p3⟩ := beginS_ok H255.out e0'
    have hP : headP n f = p := by unfold headP; rw [hp]; rfl
    have hK : headK n f = (rdF f (p + 6) 2).toNat := by unfold headK; rw [hP]
    have HP := Lib.hid hP
    have HK := Lib.hid hK
    have hE : headE n f = headE n f := rfl
    conv at hE => rhs; unfold headE
    rw [if_neg e0, hp, Int.toNat_natCast] at hE
    have HE := Lib.hid hE
    rw [e0', hp]
    clear hE hP hK hp e0 e0'
    have ho := opt_any b off n cap f p w2 HR2.out p2 (by omega)
    have HO := Lib.hid ho
    clear ho
    by_cases eo : optS f p ≠ 0
    · have hE : headE n f = optS f p := by rw [HE.out, if_pos eo]
      have HE2 := Lib.hid hE
      clear hE
      generalize optS f p = x2 at *
      have e1 : (x2 != 0) = true := by simpa using eo
      go_wp2_with (first | (go_fit HO.out; rintro e w' ⟨rfl, rfl⟩) | (refine wpList_store_row rfl 41 _ _ rfl w.heap.size (headC 0 0 0 0 0 0) rfl rfl 41 _ hZ2 rfl rfl (headC_one _ _ _ _ _ _) ?_))
      refine bodyPost_ret (v := .tuple #[.agg (headC 0 0 0 0 0 0), .int .i64 x2]) (results_cell_tmp rfl _ _ w.heap.size 41 _ (0, 0) _ _ rfl rfl (setRow_heap _ _ _ _ _ _ hZ2) rfl rfl rfl) rfl ⟨⟨_, rfl, _, by rw [HE2.out], .inl ⟨by rw [HE2.out]; exact eo, headV_none⟩⟩, below_setRow HB2.out (Nat.le_refl _) _⟩
    · have eo' : optS f p = 0 := by omega
      rw [eo'] at HO
      have hE : headE n f = _ := HE.out
      rw [if_neg eo] at hE
      have HE2 := Lib.hid hE
      clear hE HE eo eo'
      go_wp2_with (go_fit HO.out; rintro e w' ⟨rfl, rfl⟩)
      refine (read_any b off n cap f p w2 HR2.out p2 (by omega)).mono ?_
      rintro e w3 ⟨⟨cs, rfl, hv⟩, hb3⟩
      have HB3 := Lib.hid (HB2.out.trans (hb3.mono HB2.out.size))
      have HR3 := Lib.hid (HR2.out.below hb3)
      have hlt2 : w.heap.size < w2.heap.size := (Array.getElem?_eq_some_iff.1 hZ2).1
      have hZ3 := (hb3.block w.heap.size hlt2).trans hZ2
      have hlt3 : w.heap.size < w3.heap.size := Nat.lt_of_lt_of_le hlt2 hb3.size
      have hone := hv.one rfl
      have hcz := hv.size
      clear HB2 HR2 HO hb3 hZ2 hlt2
      go_wp2_with (first
        | (refine wpList_store_row rfl 41 _ _ rfl w3.heap.size cs rfl rfl 41 _ (heap_alloc_new _ _) (by rw [hcz]; rfl) (by rw [hcz]; rfl) hone ?_)
        | (refine wpList_load_row rfl 41 _ rfl w3.heap.size rfl 41 cs (0, 0) _ (setRow_heap _ _ _ _ _ _ (heap_alloc_new _ _)) rfl rfl (by rw [hcz]; rfl) ?_))
      rw [zero_head]
      have h74 := setRow_heap (w3.alloc (.cells (headC 0 0 0 0 0 0) 41)) w3.heap.size _ cs _ _ (heap_alloc_new _ _)
      have hZ4 : ((w3.alloc (.cells (headC 0 0 0 0 0 0) 41)).setRow w3.heap.size cs).heap[w.heap.size]? = some (.cells (headC 0 0 0 0 0 0) 41 (0, 0)) := by rw [setRow_other _ _ _ _ (by omega), heap_alloc_old _ _ hlt3]; exact hZ3
      have hB34 : Below w3.heap.size w3 ((w3.alloc (.cells (headC 0 0 0 0 0 0) 41)).setRow w3.heap.size cs) := below_setRow ((Below.refl _ w3).alloc (Nat.le_refl _) _) (Nat.le_refl _) _
      have HB4 := Lib.hid (HB3.out.trans (hB34.mono HB3.out.size))
      have HR4 := Lib.hid (HR3.out.below hB34)
      have hsz4 : w3.heap.size < ((w3.alloc (.cells (headC 0 0 0 0 0 0) 41)).setRow w3.heap.size cs).heap.size := by simp
      clear hB34 hZ3 HR3 HB3
      generalize (w3.alloc (.cells (headC 0 0 0 0 0 0) 41)).setRow w3.heap.size cs = w4 at *
      generalize w3.heap.size = g7 at *
      have HV := Lib.hid hv
      have HLT := Lib.hid hlt3
      have HONE := Lib.hid hone
      clear hv hlt3 hone
      by_cases ea : alignS f p (readS f p).base (readS f p).size
      · have hE : headE n f = _ := HE2.out
        rw [if_neg (fun h => h ea)] at hE
        have HE3 := Lib.hid hE
        clear hE HE2
        have hbs : ∀ k, Hid (0 ≤ rdF f (p + k) 4 ∧ rdF f (p + k) 4 < 4294967296) := fun k => Lib.hid (rdF_bd f H255.out 4 _)
        have hb2 := rdF_bd f H255.out 2 (p + 6)
        refine (align_any b off n cap f p cs _ _ true w4 HR4.out p2 (by omega) HV.out ⟨fun _ => ea, fun _ => rfl⟩).mono ?_
        rintro e w5 ⟨rfl, hb5⟩
        have HB5 := Lib.hid (HB4.out.trans (hb5.mono HB4.out.size))
        have HR5 := Lib.hid (HR4.out.below hb5)
        have hZ5 := (hb5.block w.heap.size (Nat.lt_trans HLT.out hsz4)).trans hZ4
        have h75 := (hb5.block g7 hsz4).trans h74
        have hsz5 : g7 < w5.heap.size := Nat.lt_of_lt_of_le hsz4 hb5.size
        have H6 := Lib.hid (hu16 b off n cap f (p + 6) w5 HR5.out (by omega))
        rw [show ((p + 6 : Nat) : Int) = (p : Int) + 6 by omega] at H6
        have hK := HK.out
        obtain ⟨k, hk⟩ : ∃ k : Nat, rdF f (p + 6) 2 = k := ⟨(rdF f (p + 6) 2).toNat, by omega⟩
        rw [hk] at hK H6 hb2
        rw [hk] at HE3
        simp only [Int.toNat_natCast] at hK HE3
        have HK2 := Lib.hid hK
        have c5 : w5.cell? ⟨g7, 5, none⟩ = some (.int .i64 (readS f p).headers) := by rw [cell_of_row _ _ _ _ _ _ h75]; exact HV.out.c5
        clear hb5 hZ4 h74 hsz4 HK hK ea HB4 HR4
        go_wp2_with (go_fit H6.out; rintro e w' ⟨rfl, rfl⟩)
        by_cases eh : headersP n p (readS f p).headers k
        · have hE : headE n f = _ := HE3.out
          rw [if_neg (fun h => h eh)] at hE
          have HE4 := Lib.hid hE
          clear hE HE3
          refine (headers_any _ n cap p _ _ true w5 (by have := HR5.out.len; have := HR5.out.most; omega) (by omega) ((hbs 84).out).1 (Int.le_of_lt ((hbs 84).out).2) (by omega) (by omega) ⟨fun _ => eh, fun _ => rfl⟩).mono ?_
          rintro e w' ⟨rfl, rfl⟩
          obtain ⟨k1, k2, k3, k4, k5⟩ := eh
          have hsx := sects_any b off n cap f (p + 264) k w5 HR5.out (by omega) (by omega) (by omega) (by omega)
          rw [show ((p + 264 : Nat) : Int) = (p : Int) + 264 by omega] at hsx
          go_wp2_with fail
          refine hsx.mono ?_
          rintro e w6 ⟨rfl, hsl, hb6⟩
          clear hsx c5 H6
          have hlen : (sectsS f (p + 264) k).length = k := by simp [sectsS]
          have HN63 : Hid ((n : Int) ≤ 9223372036854775807) := Lib.hid (by have := HR5.out.len; have := HR5.out.most; omega)
          have HG75 := Lib.hid hsz5
          have hgS : w5.heap.size < w6.heap.size := by
            rcases hsl with h | ⟨b', off', h1, h2, _⟩
            · rw [h] at hlen; simp at hlen; omega
            · injection h1 with h1
              injection h1 with h1
              omega
          have HB6 := Lib.hid (HB5.out.trans (hb6.mono HB5.out.size))
          have hZ6 := (hb6.block w.heap.size (Nat.lt_trans HLT.out hsz5)).trans hZ5
          have h76 := (hb6.block g7 hsz5).trans h75
          have c38 : w6.cell? ⟨g7, 38, none⟩ = some (.slice none 0 0) := by rw [cell_of_row _ _ _ _ _ _ h76]; exact HV.out.c38
          have z38 := frozen_of_row _ _ 38 _ _ h76
          have hcz7 : (cs.setIfInBounds 38 (.slice (some ⟨w5.heap.size, 0, none⟩) k k)).size = 39 := by rw [Array.size_setIfInBounds]; exact hcz
          have h77 : (w6.setCell ⟨g7, 38, none⟩ (.slice (some ⟨w5.heap.size, 0, none⟩) k k)).heap[g7]? = _ := heap_setCell_same _ _ _ _ _ _ h76
          have hZ7 : (w6.setCell ⟨g7, 38, none⟩ (.slice (some ⟨w5.heap.size, 0, none⟩) k k)).heap[w.heap.size]? = some (.cells (headC 0 0 0 0 0 0) 41 (0, 0)) := by
            rw [heap_setCell_other _ _ _ _ (by have := HLT.out; show w.heap.size ≠ g7; omega)]; exact hZ6
          have HB7 : Hid (Below w.heap.size w (w6.setCell ⟨g7, 38, none⟩ (.slice (some ⟨w5.heap.size, 0, none⟩) k k))) := Lib.hid (HB6.out.setCell (Nat.le_of_lt HLT.out) _)
          have HSL7 : Hid (SlT SectN.cells 6 (w6.setCell ⟨g7, 38, none⟩ (.slice (some ⟨w5.heap.size, 0, none⟩) k k)) (some ⟨w5.heap.size, 0, none⟩) (sectsS f (p + 264) k)) :=
            Lib.hid (hsl.keep (by simp) fun b' hb' => by
              simp only [Option.map_some, Option.some.injEq] at hb'
              exact heap_setCell_other _ _ _ _ (by show b' ≠ g7; omega))
          have hgS7 : w5.heap.size < (w6.setCell ⟨g7, 38, none⟩ (.slice (some ⟨w5.heap.size, 0, none⟩) k k)).heap.size := by simpa using hgS
          have HV7 := Lib.hid (HV.out.sects (.slice (some ⟨w5.heap.size, 0, none⟩) k k))
          clear hsl hb6 hZ5 h75 hZ6 h76 HB6 HB5 HR5 HV hcz
          go_wp2_with (refine wpList_load_row rfl 41 _ rfl g7 rfl 41 _ (0, 0) _ h77 rfl rfl (by rw [hcz7]; rfl) ?_)
          generalize w6.setCell ⟨g7, 38, none⟩ (.slice (some ⟨w5.heap.size, 0, none⟩) k k) = w7 at *
          have hsz7 : g7 < w7.heap.size := by omega
          clear hsz5 hgS c38 z38
          generalize w5.heap.size = gS at *
          generalize cs.setIfInBounds 38 (.slice (some ⟨gS, 0, none⟩) k k) = cs7 at *
          have HCH := fun bb hbb => chain_any cs7 (readS f p) gS k (sectsS f (p + 264) k) n bb w7 (by rw [hlen]; exact HV7.out) HSL7.out hgS7 (fun s hs => by
            simp only [sectsS, List.mem_map] at hs
            obtain ⟨j, _, rfl⟩ := hs
            exact sectS_bd H255.out _) (by omega) ((hbs 84).out).1 ((hbs 84).out).2 ((hbs 80).out).1 ((hbs 80).out).2 (by omega) HN63.out hbb
          have h3 := HV7.out.c3
          have h4 := HV7.out.c4
          have hone7 := HV7.out.one rfl
          by_cases ec : chainP (readS f p).size n (roundS (readS f p).headers 4096) (sectsS f (p + 264) k)
          · have hE : headE n f = _ := HE4.out
            rw [if_neg (fun h => h ec)] at hE
            have HE5 := Lib.hid hE
            clear hE HE4
            refine (HCH true ⟨fun _ => ec, fun _ => rfl⟩).mono ?_
            rintro e w8 ⟨rfl, hb8⟩
            have HB8 := Lib.hid (HB7.out.trans (hb8.mono HB7.out.size))
            have hZ8 := (hb8.block w.heap.size (Nat.lt_trans HLT.out hsz7)).trans hZ7
            have h78 := (hb8.block g7 hsz7).trans h77
            have HSL8 := Lib.hid (HSL7.out.below hb8)
            have hgS8 : gS < w8.heap.size := Nat.lt_of_lt_of_le hgS7 hb8.size
            have c3 : w8.cell? ⟨g7, 3, none⟩ = some (.int .i64 (readS f p).entry) := by rw [cell_of_row _ _ _ _ _ _ h78]; exact h3
            have c4 : w8.cell? ⟨g7, 4, none⟩ = some (.int .i64 (readS f p).size) := by rw [cell_of_row _ _ _ _ _ _ h78]; exact h4
            clear hb8 hZ7 h77 hsz7 hgS7 HSL7 HB7 HCH h3 h4 ec
            generalize hy3 : (readS f p).entry = y3 at *
            generalize hy4 : (readS f p).size = y4 at *
            by_cases ee : y4 ≤ y3
            · have hE : headE n f = 5 := by rw [HE5.out, if_pos ee]
              have HE6 := Lib.hid hE
              clear hE h78
              go_wp2_with (first | (refine wpList_store_row rfl 41 _ _ rfl w.heap.size (headC 0 0 0 0 0 0) rfl rfl 41 _ hZ8 rfl rfl (headC_one _ _ _ _ _ _) ?_))
              refine bodyPost_ret (v := .tuple #[.agg (headC 0 0 0 0 0 0), .int .i64 5]) (results_cell_tmp rfl _ _ w.heap.size 41 _ (0, 0) _ _ rfl rfl (setRow_heap _ _ _ _ _ _ hZ8) rfl rfl rfl) rfl ⟨⟨_, rfl, _, by rw [HE6.out], .inl ⟨by rw [HE6.out]; omega, headV_none⟩⟩, below_setRow HB8.out (Nat.le_refl _) _⟩
            · have hE : headE n f = 0 := by rw [HE5.out, if_neg ee]
              have HE6 := Lib.hid hE
              clear hE
              have ee' : y3 < y4 := by omega
              go_wp2_with (first
                | (refine wpList_load_row rfl 41 _ rfl g7 rfl 41 cs7 (0, 0) _ h78 rfl rfl (by rw [hcz7]; rfl) ?_)
                | (refine wpList_store_row rfl 41 _ _ rfl w.heap.size cs7 rfl rfl 41 _ hZ8 (by rw [hcz7]; rfl) (by rw [hcz7]; rfl) hone7 ?_))
              refine bodyPost_ret (v := .tuple #[.agg cs7, .int .i64 0]) (results_cell_tmp rfl _ _ w.heap.size 41 cs7 (0, 0) _ _ rfl rfl (setRow_heap _ _ _ _ _ _ hZ8) rfl rfl (by rw [hcz7]; rfl)) rfl ⟨⟨_, rfl, cs7, by rw [HE6.out], .inr ⟨HE6.out, gS, ?_, ?_, ?_⟩⟩, below_setRow HB8.out (Nat.le_refl _) _⟩
              · rw [HP.out, HK2.out]; exact HV7.out
              · rw [HP.out, HK2.out]
                exact HSL8.out.keep (by simp) fun b' hb' => by
                  simp only [Option.map_some, Option.some.injEq] at hb'
                  exact setRow_other _ _ _ _ (by have := HLT.out; have := HG75.out; omega)
              · simpa using hgS8
          · have hE : headE n f = 7 := by rw [HE4.out, if_pos ec]
            have HE5 := Lib.hid hE
            clear hE
            refine (HCH false ⟨fun h => (by cases h), fun h => (ec h).elim⟩).mono ?_
            rintro e w8 ⟨rfl, hb8⟩
            have HB8 := Lib.hid (HB7.out.trans (hb8.mono HB7.out.size))
            have hZ8 := (hb8.block w.heap.size (Nat.lt_trans HLT.out hsz7)).trans hZ7
            clear hb8 hZ7 h77 hsz7 hgS7 HCH h3 h4 ec hone7
            go_wp2_with (first | (refine wpList_store_row rfl 41 _ _ rfl w.heap.size (headC 0 0 0 0 0 0) rfl rfl 41 _ hZ8 rfl rfl (headC_one _ _ _ _ _ _) ?_))
            refine bodyPost_ret (v := .tuple #[.agg (headC 0 0 0 0 0 0), .int .i64 7]) (results_cell_tmp rfl _ _ w.heap.size 41 _ (0, 0) _ _ rfl rfl (setRow_heap _ _ _ _ _ _ hZ8) rfl rfl rfl) rfl ⟨⟨_, rfl, _, by rw [HE5.out], .inl ⟨by rw [HE5.out]; omega, headV_none⟩⟩, below_setRow HB8.out (Nat.le_refl _) _⟩
        · have hE : headE n f = 7 := by rw [HE3.out, if_pos eh]
          have HE4 := Lib.hid hE
          clear hE
          refine (headers_any _ n cap p _ _ false w5 (by have := HR5.out.len; have := HR5.out.most; omega) (by omega) ((hbs 84).out).1 (Int.le_of_lt ((hbs 84).out).2) (by omega) (by omega) ⟨fun h => (by cases h), fun h => (eh h).elim⟩).mono ?_
          rintro e w' ⟨rfl, rfl⟩
          clear c5 h75 hsz5
          go_wp2_with (first | (refine wpList_store_row rfl 41 _ _ rfl w.heap.size (headC 0 0 0 0 0 0) rfl rfl 41 _ hZ5 rfl rfl (headC_one _ _ _ _ _ _) ?_))
          refine bodyPost_ret (v := .tuple #[.agg (headC 0 0 0 0 0 0), .int .i64 7]) (results_cell_tmp rfl _ _ w.heap.size 41 _ (0, 0) _ _ rfl rfl (setRow_heap _ _ _ _ _ _ hZ5) rfl rfl rfl) rfl ⟨⟨_, rfl, _, by rw [HE4.out], .inl ⟨by rw [HE4.out]; omega, headV_none⟩⟩, below_setRow HB5.out (Nat.le_refl _) _⟩
      · have hE : headE n f = 6 := by rw [HE2.out, if_pos ea]
        have HE3 := Lib.hid hE
        clear hE
        refine (align_any b off n cap f p cs _ _ false w4 HR4.out p2 (by omega) HV.out ⟨fun h => (by cases h), fun h => (ea h).elim⟩).mono ?_
        rintro e w5 ⟨rfl, hb5⟩
        have HB5 := Lib.hid (HB4.out.trans (hb5.mono HB4.out.size))
        have hZ5 := (hb5.block w.heap.size (Nat.lt_trans HLT.out hsz4)).trans hZ4
        clear hb5 hZ4 h74 hsz4
        go_wp2_with (first | (refine wpList_store_row rfl 41 _ _ rfl w.heap.size (headC 0 0 0 0 0 0) rfl rfl 41 _ hZ5 rfl rfl (headC_one _ _ _ _ _ _) ?_))
        refine bodyPost_ret (v := .tuple #[.agg (headC 0 0 0 0 0 0), .int .i64 6]) (results_cell_tmp rfl _ _ w.heap.size 41 _ (0, 0) _ _ rfl rfl (setRow_heap _ _ _ _ _ _ hZ5) rfl rfl rfl) rfl ⟨⟨_, rfl, _, by rw [HE3.out], .inl ⟨by rw [HE3.out]; omega, headV_none⟩⟩, below_setRow HB5.out (Nat.le_refl _) _⟩
end Go.Proofs.YtplgdpjbkdagfaaGreat
