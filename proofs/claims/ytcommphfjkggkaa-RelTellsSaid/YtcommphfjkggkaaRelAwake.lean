/- Layer 10: awake. -/
import Derived.Test.YtcommphfjkggkaaRelMade
namespace Go.Proofs.Ytcommphfjkggkaa
open Go.ChangeShapes Go.WideShapes Go.ChangeAt Go.RowKit
set_option linter.unusedVariables false

theorem slT_new {α : Type} {C : α → List Value} {sz : Nat} (hC : ∀ x, (C x).length = sz) (w : World) (l : List α) (t : TypeId) : SlT C sz (w.alloc (.cells (l.flatMap C).toArray t)) (some ⟨w.heap.size, 0, none⟩) l := by
  refine .inr ⟨w.heap.size, 0, rfl, by simp, fun i hi j v hv => ?_⟩
  have hj : j < sz := by rw [← hC l[i]]; exact (List.getElem?_eq_some_iff.1 hv).1
  have h := flatC_get hC l i j hi hj
  rw [hv] at h
  rw [Nat.zero_add, cell_of_row (w.alloc (.cells (l.flatMap C).toArray t)) w.heap.size (i * sz + j) _ t (0, 0) (heap_alloc_new w _)]
  simpa using h

theorem sl_new (w : World) (l : List Int) (t : TypeId) : SlB (w.alloc (.cells (l.map (Value.int .u8)).toArray t)) (some ⟨w.heap.size, 0, none⟩) l.length (litF l) :=
  .inr ⟨w.heap.size, 0, rfl, by simp, row_lit l rfl⟩

theorem parse_aw : parseS 76 (litF (aheadB 64 ++ madeB [(10, 8)] 2 0)) 64 12 = some [(10, 8)] := by decide +kernel
theorem parse_aw2 : parseS 0 (litF []) 1 8 = none := by decide +kernel
theorem apply_aw : strF (applyI 5 2 (litF [1, 0, 0, 0, 0]) [(3, 0)]) 0 5 = ⟨#[3, 0, 0, 0, 0]⟩ := by decide +kernel
theorem made_aw : (madeB [(10, 8)] 2 0).length = 12 := by decide +kernel

set_option maxRecDepth 100000 in
theorem awake10_any (w : World) : Calls Try.prog 10 #[] w fun e w' => e = .returned (.bool true) ∧ Below w.heap.size w w' := by
  go_enter Try.func10, Try.ntmps10
  go_wp2_with fail
  have hm := made_any _ [(10, 8)] 1 64 _ (slT_new relC_len w [(10, 8)] 30) (by simp) (by omega) (by simp)
  unfold MadeR at hm
  simp only [List.length_cons, List.length_nil, Nat.zero_add, Nat.reduceAdd, made_aw] at hm
  have HM := Lib.hid hm
  clear hm
  go_fit HM.out
  rintro e w1 ⟨A, cap, rfl, hown, hb⟩
  have HB := Lib.hid (((Below.refl w.heap.size w).alloc (Nat.le_refl _) (.cells #[.int .i64 10, .int .i64 8] 30)).trans (hb.mono (by simp)))
  obtain ⟨s1, s2, s3, s4, s5⟩ := (hown.alloc (.cells #[.int .i64 64, .int .i64 12] 24)).slice
  have HBD := Lib.hid (HB.out.alloc (by have := HB.out.size; omega) (.cells #[.int .i64 64, .int .i64 12] 24))
  simp only [Int.cast_ofNat_Int]
  have hbs : Bs (aheadB 64 ++ madeB [(10, 8)] 2 0) := by
    intro b hb
    have h : ∀ b ∈ aheadB 64 ++ madeB [(10, 8)] 2 0, 0 ≤ b ∧ b ≤ 255 := by decide +kernel
    exact h b hb
  have hp := parse_any A 76 cap _ 64 12 _ s2 (by omega) hbs.lit s4 (by omega) (by omega) (by omega) (by omega)
  rw [parse_aw] at hp
  have HP := Lib.hid hp
  clear hown hb s1 s2 s3 s4 s5 hbs hp HM
  go_wp2_with fail
  go_fit HP.out
  rintro e w2 ⟨⟨A2, cap2, rfl, hown2⟩, hb2⟩
  have HB2 := Lib.hid (HBD.out.trans (hb2.mono HBD.out.size))
  have HL2 := Lib.hid (hown2.sl relC_len)
  clear hown2 hb2 HP
  have ha := apply_any (some ⟨w2.heap.size, 0, none⟩) 5 5 (litF [1, 0, 0, 0, 0]) (some ⟨w2.heap.size + 1, 0, none⟩) [(3, 0)] 1 2 ((w2.alloc (.cells (([1, 0, 0, 0, 0] : List Int).map (Value.int .u8)).toArray 5)).alloc (.cells (([(3, 0)] : List Site).flatMap relC).toArray 30)) (by omega) (by omega) (lit255 _ (by decide))
    ((sl_new w2 [1, 0, 0, 0, 0] 5).below ((Below.refl _ _).alloc (Nat.le_refl _) _)) (by
      have h := slT_new relC_len (w2.alloc (.cells (([1, 0, 0, 0, 0] : List Int).map (Value.int .u8)).toArray 5)) [(3, 0)] 30
      rw [show (w2.alloc (.cells (([1, 0, 0, 0, 0] : List Int).map (Value.int .u8)).toArray 5)).heap.size = w2.heap.size + 1 by simp] at h
      exact h) (by simp) (by simp) (by omega) (by omega)
  simp only [List.length_cons, List.length_nil, Nat.zero_add] at ha
  have HA := Lib.hid ha
  clear ha
  go_wp2_with fail
  go_fit HA.out
  rintro e w3 ⟨A3, cap3, rfl, hres, hb3⟩
  have HR3 := Lib.hid hres
  have HB3 := Lib.hid (((HB2.out.alloc (by have := HB2.out.size; omega) (.cells (([1, 0, 0, 0, 0] : List Int).map (Value.int .u8)).toArray 5)).alloc (by have := HB2.out.size; simp; omega) (.cells (([(3, 0)] : List Site).flatMap relC).toArray 30)).trans (hb3.mono (by have := HB2.out.size; simp; omega)))
  have HL3 := Lib.hid ((HL2.out.below (((Below.refl w2.heap.size w2).alloc (Nat.le_refl _) (.cells (([1, 0, 0, 0, 0] : List Int).map (Value.int .u8)).toArray 5)).alloc (by simp) (.cells (([(3, 0)] : List Site).flatMap relC).toArray 30))).below hb3)
  clear hres hb3 HA HL2
  have hp2 := parse_any none 0 0 (litF []) 1 8 w3 (by omega) (by omega) (lit255 _ (by decide)) (.inl rfl) (by omega) (by omega) (by omega) (by omega)
  rw [parse_aw2] at hp2
  have HP2 := Lib.hid hp2
  clear hp2
  go_wp2_with fail
  go_fit HP2.out
  rintro e w4 ⟨rfl, hb4⟩
  have HB4 := Lib.hid (HB3.out.trans (hb4.mono HB3.out.size))
  have HL4 := Lib.hid (HL3.out.below hb4)
  have HR4 := Lib.hid (HR3.out.sl.below hb4)
  clear hb4
  obtain ⟨b, off, rfl, _, q0, q1⟩ := HL4.out.site (i := 0) (by simp)
  obtain ⟨b3, off3, rfl, _, hrow⟩ : ∃ b off, A3 = some ⟨b, off, none⟩ ∧ b < w4.heap.size ∧ Row w4 b off 5 (applyI 5 2 (litF [1, 0, 0, 0, 0]) [(3, 0)]) := by
    rcases HR4.out with h | h
    · cases h
    · exact h
  have hs := run_str (cap := cap3) hrow
  rw [apply_aw] at hs
  simp only [List.getElem_cons_zero, Nat.zero_mul, Nat.add_zero] at q0 q1
  go_wp2_with fail
  go_ret
  exact ⟨rfl, HB4.out⟩
end Go.Proofs.Ytcommphfjkggkaa
