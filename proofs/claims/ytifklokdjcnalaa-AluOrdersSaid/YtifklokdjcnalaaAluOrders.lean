/- AluOrders. -/
import Derived.Test.YtifklokdjcnalaaAluFits
import Derived.BigRegion
import Derived.Deep.Cut
import Derived.ChangeAlike
import Derived.Deep.RegionHeld3
namespace Go.Proofs.Ytifklokdjcnalaa
open Go.ChangeShapes Go.WideShapes Go.ChangeAt Go.RowKit
set_option linter.unusedVariables false

set_option maxRecDepth 100000 in
set_option maxHeartbeats 1000000 in
theorem orders_core (a b u : Int) (z q c o : Bool) (w : World)
    (D2 : ∀ w, Calls Try.prog 9 #[.int .i64 7, .int .u64 a, .int .u64 b, .agg #[.bool false, .bool false, .bool false, .bool false]] w fun e w' => e = .returned (.tuple #[.int .u64 a, .agg #[.bool z, .bool q, .bool c, .bool o]]) ∧ Below w.heap.size w w')
    (hu : IntKind.u64.wrap (a - b) = u)
    (Z : (a == b) = z) (C : decide (a < b) = c) (C2 : decide (b ≤ a) = !c) (U : decide (wrap64 u < 0) = q) (U2 : decide (0 ≤ wrap64 u) = !q) (L : decide (wrap64 a < wrap64 b) = (q != o)) (L2 : decide (wrap64 b ≤ wrap64 a) = (q == o)) :
    Calls Try.prog 8 #[.int .u64 a, .int .u64 b] w fun e w' => e = .returned (.bool true) ∧ Below w.heap.size w w' := by
  have HZ := Lib.hid Z
  have HC := Lib.hid C
  have HC2 := Lib.hid C2
  have HU := Lib.hid U
  have HU2 := Lib.hid U2
  have HL := Lib.hid L
  have HL2 := Lib.hid L2
  clear Z C U L C2 U2 L2
  go_enter Try.func8, Try.ntmps8
  go_wp2_with fail
  refine (D2 _).mono ?_
  rintro e w1 ⟨rfl, hb1⟩
  go_wp2_with fail
  rename_i Q0 hQ0
  have HQ0 := Lib.hid hQ0
  clear hQ0
  have F : Fits w w1.heap.size z q c o (w1.alloc (Obj.cells #[.bool z, .bool q, .bool c, .bool o] 24)) := ⟨Blk.new _ _ _ _ _ _, hb1.alloc hb1.size _, by simp⟩
  generalize w1.heap.size = B at *
  generalize w1.alloc (Obj.cells #[.bool z, .bool q, .bool c, .bool o] 24) = W at *
  clear D2 hb1
  have Z := HZ.out
  have Z2 : (a != b) = !z := by rw [← Z]; rfl
  have C := HC.out
  have C2 := HC2.out
  have U := HU.out
  have U2 := HU2.out
  have L := HL.out
  have L2 := HL2.out
  clear HZ HC HC2 HU HU2 HL HL2
  have HF0 := Lib.hid F
  obtain ⟨f0, f1, f2, f3, _, _, _, _⟩ := F.blk
  clear F
  refine (cond_e _ _ _ _ _).mono ?_
  rintro e v1 ⟨rfl, hb1⟩
  have HF1 := Lib.hid (HF0.out.below hb1)
  clear f0 f1 f2 f3 hb1 HF0
  refine HQ0.out _ _ ?_
  clear HQ0 Q0
  simp only [List.append_eq, List.cons_append, List.nil_append]
  obtain ⟨f0, f1, f2, f3, _, _, _, _⟩ := HF1.out.blk
  go_wp2_with fail
  rename_i Q1 hQ1
  have HQ1 := Lib.hid hQ1
  clear hQ1
  refine (cond_ne _ _ _ _ _).mono ?_
  rintro e v2 ⟨rfl, hb2⟩
  have HF2 := Lib.hid (HF1.out.below hb2)
  clear f0 f1 f2 f3 hb2 HF1
  refine HQ1.out _ _ ?_
  clear HQ1 Q1
  obtain ⟨f0, f1, f2, f3, _, _, _, _⟩ := HF2.out.blk
  go_wp2_with fail
  rename_i Q2 hQ2
  have HQ2 := Lib.hid hQ2
  clear hQ2
  refine (cond_b _ _ _ _ _).mono ?_
  rintro e v3 ⟨rfl, hb3⟩
  have HF3 := Lib.hid (HF2.out.below hb3)
  clear f0 f1 f2 f3 hb3 HF2
  refine HQ2.out _ _ ?_
  clear HQ2 Q2
  obtain ⟨f0, f1, f2, f3, _, _, _, _⟩ := HF3.out.blk
  go_wp2_with fail
  rename_i Q3 hQ3
  have HQ3 := Lib.hid hQ3
  clear hQ3
  refine (cond_nb _ _ _ _ _).mono ?_
  rintro e v4 ⟨rfl, hb4⟩
  have HF4 := Lib.hid (HF3.out.below hb4)
  clear f0 f1 f2 f3 hb4 HF3
  refine HQ3.out _ _ ?_
  clear HQ3 Q3
  obtain ⟨f0, f1, f2, f3, _, _, _, _⟩ := HF4.out.blk
  go_wp2_with fail
  rename_i Q4 hQ4
  have HQ4 := Lib.hid hQ4
  clear hQ4
  refine (cond_l _ _ _ _ _).mono ?_
  rintro e v5 ⟨rfl, hb5⟩
  have HF5 := Lib.hid (HF4.out.below hb5)
  clear f0 f1 f2 f3 hb5 HF4
  refine HQ4.out _ _ ?_
  clear HQ4 Q4
  obtain ⟨f0, f1, f2, f3, _, _, _, _⟩ := HF5.out.blk
  go_wp2_with fail
  rename_i Q5 hQ5
  have HQ5 := Lib.hid hQ5
  clear hQ5
  refine (cond_nl _ _ _ _ _).mono ?_
  rintro e v6 ⟨rfl, hb6⟩
  have HF6 := Lib.hid (HF5.out.below hb6)
  clear f0 f1 f2 f3 hb6 HF5
  refine HQ5.out _ _ ?_
  clear HQ5 Q5
  obtain ⟨f0, f1, f2, f3, _, _, _, _⟩ := HF6.out.blk
  go_wp2_with fail
  rename_i Q6 hQ6
  have HQ6 := Lib.hid hQ6
  clear hQ6
  refine (cond_s _ _ _ _ _).mono ?_
  rintro e v7 ⟨rfl, hb7⟩
  have HF7 := Lib.hid (HF6.out.below hb7)
  clear f0 f1 f2 f3 hb7 HF6
  refine HQ6.out _ _ ?_
  clear HQ6 Q6
  obtain ⟨f0, f1, f2, f3, _, _, _, _⟩ := HF7.out.blk
  go_wp2_with fail
  rename_i Q7 hQ7
  have HQ7 := Lib.hid hQ7
  clear hQ7
  refine (cond_ns _ _ _ _ _).mono ?_
  rintro e v8 ⟨rfl, hb8⟩
  have HF8 := Lib.hid (HF7.out.below hb8)
  clear f0 f1 f2 f3 hb8 HF7
  refine HQ7.out _ _ ?_
  clear HQ7 Q7
  obtain ⟨f0, f1, f2, f3, _, _, _, _⟩ := HF8.out.blk
  go_wp2_with fail
  rename_i Q8 hQ8
  have HQ8 := Lib.hid hQ8
  clear hQ8
  refine (cond_one _ _ _ _ _).mono ?_
  rintro e v9 ⟨rfl, hb9⟩
  have HF9 := Lib.hid (HF8.out.below hb9)
  clear f0 f1 f2 f3 hb9 HF8
  refine HQ8.out _ _ ?_
  clear HQ8 Q8
  obtain ⟨f0, f1, f2, f3, _, _, _, _⟩ := HF9.out.blk
  go_wp2_with fail
  refine (awake_any _).mono ?_
  rintro e v10 ⟨rfl, hb10⟩
  have hb11 := (HF9.out.below hb10).bel
  clear f0 f1 f2 f3 hb10 HF9
  go_wp2
  go_ret
  exact ⟨rfl, by go_grown⟩

theorem orders_law (a b : Int) (w : World) (ha : Word a) (hb : Word b) : Calls Try.prog 8 #[.int .u64 a, .int .u64 b] w fun e w' => e = .returned (.bool true) ∧ Below w.heap.size w w' := by
  obtain ⟨u, hu⟩ : ∃ v, IntKind.u64.wrap (a - b) = v := ⟨_, rfl⟩
  have wu : Word u := by rw [← hu]; exact word_wrap _
  have f2 : subF a b u = .agg #[.bool (u == 0), .bool (hiB u), .bool (decide (a < b)), .bool ((hiB a != hiB b) && (hiB a != hiB u))] := rfl
  rw [show (u == 0) = (a == b) by rw [← hu]; exact subZ a b ha hb] at f2
  have hu' := hu
  rw [IntKind.wrap_u64] at hu'
  have a0 := ha.low
  have a1 := ha.high
  have b0 := hb.low
  have b1 := hb.high
  have L : decide (wrap64 a < wrap64 b) = (hiB u != ((hiB a != hiB b) && (hiB a != hiB u))) := by
    unfold hiB wrap64
    by_cases h1 : (9223372036854775808 : Int) ≤ a <;> by_cases h2 : (9223372036854775808 : Int) ≤ b <;> by_cases h3 : (9223372036854775808 : Int) ≤ u <;> simp only [h1, h2, h3] <;> simp <;> omega
  refine orders_core a b u _ _ _ _ w (fun w => do_cmp a b u _ _ _ _ _ _ _ _ w ha hb wu hu f2) hu rfl rfl ?_ (wrap64_neg u wu) ?_ L ?_
  · rw [← decide_not, decide_eq_decide]; omega
  · rw [← wrap64_neg u wu, ← decide_not, decide_eq_decide]; omega
  · rw [show decide (wrap64 b ≤ wrap64 a) = !decide (wrap64 a < wrap64 b) by rw [← decide_not, decide_eq_decide]; omega, L]
    cases hiB u <;> cases ((hiB a != hiB b) && (hiB a != _)) <;> rfl
end Go.Proofs.Ytifklokdjcnalaa
