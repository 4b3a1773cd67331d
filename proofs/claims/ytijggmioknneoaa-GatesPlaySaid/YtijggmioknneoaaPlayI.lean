/- law 23: GatesPlay: Set where there is none; Get; Clear; Free. -/
import Derived.Test.YtijggmioknneoaaPlayH
namespace Go.Proofs.Ytijggmioknneoaa
open Go.ChangeShapes Go.WideShapes Go.ChangeAt Go.RowKit
set_option linter.unusedVariables false
set_option linter.unusedSimpArgs false
set_option maxRecDepth 100000

set_option maxHeartbeats 8000000 in
theorem act_set_no (R : Nat → Prop) (w0 w : World) (s C B n D : Nat) (v : Int → Nat → Int) (u r : Nat → Int) (o : OpV) (v0 v4 v7 : Value) (t x vv : Int) (ow : Bool) (HP : Hid (Play R w0 w s C B n v u r)) (HA : Hid (Agrees v u)) (hn : n ≤ 90)
    (HD : Hid (R D ∧ D ≠ C ∧ D ≠ B ∧ w0.heap.size ≤ D)) (HF : Hid (∀ j y, (opC o)[j]? = some y → w.cell? ⟨D, j, none⟩ = some y)) (hno : ¬ (0 < t ∧ 0 ≤ x ∧ x < 32)) (Q : Exit → Act → World → Prop) (a : Act)
    (ha : Has 246 [0, 3, 4, 5, 6, 7, 8, 9, 10, 11, 12, 13, 88] [v0, .pointer (some ⟨s, 0, none⟩), v4, .pointer (some ⟨C, 0, none⟩), .pointer (some ⟨B, 0, none⟩), v7, .pointer (some ⟨D, 0, none⟩), .int .i64 t, .int .i64 x, .bool false, .bool ow, .int .u64 vv, .int .i64 0] a) (hK : ∀ a' w' n' v' u' r', Has 246 [0, 3, 4, 5, 6, 7] [v0, .pointer (some ⟨s, 0, none⟩), v4, .pointer (some ⟨C, 0, none⟩), .pointer (some ⟨B, 0, none⟩), v7] a' → n' ≤ n + 1 → Play R w0 w' s C B n' v' u' r' → Agrees v' u' → Q .normal a' w') : actP.wp Try.prog Q a w := by
  obtain ⟨u0, rfl⟩ := topen_0_3_4_5_6_7_8_9_10_11_12_13_88 ha
  clear ha
  have HK := Lib.hid hK
  clear hK
  conv => arg 2; whnf
  have f4 := HF.out 4 _ rfl
  go_wp2_with fail
  refine (set_no w s t x o.v hno).mono ?_
  rintro e w1 ⟨rfl, hw1⟩
  subst hw1
  go_wp2_with fail
  refine HK.out _ _ _ _ _ _ ⟨rfl, rfl, rfl⟩ (by omega) HP.out HA.out
set_option maxHeartbeats 8000000 in
theorem act_get (R : Nat → Prop) (w0 w : World) (s C B n D : Nat) (v : Int → Nat → Int) (u r : Nat → Int) (o : OpV) (v0 v4 v7 : Value) (t x : Int) (inn ow : Bool) (HP : Hid (Play R w0 w s C B n v u r)) (HA : Hid (Agrees v u)) (hn : n ≤ 90)
    (HD : Hid (R D ∧ D ≠ C ∧ D ≠ B ∧ w0.heap.size ≤ D)) (HF : Hid (∀ j y, (opC o)[j]? = some y → w.cell? ⟨D, j, none⟩ = some y)) (hwf : (Lit.int .i64 t).wf = true) (Q : Exit → Act → World → Prop) (a : Act)
    (ha : Has 246 [0, 3, 4, 5, 6, 7, 8, 9, 10, 11, 12, 13, 88] [v0, .pointer (some ⟨s, 0, none⟩), v4, .pointer (some ⟨C, 0, none⟩), .pointer (some ⟨B, 0, none⟩), v7, .pointer (some ⟨D, 0, none⟩), .int .i64 t, .int .i64 x, .bool inn, .bool ow, .int .u64 (getV v t x), .int .i64 1] a) (hK : ∀ a' w' n' v' u' r', Has 246 [0, 3, 4, 5, 6, 7] [v0, .pointer (some ⟨s, 0, none⟩), v4, .pointer (some ⟨C, 0, none⟩), .pointer (some ⟨B, 0, none⟩), v7] a' → n' ≤ n + 1 → Play R w0 w' s C B n' v' u' r' → Agrees v' u' → Q .normal a' w') : actP.wp Try.prog Q a w := by
  obtain ⟨u0, rfl⟩ := topen_0_3_4_5_6_7_8_9_10_11_12_13_88 ha
  clear ha
  have HK := Lib.hid hK
  clear hK
  conv => arg 2; whnf
  have HG := Lib.hid (get_any R w s n v t x hwf HP.out.slots)
  go_wp2_with fail
  refine HG.out.mono ?_
  rintro e w1 ⟨rfl, hw1⟩
  subst hw1
  go_wp2_with fail
  refine HK.out _ _ _ _ _ _ ⟨rfl, rfl, rfl⟩ (by omega) HP.out HA.out
set_option maxHeartbeats 8000000 in
theorem act_clear_no (R : Nat → Prop) (w0 w : World) (s C B n D : Nat) (v : Int → Nat → Int) (u r : Nat → Int) (o : OpV) (v0 v4 v7 : Value) (t x vv : Int) (inn : Bool) (HP : Hid (Play R w0 w s C B n v u r)) (HA : Hid (Agrees v u)) (hn : n ≤ 90)
    (HD : Hid (R D ∧ D ≠ C ∧ D ≠ B ∧ w0.heap.size ≤ D)) (HF : Hid (∀ j y, (opC o)[j]? = some y → w.cell? ⟨D, j, none⟩ = some y)) (hwf : (Lit.int .i64 t).wf = true) (ht : t ≤ 0) (Q : Exit → Act → World → Prop) (a : Act)
    (ha : Has 246 [0, 3, 4, 5, 6, 7, 8, 9, 10, 11, 12, 13, 88] [v0, .pointer (some ⟨s, 0, none⟩), v4, .pointer (some ⟨C, 0, none⟩), .pointer (some ⟨B, 0, none⟩), v7, .pointer (some ⟨D, 0, none⟩), .int .i64 t, .int .i64 x, .bool inn, .bool false, .int .u64 vv, .int .i64 2] a) (hK : ∀ a' w' n' v' u' r', Has 246 [0, 3, 4, 5, 6, 7] [v0, .pointer (some ⟨s, 0, none⟩), v4, .pointer (some ⟨C, 0, none⟩), .pointer (some ⟨B, 0, none⟩), v7] a' → n' ≤ n + 1 → Play R w0 w' s C B n' v' u' r' → Agrees v' u' → Q .normal a' w') : actP.wp Try.prog Q a w := by
  obtain ⟨u0, rfl⟩ := topen_0_3_4_5_6_7_8_9_10_11_12_13_88 ha
  clear ha
  have HK := Lib.hid hK
  clear hK
  conv => arg 2; whnf
  have HG := Lib.hid (clear_any R w s n v t hwf HP.out.slots)
  have HA1 := Lib.hid (show Agrees (clearV v t) u from by
    by_cases c : t = 0
    · rw [c]; exact HA.out.clear_zero HP.out.slots
    · exact HA.out.clear_no (by omega))
  go_wp2_with fail
  refine HG.out.mono ?_
  rintro e w1 ⟨rfl, h1, k1⟩
  have HP1 := Lib.hid (HP.out.turned h1 k1)
  clear h1 k1
  go_wp2_with fail
  refine HK.out _ _ _ _ _ _ ⟨rfl, rfl, rfl⟩ (by omega) HP1.out HA1.out
set_option maxHeartbeats 8000000 in
theorem act_free_no (R : Nat → Prop) (w0 w : World) (s C B n D : Nat) (v : Int → Nat → Int) (u r : Nat → Int) (o : OpV) (v0 v4 v7 : Value) (t x vv : Int) (inn ow : Bool) (HP : Hid (Play R w0 w s C B n v u r)) (HA : Hid (Agrees v u)) (hn : n ≤ 90)
    (HD : Hid (R D ∧ D ≠ C ∧ D ≠ B ∧ w0.heap.size ≤ D)) (HF : Hid (∀ j y, (opC o)[j]? = some y → w.cell? ⟨D, j, none⟩ = some y)) (hno : ¬ (0 ≤ x ∧ x < 32)) (Q : Exit → Act → World → Prop) (a : Act)
    (ha : Has 246 [0, 3, 4, 5, 6, 7, 8, 9, 10, 11, 12, 13, 88] [v0, .pointer (some ⟨s, 0, none⟩), v4, .pointer (some ⟨C, 0, none⟩), .pointer (some ⟨B, 0, none⟩), v7, .pointer (some ⟨D, 0, none⟩), .int .i64 t, .int .i64 x, .bool inn, .bool ow, .int .u64 vv, .int .i64 3] a) (hK : ∀ a' w' n' v' u' r', Has 246 [0, 3, 4, 5, 6, 7] [v0, .pointer (some ⟨s, 0, none⟩), v4, .pointer (some ⟨C, 0, none⟩), .pointer (some ⟨B, 0, none⟩), v7] a' → n' ≤ n + 1 → Play R w0 w' s C B n' v' u' r' → Agrees v' u' → Q .normal a' w') : actP.wp Try.prog Q a w := by
  obtain ⟨u0, rfl⟩ := topen_0_3_4_5_6_7_8_9_10_11_12_13_88 ha
  clear ha
  have HK := Lib.hid hK
  clear hK
  conv => arg 2; whnf
  have HG := Lib.hid (free_no w s x hno)
  go_wp2_with fail
  refine HG.out.mono ?_
  rintro e w1 ⟨rfl, hw1⟩
  subst hw1
  go_wp2_with fail
  refine wp_loopS 246 [0, 3, 4, 5, 6, 7, 10, 14] (fun n' sl' wx => n' = 0 ∧ wx = w) 0 ⟨rfl, rfl, rfl⟩ ⟨rfl, rfl⟩ ?_
  intro gk a' wr hS hR J1 K1 hJ1 hK1
  obtain ⟨u3, hu, rfl⟩ := lopen_0_3_4_5_6_7_10_14 hS _ _ _ _ _ _ _ _ rfl
  clear hu hS
  obtain ⟨rfl, rfl⟩ := hR
  by_cases c : 0 ≤ x
  · have c2 : 32 ≤ x := by omega
    clear hno
    go_wp2_with fail
    refine HK.out _ _ _ _ _ _ ⟨rfl, rfl, rfl⟩ (by omega) HP.out HA.out
  · clear hno
    go_wp2_with fail
    refine HK.out _ _ _ _ _ _ ⟨rfl, rfl, rfl⟩ (by omega) HP.out HA.out
end Go.Proofs.Ytijggmioknneoaa
