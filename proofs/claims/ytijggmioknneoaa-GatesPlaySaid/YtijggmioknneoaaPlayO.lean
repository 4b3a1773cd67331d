/- law 23: GatesPlay: any act; a round. -/
import Derived.Test.YtijggmioknneoaaPlayN
namespace Go.Proofs.Ytijggmioknneoaa
open Go.ChangeShapes Go.WideShapes Go.ChangeAt Go.RowKit
set_option linter.unusedVariables false
set_option linter.unusedSimpArgs false
set_option maxRecDepth 100000

theorem act_any (R : Nat → Prop) (w0 w : World) (s C B n D : Nat) (v : Int → Nat → Int) (u r : Nat → Int) (o : OpV) (v0 v4 v7 : Value) (t x : Int) (inn ow : Bool) (HP : Hid (Play R w0 w s C B n v u r)) (HA : Hid (Agrees v u)) (hn : n ≤ 90)
    (HD : Hid (R D ∧ D ≠ C ∧ D ≠ B ∧ w0.heap.size ≤ D)) (HF : Hid (∀ j y, (opC o)[j]? = some y → w.cell? ⟨D, j, none⟩ = some y)) (HI : Hid (inn = decide (0 < t ∧ 0 ≤ x ∧ x < 32))) (HO : Hid (ow = decide (0 < t ∧ t < 4)))
    (ht0 : -9223372036854775808 ≤ t) (ht : t ≤ 3) (hx0 : -9223372036854775808 ≤ x) (hx1 : x ≤ 9223372036854775807) (Q : Exit → Act → World → Prop) (a : Act)
    (ha : Has 246 [0, 3, 4, 5, 6, 7, 8, 9, 10, 11, 12, 13, 88] [v0, .pointer (some ⟨s, 0, none⟩), v4, .pointer (some ⟨C, 0, none⟩), .pointer (some ⟨B, 0, none⟩), v7, .pointer (some ⟨D, 0, none⟩), .int .i64 t, .int .i64 x, .bool inn, .bool ow, .int .u64 (getV v t x), .int .i64 o.kind] a) (hK : ∀ a' w' n' v' u' r', Has 246 [0, 3, 4, 5, 6, 7] [v0, .pointer (some ⟨s, 0, none⟩), v4, .pointer (some ⟨C, 0, none⟩), .pointer (some ⟨B, 0, none⟩), v7] a' → n' ≤ n + 1 → Play R w0 w' s C B n' v' u' r' → Agrees v' u' → Q .normal a' w') : actP.wp Try.prog Q a w := by
  obtain ⟨kd, th, ix, gt, ov⟩ := o
  have hwf := wf_i64' ht0 (show t ≤ 9223372036854775807 by omega)
  by_cases k0 : kd = 0
  · subst k0
    by_cases c : 0 < t ∧ 0 ≤ x ∧ x < 32
    · obtain ⟨k, rfl⟩ : ∃ k : Nat, t = k := ⟨t.toNat, by omega⟩
      obtain ⟨i, rfl⟩ : ∃ i : Nat, x = i := ⟨x.toNat, by omega⟩
      rw [HI.out, HO.out, show decide (0 < (k : Int) ∧ 0 ≤ (i : Int) ∧ (i : Int) < 32) = true from decide_eq_true c, show decide (0 < (k : Int) ∧ (k : Int) < 4) = true from decide_eq_true (by omega)] at ha
      exact act_set_yes R w0 w s C B n D v u r _ v0 v4 v7 k i _ HP HA hn HD HF (by omega) (by omega) (by omega) Q a ha hK
    · rw [HI.out, show decide (0 < t ∧ 0 ≤ x ∧ x < 32) = false from decide_eq_false c] at ha
      exact act_set_no R w0 w s C B n D v u r _ v0 v4 v7 t x _ _ HP HA hn HD HF c Q a ha hK
  by_cases k1 : kd = 1
  · subst k1
    exact act_get R w0 w s C B n D v u r _ v0 v4 v7 t x _ _ HP HA hn HD HF hwf Q a ha hK
  by_cases k2 : kd = 2
  · subst k2
    by_cases c : 0 < t
    · obtain ⟨k, rfl⟩ : ∃ k : Nat, t = k := ⟨t.toNat, by omega⟩
      rw [HO.out, show decide (0 < (k : Int) ∧ (k : Int) < 4) = true from decide_eq_true (by omega)] at ha
      exact act_clear_yes R w0 w s C B n D v u r _ v0 v4 v7 k x _ _ HP HA hn HD HF (by omega) (by omega) Q a ha hK
    · rw [HO.out, show decide (0 < t ∧ t < 4) = false from decide_eq_false (by omega)] at ha
      exact act_clear_no R w0 w s C B n D v u r _ v0 v4 v7 t x _ _ HP HA hn HD HF hwf (by omega) Q a ha hK
  by_cases k3 : kd = 3
  · subst k3
    by_cases c : 0 ≤ x ∧ x < 32
    · obtain ⟨i, rfl⟩ : ∃ i : Nat, x = i := ⟨x.toNat, by omega⟩
      exact act_free_yes R w0 w s C B n D v u r _ v0 v4 v7 i t _ _ _ HP HA hn HD HF (by omega) Q a ha hK
    · exact act_free_no R w0 w s C B n D v u r _ v0 v4 v7 t x _ _ _ HP HA hn HD HF c Q a ha hK
  exact act_gate R w0 w s C B n D v u r _ v0 v4 v7 t x _ _ HP HA hn HD HF HI HO ⟨k0, k1, k2, k3⟩ ht0 ht hx0 hx1 Q a ha hK
theorem shapeR : bodyR = (headS bodyR).seq ((headS (dropS 1 bodyR)).seq ((headS (dropS 2 bodyR)).seq ((headS (dropS 3 bodyR)).seq ((headS (dropS 4 bodyR)).seq ((headS (dropS 5 bodyR)).seq ((headS (dropS 6 bodyR)).seq ((headS (dropS 7 bodyR)).seq ((headS (dropS 8 bodyR)).seq (((headS (headS (dropS 9 bodyR))).seq (.block 2 actP)).seq tailP))))))))) := by kernel_rfl
end Go.Proofs.Ytijggmioknneoaa
