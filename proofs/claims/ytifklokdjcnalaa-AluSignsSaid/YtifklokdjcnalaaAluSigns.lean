/- AluSigns. -/
import Derived.Test.YtifklokdjcnalaaAluCond
namespace Go.Proofs.Ytifklokdjcnalaa
open Go.ChangeShapes Go.WideShapes Go.ChangeAt Go.RowKit
set_option linter.unusedVariables false

set_option maxHeartbeats 4000000 in
theorem signs_core (a b v u : Int) (c1 x y p q o1 o2 : Bool) (w : World)
    (D1 : ∀ w, Calls Try.prog 9 #[.int .i64 0, .int .u64 a, .int .u64 b, .agg #[.bool false, .bool false, .bool false, .bool false]] w fun e w' => e = .returned (.tuple #[.int .u64 v, .agg #[.bool (v == 0), .bool p, .bool c1, .bool o1]]) ∧ Below w.heap.size w w')
    (D2 : ∀ w, Calls Try.prog 9 #[.int .i64 1, .int .u64 a, .int .u64 b, .agg #[.bool false, .bool false, .bool false, .bool false]] w fun e w' => e = .returned (.tuple #[.int .u64 u, .agg #[.bool (a == b), .bool q, .bool (decide (a < b)), .bool o2]]) ∧ Below w.heap.size w w')
    (A : decide (wrap64 a < 0) = x) (B : decide (wrap64 b < 0) = y) (V : decide (wrap64 v < 0) = p) (U : decide (wrap64 u < 0) = q)
    (h1 : o1 = ((x != p) && (y != p))) (h2 : o2 = ((x != y) && (x != q))) :
    Calls Try.prog 5 #[.int .u64 a, .int .u64 b] w fun e w' => e = .returned (.bool true) ∧ Below w.heap.size w w' := by
  go_enter Try.func5, Try.ntmps5
  have HA := Lib.hid A
  have HB := Lib.hid B
  have HV := Lib.hid V
  have HU := Lib.hid U
  have H1 := Lib.hid h1
  have H2 := Lib.hid h2
  clear A B V U h1 h2
  go_wp2_with fail
  refine (D1 _).mono ?_
  rintro e w1 ⟨rfl, hb1⟩
  go_wp2_with fail
  have K := Blk.new w1 (v == 0) p c1 o1 24
  have hb2 := hb1.alloc hb1.size (Obj.cells #[.bool (v == 0), .bool p, .bool c1, .bool o1] 24)
  have hs : (w1.alloc (Obj.cells #[.bool (v == 0), .bool p, .bool c1, .bool o1] 24)).heap.size = w1.heap.size + 1 := by simp
  have hs1 := hb1.size
  clear hb1
  generalize w1.alloc (Obj.cells #[.bool (v == 0), .bool p, .bool c1, .bool o1] 24) = W at *
  refine (D2 _).mono ?_
  rintro e w2 ⟨rfl, hb3⟩
  have hs2 := hb3.size
  have K2 := fun X => (K.below hb3 (by omega)).ahead (by omega) X
  have hb4 : Below w.heap.size w w2 := hb2.trans (hb3.mono (by omega))
  clear K hb3 hb2 D1 D2
  have C0 := fun X => (K2 X).c0
  have C1 := fun X => (K2 X).c1
  have C3 := fun X => (K2 X).c3
  clear K2 hs hs1 hs2
  have A := HA.out
  have B := HB.out
  have V := HV.out
  have U := HU.out
  have h1 := H1.out
  have h2 := H2.out
  clear HA HB HV HU H1 H2
  cases x <;> cases y <;> cases p <;> cases q <;> simp only [bne_self_eq_false, Bool.and_self, Bool.true_bne, Bool.false_bne, Bool.not_true, Bool.not_false, Bool.and_true, Bool.and_false, Bool.true_and, Bool.false_and] at h1 h2 <;> subst h1 <;> subst h2
  all_goals
    go_wp2_with fail
    refine (awake_any _).mono ?_
    rintro e w3 ⟨rfl, hb5⟩
    have hb6 := hb4.trans ((((Below.refl w2.heap.size w2).alloc (Nat.le_refl _) _).trans (hb5.mono (by simp))).mono hb4.size)
    clear hb4 hb5
    go_wp2
    go_ret
    exact ⟨rfl, by go_grown⟩

theorem signs_law (a b : Int) (w : World) (ha : Word a) (hb : Word b) : Calls Try.prog 5 #[.int .u64 a, .int .u64 b] w fun e w' => e = .returned (.bool true) ∧ Below w.heap.size w w' := by
  obtain ⟨v, hvd⟩ : ∃ v, (a + b) % 18446744073709551616 = v := ⟨_, rfl⟩
  obtain ⟨u, hud⟩ : ∃ u, IntKind.u64.wrap (a - b) = u := ⟨_, rfl⟩
  have hv : Word v := by rw [← hvd]; exact ⟨by omega, by omega⟩
  have hu : Word u := by rw [← hud]; exact word_wrap _
  have F2 : subF a b u = .agg #[.bool (u == 0), .bool (hiB u), .bool (decide (a < b)), .bool ((hiB a != hiB b) && (hiB a != hiB u))] := rfl
  have z2 : (u == 0) = (a == b) := by rw [← hud]; exact subZ a b ha hb
  rw [z2] at F2
  exact signs_core a b v u _ _ _ _ _ _ _ w (fun w => do_add a b v false false false false _ _ _ _ w ha hb hv hvd rfl) (fun w => do_sub a b u false false false false _ _ _ _ w ha hb hu hud F2) (wrap64_neg a ha) (wrap64_neg b hb) (wrap64_neg v hv) (wrap64_neg u hu) rfl rfl
end Go.Proofs.Ytifklokdjcnalaa
