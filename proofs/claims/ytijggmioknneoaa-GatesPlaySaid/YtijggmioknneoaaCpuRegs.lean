/- package cpu: New, Reg, Set. -/
import Derived.Test.YtijggmioknneoaaSlots2
namespace Go.Proofs.Ytijggmioknneoaa
open Go.ChangeShapes Go.WideShapes Go.ChangeAt Go.RowKit
set_option linter.unusedVariables false
set_option linter.unusedSimpArgs false

/-- A machine at C has the registers r. -/
def CpuAt (w : World) (C : Nat) (r : Nat → Int) : Prop := C < w.heap.size ∧ ∀ i, i < 16 → w.cell? ⟨C, 1 + i, none⟩ = some (.int .u64 (r i)) ∧ w.frozen? ⟨C, 1 + i, none⟩ = false

theorem CpuAt.of_block {w w' : World} {C : Nat} {r : Nat → Int} (h : CpuAt w C r) (e : w'.heap[C]? = w.heap[C]?) (hs : w.heap.size ≤ w'.heap.size) : CpuAt w' C r :=
  ⟨Nat.lt_of_lt_of_le h.1 hs, fun i hi => ⟨(World.cell?_of_block (a := ⟨C, 1 + i, none⟩) e).trans (h.2 i hi).1, (World.frozen?_of_block (a := ⟨C, 1 + i, none⟩) e).trans (h.2 i hi).2⟩⟩

theorem CpuAt.set {w : World} {C : Nat} {r : Nat → Int} (h : CpuAt w C r) {i : Nat} (hi : i < 16) (x : Int) : CpuAt (w.setCell ⟨C, 1 + i, none⟩ (.int .u64 x)) C (fun j => if j = i then x else r j) := by
  refine ⟨by simpa [World.setCell] using h.1, fun j hj => ⟨?_, ?_⟩⟩
  · by_cases e : j = i
    · subst e
      show _ = some (Value.int .u64 (if j = j then x else r j))
      rw [if_pos rfl]
      exact World.cell?_setCell_same w _ _ (h.2 j hj).1
    · show _ = some (Value.int .u64 (if j = i then x else r j))
      rw [if_neg e]
      rw [World.cell?_setCell_other w _ _ _ (fun e' => e (by injection e' with _ e'; omega))]
      exact (h.2 j hj).1
  · rw [World.frozen?_setCell]; exact (h.2 j hj).2

theorem reg_any (w : World) (C i : Nat) (r : Nat → Int) (hi : i < 16) (h : CpuAt w C r) :
    Calls Try.prog 16 #[.pointer (some ⟨C, 0, none⟩), .int .i64 i] w fun e w' => e = .returned (.int .u64 (r i)) ∧ w' = w := by
  have hc := (h.2 i hi).1
  have e1 : decide ((i : Int) < 0) = false := decide_eq_false (by omega)
  have e2 : decide ((16 : Int) ≤ i) = false := decide_eq_false (by omega)
  go_enter Try.func16, Try.ntmps16
  go_wp2
  go_ret
  exact ⟨rfl, rfl⟩

theorem setReg_any (w : World) (C i : Nat) (r : Nat → Int) (x : Int) (hi : i < 16) (h : CpuAt w C r) :
    Calls Try.prog 13 #[.pointer (some ⟨C, 0, none⟩), .int .i64 i, .int .u64 x] w fun e w' => e = .returned (.tuple #[]) ∧ w' = w.setCell ⟨C, 1 + i, none⟩ (.int .u64 x) := by
  have hc := (h.2 i hi).1
  have hz := (h.2 i hi).2
  have e1 : decide ((0 : Int) ≤ i) = true := decide_eq_true (by omega)
  have e2 : decide ((i : Int) < 16) = true := decide_eq_true (by omega)
  go_enter Try.func13, Try.ntmps13
  go_wp2
  go_end0
  exact ⟨rfl, rfl⟩

theorem newCpu_any (w : World) (m : Value) (hm : ∃ a, m = .pointer a) :
    Calls Try.prog 7 #[m] w fun e w' => e = .returned (.pointer (some ⟨w.heap.size, 0, none⟩)) ∧ Below w.heap.size w w' ∧ CpuAt w' w.heap.size (fun _ => 0) := by
  obtain ⟨a, rfl⟩ := hm
  go_enter Try.func7, Try.ntmps7
  go_wp2
  go_ret
  refine ⟨rfl, by go_grown, by simp, fun i hi => ?_⟩
  rcases (by omega : i = 0 ∨ i = 1 ∨ i = 2 ∨ i = 3 ∨ i = 4 ∨ i = 5 ∨ i = 6 ∨ i = 7 ∨ i = 8 ∨ i = 9 ∨ i = 10 ∨ i = 11 ∨ i = 12 ∨ i = 13 ∨ i = 14 ∨ i = 15) with rfl | rfl | rfl | rfl | rfl | rfl | rfl | rfl | rfl | rfl | rfl | rfl | rfl | rfl | rfl | rfl <;> exact ⟨by simp [go_sem], by simp [go_sem]⟩

theorem index_any (x : Int) (h0 : 0 ≤ x) (h1 : x < 18446744073709551616) (w : World) :
    Calls Try.prog 19 #[.int .u64 x] w fun e w' => e = .returned (.int .i64 (min x 32)) ∧ w' = w := by
  go_enter Try.func19, Try.ntmps19
  go_wp2
  all_goals go_ret
  all_goals exact ⟨ret_int (by omega), rfl⟩
end Go.Proofs.Ytijggmioknneoaa
