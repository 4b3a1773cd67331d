/- law 23: GatesPlay: thread; a memory. -/
import Derived.Test.YtijggmioknneoaaPlayA
namespace Go.Proofs.Ytijggmioknneoaa
open Go.ChangeShapes Go.WideShapes Go.ChangeAt Go.RowKit
set_option linter.unusedVariables false
set_option linter.unusedSimpArgs false

theorem and_15 (n : Int) : bits .and .i64 n 15 = n % 16 := i64_mask n 4 (by omega)
theorem and_3 (n : Int) : bits .and .i64 n 3 = n % 4 := i64_mask n 2 (by omega)

/-- One of some threads, or raw. -/
def thr (n : Int) : Int := if n % 16 = 15 then n else n % 4

theorem thread_any (n : Int) (w : World) : Calls Try.prog 8 #[.int .i64 n] w fun e w' => e = .returned (.int .i64 (thr n)) ∧ w' = w := by
  have h1 := and_15 n
  have h2 := and_3 n
  by_cases c : n % 16 = 15
  · have e1 : (n % 16 == 15) = true := by simp [c]
    have et : thr n = n := if_pos c
    rw [et]
    clear c et
    go_enter Try.func8, Try.ntmps8
    go_wp2
    go_ret
    exact ⟨rfl, rfl⟩
  · have e1 : (n % 16 == 15) = false := by simp [c]
    have et : thr n = n % 4 := if_neg c
    rw [et]
    clear c et
    go_enter Try.func8, Try.ntmps8
    go_wp2
    go_ret
    exact ⟨rfl, rfl⟩

theorem newMemP_any (w : World) : Calls Try.prog 5 #[.int .i64 1] w fun e w' => ∃ M, e = .returned (.pointer (some ⟨M, 0, none⟩)) ∧ Below w.heap.size w w' := by
  have hmm := @run_makeMap Try.prog
  go_enter Try.func5, Try.ntmps5
  go_wp2
  go_ret
  exact ⟨_, rfl, by go_grown⟩

theorem own_zero128 (w : World) (T : TypeId) : Own (w.alloc (.cells (Array.replicate 128 (.int .u64 0)) T)) w.heap.size 128 (fun _ => .int .u64 0) := by
  refine ⟨by simp, fun i hi => ⟨?_, by simp [go_sem]⟩⟩
  have : (Array.replicate 128 (Value.int .u64 0))[i]? = some (.int .u64 0) := by simp [hi]
  simp [go_sem, this, hi]
end Go.Proofs.Ytijggmioknneoaa
