/- Pages (package vmem): a page's block. -/
import Derived.Test.YtlifaldbdjcgjaaKept
import Derived.BigRegion
import Derived.Deep.Cut
import Derived.ChangeAlike
import Derived.Deep.RegionHeld3
import Derived.Deep.DeepCutAuto
import Derived.Laws.Tables
namespace Go.Proofs.Ytlifaldbdjcgjaa
open Go.ChangeShapes Go.WideShapes Go.ChangeAt Go.RowKit
open Go.Maps (Keyed)
set_option linter.unusedVariables false
set_option linter.unusedSimpArgs false

theorem zero_page : (Try.zeroCells70.toList.drop 1).all (fun c => match c with | .int .u8 0 => true | _ => false) = true := by kernel_rfl

theorem noughts_at {cs : Array Value} {n : Nat} (e2 : cs.size = n) (e4 : (cs.toList.drop 1).all (fun c => match c with | .int .u8 0 => true | _ => false) = true) (i : Nat) (h0 : 0 < i) (h1 : i < n) : cs[i]? = some (.int .u8 0) := by
  have hi : i < cs.size := by omega
  have hm : cs.toList[i]'(by simpa using hi) ∈ cs.toList.drop 1 := by
    rw [List.mem_iff_getElem]
    refine ⟨i - 1, by simp; omega, ?_⟩
    rw [List.getElem_drop]
    congr 1
    omega
  have := List.all_eq_true.1 e4 _ hm
  rw [Array.getElem?_eq_getElem hi]
  simp only [Array.getElem_toList] at this
  revert this
  generalize cs[i] = c
  intro this
  split at this
  · rfl
  · cases this


theorem pageC_at (p : Int) (i : Nat) (hi : i < 4097) : (Try.zeroCells70.setIfInBounds 0 (.int .i64 p))[i]? = some (if i = 0 then .int .i64 p else .int .u8 0) := by
  have hs := Try.zeroCells70_size
  by_cases h : i = 0
  · subst h
    rw [Array.getElem?_setIfInBounds_self_of_lt (by omega), if_pos rfl]
  · rw [Array.getElem?_setIfInBounds_ne (by omega), if_neg h]
    exact noughts_at hs zero_page i (by omega) hi

theorem own_page (p : Int) (w : World) : Own (w.alloc (.cells (Try.zeroCells70.setIfInBounds 0 (.int .i64 p)) 70)) w.heap.size 4097 (fun j => if j = 0 then .int .i64 p else .int .u8 0) := by
  have hc := pageC_at p
  generalize Try.zeroCells70.setIfInBounds 0 (.int .i64 p) = cs at *
  refine ⟨by simp, fun i hi => ⟨?_, ?_⟩⟩
  · simp [go_sem, hc i hi]
  · simp [go_sem]
end Go.Proofs.Ytlifaldbdjcgjaa
