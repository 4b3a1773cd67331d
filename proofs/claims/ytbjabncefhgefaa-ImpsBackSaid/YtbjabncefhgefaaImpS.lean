/- law 8: what the document fixes, as it is told. -/
import Derived.Test.YtbjabncefhgefaaMgC
namespace Go.Proofs.Ytbjabncefhgefaa
open Go.ChangeShapes Go.WideShapes Go.ChangeAt Go.RowKit
set_option linter.unusedVariables false
set_option linter.unusedSimpArgs false

/-- What is told of several things, one by one. -/
theorem impV_map {vs : List ImpV} {ts : List (List Nat × Nat × Nat × Nat × List SymV)} (h : (vs.map fun v => (v.dll, v.iat, v.stamp, v.handle, v.syms)) = ts) : vs = ts.map fun t => ⟨t.1, t.2.1, t.2.2.1, t.2.2.2.1, t.2.2.2.2⟩ := by
  subst h
  rw [List.map_map]
  have : ((fun t : List Nat × Nat × Nat × Nat × List SymV => (⟨t.1, t.2.1, t.2.2.1, t.2.2.2.1, t.2.2.2.2⟩ : ImpV)) ∘ fun v : ImpV => (v.dll, v.iat, v.stamp, v.handle, v.syms)) = id := by
    funext v; rfl
  rw [this, List.map_id]
theorem impV_some {o : Option (List ImpV)} {ts : List (List Nat × Nat × Nat × Nat × List SymV)} (h : (o.map fun l => l.map fun v => (v.dll, v.iat, v.stamp, v.handle, v.syms)) = some ts) : o = some (ts.map fun t => ⟨t.1, t.2.1, t.2.2.1, t.2.2.2.1, t.2.2.2.2⟩) := by
  rcases o with _ | vs
  · cases h
  · rw [Option.map_some] at h
    exact congrArg some (impV_map (Option.some.inj h))
theorem img8_is : parseI img8 64 20 importD = some [imp8] := impV_some img8_parse
theorem img8_late (b : List Nat) : parseI b 0 32 delayD = some [] := if_pos rfl
theorem nil8_is : parseI [] 1 20 importD = none := Option.isNone_iff_eq_none.mp nil8_parse
def rdD (delay : Bool) : List Nat → Nat → Ds := if delay = true then delayD else importD
end Go.Proofs.Ytbjabncefhgefaa
