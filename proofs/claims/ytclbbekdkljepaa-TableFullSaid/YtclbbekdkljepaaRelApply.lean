/- package rel: add, Apply, Sites. -/
import Derived.Test.YtclbbekdkljepaaRelParse
import Derived.Test.YtclbbekdkljepaaShelf
namespace Go.Proofs.Ytclbbekdkljepaa
open Go.ChangeShapes Go.WideShapes Go.ChangeAt Go.RowKit
set_option linter.unusedVariables false

/-- The bytes f, n of them, with d added at the site x. -/
def addI (n : Nat) (d : Int) (f : Nat → Int) (x : Site) : Nat → Int :=
  if relLen x.1 ≠ 0 ∧ 0 ≤ x.2 ∧ x.2 + relLen x.1 ≤ n then putI f x.2.toNat ((rdF f x.2.toNat (relLen x.1).toNat + d) % 18446744073709551616) (relLen x.1).toNat else f

theorem addI255 {n : Nat} {d : Int} {f : Nat → Int} (hf : Bytes255 f) (x : Site) : Bytes255 (addI n d f x) := by
  unfold addI
  split
  · exact putI255 hf _ _ _
  · exact hf

theorem relLen_cases (k : Int) : (k = 3 ∧ relLen k = 4) ∨ (k = 10 ∧ relLen k = 8) ∨ relLen k = 0 := by
  unfold relLen
  split
  · exact .inl ⟨by assumption, rfl⟩
  · split
    · exact .inr (.inl ⟨by assumption, rfl⟩)
    · exact .inr (.inr rfl)

end Go.Proofs.Ytclbbekdkljepaa
