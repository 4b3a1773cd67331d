/- The contracts of package fold: which bytes, which names. -/
import Derived.Test.YtclbbekdkljepaaKeep
import Derived.Test.YtclbbekdkljepaaShelf
namespace Go.Proofs.Ytclbbekdkljepaa
open Go.ChangeShapes Go.WideShapes Go.ChangeAt Go.RowKit
set_option linter.unusedVariables false

/-- A byte of a name. -/
def nameB (c : Int) : Bool := decide ((97 ≤ c ∧ c ≤ 122) ∨ (65 ≤ c ∧ c ≤ 90) ∨ (48 ≤ c ∧ c ≤ 57) ∨ c = 46 ∨ c = 95 ∨ c = 45)

/-- A module's name: 2.1. -/
def OkName (S : ByteArray) : Prop := 1 ≤ S.size ∧ S.size ≤ 40 ∧ ∀ i, i < S.size → nameB (PlainAid.bt S i) = true
/-- A symbol's name. -/
def OkSym (S : ByteArray) : Prop := 1 ≤ S.size ∧ S.size ≤ 60 ∧ PlainAid.bt S 0 ≠ 35 ∧ ∀ i, i < S.size → 33 ≤ PlainAid.bt S i ∧ PlainAid.bt S i ≤ 126

end Go.Proofs.Ytclbbekdkljepaa
