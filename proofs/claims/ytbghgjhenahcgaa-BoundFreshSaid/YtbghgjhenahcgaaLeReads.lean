/- The walk of the law LeReads. -/
import Derived.Test.YtbghgjhenahcgaaRef1
namespace Go.Proofs.Ytbghgjhenahcgaa
open Go.ChangeShapes Go.WideShapes Go.ChangeAt Go.RowKit
set_option linter.unusedVariables false

/-- A slice of bytes and the text of it. -/
structure Two (w : World) (A : Option Addr) (len cap : Nat) (f : Nat → Int) (S : ByteArray) : Prop where
  le : len ≤ cap
  max : cap ≤ 9223372036854775807
  byte : Bytes255 f
  sl : SlB w A len f
  size : S.size = len
  same : ∀ i, i < len → PlainAid.bt S i = f i

end Go.Proofs.Ytbghgjhenahcgaa
