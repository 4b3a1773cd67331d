/- package tlsdir: place, callbacks. -/
import Derived.Test.YtclbbekdkljepaaRelApp2
import Derived.Test.YtclbbekdkljepaaRow
import Derived.BigQuiet
namespace Go.Proofs.Ytclbbekdkljepaa
open Go.ChangeShapes Go.WideShapes Go.ChangeAt Go.RowKit
set_option linter.unusedVariables false

/-- How many elements a slice has. -/
def lenOf : Value → Nat
  | .slice _ k _ => k
  | _ => 0
def intC (x : Int) : List Value := [.int .i64 x]
theorem intC_len (x : Int) : (intC x).length = 1 := rfl
theorem intC_one (x : Int) : ∀ u ∈ intC x, u.oneCell' = true := by
  intro u hu
  simp [intC] at hu
  subst hu; rfl
theorem infoInt : (Try.prog.info? 3).map (fun i => (i.zero, i.size, i.bytes)) = some (some (.int .i64 0), 1, 8) := by kernel_rfl

/-- An image with a directory at 16, made for the base b: where the index is, and the calls. -/
structure TlsI (n : Nat) (f : Nat → Int) (b x : Int) (cs : List Int) : Prop where
  len : n = 72 + 8 * cs.length
  most : cs.length ≤ 8
  b0 : 0 < b
  b1 : b ≤ 1000000000000000
  x0 : 0 ≤ x
  x1 : x ≤ 64
  idx : rdF f 32 8 = b + x
  tab : rdF f 40 8 = b + 64
  call : ∀ i (h : i < cs.length), rdF f (64 + 8 * i) 8 = b + cs[i] ∧ 0 ≤ cs[i] ∧ cs[i] ≤ 64
  fin : rdF f (64 + 8 * cs.length) 8 = 0

end Go.Proofs.Ytclbbekdkljepaa
