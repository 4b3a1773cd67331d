/- package dec: which instructions a form can tell. -/
import Derived.Test.YthbgmlmcjnlopaaDecF
import Derived.Deep.RegionWith
namespace Go.Proofs.Ythbgmlmcjnlopaa
open Go.ChangeShapes Go.WideShapes Go.ChangeAt Go.RowKit
set_option linter.unusedVariables false
set_option linter.unusedSimpArgs false

def regOkM (r : Nat) (named : Bool) : Bool := r == 0 || (named && decide (r ≤ 15))
def immOk (t imm : Nat) : Bool :=
  match t with
  | 1 => true
  | 2 => decide (imm ≤ 4294967295)
  | 3 => decide (imm ≤ 255)
  | 4 => imm == sgn8 (imm % 256)
  | _ => imm == 0
def dispOk (t : Nat) (d : Int) : Bool :=
  match t with
  | 5 => decide (d ≥ -2147483648) && decide (d ≤ 2147483647)
  | 6 => decide (d ≥ -128) && decide (d ≤ 127)
  | _ => d == 0
def fitsM (F : Form) (x : InsV) : Bool :=
  regOkM x.a (hasA F.regs) && regOkM x.b (hasB F.regs) && !(F.regs == 4 && (x.b &&& 7) == 4) && (immOk F.tail x.imm && dispOk F.tail x.disp)

/-- What an instruction's numbers are, at most. -/
structure InsV.Ok (x : InsV) : Prop where
  op : x.op < 9223372036854775808
  a : x.a ≤ 15
  b : x.b ≤ 15
  alu : x.alu < 9223372036854775808
  cc : x.cc < 9223372036854775808
  imm : x.imm < 18446744073709551616
  d0 : -9223372036854775808 ≤ x.disp
  d1 : x.disp < 9223372036854775808

end Go.Proofs.Ythbgmlmcjnlopaa
