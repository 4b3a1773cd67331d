/- Instructions' heads, all of them. -/
import Derived.Test.YthbgmlmcjnlopaaMgL
namespace Go.Proofs.Ythbgmlmcjnlopaa
set_option linter.unusedVariables false
set_option linter.unusedSimpArgs false

/-- The head of an instruction: what stands ahead of its number. -/
def headB (F : Form) (a b : Nat) : List Nat := preBytes (preF F.pre) a b ++ codeBytes F ⟨0, a, b, 0, 0, 0, 0⟩
theorem encM_head (F : Form) (x : InsV) : encM F x = headB F x.a x.b ++ leBytes (tailVal F x) (tailLen F.tail) := rfl

def regsOf (named : Bool) : List Nat := if named then List.range 16 else [0]
def baseOk (F : Form) (b : Nat) : Bool := !(F.regs == 4 && (b &&& 7) == 4)
/-- All that is asked of heads. -/
def headsOk : Bool := forms.all fun F => (regsOf (hasA F.regs)).all fun a => (regsOf (hasB F.regs)).all fun b =>
  !baseOk F b || (headRead F (headB F a b) == ⟨(headB F a b).length, 2, a, b⟩ && forms.all fun G => G == F || (headRead G (headB F a b)).fit == 0)
theorem heads_ok : headsOk = true := by decide +kernel

end Go.Proofs.Ythbgmlmcjnlopaa
