/- law 3: VmemRights, whole. -/
import Derived.Test.YtlifaldbdjcgjaaVmemRights
import Derived.Test.YtlifaldbdjcgjaaVmemRightsZ
import Derived.Test.YtlifaldbdjcgjaaVspansS
namespace Go.Proofs.Ytlifaldbdjcgjaa
open Go.ChangeShapes Go.WideShapes Go.ChangeAt Go.RowKit
set_option linter.unusedVariables false

theorem rights_walk (w : World) (a' b' at' : Int) (A : Option Addr) (n cap : Nat) (h : Nat → Int) (hl : n ≤ cap) (hc : cap ≤ 9223372036854775807) (hs : SlB w A n h) :
    Calls Try.prog 8 #[.int .i64 a', .int .i64 b', .int .i64 at', .slice A n cap] w fun e w' => e = .returned (.bool true) ∧ Below w.heap.size w w' := by
  by_cases c : 1 ≤ n ∧ n ≤ 200
  · exact rights_core w a' b' at' A n cap h hl hc hs c.1 c.2
  · exact rights_small w a' b' at' A n cap (by omega)
end Go.Proofs.Ytlifaldbdjcgjaa
