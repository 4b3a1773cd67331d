/-
  No cell of these rows narrows 'for every input' (looked for: loops, veiled, ifaces, maps, wideKeys, modest, calm, conditions, laid).
  DERIVED. THE GIVEN ROWS OF THIS SEAT. 10 by the template 'for every input the law returns true; each argument reads behind the call as it read before'; 0 by the template 'total and deterministic' (their statements: YthbgmlmcjnlopaaTotals.lean).
  GIVEN WITH THE SEED: the statements are not yours to turn. If you find one false, say at which input.
  Laid BY PROGRAM, IN A SANDBOX (cutbox-rows.mjs): the forced cells as the released guide's own fill.sh prints them over the translation 439a1900e455d457… (all of the seat's roots in one cut). By AI agents, Wed Nov 11 2026. No macro, syntax, notation, axiom, sorry.
-/
import Derived.Test.YthbgmlmcjnlopaaChecked
import GoSem.Claim
import GoSem.ClaimJoined
import GoSem.ClaimMapViews
import Derived.JoinedTies
import Derived.KernelRfl
namespace Go.Proofs.Ythbgmlmcjnlopaa
/- THE CELL 'sum', in the pinned program and in every row, IS THE sha256 OF THE DUMP (.gsa) THAT YthbgmlmcjnlopaaProg.lean LOADS. Nothing in Lean hashes anything: it is a label: what it is worth is what the hold of that sum in a sandbox is worth. -/
noncomputable def Try.pinned : Pinned := { name := "ythbgmlmcjnlopaa", sum := "439a1900e455d45700c81d4e2d4b053d9d77c03d1bb5300f44d3a29b78ff1a5d", checked := Try.checked }
namespace Rows
def none {H : Type} : Left H := { results := [], args := [] }

/-- 'slipwaylaw16.CpuMoves': WHATEVER THE INPUT: true; the input reads as it did. -/
def cpuMovesSpec : ChangeSpec := { name := "cpuMoves", fn := fun _ => fun
  | [d1, d2, d3, d4] => { results := [.lit (.bool true)], args := [d1, d2, d3, d4] }
  | _ => none }
def cpuMovesRow : OpenClaim := { program := "ythbgmlmcjnlopaa", sum := "439a1900e455d45700c81d4e2d4b053d9d77c03d1bb5300f44d3a29b78ff1a5d", func := "slipway/slipwaylaw16.CpuMoves", spec := "cpuMoves", inPlace := ["math/bits.Add64"], apart := false }
def CpuMovesSaid : Prop := cpuMovesRow.holds Try.pinned (OpenSpec.ofChange cpuMovesSpec)

/-- ITS FALSE NEIGHBOUR: 'it returns false'. Refute it at one input. -/
def cpuMovesWrong : ChangeSpec := { name := "cpuMoves", fn := fun _ => fun
  | [d1, d2, d3, d4] => { results := [.lit (.bool false)], args := [d1, d2, d3, d4] }
  | _ => none }
def CpuMovesWrongFalsely : Prop := cpuMovesRow.holds Try.pinned (OpenSpec.ofChange cpuMovesWrong)

/-- 'slipwaylaw16.CpuJumps': WHATEVER THE INPUT: true; the input reads as it did. -/
def cpuJumpsSpec : ChangeSpec := { name := "cpuJumps", fn := fun _ => fun
  | [d1, d2, d3] => { results := [.lit (.bool true)], args := [d1, d2, d3] }
  | _ => none }
def cpuJumpsRow : OpenClaim := { program := "ythbgmlmcjnlopaa", sum := "439a1900e455d45700c81d4e2d4b053d9d77c03d1bb5300f44d3a29b78ff1a5d", func := "slipway/slipwaylaw16.CpuJumps", spec := "cpuJumps", inPlace := ["math/bits.Add64"], apart := false }
def CpuJumpsSaid : Prop := cpuJumpsRow.holds Try.pinned (OpenSpec.ofChange cpuJumpsSpec)

/-- ITS FALSE NEIGHBOUR: 'it returns false'. Refute it at one input. -/
def cpuJumpsWrong : ChangeSpec := { name := "cpuJumps", fn := fun _ => fun
  | [d1, d2, d3] => { results := [.lit (.bool false)], args := [d1, d2, d3] }
  | _ => none }
def CpuJumpsWrongFalsely : Prop := cpuJumpsRow.holds Try.pinned (OpenSpec.ofChange cpuJumpsWrong)

/-- 'slipwaylaw16.CpuRounds': WHATEVER THE INPUT: true; the input reads as it did. -/
def cpuRoundsSpec : ChangeSpec := { name := "cpuRounds", fn := fun _ => fun
  | [d] => { results := [.lit (.bool true)], args := [d] }
  | _ => none }
def cpuRoundsRow : OpenClaim := { program := "ythbgmlmcjnlopaa", sum := "439a1900e455d45700c81d4e2d4b053d9d77c03d1bb5300f44d3a29b78ff1a5d", func := "slipway/slipwaylaw16.CpuRounds", spec := "cpuRounds", inPlace := ["math/bits.Add64"], apart := false }
def CpuRoundsSaid : Prop := cpuRoundsRow.holds Try.pinned (OpenSpec.ofChange cpuRoundsSpec)

/-- ITS FALSE NEIGHBOUR: 'it returns false'. Refute it at one input. -/
def cpuRoundsWrong : ChangeSpec := { name := "cpuRounds", fn := fun _ => fun
  | [d] => { results := [.lit (.bool false)], args := [d] }
  | _ => none }
def CpuRoundsWrongFalsely : Prop := cpuRoundsRow.holds Try.pinned (OpenSpec.ofChange cpuRoundsWrong)

/-- 'slipwaylaw16.CpuKeeps': WHATEVER THE INPUT: true; the input reads as it did. -/
def cpuKeepsSpec : ChangeSpec := { name := "cpuKeeps", fn := fun _ => fun
  | [d1, d2] => { results := [.lit (.bool true)], args := [d1, d2] }
  | _ => none }
def cpuKeepsRow : OpenClaim := { program := "ythbgmlmcjnlopaa", sum := "439a1900e455d45700c81d4e2d4b053d9d77c03d1bb5300f44d3a29b78ff1a5d", func := "slipway/slipwaylaw16.CpuKeeps", spec := "cpuKeeps", inPlace := ["math/bits.Add64"], apart := false }
def CpuKeepsSaid : Prop := cpuKeepsRow.holds Try.pinned (OpenSpec.ofChange cpuKeepsSpec)

/-- ITS FALSE NEIGHBOUR: 'it returns false'. Refute it at one input. -/
def cpuKeepsWrong : ChangeSpec := { name := "cpuKeeps", fn := fun _ => fun
  | [d1, d2] => { results := [.lit (.bool false)], args := [d1, d2] }
  | _ => none }
def CpuKeepsWrongFalsely : Prop := cpuKeepsRow.holds Try.pinned (OpenSpec.ofChange cpuKeepsWrong)

/-- 'slipwaylaw16.CpuStack': WHATEVER THE INPUT: true; the input reads as it did. -/
def cpuStackSpec : ChangeSpec := { name := "cpuStack", fn := fun _ => fun
  | [d] => { results := [.lit (.bool true)], args := [d] }
  | _ => none }
def cpuStackRow : OpenClaim := { program := "ythbgmlmcjnlopaa", sum := "439a1900e455d45700c81d4e2d4b053d9d77c03d1bb5300f44d3a29b78ff1a5d", func := "slipway/slipwaylaw16.CpuStack", spec := "cpuStack", inPlace := ["math/bits.Add64"], apart := false }
def CpuStackSaid : Prop := cpuStackRow.holds Try.pinned (OpenSpec.ofChange cpuStackSpec)

/-- ITS FALSE NEIGHBOUR: 'it returns false'. Refute it at one input. -/
def cpuStackWrong : ChangeSpec := { name := "cpuStack", fn := fun _ => fun
  | [d] => { results := [.lit (.bool false)], args := [d] }
  | _ => none }
def CpuStackWrongFalsely : Prop := cpuStackRow.holds Try.pinned (OpenSpec.ofChange cpuStackWrong)

/-- 'slipwaylaw16.CpuGuards': WHATEVER THE INPUT: true; the input reads as it did. -/
def cpuGuardsSpec : ChangeSpec := { name := "cpuGuards", fn := fun _ => fun
  | [d1, d2] => { results := [.lit (.bool true)], args := [d1, d2] }
  | _ => none }
def cpuGuardsRow : OpenClaim := { program := "ythbgmlmcjnlopaa", sum := "439a1900e455d45700c81d4e2d4b053d9d77c03d1bb5300f44d3a29b78ff1a5d", func := "slipway/slipwaylaw16.CpuGuards", spec := "cpuGuards", inPlace := ["math/bits.Add64"], apart := false }
def CpuGuardsSaid : Prop := cpuGuardsRow.holds Try.pinned (OpenSpec.ofChange cpuGuardsSpec)

/-- ITS FALSE NEIGHBOUR: 'it returns false'. Refute it at one input. -/
def cpuGuardsWrong : ChangeSpec := { name := "cpuGuards", fn := fun _ => fun
  | [d1, d2] => { results := [.lit (.bool false)], args := [d1, d2] }
  | _ => none }
def CpuGuardsWrongFalsely : Prop := cpuGuardsRow.holds Try.pinned (OpenSpec.ofChange cpuGuardsWrong)

/-- 'slipwaylaw17.RunArgs': WHATEVER THE INPUT: true; the input reads as it did. -/
def runArgsSpec : ChangeSpec := { name := "runArgs", fn := fun _ => fun
  | [d1, d2] => { results := [.lit (.bool true)], args := [d1, d2] }
  | _ => none }
def runArgsRow : OpenClaim := { program := "ythbgmlmcjnlopaa", sum := "439a1900e455d45700c81d4e2d4b053d9d77c03d1bb5300f44d3a29b78ff1a5d", func := "slipway/slipwaylaw17.RunArgs", spec := "runArgs", inPlace := ["sync/atomic.StoreInt64", "sync/atomic.AddInt64", "math/bits.Add64", "sync/atomic.LoadInt64"], unfollowed := true, recurses := true, apart := false }
def RunArgsSaid : Prop := runArgsRow.holds Try.pinned (OpenSpec.ofChange runArgsSpec)

/-- ITS FALSE NEIGHBOUR: 'it returns false'. Refute it at one input. -/
def runArgsWrong : ChangeSpec := { name := "runArgs", fn := fun _ => fun
  | [d1, d2] => { results := [.lit (.bool false)], args := [d1, d2] }
  | _ => none }
def RunArgsWrongFalsely : Prop := runArgsRow.holds Try.pinned (OpenSpec.ofChange runArgsWrong)

/-- 'slipwaylaw17.RunFuels': WHATEVER THE INPUT: true; the input reads as it did. -/
def runFuelsSpec : ChangeSpec := { name := "runFuels", fn := fun _ => fun
  | [d] => { results := [.lit (.bool true)], args := [d] }
  | _ => none }
def runFuelsRow : OpenClaim := { program := "ythbgmlmcjnlopaa", sum := "439a1900e455d45700c81d4e2d4b053d9d77c03d1bb5300f44d3a29b78ff1a5d", func := "slipway/slipwaylaw17.RunFuels", spec := "runFuels", inPlace := ["sync/atomic.StoreInt64", "sync/atomic.LoadInt64", "sync/atomic.AddInt64", "math/bits.Add64"], unfollowed := true, recurses := true, apart := false }
def RunFuelsSaid : Prop := runFuelsRow.holds Try.pinned (OpenSpec.ofChange runFuelsSpec)

/-- ITS FALSE NEIGHBOUR: 'it returns false'. Refute it at one input. -/
def runFuelsWrong : ChangeSpec := { name := "runFuels", fn := fun _ => fun
  | [d] => { results := [.lit (.bool false)], args := [d] }
  | _ => none }
def RunFuelsWrongFalsely : Prop := runFuelsRow.holds Try.pinned (OpenSpec.ofChange runFuelsWrong)

/-- 'slipwaylaw17.RunEnds': WHATEVER THE INPUT: true; the input reads as it did. -/
def runEndsSpec : ChangeSpec := { name := "runEnds", fn := fun _ => fun
  | [d] => { results := [.lit (.bool true)], args := [d] }
  | _ => none }
def runEndsRow : OpenClaim := { program := "ythbgmlmcjnlopaa", sum := "439a1900e455d45700c81d4e2d4b053d9d77c03d1bb5300f44d3a29b78ff1a5d", func := "slipway/slipwaylaw17.RunEnds", spec := "runEnds", inPlace := ["sync/atomic.StoreInt64", "sync/atomic.AddInt64", "math/bits.Add64", "sync/atomic.LoadInt64"], unfollowed := true, recurses := true, apart := false }
def RunEndsSaid : Prop := runEndsRow.holds Try.pinned (OpenSpec.ofChange runEndsSpec)

/-- ITS FALSE NEIGHBOUR: 'it returns false'. Refute it at one input. -/
def runEndsWrong : ChangeSpec := { name := "runEnds", fn := fun _ => fun
  | [d] => { results := [.lit (.bool false)], args := [d] }
  | _ => none }
def RunEndsWrongFalsely : Prop := runEndsRow.holds Try.pinned (OpenSpec.ofChange runEndsWrong)

/-- 'slipwaylaw17.RunNested': WHATEVER THE INPUT: true; the input reads as it did. -/
def runNestedSpec : ChangeSpec := { name := "runNested", fn := fun _ => fun
  | [d] => { results := [.lit (.bool true)], args := [d] }
  | _ => none }
def runNestedRow : OpenClaim := { program := "ythbgmlmcjnlopaa", sum := "439a1900e455d45700c81d4e2d4b053d9d77c03d1bb5300f44d3a29b78ff1a5d", func := "slipway/slipwaylaw17.RunNested", spec := "runNested", inPlace := ["sync/atomic.StoreInt64", "sync/atomic.AddInt64", "math/bits.Add64", "sync/atomic.LoadInt64"], unfollowed := true, recurses := true, apart := false }
def RunNestedSaid : Prop := runNestedRow.holds Try.pinned (OpenSpec.ofChange runNestedSpec)

/-- ITS FALSE NEIGHBOUR: 'it returns false'. Refute it at one input. -/
def runNestedWrong : ChangeSpec := { name := "runNested", fn := fun _ => fun
  | [d] => { results := [.lit (.bool false)], args := [d] }
  | _ => none }
def RunNestedWrongFalsely : Prop := runNestedRow.holds Try.pinned (OpenSpec.ofChange runNestedWrong)

/- THE SECOND FORM. 'bulk': how many values and letters a reading holds, each counted each time it is reached (what is shared counts as often as it is met; a slice's spare places count too). A statement '..UptoSaid' is the law's where the arguments, and the package variables that the reading takes, are together of bulk at most 1048576: NARROWER than '..Said'. Prove '..Said' where nothing that the law and all that it calls make is longer than what came in: it says more and counts as full. Else prove '..UptoSaid'. A law counts once. -/
mutual
def uptoBulk {H : Type} : DataW H → Nat
  | .lit (.string bytes) => bytes.length + 1
  | .lit _ => 1
  | .nil => 1
  | .ptr d => uptoBulk d + 1
  | .slice elems spare => uptoBulkAll elems + uptoBulkAll spare + 1
  | .agg parts => uptoBulkAll parts + 1
  | .iface _ d => uptoBulk d + 1
  | .map entries => uptoBulkEntries entries + 1
  | .held _ => 1
def uptoBulkAll {H : Type} : List (DataW H) → Nat
  | [] => 0
  | d :: r => uptoBulk d + uptoBulkAll r
def uptoBulkEntries {H : Type} : List (Lit × DataW H) → Nat
  | [] => 0
  | x :: r => uptoBulkEntry x + uptoBulkEntries r
def uptoBulkEntry {H : Type} : Lit × DataW H → Nat
  | (.string bytes, d) => bytes.length + uptoBulk d + 1
  | (_, d) => uptoBulk d + 1
 end
def uptoSmall : (H : Type) → List (DataW H) → Bool := fun _ ds => decide (uptoBulkAll ds ≤ 1048576)
def OpenSpec.upto (s : _root_.Go.ChangeSpec) : _root_.Go.OpenSpec := { _root_.Go.OpenSpec.ofChange s with cond := some uptoSmall }

/-- 'slipwaylaw16.CpuMoves', WHERE WHAT IT READS IS OF BULK AT MOST 1048576: true; the input reads as it did. -/
def cpuMovesUptoRow : OpenClaim := { program := "ythbgmlmcjnlopaa", sum := "439a1900e455d45700c81d4e2d4b053d9d77c03d1bb5300f44d3a29b78ff1a5d", func := "slipway/slipwaylaw16.CpuMoves", spec := "cpuMoves", inPlace := ["math/bits.Add64"], apart := false, narrowed := true }
def CpuMovesUptoSaid : Prop := cpuMovesUptoRow.holds Try.pinned (OpenSpec.upto cpuMovesSpec)

/-- 'slipwaylaw16.CpuJumps', WHERE WHAT IT READS IS OF BULK AT MOST 1048576: true; the input reads as it did. -/
def cpuJumpsUptoRow : OpenClaim := { program := "ythbgmlmcjnlopaa", sum := "439a1900e455d45700c81d4e2d4b053d9d77c03d1bb5300f44d3a29b78ff1a5d", func := "slipway/slipwaylaw16.CpuJumps", spec := "cpuJumps", inPlace := ["math/bits.Add64"], apart := false, narrowed := true }
def CpuJumpsUptoSaid : Prop := cpuJumpsUptoRow.holds Try.pinned (OpenSpec.upto cpuJumpsSpec)

/-- 'slipwaylaw16.CpuRounds', WHERE WHAT IT READS IS OF BULK AT MOST 1048576: true; the input reads as it did. -/
def cpuRoundsUptoRow : OpenClaim := { program := "ythbgmlmcjnlopaa", sum := "439a1900e455d45700c81d4e2d4b053d9d77c03d1bb5300f44d3a29b78ff1a5d", func := "slipway/slipwaylaw16.CpuRounds", spec := "cpuRounds", inPlace := ["math/bits.Add64"], apart := false, narrowed := true }
def CpuRoundsUptoSaid : Prop := cpuRoundsUptoRow.holds Try.pinned (OpenSpec.upto cpuRoundsSpec)

/-- 'slipwaylaw16.CpuKeeps', WHERE WHAT IT READS IS OF BULK AT MOST 1048576: true; the input reads as it did. -/
def cpuKeepsUptoRow : OpenClaim := { program := "ythbgmlmcjnlopaa", sum := "439a1900e455d45700c81d4e2d4b053d9d77c03d1bb5300f44d3a29b78ff1a5d", func := "slipway/slipwaylaw16.CpuKeeps", spec := "cpuKeeps", inPlace := ["math/bits.Add64"], apart := false, narrowed := true }
def CpuKeepsUptoSaid : Prop := cpuKeepsUptoRow.holds Try.pinned (OpenSpec.upto cpuKeepsSpec)

/-- 'slipwaylaw16.CpuStack', WHERE WHAT IT READS IS OF BULK AT MOST 1048576: true; the input reads as it did. -/
def cpuStackUptoRow : OpenClaim := { program := "ythbgmlmcjnlopaa", sum := "439a1900e455d45700c81d4e2d4b053d9d77c03d1bb5300f44d3a29b78ff1a5d", func := "slipway/slipwaylaw16.CpuStack", spec := "cpuStack", inPlace := ["math/bits.Add64"], apart := false, narrowed := true }
def CpuStackUptoSaid : Prop := cpuStackUptoRow.holds Try.pinned (OpenSpec.upto cpuStackSpec)

/-- 'slipwaylaw16.CpuGuards', WHERE WHAT IT READS IS OF BULK AT MOST 1048576: true; the input reads as it did. -/
def cpuGuardsUptoRow : OpenClaim := { program := "ythbgmlmcjnlopaa", sum := "439a1900e455d45700c81d4e2d4b053d9d77c03d1bb5300f44d3a29b78ff1a5d", func := "slipway/slipwaylaw16.CpuGuards", spec := "cpuGuards", inPlace := ["math/bits.Add64"], apart := false, narrowed := true }
def CpuGuardsUptoSaid : Prop := cpuGuardsUptoRow.holds Try.pinned (OpenSpec.upto cpuGuardsSpec)

/-- 'slipwaylaw17.RunArgs', WHERE WHAT IT READS IS OF BULK AT MOST 1048576: true; the input reads as it did. -/
def runArgsUptoRow : OpenClaim := { program := "ythbgmlmcjnlopaa", sum := "439a1900e455d45700c81d4e2d4b053d9d77c03d1bb5300f44d3a29b78ff1a5d", func := "slipway/slipwaylaw17.RunArgs", spec := "runArgs", inPlace := ["sync/atomic.StoreInt64", "sync/atomic.AddInt64", "math/bits.Add64", "sync/atomic.LoadInt64"], unfollowed := true, recurses := true, apart := false, narrowed := true }
def RunArgsUptoSaid : Prop := runArgsUptoRow.holds Try.pinned (OpenSpec.upto runArgsSpec)

/-- 'slipwaylaw17.RunFuels', WHERE WHAT IT READS IS OF BULK AT MOST 1048576: true; the input reads as it did. -/
def runFuelsUptoRow : OpenClaim := { program := "ythbgmlmcjnlopaa", sum := "439a1900e455d45700c81d4e2d4b053d9d77c03d1bb5300f44d3a29b78ff1a5d", func := "slipway/slipwaylaw17.RunFuels", spec := "runFuels", inPlace := ["sync/atomic.StoreInt64", "sync/atomic.LoadInt64", "sync/atomic.AddInt64", "math/bits.Add64"], unfollowed := true, recurses := true, apart := false, narrowed := true }
def RunFuelsUptoSaid : Prop := runFuelsUptoRow.holds Try.pinned (OpenSpec.upto runFuelsSpec)

/-- 'slipwaylaw17.RunEnds', WHERE WHAT IT READS IS OF BULK AT MOST 1048576: true; the input reads as it did. -/
def runEndsUptoRow : OpenClaim := { program := "ythbgmlmcjnlopaa", sum := "439a1900e455d45700c81d4e2d4b053d9d77c03d1bb5300f44d3a29b78ff1a5d", func := "slipway/slipwaylaw17.RunEnds", spec := "runEnds", inPlace := ["sync/atomic.StoreInt64", "sync/atomic.AddInt64", "math/bits.Add64", "sync/atomic.LoadInt64"], unfollowed := true, recurses := true, apart := false, narrowed := true }
def RunEndsUptoSaid : Prop := runEndsUptoRow.holds Try.pinned (OpenSpec.upto runEndsSpec)

/-- 'slipwaylaw17.RunNested', WHERE WHAT IT READS IS OF BULK AT MOST 1048576: true; the input reads as it did. -/
def runNestedUptoRow : OpenClaim := { program := "ythbgmlmcjnlopaa", sum := "439a1900e455d45700c81d4e2d4b053d9d77c03d1bb5300f44d3a29b78ff1a5d", func := "slipway/slipwaylaw17.RunNested", spec := "runNested", inPlace := ["sync/atomic.StoreInt64", "sync/atomic.AddInt64", "math/bits.Add64", "sync/atomic.LoadInt64"], unfollowed := true, recurses := true, apart := false, narrowed := true }
def RunNestedUptoSaid : Prop := runNestedUptoRow.holds Try.pinned (OpenSpec.upto runNestedSpec)

end Rows
end Go.Proofs.Ythbgmlmcjnlopaa
