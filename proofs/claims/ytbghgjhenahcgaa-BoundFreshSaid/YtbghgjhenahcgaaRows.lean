/-
  No cell of these rows narrows 'for every input' (looked for: loops, veiled, ifaces, maps, wideKeys, modest, calm, conditions, laid).
  DERIVED. THE GIVEN ROWS OF THIS SEAT. 2 by the template 'for every input the law returns true; each argument reads behind the call as it read before'; 0 by the template 'total and deterministic' (their statements: YtbghgjhenahcgaaTotals.lean).
  GIVEN WITH THE SEED: the statements are not yours to turn. If you find one false, say at which input.
  Laid BY PROGRAM, IN A SANDBOX (cutbox-rows.mjs): the forced cells as the released guide's own fill.sh prints them over the translation 95343708c2bb641d… (all of the seat's roots in one cut). By AI agents, Wed Nov 11 2026. No macro, syntax, notation, axiom, sorry.
-/
import Derived.Test.YtbghgjhenahcgaaChecked
import GoSem.Claim
import GoSem.ClaimJoined
import GoSem.ClaimMapViews
import Derived.JoinedTies
import Derived.KernelRfl
namespace Go.Proofs.Ytbghgjhenahcgaa
/- THE CELL 'sum', in the pinned program and in every row, IS THE sha256 OF THE DUMP (.gsa) THAT YtbghgjhenahcgaaProg.lean LOADS. Nothing in Lean hashes anything: it is a label: what it is worth is what the hold of that sum in a sandbox is worth. -/
noncomputable def Try.pinned : Pinned := { name := "ytbghgjhenahcgaa", sum := "95343708c2bb641d17aa2d3ba58449f5fb1cf2db9586b290c338d03f9a9e9743", checked := Try.checked }
namespace Rows
def none {H : Type} : Left H := { results := [], args := [] }

/-- 'slipwaylaw9.BoundBounds': WHATEVER THE INPUT: true; the input reads as it did. -/
def boundBoundsSpec : ChangeSpec := { name := "boundBounds", fn := fun _ => fun
  | [d1, d2, d3] => { results := [.lit (.bool true)], args := [d1, d2, d3] }
  | _ => none }
def boundBoundsRow : OpenClaim := { program := "ytbghgjhenahcgaa", sum := "95343708c2bb641d17aa2d3ba58449f5fb1cf2db9586b290c338d03f9a9e9743", func := "slipway/slipwaylaw9.BoundBounds", spec := "boundBounds", inPlace := ["internal/bytealg.IndexByteString", "internal/bytealg.IndexString"], named := ["internal/bytealg.MaxLen"], apart := false }
def BoundBoundsSaid : Prop := boundBoundsRow.holds Try.pinned (OpenSpec.ofChange boundBoundsSpec)

/-- ITS FALSE NEIGHBOUR: 'it returns false'. Refute it at one input. -/
def boundBoundsWrong : ChangeSpec := { name := "boundBounds", fn := fun _ => fun
  | [d1, d2, d3] => { results := [.lit (.bool false)], args := [d1, d2, d3] }
  | _ => none }
def BoundBoundsWrongFalsely : Prop := boundBoundsRow.holds Try.pinned (OpenSpec.ofChange boundBoundsWrong)

/-- 'slipwaylaw9.BoundFresh': WHATEVER THE INPUT: true; the input reads as it did. -/
def boundFreshSpec : ChangeSpec := { name := "boundFresh", fn := fun _ => fun
  | [d1, d2, d3] => { results := [.lit (.bool true)], args := [d1, d2, d3] }
  | _ => none }
def boundFreshRow : OpenClaim := { program := "ytbghgjhenahcgaa", sum := "95343708c2bb641d17aa2d3ba58449f5fb1cf2db9586b290c338d03f9a9e9743", func := "slipway/slipwaylaw9.BoundFresh", spec := "boundFresh", inPlace := ["internal/bytealg.IndexByteString", "internal/bytealg.IndexString"], named := ["internal/bytealg.MaxLen"], apart := false }
def BoundFreshSaid : Prop := boundFreshRow.holds Try.pinned (OpenSpec.ofChange boundFreshSpec)

/-- ITS FALSE NEIGHBOUR: 'it returns false'. Refute it at one input. -/
def boundFreshWrong : ChangeSpec := { name := "boundFresh", fn := fun _ => fun
  | [d1, d2, d3] => { results := [.lit (.bool false)], args := [d1, d2, d3] }
  | _ => none }
def BoundFreshWrongFalsely : Prop := boundFreshRow.holds Try.pinned (OpenSpec.ofChange boundFreshWrong)

/- THE SECOND FORM. 'bulk': how many values and letters a reading holds, each counted each time it is reached (what is shared counts as often as it is met; a slice's spare places count too). A statement '..UptoSaid' is the law's where the arguments, and the package variables that the reading takes, are together of bulk at most 1048576: NARROWER than '..Said'. Prove '..Said' where nothing that the law and all that it calls make is longer than what came in: it says more and counts as full. Else prove '..UptoSaid'. A law counts once. -/
mutual
def uptoBulk {H : Type} : DataW H → Nat
  | .lit (.string bytes) => bytes.length + 1
  | .lit _ => 1
  | .nil => 1
  | .ptr d => uptoBulk d + 1
  | .slice elems spare => uptoBulkAll elems + uptoBulkAll spare + 1
  | .agg parts => uptoBulkAll parts + 1
  | .iface _ d => uptoBulk d + 1
  | .map entries => uptoBulkEntries entries + 1
  | .held _ => 1
def uptoBulkAll {H : Type} : List (DataW H) → Nat
  | [] => 0
  | d :: r => uptoBulk d + uptoBulkAll r
def uptoBulkEntries {H : Type} : List (Lit × DataW H) → Nat
  | [] => 0
  | x :: r => uptoBulkEntry x + uptoBulkEntries r
def uptoBulkEntry {H : Type} : Lit × DataW H → Nat
  | (.string bytes, d) => bytes.length + uptoBulk d + 1
  | (_, d) => uptoBulk d + 1
 end
def uptoSmall : (H : Type) → List (DataW H) → Bool := fun _ ds => decide (uptoBulkAll ds ≤ 1048576)
def OpenSpec.upto (s : _root_.Go.ChangeSpec) : _root_.Go.OpenSpec := { _root_.Go.OpenSpec.ofChange s with cond := some uptoSmall }

/-- 'slipwaylaw9.BoundBounds', WHERE WHAT IT READS IS OF BULK AT MOST 1048576: true; the input reads as it did. -/
def boundBoundsUptoRow : OpenClaim := { program := "ytbghgjhenahcgaa", sum := "95343708c2bb641d17aa2d3ba58449f5fb1cf2db9586b290c338d03f9a9e9743", func := "slipway/slipwaylaw9.BoundBounds", spec := "boundBounds", inPlace := ["internal/bytealg.IndexByteString", "internal/bytealg.IndexString"], named := ["internal/bytealg.MaxLen"], apart := false, narrowed := true }
def BoundBoundsUptoSaid : Prop := boundBoundsUptoRow.holds Try.pinned (OpenSpec.upto boundBoundsSpec)

/-- 'slipwaylaw9.BoundFresh', WHERE WHAT IT READS IS OF BULK AT MOST 1048576: true; the input reads as it did. -/
def boundFreshUptoRow : OpenClaim := { program := "ytbghgjhenahcgaa", sum := "95343708c2bb641d17aa2d3ba58449f5fb1cf2db9586b290c338d03f9a9e9743", func := "slipway/slipwaylaw9.BoundFresh", spec := "boundFresh", inPlace := ["internal/bytealg.IndexByteString", "internal/bytealg.IndexString"], named := ["internal/bytealg.MaxLen"], apart := false, narrowed := true }
def BoundFreshUptoSaid : Prop := boundFreshUptoRow.holds Try.pinned (OpenSpec.upto boundFreshSpec)

end Rows
end Go.Proofs.Ytbghgjhenahcgaa
