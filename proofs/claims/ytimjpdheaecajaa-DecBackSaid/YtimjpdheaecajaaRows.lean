/-
  No cell of these rows narrows 'for every input' (looked for: loops, veiled, ifaces, maps, wideKeys, modest, calm, conditions, laid).
  DERIVED. THE GIVEN ROWS OF THIS SEAT. 3 by the template 'for every input the law returns true; each argument reads behind the call as it read before'; 0 by the template 'total and deterministic' (their statements: YtimjpdheaecajaaTotals.lean).
  GIVEN WITH THE SEED: the statements are not yours to turn. If you find one false, say at which input.
  Laid BY PROGRAM, IN A SANDBOX (cutbox-rows.mjs): the forced cells as the released guide's own fill.sh prints them over the translation 267b4b0131867802… (all of the seat's roots in one cut). By AI agents, Wed Nov 11 2026. No macro, syntax, notation, axiom, sorry.
-/
import Derived.Test.YtimjpdheaecajaaChecked
import GoSem.Claim
import GoSem.ClaimJoined
import GoSem.ClaimMapViews
import Derived.JoinedTies
import Derived.KernelRfl
namespace Go.Proofs.Ytimjpdheaecajaa
/- THE CELL 'sum', in the pinned program and in every row, IS THE sha256 OF THE DUMP (.gsa) THAT YtimjpdheaecajaaProg.lean LOADS. Nothing in Lean hashes anything: it is a label: what it is worth is what the hold of that sum in a sandbox is worth. -/
noncomputable def Try.pinned : Pinned := { name := "ytimjpdheaecajaa", sum := "267b4b0131867802d606fb933eb3875cdd355a67d69a036379131318b0115d12", checked := Try.checked }
namespace Rows
def none {H : Type} : Left H := { results := [], args := [] }

/-- 'slipwaylaw15.DecLong': WHATEVER THE INPUT: true; the input reads as it did. -/
def decLongSpec : ChangeSpec := { name := "decLong", fn := fun _ => fun
  | [d] => { results := [.lit (.bool true)], args := [d] }
  | _ => none }
def decLongRow : OpenClaim := { program := "ytimjpdheaecajaa", sum := "267b4b0131867802d606fb933eb3875cdd355a67d69a036379131318b0115d12", func := "slipway/slipwaylaw15.DecLong", spec := "decLong", apart := false }
def DecLongSaid : Prop := decLongRow.holds Try.pinned (OpenSpec.ofChange decLongSpec)

/-- ITS FALSE NEIGHBOUR: 'it returns false'. Refute it at one input. -/
def decLongWrong : ChangeSpec := { name := "decLong", fn := fun _ => fun
  | [d] => { results := [.lit (.bool false)], args := [d] }
  | _ => none }
def DecLongWrongFalsely : Prop := decLongRow.holds Try.pinned (OpenSpec.ofChange decLongWrong)

/-- 'slipwaylaw15.DecNone': WHATEVER THE INPUT: true; the input reads as it did. -/
def decNoneSpec : ChangeSpec := { name := "decNone", fn := fun _ => fun
  | [d1, d2] => { results := [.lit (.bool true)], args := [d1, d2] }
  | _ => none }
def decNoneRow : OpenClaim := { program := "ytimjpdheaecajaa", sum := "267b4b0131867802d606fb933eb3875cdd355a67d69a036379131318b0115d12", func := "slipway/slipwaylaw15.DecNone", spec := "decNone", apart := false }
def DecNoneSaid : Prop := decNoneRow.holds Try.pinned (OpenSpec.ofChange decNoneSpec)

/-- ITS FALSE NEIGHBOUR: 'it returns false'. Refute it at one input. -/
def decNoneWrong : ChangeSpec := { name := "decNone", fn := fun _ => fun
  | [d1, d2] => { results := [.lit (.bool false)], args := [d1, d2] }
  | _ => none }
def DecNoneWrongFalsely : Prop := decNoneRow.holds Try.pinned (OpenSpec.ofChange decNoneWrong)

/-- 'slipwaylaw15.DecBack': WHATEVER THE INPUT: true; the input reads as it did. -/
def decBackSpec : ChangeSpec := { name := "decBack", fn := fun _ => fun
  | [d1, d2, d3] => { results := [.lit (.bool true)], args := [d1, d2, d3] }
  | _ => none }
def decBackRow : OpenClaim := { program := "ytimjpdheaecajaa", sum := "267b4b0131867802d606fb933eb3875cdd355a67d69a036379131318b0115d12", func := "slipway/slipwaylaw15.DecBack", spec := "decBack", apart := false }
def DecBackSaid : Prop := decBackRow.holds Try.pinned (OpenSpec.ofChange decBackSpec)

/-- ITS FALSE NEIGHBOUR: 'it returns false'. Refute it at one input. -/
def decBackWrong : ChangeSpec := { name := "decBack", fn := fun _ => fun
  | [d1, d2, d3] => { results := [.lit (.bool false)], args := [d1, d2, d3] }
  | _ => none }
def DecBackWrongFalsely : Prop := decBackRow.holds Try.pinned (OpenSpec.ofChange decBackWrong)

/- THE SECOND FORM. 'bulk': how many values and letters a reading holds, each counted each time it is reached (what is shared counts as often as it is met; a slice's spare places count too). A statement '..UptoSaid' is the law's where the arguments, and the package variables that the reading takes, are together of bulk at most 1048576: NARROWER than '..Said'. Prove '..Said' where nothing that the law and all that it calls make is longer than what came in: it says more and counts as full. Else prove '..UptoSaid'. A law counts once. -/
mutual
def uptoBulk {H : Type} : DataW H → Nat
  | .lit (.string bytes) => bytes.length + 1
  | .lit _ => 1
  | .nil => 1
  | .ptr d => uptoBulk d + 1
  | .slice elems spare => uptoBulkAll elems + uptoBulkAll spare + 1
  | .agg parts => uptoBulkAll parts + 1
  | .iface _ d => uptoBulk d + 1
  | .map entries => uptoBulkEntries entries + 1
  | .held _ => 1
def uptoBulkAll {H : Type} : List (DataW H) → Nat
  | [] => 0
  | d :: r => uptoBulk d + uptoBulkAll r
def uptoBulkEntries {H : Type} : List (Lit × DataW H) → Nat
  | [] => 0
  | x :: r => uptoBulkEntry x + uptoBulkEntries r
def uptoBulkEntry {H : Type} : Lit × DataW H → Nat
  | (.string bytes, d) => bytes.length + uptoBulk d + 1
  | (_, d) => uptoBulk d + 1
 end
def uptoSmall : (H : Type) → List (DataW H) → Bool := fun _ ds => decide (uptoBulkAll ds ≤ 1048576)
def OpenSpec.upto (s : _root_.Go.ChangeSpec) : _root_.Go.OpenSpec := { _root_.Go.OpenSpec.ofChange s with cond := some uptoSmall }

/-- 'slipwaylaw15.DecLong', WHERE WHAT IT READS IS OF BULK AT MOST 1048576: true; the input reads as it did. -/
def decLongUptoRow : OpenClaim := { program := "ytimjpdheaecajaa", sum := "267b4b0131867802d606fb933eb3875cdd355a67d69a036379131318b0115d12", func := "slipway/slipwaylaw15.DecLong", spec := "decLong", apart := false, narrowed := true }
def DecLongUptoSaid : Prop := decLongUptoRow.holds Try.pinned (OpenSpec.upto decLongSpec)

/-- 'slipwaylaw15.DecNone', WHERE WHAT IT READS IS OF BULK AT MOST 1048576: true; the input reads as it did. -/
def decNoneUptoRow : OpenClaim := { program := "ytimjpdheaecajaa", sum := "267b4b0131867802d606fb933eb3875cdd355a67d69a036379131318b0115d12", func := "slipway/slipwaylaw15.DecNone", spec := "decNone", apart := false, narrowed := true }
def DecNoneUptoSaid : Prop := decNoneUptoRow.holds Try.pinned (OpenSpec.upto decNoneSpec)

/-- 'slipwaylaw15.DecBack', WHERE WHAT IT READS IS OF BULK AT MOST 1048576: true; the input reads as it did. -/
def decBackUptoRow : OpenClaim := { program := "ytimjpdheaecajaa", sum := "267b4b0131867802d606fb933eb3875cdd355a67d69a036379131318b0115d12", func := "slipway/slipwaylaw15.DecBack", spec := "decBack", apart := false, narrowed := true }
def DecBackUptoSaid : Prop := decBackUptoRow.holds Try.pinned (OpenSpec.upto decBackSpec)

end Rows
end Go.Proofs.Ytimjpdheaecajaa
