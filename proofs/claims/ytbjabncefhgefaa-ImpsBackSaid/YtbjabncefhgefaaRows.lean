/-
  No cell of these rows narrows 'for every input' (looked for: loops, veiled, ifaces, maps, wideKeys, modest, calm, conditions, laid).
  DERIVED. THE GIVEN ROWS OF THIS SEAT. 7 by the template 'for every input the law returns true; each argument reads behind the call as it read before'; 0 by the template 'total and deterministic' (their statements: YtbjabncefhgefaaTotals.lean).
  GIVEN WITH THE SEED: the statements are not yours to turn. If you find one false, say at which input.
  Laid BY PROGRAM, IN A SANDBOX (cutbox-rows.mjs): the forced cells as the released guide's own fill.sh prints them over the translation 214759922679ba9a… (all of the seat's roots in one cut). By AI agents, Wed Nov 11 2026. No macro, syntax, notation, axiom, sorry.
-/
import Derived.Test.YtbjabncefhgefaaChecked
import GoSem.Claim
import GoSem.ClaimJoined
import GoSem.ClaimMapViews
import Derived.JoinedTies
import Derived.KernelRfl
namespace Go.Proofs.Ytbjabncefhgefaa
/- THE CELL 'sum', in the pinned program and in every row, IS THE sha256 OF THE DUMP (.gsa) THAT YtbjabncefhgefaaProg.lean LOADS. Nothing in Lean hashes anything: it is a label: what it is worth is what the hold of that sum in a sandbox is worth. -/
noncomputable def Try.pinned : Pinned := { name := "ytbjabncefhgefaa", sum := "214759922679ba9a826e97b02070f666a923056484eab8c50f5c5450ac5377c8", checked := Try.checked }
namespace Rows
def none {H : Type} : Left H := { results := [], args := [] }

/-- 'slipwaylaw7.ExpsBack': WHATEVER THE INPUT: true; the input reads as it did. -/
def expsBackSpec : ChangeSpec := { name := "expsBack", fn := fun _ => fun
  | [d1, d2] => { results := [.lit (.bool true)], args := [d1, d2] }
  | _ => none }
def expsBackRow : OpenClaim := { program := "ytbjabncefhgefaa", sum := "214759922679ba9a826e97b02070f666a923056484eab8c50f5c5450ac5377c8", func := "slipway/slipwaylaw7.ExpsBack", spec := "expsBack", apart := false }
def ExpsBackSaid : Prop := expsBackRow.holds Try.pinned (OpenSpec.ofChange expsBackSpec)

/-- ITS FALSE NEIGHBOUR: 'it returns false'. Refute it at one input. -/
def expsBackWrong : ChangeSpec := { name := "expsBack", fn := fun _ => fun
  | [d1, d2] => { results := [.lit (.bool false)], args := [d1, d2] }
  | _ => none }
def ExpsBackWrongFalsely : Prop := expsBackRow.holds Try.pinned (OpenSpec.ofChange expsBackWrong)

/-- 'slipwaylaw7.ExpsBounds': WHATEVER THE INPUT: true; the input reads as it did. -/
def expsBoundsSpec : ChangeSpec := { name := "expsBounds", fn := fun _ => fun
  | [d1, d2] => { results := [.lit (.bool true)], args := [d1, d2] }
  | _ => none }
def expsBoundsRow : OpenClaim := { program := "ytbjabncefhgefaa", sum := "214759922679ba9a826e97b02070f666a923056484eab8c50f5c5450ac5377c8", func := "slipway/slipwaylaw7.ExpsBounds", spec := "expsBounds", apart := false }
def ExpsBoundsSaid : Prop := expsBoundsRow.holds Try.pinned (OpenSpec.ofChange expsBoundsSpec)

/-- ITS FALSE NEIGHBOUR: 'it returns false'. Refute it at one input. -/
def expsBoundsWrong : ChangeSpec := { name := "expsBounds", fn := fun _ => fun
  | [d1, d2] => { results := [.lit (.bool false)], args := [d1, d2] }
  | _ => none }
def ExpsBoundsWrongFalsely : Prop := expsBoundsRow.holds Try.pinned (OpenSpec.ofChange expsBoundsWrong)

/-- 'slipwaylaw7.ExpsTells': WHATEVER THE INPUT: true; the input reads as it did. -/
def expsTellsSpec : ChangeSpec := { name := "expsTells", fn := fun _ => fun
  | [d1, d2, d3, d4, d5, d6, d7, d8] => { results := [.lit (.bool true)], args := [d1, d2, d3, d4, d5, d6, d7, d8] }
  | _ => none }
def expsTellsRow : OpenClaim := { program := "ytbjabncefhgefaa", sum := "214759922679ba9a826e97b02070f666a923056484eab8c50f5c5450ac5377c8", func := "slipway/slipwaylaw7.ExpsTells", spec := "expsTells", apart := false }
def ExpsTellsSaid : Prop := expsTellsRow.holds Try.pinned (OpenSpec.ofChange expsTellsSpec)

/-- ITS FALSE NEIGHBOUR: 'it returns false'. Refute it at one input. -/
def expsTellsWrong : ChangeSpec := { name := "expsTells", fn := fun _ => fun
  | [d1, d2, d3, d4, d5, d6, d7, d8] => { results := [.lit (.bool false)], args := [d1, d2, d3, d4, d5, d6, d7, d8] }
  | _ => none }
def ExpsTellsWrongFalsely : Prop := expsTellsRow.holds Try.pinned (OpenSpec.ofChange expsTellsWrong)

/-- 'slipwaylaw7.ExpsFinds': WHATEVER THE INPUT: true; the input reads as it did. -/
def expsFindsSpec : ChangeSpec := { name := "expsFinds", fn := fun _ => fun
  | [d1, d2] => { results := [.lit (.bool true)], args := [d1, d2] }
  | _ => none }
def expsFindsRow : OpenClaim := { program := "ytbjabncefhgefaa", sum := "214759922679ba9a826e97b02070f666a923056484eab8c50f5c5450ac5377c8", func := "slipway/slipwaylaw7.ExpsFinds", spec := "expsFinds", apart := false }
def ExpsFindsSaid : Prop := expsFindsRow.holds Try.pinned (OpenSpec.ofChange expsFindsSpec)

/-- ITS FALSE NEIGHBOUR: 'it returns false'. Refute it at one input. -/
def expsFindsWrong : ChangeSpec := { name := "expsFinds", fn := fun _ => fun
  | [d1, d2] => { results := [.lit (.bool false)], args := [d1, d2] }
  | _ => none }
def ExpsFindsWrongFalsely : Prop := expsFindsRow.holds Try.pinned (OpenSpec.ofChange expsFindsWrong)

/-- 'slipwaylaw8.ImpsBounds': WHATEVER THE INPUT: true; the input reads as it did. -/
def impsBoundsSpec : ChangeSpec := { name := "impsBounds", fn := fun _ => fun
  | [d1, d2, d3] => { results := [.lit (.bool true)], args := [d1, d2, d3] }
  | _ => none }
def impsBoundsRow : OpenClaim := { program := "ytbjabncefhgefaa", sum := "214759922679ba9a826e97b02070f666a923056484eab8c50f5c5450ac5377c8", func := "slipway/slipwaylaw8.ImpsBounds", spec := "impsBounds", unfollowed := true, recurses := true, apart := false }
def ImpsBoundsSaid : Prop := impsBoundsRow.holds Try.pinned (OpenSpec.ofChange impsBoundsSpec)

/-- ITS FALSE NEIGHBOUR: 'it returns false'. Refute it at one input. -/
def impsBoundsWrong : ChangeSpec := { name := "impsBounds", fn := fun _ => fun
  | [d1, d2, d3] => { results := [.lit (.bool false)], args := [d1, d2, d3] }
  | _ => none }
def ImpsBoundsWrongFalsely : Prop := impsBoundsRow.holds Try.pinned (OpenSpec.ofChange impsBoundsWrong)

/-- 'slipwaylaw8.ImpsThunks': WHATEVER THE INPUT: true; the input reads as it did. -/
def impsThunksSpec : ChangeSpec := { name := "impsThunks", fn := fun _ => fun
  | [d1, d2] => { results := [.lit (.bool true)], args := [d1, d2] }
  | _ => none }
def impsThunksRow : OpenClaim := { program := "ytbjabncefhgefaa", sum := "214759922679ba9a826e97b02070f666a923056484eab8c50f5c5450ac5377c8", func := "slipway/slipwaylaw8.ImpsThunks", spec := "impsThunks", unfollowed := true, recurses := true, apart := false }
def ImpsThunksSaid : Prop := impsThunksRow.holds Try.pinned (OpenSpec.ofChange impsThunksSpec)

/-- ITS FALSE NEIGHBOUR: 'it returns false'. Refute it at one input. -/
def impsThunksWrong : ChangeSpec := { name := "impsThunks", fn := fun _ => fun
  | [d1, d2] => { results := [.lit (.bool false)], args := [d1, d2] }
  | _ => none }
def ImpsThunksWrongFalsely : Prop := impsThunksRow.holds Try.pinned (OpenSpec.ofChange impsThunksWrong)

/-- 'slipwaylaw8.ImpsBack': WHATEVER THE INPUT: true; the input reads as it did. -/
def impsBackSpec : ChangeSpec := { name := "impsBack", fn := fun _ => fun
  | [d1, d2] => { results := [.lit (.bool true)], args := [d1, d2] }
  | _ => none }
def impsBackRow : OpenClaim := { program := "ytbjabncefhgefaa", sum := "214759922679ba9a826e97b02070f666a923056484eab8c50f5c5450ac5377c8", func := "slipway/slipwaylaw8.ImpsBack", spec := "impsBack", unfollowed := true, recurses := true, apart := false }
def ImpsBackSaid : Prop := impsBackRow.holds Try.pinned (OpenSpec.ofChange impsBackSpec)

/-- ITS FALSE NEIGHBOUR: 'it returns false'. Refute it at one input. -/
def impsBackWrong : ChangeSpec := { name := "impsBack", fn := fun _ => fun
  | [d1, d2] => { results := [.lit (.bool false)], args := [d1, d2] }
  | _ => none }
def ImpsBackWrongFalsely : Prop := impsBackRow.holds Try.pinned (OpenSpec.ofChange impsBackWrong)

/- THE SECOND FORM. 'bulk': how many values and letters a reading holds, each counted each time it is reached (what is shared counts as often as it is met; a slice's spare places count too). A statement '..UptoSaid' is the law's where the arguments, and the package variables that the reading takes, are together of bulk at most 1048576: NARROWER than '..Said'. Prove '..Said' where nothing that the law and all that it calls make is longer than what came in: it says more and counts as full. Else prove '..UptoSaid'. A law counts once. -/
mutual
def uptoBulk {H : Type} : DataW H → Nat
  | .lit (.string bytes) => bytes.length + 1
  | .lit _ => 1
  | .nil => 1
  | .ptr d => uptoBulk d + 1
  | .slice elems spare => uptoBulkAll elems + uptoBulkAll spare + 1
  | .agg parts => uptoBulkAll parts + 1
  | .iface _ d => uptoBulk d + 1
  | .map entries => uptoBulkEntries entries + 1
  | .held _ => 1
def uptoBulkAll {H : Type} : List (DataW H) → Nat
  | [] => 0
  | d :: r => uptoBulk d + uptoBulkAll r
def uptoBulkEntries {H : Type} : List (Lit × DataW H) → Nat
  | [] => 0
  | x :: r => uptoBulkEntry x + uptoBulkEntries r
def uptoBulkEntry {H : Type} : Lit × DataW H → Nat
  | (.string bytes, d) => bytes.length + uptoBulk d + 1
  | (_, d) => uptoBulk d + 1
 end
def uptoSmall : (H : Type) → List (DataW H) → Bool := fun _ ds => decide (uptoBulkAll ds ≤ 1048576)
def OpenSpec.upto (s : _root_.Go.ChangeSpec) : _root_.Go.OpenSpec := { _root_.Go.OpenSpec.ofChange s with cond := some uptoSmall }

/-- 'slipwaylaw7.ExpsBack', WHERE WHAT IT READS IS OF BULK AT MOST 1048576: true; the input reads as it did. -/
def expsBackUptoRow : OpenClaim := { program := "ytbjabncefhgefaa", sum := "214759922679ba9a826e97b02070f666a923056484eab8c50f5c5450ac5377c8", func := "slipway/slipwaylaw7.ExpsBack", spec := "expsBack", apart := false, narrowed := true }
def ExpsBackUptoSaid : Prop := expsBackUptoRow.holds Try.pinned (OpenSpec.upto expsBackSpec)

/-- 'slipwaylaw7.ExpsBounds', WHERE WHAT IT READS IS OF BULK AT MOST 1048576: true; the input reads as it did. -/
def expsBoundsUptoRow : OpenClaim := { program := "ytbjabncefhgefaa", sum := "214759922679ba9a826e97b02070f666a923056484eab8c50f5c5450ac5377c8", func := "slipway/slipwaylaw7.ExpsBounds", spec := "expsBounds", apart := false, narrowed := true }
def ExpsBoundsUptoSaid : Prop := expsBoundsUptoRow.holds Try.pinned (OpenSpec.upto expsBoundsSpec)

/-- 'slipwaylaw7.ExpsTells', WHERE WHAT IT READS IS OF BULK AT MOST 1048576: true; the input reads as it did. -/
def expsTellsUptoRow : OpenClaim := { program := "ytbjabncefhgefaa", sum := "214759922679ba9a826e97b02070f666a923056484eab8c50f5c5450ac5377c8", func := "slipway/slipwaylaw7.ExpsTells", spec := "expsTells", apart := false, narrowed := true }
def ExpsTellsUptoSaid : Prop := expsTellsUptoRow.holds Try.pinned (OpenSpec.upto expsTellsSpec)

/-- 'slipwaylaw7.ExpsFinds', WHERE WHAT IT READS IS OF BULK AT MOST 1048576: true; the input reads as it did. -/
def expsFindsUptoRow : OpenClaim := { program := "ytbjabncefhgefaa", sum := "214759922679ba9a826e97b02070f666a923056484eab8c50f5c5450ac5377c8", func := "slipway/slipwaylaw7.ExpsFinds", spec := "expsFinds", apart := false, narrowed := true }
def ExpsFindsUptoSaid : Prop := expsFindsUptoRow.holds Try.pinned (OpenSpec.upto expsFindsSpec)

/-- 'slipwaylaw8.ImpsBounds', WHERE WHAT IT READS IS OF BULK AT MOST 1048576: true; the input reads as it did. -/
def impsBoundsUptoRow : OpenClaim := { program := "ytbjabncefhgefaa", sum := "214759922679ba9a826e97b02070f666a923056484eab8c50f5c5450ac5377c8", func := "slipway/slipwaylaw8.ImpsBounds", spec := "impsBounds", unfollowed := true, recurses := true, apart := false, narrowed := true }
def ImpsBoundsUptoSaid : Prop := impsBoundsUptoRow.holds Try.pinned (OpenSpec.upto impsBoundsSpec)

/-- 'slipwaylaw8.ImpsThunks', WHERE WHAT IT READS IS OF BULK AT MOST 1048576: true; the input reads as it did. -/
def impsThunksUptoRow : OpenClaim := { program := "ytbjabncefhgefaa", sum := "214759922679ba9a826e97b02070f666a923056484eab8c50f5c5450ac5377c8", func := "slipway/slipwaylaw8.ImpsThunks", spec := "impsThunks", unfollowed := true, recurses := true, apart := false, narrowed := true }
def ImpsThunksUptoSaid : Prop := impsThunksUptoRow.holds Try.pinned (OpenSpec.upto impsThunksSpec)

/-- 'slipwaylaw8.ImpsBack', WHERE WHAT IT READS IS OF BULK AT MOST 1048576: true; the input reads as it did. -/
def impsBackUptoRow : OpenClaim := { program := "ytbjabncefhgefaa", sum := "214759922679ba9a826e97b02070f666a923056484eab8c50f5c5450ac5377c8", func := "slipway/slipwaylaw8.ImpsBack", spec := "impsBack", unfollowed := true, recurses := true, apart := false, narrowed := true }
def ImpsBackUptoSaid : Prop := impsBackUptoRow.holds Try.pinned (OpenSpec.upto impsBackSpec)

end Rows
end Go.Proofs.Ytbjabncefhgefaa
