/-
  No cell of these rows narrows 'for every input' (looked for: loops, veiled, ifaces, maps, wideKeys, modest, calm, conditions, laid).
  DERIVED. THE GIVEN ROWS OF THIS SEAT. 5 by the template 'for every input the law returns true; each argument reads behind the call as it read before'; 0 by the template 'total and deterministic' (their statements: YtplgdpjbkdagfaaGreatTotals.lean).
  GIVEN WITH THE SEED: the statements are not yours to turn. If you find one false, say at which input.
  Laid BY PROGRAM, IN A SANDBOX (cutbox-rows.mjs): the forced cells as the released guide's own fill.sh prints them over the translation 25917e4a7c0abf55… (all of the seat's roots in one cut). By AI agents, Wed Nov 11 2026. No macro, syntax, notation, axiom, sorry.
-/
import Derived.Test.YtplgdpjbkdagfaaGreatChecked
import GoSem.Claim
import GoSem.ClaimJoined
import GoSem.ClaimMapViews
import Derived.JoinedTies
import Derived.KernelRfl
namespace Go.Proofs.YtplgdpjbkdagfaaGreat
/- THE CELL 'sum', in the pinned program and in every row, IS THE sha256 OF THE DUMP (.gsa) THAT YtplgdpjbkdagfaaGreatProg.lean LOADS. Nothing in Lean hashes anything: it is a label: what it is worth is what the hold of that sum in a sandbox is worth. -/
noncomputable def Tryz.pinned : Pinned := { name := "ytplgdpjbkdagfaagreat", sum := "25917e4a7c0abf55b73e8a22ccf5b583b487157fa77166534f50c3360a16d281", checked := Tryz.checked }
namespace Rows
def none {H : Type} : Left H := { results := [], args := [] }

/-- 'slipwaylaw12.PeFirst': WHATEVER THE INPUT: true; the input reads as it did. -/
def peFirstSpec : ChangeSpec := { name := "peFirst", fn := fun _ => fun
  | [d1, d2] => { results := [.lit (.bool true)], args := [d1, d2] }
  | _ => none }
def peFirstRow : OpenClaim := { program := "ytplgdpjbkdagfaagreat", sum := "25917e4a7c0abf55b73e8a22ccf5b583b487157fa77166534f50c3360a16d281", func := "slipway/slipwaylaw12.PeFirst", spec := "peFirst", inPlace := ["internal/bytealg.IndexByte", "internal/bytealg.IndexByteString", "internal/bytealg.IndexString"], unfollowed := true, recurses := true, named := ["internal/bytealg.MaxLen"], apart := false }
def PeFirstSaid : Prop := peFirstRow.holds Tryz.pinned (OpenSpec.ofChange peFirstSpec)

/-- ITS FALSE NEIGHBOUR: 'it returns false'. Refute it at one input. -/
def peFirstWrong : ChangeSpec := { name := "peFirst", fn := fun _ => fun
  | [d1, d2] => { results := [.lit (.bool false)], args := [d1, d2] }
  | _ => none }
def PeFirstWrongFalsely : Prop := peFirstRow.holds Tryz.pinned (OpenSpec.ofChange peFirstWrong)

/-- 'slipwaylaw12.PeWhom': WHATEVER THE INPUT: true; the input reads as it did. -/
def peWhomSpec : ChangeSpec := { name := "peWhom", fn := fun _ => fun
  | [d1, d2, d3] => { results := [.lit (.bool true)], args := [d1, d2, d3] }
  | _ => none }
def peWhomRow : OpenClaim := { program := "ytplgdpjbkdagfaagreat", sum := "25917e4a7c0abf55b73e8a22ccf5b583b487157fa77166534f50c3360a16d281", func := "slipway/slipwaylaw12.PeWhom", spec := "peWhom", inPlace := ["internal/bytealg.IndexByte", "internal/bytealg.IndexByteString", "internal/bytealg.IndexString"], unfollowed := true, recurses := true, named := ["internal/bytealg.MaxLen"], apart := false }
def PeWhomSaid : Prop := peWhomRow.holds Tryz.pinned (OpenSpec.ofChange peWhomSpec)

/-- ITS FALSE NEIGHBOUR: 'it returns false'. Refute it at one input. -/
def peWhomWrong : ChangeSpec := { name := "peWhom", fn := fun _ => fun
  | [d1, d2, d3] => { results := [.lit (.bool false)], args := [d1, d2, d3] }
  | _ => none }
def PeWhomWrongFalsely : Prop := peWhomRow.holds Tryz.pinned (OpenSpec.ofChange peWhomWrong)

/-- 'slipwaylaw12.PeTells': WHATEVER THE INPUT: true; the input reads as it did. -/
def peTellsSpec : ChangeSpec := { name := "peTells", fn := fun _ => fun
  | [d1, d2, d3, d4, d5, d6] => { results := [.lit (.bool true)], args := [d1, d2, d3, d4, d5, d6] }
  | _ => none }
def peTellsRow : OpenClaim := { program := "ytplgdpjbkdagfaagreat", sum := "25917e4a7c0abf55b73e8a22ccf5b583b487157fa77166534f50c3360a16d281", func := "slipway/slipwaylaw12.PeTells", spec := "peTells", inPlace := ["internal/bytealg.IndexByte", "internal/bytealg.IndexByteString", "internal/bytealg.IndexString"], unfollowed := true, recurses := true, named := ["internal/bytealg.MaxLen"], apart := false }
def PeTellsSaid : Prop := peTellsRow.holds Tryz.pinned (OpenSpec.ofChange peTellsSpec)

/-- ITS FALSE NEIGHBOUR: 'it returns false'. Refute it at one input. -/
def peTellsWrong : ChangeSpec := { name := "peTells", fn := fun _ => fun
  | [d1, d2, d3, d4, d5, d6] => { results := [.lit (.bool false)], args := [d1, d2, d3, d4, d5, d6] }
  | _ => none }
def PeTellsWrongFalsely : Prop := peTellsRow.holds Tryz.pinned (OpenSpec.ofChange peTellsWrong)

/-- 'slipwaylaw12.PeSame': WHATEVER THE INPUT: true; the input reads as it did. -/
def peSameSpec : ChangeSpec := { name := "peSame", fn := fun _ => fun
  | [d1, d2, d3] => { results := [.lit (.bool true)], args := [d1, d2, d3] }
  | _ => none }
def peSameRow : OpenClaim := { program := "ytplgdpjbkdagfaagreat", sum := "25917e4a7c0abf55b73e8a22ccf5b583b487157fa77166534f50c3360a16d281", func := "slipway/slipwaylaw12.PeSame", spec := "peSame", inPlace := ["internal/bytealg.IndexByte", "internal/bytealg.IndexByteString", "internal/bytealg.IndexString"], unfollowed := true, recurses := true, named := ["internal/bytealg.MaxLen"], apart := false }
def PeSameSaid : Prop := peSameRow.holds Tryz.pinned (OpenSpec.ofChange peSameSpec)

/-- ITS FALSE NEIGHBOUR: 'it returns false'. Refute it at one input. -/
def peSameWrong : ChangeSpec := { name := "peSame", fn := fun _ => fun
  | [d1, d2, d3] => { results := [.lit (.bool false)], args := [d1, d2, d3] }
  | _ => none }
def PeSameWrongFalsely : Prop := peSameRow.holds Tryz.pinned (OpenSpec.ofChange peSameWrong)

/-- 'slipwaylaw12.PeLays': WHATEVER THE INPUT: true; the input reads as it did. -/
def peLaysSpec : ChangeSpec := { name := "peLays", fn := fun _ => fun
  | [d] => { results := [.lit (.bool true)], args := [d] }
  | _ => none }
def peLaysRow : OpenClaim := { program := "ytplgdpjbkdagfaagreat", sum := "25917e4a7c0abf55b73e8a22ccf5b583b487157fa77166534f50c3360a16d281", func := "slipway/slipwaylaw12.PeLays", spec := "peLays", inPlace := ["internal/bytealg.IndexByte", "internal/bytealg.IndexByteString", "internal/bytealg.IndexString"], unfollowed := true, recurses := true, named := ["internal/bytealg.MaxLen"], apart := false }
def PeLaysSaid : Prop := peLaysRow.holds Tryz.pinned (OpenSpec.ofChange peLaysSpec)

/-- ITS FALSE NEIGHBOUR: 'it returns false'. Refute it at one input. -/
def peLaysWrong : ChangeSpec := { name := "peLays", fn := fun _ => fun
  | [d] => { results := [.lit (.bool false)], args := [d] }
  | _ => none }
def PeLaysWrongFalsely : Prop := peLaysRow.holds Tryz.pinned (OpenSpec.ofChange peLaysWrong)

/- THE SECOND FORM. 'bulk': how many values and letters a reading holds, each counted each time it is reached (what is shared counts as often as it is met; a slice's spare places count too). A statement '..UptoSaid' is the law's where the arguments, and the package variables that the reading takes, are together of bulk at most 1048576: NARROWER than '..Said'. Prove '..Said' where nothing that the law and all that it calls make is longer than what came in: it says more and counts as full. Else prove '..UptoSaid'. A law counts once. -/
mutual
def uptoBulk {H : Type} : DataW H → Nat
  | .lit (.string bytes) => bytes.length + 1
  | .lit _ => 1
  | .nil => 1
  | .ptr d => uptoBulk d + 1
  | .slice elems spare => uptoBulkAll elems + uptoBulkAll spare + 1
  | .agg parts => uptoBulkAll parts + 1
  | .iface _ d => uptoBulk d + 1
  | .map entries => uptoBulkEntries entries + 1
  | .held _ => 1
def uptoBulkAll {H : Type} : List (DataW H) → Nat
  | [] => 0
  | d :: r => uptoBulk d + uptoBulkAll r
def uptoBulkEntries {H : Type} : List (Lit × DataW H) → Nat
  | [] => 0
  | x :: r => uptoBulkEntry x + uptoBulkEntries r
def uptoBulkEntry {H : Type} : Lit × DataW H → Nat
  | (.string bytes, d) => bytes.length + uptoBulk d + 1
  | (_, d) => uptoBulk d + 1
 end
def uptoSmall : (H : Type) → List (DataW H) → Bool := fun _ ds => decide (uptoBulkAll ds ≤ 1048576)
def OpenSpec.upto (s : _root_.Go.ChangeSpec) : _root_.Go.OpenSpec := { _root_.Go.OpenSpec.ofChange s with cond := some uptoSmall }

/-- 'slipwaylaw12.PeFirst', WHERE WHAT IT READS IS OF BULK AT MOST 1048576: true; the input reads as it did. -/
def peFirstUptoRow : OpenClaim := { program := "ytplgdpjbkdagfaagreat", sum := "25917e4a7c0abf55b73e8a22ccf5b583b487157fa77166534f50c3360a16d281", func := "slipway/slipwaylaw12.PeFirst", spec := "peFirst", inPlace := ["internal/bytealg.IndexByte", "internal/bytealg.IndexByteString", "internal/bytealg.IndexString"], unfollowed := true, recurses := true, named := ["internal/bytealg.MaxLen"], apart := false, narrowed := true }
def PeFirstUptoSaid : Prop := peFirstUptoRow.holds Tryz.pinned (OpenSpec.upto peFirstSpec)

/-- 'slipwaylaw12.PeWhom', WHERE WHAT IT READS IS OF BULK AT MOST 1048576: true; the input reads as it did. -/
def peWhomUptoRow : OpenClaim := { program := "ytplgdpjbkdagfaagreat", sum := "25917e4a7c0abf55b73e8a22ccf5b583b487157fa77166534f50c3360a16d281", func := "slipway/slipwaylaw12.PeWhom", spec := "peWhom", inPlace := ["internal/bytealg.IndexByte", "internal/bytealg.IndexByteString", "internal/bytealg.IndexString"], unfollowed := true, recurses := true, named := ["internal/bytealg.MaxLen"], apart := false, narrowed := true }
def PeWhomUptoSaid : Prop := peWhomUptoRow.holds Tryz.pinned (OpenSpec.upto peWhomSpec)

/-- 'slipwaylaw12.PeTells', WHERE WHAT IT READS IS OF BULK AT MOST 1048576: true; the input reads as it did. -/
def peTellsUptoRow : OpenClaim := { program := "ytplgdpjbkdagfaagreat", sum := "25917e4a7c0abf55b73e8a22ccf5b583b487157fa77166534f50c3360a16d281", func := "slipway/slipwaylaw12.PeTells", spec := "peTells", inPlace := ["internal/bytealg.IndexByte", "internal/bytealg.IndexByteString", "internal/bytealg.IndexString"], unfollowed := true, recurses := true, named := ["internal/bytealg.MaxLen"], apart := false, narrowed := true }
def PeTellsUptoSaid : Prop := peTellsUptoRow.holds Tryz.pinned (OpenSpec.upto peTellsSpec)

/-- 'slipwaylaw12.PeSame', WHERE WHAT IT READS IS OF BULK AT MOST 1048576: true; the input reads as it did. -/
def peSameUptoRow : OpenClaim := { program := "ytplgdpjbkdagfaagreat", sum := "25917e4a7c0abf55b73e8a22ccf5b583b487157fa77166534f50c3360a16d281", func := "slipway/slipwaylaw12.PeSame", spec := "peSame", inPlace := ["internal/bytealg.IndexByte", "internal/bytealg.IndexByteString", "internal/bytealg.IndexString"], unfollowed := true, recurses := true, named := ["internal/bytealg.MaxLen"], apart := false, narrowed := true }
def PeSameUptoSaid : Prop := peSameUptoRow.holds Tryz.pinned (OpenSpec.upto peSameSpec)

/-- 'slipwaylaw12.PeLays', WHERE WHAT IT READS IS OF BULK AT MOST 1048576: true; the input reads as it did. -/
def peLaysUptoRow : OpenClaim := { program := "ytplgdpjbkdagfaagreat", sum := "25917e4a7c0abf55b73e8a22ccf5b583b487157fa77166534f50c3360a16d281", func := "slipway/slipwaylaw12.PeLays", spec := "peLays", inPlace := ["internal/bytealg.IndexByte", "internal/bytealg.IndexByteString", "internal/bytealg.IndexString"], unfollowed := true, recurses := true, named := ["internal/bytealg.MaxLen"], apart := false, narrowed := true }
def PeLaysUptoSaid : Prop := peLaysUptoRow.holds Tryz.pinned (OpenSpec.upto peLaysSpec)

end Rows
end Go.Proofs.YtplgdpjbkdagfaaGreat
