/-
  DERIVED. GIVEN WITH THE SEED: THE CARDS: each row of YtciglnfdpcgffaaDoorRows.lean that lists a variable, with what it lists TIED to the program's text (the seventh form; the later family's looks); each row that meets fmt, with fmt's text TOLD by the authors' own Lean function (tested against real Go, not proved from fmt's source: count such statements apart). THE CARD IS WHAT COUNTS. Prove the row's statement (the work); the ties are given (YtciglnfdpcgffaaDoorTie.lean); close each card by the builder's one call (the guide's Derived/Test/ToyasCard.lean, 'card_holds'). Laid BY PROGRAM, IN A SANDBOX (cutbox-door.mjs). By AI agents, Wed Nov 11 2026. No macro, syntax, notation, axiom, sorry.
-/
import Derived.Test.YtciglnfdpcgffaaDoorRows
import GoSem.ClaimSeven
namespace Go.Proofs.YtciglnfdpcgffaaDoor
namespace Rows

/-- THE TIED CARD OF 'slipwaylaw2.FoldNumbers'. -/
def foldNumbersCard : Claim7 := { stood := { row := foldNumbersRow, standIns := [], harness := (true, "53ac059e245934e3e97a7279567d426d72f9a28c168b1bc206c2c55f36a65826"), looks := false }, kinds := [], alts := [], laidByText := true, laidKinds := [.data, .data, .data], laidTests := true, laidLooks := .later }
def FoldNumbersCardSaid : Prop := Claim7.holds Tryd.pinned (.plain (OpenSpec.ofChange foldNumbersSpec)) foldNumbersCard

/-- THE TIED CARD OF 'slipwaylaw2.FoldWays'. -/
def foldWaysCard : Claim7 := { stood := { row := foldWaysRow, standIns := [], harness := (true, "53ac059e245934e3e97a7279567d426d72f9a28c168b1bc206c2c55f36a65826"), looks := false }, kinds := [], alts := [], laidByText := true, laidKinds := [.data, .data, .data], laidTests := true, laidLooks := .later }
def FoldWaysCardSaid : Prop := Claim7.holds Tryd.pinned (.plain (OpenSpec.ofChange foldWaysSpec)) foldWaysCard

/-- THE SECOND FORM's CARD OF 'slipwaylaw2.FoldNumbers'. -/
def foldNumbersUptoCard : Claim7 := { stood := { row := foldNumbersUptoRow, standIns := [], harness := (true, "53ac059e245934e3e97a7279567d426d72f9a28c168b1bc206c2c55f36a65826"), looks := false }, kinds := [], alts := [], laidByText := true, laidKinds := [.data, .data, .data], laidTests := true, laidLooks := .later }
def FoldNumbersUptoCardSaid : Prop := Claim7.holds Tryd.pinned (.plain (OpenSpec.upto foldNumbersSpec)) foldNumbersUptoCard

/-- THE SECOND FORM's CARD OF 'slipwaylaw2.FoldWays'. -/
def foldWaysUptoCard : Claim7 := { stood := { row := foldWaysUptoRow, standIns := [], harness := (true, "53ac059e245934e3e97a7279567d426d72f9a28c168b1bc206c2c55f36a65826"), looks := false }, kinds := [], alts := [], laidByText := true, laidKinds := [.data, .data, .data], laidTests := true, laidLooks := .later }
def FoldWaysUptoCardSaid : Prop := Claim7.holds Tryd.pinned (.plain (OpenSpec.upto foldWaysSpec)) foldWaysUptoCard
end Rows
end Go.Proofs.YtciglnfdpcgffaaDoor
