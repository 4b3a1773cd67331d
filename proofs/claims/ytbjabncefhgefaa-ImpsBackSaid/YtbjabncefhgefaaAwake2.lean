/- The contract of the closed call that each law of layer 2 ends with. -/
import Derived.Test.YtbjabncefhgefaaFoldSplit
namespace Go.Proofs.Ytbjabncefhgefaa
open Go.ChangeShapes Go.WideShapes Go.ChangeAt Go.RowKit
set_option linter.unusedVariables false
set_option linter.unusedSimpArgs false

theorem bcell {W w1 : World} (hb : Below W.heap.size W w1) : (∀ b o, b < W.heap.size → w1.cell? ⟨b, o, none⟩ = W.cell? ⟨b, o, none⟩) ∧ (∀ b o, b < W.heap.size → w1.frozen? ⟨b, o, none⟩ = W.frozen? ⟨b, o, none⟩) :=
  ⟨fun b o h => hb.cell (p := ⟨b, o, none⟩) h, fun b o h => hb.frozen (p := ⟨b, o, none⟩) h⟩

theorem noDot_lit (T : ByteArray) (h : ∀ i, i < T.size → PlainAid.bt T i ≠ 46) : ¬ DotIn T := fun ⟨i, hi, e⟩ => h i hi e

set_option maxRecDepth 100000 in
theorem lit_split : LastDot ⟨#[98, 46, 100, 108, 108, 46, 102]⟩ ⟨#[98, 46, 100, 108, 108]⟩ ⟨#[102]⟩ 5 := by
  refine ⟨by decide, by decide, fun j h1 h2 => ?_, by decide, by decide⟩
  have h3 : j < 7 := h2
  obtain rfl : j = 6 := by omega
  decide
theorem lit_ok : OkName ⟨#[98, 46, 100, 108, 108]⟩ := by unfold OkName; decide
theorem lit_sym : OkSym ⟨#[102]⟩ := by unfold OkSym; decide
theorem lit_x : OkSym ⟨#[120]⟩ := by unfold OkSym; decide
theorem lit_f : ¬ DotIn ⟨#[102]⟩ := noDot_lit _ (by decide)
theorem lit_A : KeyOf ⟨#[65]⟩ ⟨#[97, 46, 100, 108, 108]⟩ := ⟨fun h => absurd h (noDot_lit _ (by decide)), fun _ => by decide⟩
theorem lit_a : KeyOf ⟨#[97]⟩ ⟨#[97, 46, 100, 108, 108]⟩ := ⟨fun h => absurd h (noDot_lit _ (by decide)), fun _ => by decide⟩
theorem lit_ADLL : KeyOf ⟨#[65, 46, 68, 76, 76]⟩ ⟨#[97, 46, 100, 108, 108]⟩ := ⟨fun _ => by decide, fun h => absurd ⟨1, by decide, by decide⟩ h⟩
theorem lit_empty : ¬ OkName ⟨#[]⟩ := fun h => absurd h.1 (by decide)

end Go.Proofs.Ytbjabncefhgefaa
