/- The contract of the closed call that each law of layer 2 ends with. -/
import Derived.Test.YtciglnfdpcgffaaDoorFoldSplit
namespace Go.Proofs.YtciglnfdpcgffaaDoor
open Go.ChangeShapes Go.WideShapes Go.ChangeAt Go.RowKit
set_option linter.unusedVariables false

theorem bcell {W w1 : World} (hb : Below W.heap.size W w1) : (∀ b o, b < W.heap.size → w1.cell? ⟨b, o, none⟩ = W.cell? ⟨b, o, none⟩) ∧ (∀ b o, b < W.heap.size → w1.frozen? ⟨b, o, none⟩ = W.frozen? ⟨b, o, none⟩) :=
  ⟨fun b o h => hb.cell (p := ⟨b, o, none⟩) h, fun b o h => hb.frozen (p := ⟨b, o, none⟩) h⟩

theorem noDot_lit (T : ByteArray) (h : ∀ i, i < T.size → PlainAid.bt T i ≠ 46) : ¬ DotIn T := fun ⟨i, hi, e⟩ => h i hi e

set_option maxRecDepth 100000 in
theorem lit_split : LastDot ⟨#[98, 46, 100, 108, 108, 46, 102]⟩ ⟨#[98, 46, 100, 108, 108]⟩ ⟨#[102]⟩ 5 := by
  refine ⟨by decide, by decide, fun j h1 h2 => ?_, by decide, by decide⟩
  have h3 : j < 7 := h2
  obtain rfl : j = 6 := by omega
  decide
theorem lit_ok : OkName ⟨#[98, 46, 100, 108, 108]⟩ := by unfold OkName; decide
theorem lit_sym : OkSym ⟨#[102]⟩ := by unfold OkSym; decide
theorem lit_x : OkSym ⟨#[120]⟩ := by unfold OkSym; decide
theorem lit_f : ¬ DotIn ⟨#[102]⟩ := noDot_lit _ (by decide)
theorem lit_A : KeyOf ⟨#[65]⟩ ⟨#[97, 46, 100, 108, 108]⟩ := ⟨fun h => absurd h (noDot_lit _ (by decide)), fun _ => by decide⟩
theorem lit_a : KeyOf ⟨#[97]⟩ ⟨#[97, 46, 100, 108, 108]⟩ := ⟨fun h => absurd h (noDot_lit _ (by decide)), fun _ => by decide⟩
theorem lit_ADLL : KeyOf ⟨#[65, 46, 68, 76, 76]⟩ ⟨#[97, 46, 100, 108, 108]⟩ := ⟨fun _ => by decide, fun h => absurd ⟨1, by decide, by decide⟩ h⟩
theorem lit_empty : ¬ OkName ⟨#[]⟩ := fun h => absurd h.1 (by decide)

set_option maxHeartbeats 2000000 in
theorem awake2 (w : World) : Calls Tryd.prog 8 #[] w fun e w' => e = .returned (.bool true) ∧ Below w.heap.size w w' := by
  go_enter Tryd.func8, Tryd.ntmps8
  go_wp2_with fail
  refine (split_sym _ _ _ 5 _ (by decide) lit_split lit_ok lit_sym).mono ?_
  rintro e w1 ⟨rfl, hb1⟩
  go_wp2_with fail
  refine (split_none _ _ (by decide) (.inl lit_f)).mono ?_
  rintro e w2 ⟨rfl, hb2⟩
  have k0 := hb2.cell (p := ⟨w1.heap.size, 0, none⟩) (by simp)
  have k1 := hb2.cell (p := ⟨w1.heap.size, 1, none⟩) (by simp)
  have k2 := hb2.cell (p := ⟨w1.heap.size, 2, none⟩) (by simp)
  have hz2 : w1.heap.size < w2.heap.size := by have := hb2.size; simp at this; omega
  simp at k0 k1 k2
  have H2 := Lib.hid hb2
  clear hb2
  go_wp2_with fail
  refine (key_any _ _ _ (by decide) lit_A).mono ?_
  rintro e w3 ⟨rfl, hb3⟩
  go_wp2_with fail
  refine (same_yes _ _ _ _ (by decide) (by decide) lit_a lit_ADLL).mono ?_
  rintro e w4 ⟨rfl, hb4⟩
  go_wp2_with fail
  refine (ok_no _ _ (by decide) lit_empty).mono ?_
  rintro e w' ⟨rfl, rfl⟩
  go_wp2_with fail
  refine (symok_yes _ _ lit_x).mono ?_
  rintro e w' ⟨rfl, rfl⟩
  go_wp2
  go_ret
  have e1 : Below w.heap.size w w2 := (hb1.alloc hb1.size _).trans (H2.out.mono (Nat.le_trans hb1.size (by simp)))
  have e3 : Below w.heap.size w w3 := (e1.alloc e1.size _).trans (hb3.mono (Nat.le_trans e1.size (by simp)))
  exact ⟨rfl, e3.trans (hb4.mono e3.size)⟩
end Go.Proofs.YtciglnfdpcgffaaDoor
