/- law 7: what Made makes of two functions and two names. -/
import Derived.Test.YtbjabncefhgefaaExpO0
namespace Go.Proofs.Ytbjabncefhgefaa
open Go.ChangeShapes Go.WideShapes Go.ChangeAt Go.RowKit
set_option linter.unusedVariables false

/-- Made at two functions and two names. -/
theorem made_two (a b c d : List Nat) (TA TB TC TD : ByteArray) (ha : txt a = TA) (hb : txt b = TB) (hc : txt c = TC) (hd : txt d = TD) (ka : TxOk a) (kb : TxOk b) (kc : TxOk c) (kd : TxOk d) (sz : Int) (img : List Nat)
    (h1 : ((atB 256 [a, b] 2 1).length : Int) - 256 = sz) (h2 : atE 256 [a, b] [c, d] 1 = img) (W : World) :
    Calls Try.prog 10 #[.slice (some ⟨W.heap.size, 0, none⟩) 2 2, .slice (some ⟨W.heap.size + 1, 0, none⟩) 2 2, .int .i64 1] ((W.alloc (.cells #[.string TA, .string TB] 9)).alloc (.cells #[.string TC, .string TD] 9)) fun e w' =>
      ∃ g cc, e = .returned (.tuple #[.slice (some ⟨g, 0, none⟩) img.length cc, .agg #[.int .i64 256, .int .i64 sz]]) ∧ OwnD w' W.heap.size g cc img ∧ Below W.heap.size W w' := by
  have hF : SlT sC 1 (W.alloc (.cells #[.string TA, .string TB] 9)) (some ⟨W.heap.size, 0, none⟩) [a, b] := sl_new' W [a, b] [.string TA, .string TB] _ (by simp [ha, hb])
  have hN : SlT sC 1 ((W.alloc (.cells #[.string TA, .string TB] 9)).alloc (.cells #[.string TC, .string TD] 9)) (some ⟨W.heap.size + 1, 0, none⟩) [c, d] := by
    have h := sl_new' (W.alloc (.cells #[.string TA, .string TB] 9)) [c, d] [.string TC, .string TD] 9 (by simp [hc, hd])
    rwa [show (W.alloc (.cells #[.string TA, .string TB] 9)).heap.size = W.heap.size + 1 by simp] at h
  refine (made7_any 1 [a, b] [c, d] (some ⟨W.heap.size, 0, none⟩) (some ⟨W.heap.size + 1, 0, none⟩) 2 2 _ (hF.below ((Below.refl _ _).alloc (Nat.le_refl _) _)) hN (fun s hs => by
    simp at hs
    rcases hs with rfl | rfl
    · exact ka
    · exact kb) (fun s hs => by
    simp at hs
    rcases hs with rfl | rfl
    · exact kc
    · exact kd) (by omega) (by simp) (by simp) _ img rfl h2).mono ?_
  rintro e w' ⟨g, cc, rfl, ho, hw⟩
  refine ⟨g, cc, ?_, ho.weaken (by simp; omega), (((Below.refl W.heap.size W).alloc (Nat.le_refl _) _).alloc (by simp) _).trans (hw.mono (by simp; omega))⟩
  have h1' : ((atB 256 ([a, b].take 12) (min [c, d].length 12) 1).length : Int) - 256 = sz := h1
  rw [h1']
theorem tx1 {x : Nat} (h : x ≤ 255) : TxOk [x] := ⟨fun v hv => by simp at hv; omega, by simp⟩
theorem tx2 {x y : Nat} (h : x ≤ 255) (h2 : y ≤ 255) : TxOk [x, y] := ⟨fun v hv => by simp at hv; omega, by simp⟩

theorem twoA (W : World) : Calls Try.prog 10 #[.slice (some ⟨W.heap.size, 0, none⟩) 2 2, .slice (some ⟨W.heap.size + 1, 0, none⟩) 2 2, .int .i64 1] ((W.alloc (.cells #[.string ⟨#[102]⟩, .string ⟨#[103]⟩] 9)).alloc (.cells #[.string ⟨#[97]⟩, .string ⟨#[98]⟩] 9)) fun e w' =>
      ∃ g cc, e = .returned (.tuple #[.slice (some ⟨g, 0, none⟩) imgA0.length cc, .agg #[.int .i64 256, .int .i64 60]]) ∧ OwnD w' W.heap.size g cc imgA0 ∧ Below W.heap.size W w' := by
  have h1 : ((atB 256 fsA 2 1).length : Int) - 256 = 60 := by rw [lenA]; rfl
  have h2 : atE 256 fsA nsA 1 = imgA0 := by unfold imgA0; exact Eq.refl _
  unfold fsA at h1 h2
  unfold nsA at h2
  exact made_two [102] [103] [97] [98] _ _ _ _ txt_f txt_g txt_a1 txt_b (tx1 (by omega)) (tx1 (by omega)) (tx1 (by omega)) (tx1 (by omega)) 60 imgA0 h1 h2 W
theorem two1 (W : World) : Calls Try.prog 10 #[.slice (some ⟨W.heap.size, 0, none⟩) 2 2, .slice (some ⟨W.heap.size + 1, 0, none⟩) 2 2, .int .i64 1] ((W.alloc (.cells #[.string ⟨#[102]⟩, .string ⟨#[103]⟩] 9)).alloc (.cells #[.string ⟨#[98]⟩, .string ⟨#[97]⟩] 9)) fun e w' =>
      ∃ g cc, e = .returned (.tuple #[.slice (some ⟨g, 0, none⟩) imgA1.length cc, .agg #[.int .i64 256, .int .i64 60]]) ∧ OwnD w' W.heap.size g cc imgA1 ∧ Below W.heap.size W w' := by
  have h1 : ((atB 256 fsA 2 1).length : Int) - 256 = 60 := by rw [lenA]; rfl
  have h2 : atE 256 fsA nsB 1 = imgA1 := by unfold imgA1; exact Eq.refl _
  unfold fsA at h1 h2
  unfold nsB at h2
  exact made_two [102] [103] [98] [97] _ _ _ _ txt_f txt_g txt_b txt_a1 (tx1 (by omega)) (tx1 (by omega)) (tx1 (by omega)) (tx1 (by omega)) 60 imgA1 h1 h2 W
theorem two2 (W : World) : Calls Try.prog 10 #[.slice (some ⟨W.heap.size, 0, none⟩) 2 2, .slice (some ⟨W.heap.size + 1, 0, none⟩) 2 2, .int .i64 1] ((W.alloc (.cells #[.string ⟨#[102]⟩, .string ⟨#[103]⟩] 9)).alloc (.cells #[.string ⟨#[97]⟩, .string ⟨#[97]⟩] 9)) fun e w' =>
      ∃ g cc, e = .returned (.tuple #[.slice (some ⟨g, 0, none⟩) imgA2.length cc, .agg #[.int .i64 256, .int .i64 60]]) ∧ OwnD w' W.heap.size g cc imgA2 ∧ Below W.heap.size W w' := by
  have h1 : ((atB 256 fsA 2 1).length : Int) - 256 = 60 := by rw [lenA]; rfl
  have h2 : atE 256 fsA nsC 1 = imgA2 := by unfold imgA2; exact Eq.refl _
  unfold fsA at h1 h2
  unfold nsC at h2
  exact made_two [102] [103] [97] [97] _ _ _ _ txt_f txt_g txt_a1 txt_a1 (tx1 (by omega)) (tx1 (by omega)) (tx1 (by omega)) (tx1 (by omega)) 60 imgA2 h1 h2 W
theorem two4 (W : World) : Calls Try.prog 10 #[.slice (some ⟨W.heap.size, 0, none⟩) 2 2, .slice (some ⟨W.heap.size + 1, 0, none⟩) 2 2, .int .i64 1] ((W.alloc (.cells #[.string ⟨#[102]⟩, .string ⟨#[120, 46]⟩] 9)).alloc (.cells #[.string ⟨#[97]⟩, .string ⟨#[98]⟩] 9)) fun e w' =>
      ∃ g cc, e = .returned (.tuple #[.slice (some ⟨g, 0, none⟩) imgA4.length cc, .agg #[.int .i64 256, .int .i64 63]]) ∧ OwnD w' W.heap.size g cc imgA4 ∧ Below W.heap.size W w' := by
  have h1 : ((atB 256 fsB 2 1).length : Int) - 256 = 63 := by rw [lenB]; rfl
  have h2 : atE 256 fsB nsA 1 = imgA4 := by unfold imgA4; exact Eq.refl _
  unfold fsB at h1 h2
  unfold nsA at h2
  exact made_two [102] [120, 46] [97] [98] _ _ _ _ txt_f txt_xp txt_a1 txt_b (tx1 (by omega)) (tx2 (by omega) (by omega)) (tx1 (by omega)) (tx1 (by omega)) 63 imgA4 h1 h2 W
end Go.Proofs.Ytbjabncefhgefaa
