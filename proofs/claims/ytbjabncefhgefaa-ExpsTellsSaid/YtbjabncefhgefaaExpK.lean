/- law 7's awake. -/
import Derived.Test.YtbjabncefhgefaaExpJ
namespace Go.Proofs.Ytbjabncefhgefaa
open Go.ChangeShapes Go.WideShapes Go.ChangeAt Go.RowKit
set_option linter.unusedVariables false
set_option linter.unusedSimpArgs false

theorem txt_f : txt [102] = ⟨#[102]⟩ := by decide +kernel
theorem txt_e : txt [] = ⟨#[]⟩ := by decide +kernel
theorem txt_xg : txt [120, 46, 103] = ⟨#[120, 46, 103]⟩ := by decide +kernel
theorem txt_a1 : txt [97] = ⟨#[97]⟩ := by decide +kernel
/-- Texts that lie in a new block. -/
theorem sl_new' (w : World) (fs : List (List Nat)) (vs : List Value) (t : TypeId) (h : vs = fs.map fun s => .string (txt s)) : SlT sC 1 (w.alloc (.cells vs.toArray t)) (some ⟨w.heap.size, 0, none⟩) fs := by
  subst h
  refine .inr ⟨w.heap.size, 0, rfl, by simp, fun i hi j u hu => ?_⟩
  rcases j with _ | j
  · simp [sC] at hu
    subst hu
    rw [cell_of_row _ _ _ _ _ _ (heap_alloc_new w _)]
    simp [hi]
  · simp [sC] at hu

def funcs7 : List FnV := [(64, []), (0, []), (0, [120, 46, 103])]
def names7 : List NmV := [([97], 0)]
theorem fnOk7 : ∀ f ∈ funcs7, FnOk f := by
  intro f hf v hv
  simp [funcs7] at hf
  rcases hf with rfl | rfl | rfl
  · simp at hv
  · simp at hv
  · simp at hv; omega

set_option maxRecDepth 100000 in
set_option maxHeartbeats 4000000 in
theorem awake7_any (w : World) : Calls Try.prog 14 #[] w fun e w' => e = .returned (.bool true) ∧ Below w.heap.size w w' := by
  have HM := Lib.hid (show Calls Try.prog 10 #[.slice (some ⟨w.heap.size, 0, none⟩) 3 3, .slice (some ⟨w.heap.size + 1, 0, none⟩) 1 1, .int .i64 5] ((w.alloc (.cells #[.string ⟨#[102]⟩, .string ⟨#[]⟩, .string ⟨#[120, 46, 103]⟩] 9)).alloc (.cells #[.string ⟨#[97]⟩] 9)) fun e w' =>
      ∃ g c, e = .returned (.tuple #[.slice (some ⟨g, 0, none⟩) img7.length c, .agg #[.int .i64 256, .int .i64 62]]) ∧ (∃ base, OwnD w' base g c img7) ∧ Below w.heap.size w w' from by
    have hF : SlT sC 1 (w.alloc (.cells #[.string ⟨#[102]⟩, .string ⟨#[]⟩, .string ⟨#[120, 46, 103]⟩] 9)) (some ⟨w.heap.size, 0, none⟩) fs7 := sl_new' w fs7 [.string ⟨#[102]⟩, .string ⟨#[]⟩, .string ⟨#[120, 46, 103]⟩] _ (by simp [fs7, txt_f, txt_e, txt_xg])
    have hN : SlT sC 1 ((w.alloc (.cells #[.string ⟨#[102]⟩, .string ⟨#[]⟩, .string ⟨#[120, 46, 103]⟩] 9)).alloc (.cells #[.string ⟨#[97]⟩] 9)) (some ⟨w.heap.size + 1, 0, none⟩) ns7 := by
      have h := sl_new' (w.alloc (.cells #[.string ⟨#[102]⟩, .string ⟨#[]⟩, .string ⟨#[120, 46, 103]⟩] 9)) ns7 [.string ⟨#[97]⟩] 9 (by simp [ns7, txt_a1])
      rwa [show (w.alloc (.cells #[.string ⟨#[102]⟩, .string ⟨#[]⟩, .string ⟨#[120, 46, 103]⟩] 9)).heap.size = w.heap.size + 1 by simp] at h
    have hok : ∀ s ∈ fs7, TxOk s := by
      intro s hs
      simp [fs7] at hs
      rcases hs with rfl | rfl | rfl
      · exact ⟨fun v hv => by simp at hv; omega, by simp⟩
      · exact ⟨fun v hv => by simp at hv, by simp⟩
      · exact ⟨fun v hv => by simp at hv; omega, by simp⟩
    have hok2 : ∀ s ∈ ns7, TxOk s := by
      intro s hs
      simp [ns7] at hs
      subst hs
      exact ⟨fun v hv => by simp at hv; omega, by simp⟩
    refine (made7_any 5 fs7 ns7 (some ⟨w.heap.size, 0, none⟩) (some ⟨w.heap.size + 1, 0, none⟩) 3 1 _ (hF.below ((Below.refl _ _).alloc (Nat.le_refl _) _)) hN hok hok2 (by omega) (by simp [fs7]) (by simp [ns7]) _ img7 rfl rfl).mono ?_
    rintro e w' ⟨g, c, rfl, ho, hw⟩
    refine ⟨g, c, ?_, ⟨_, ho⟩, (((Below.refl w.heap.size w).alloc (Nat.le_refl _) _).alloc (by simp) _).trans (hw.mono (by simp; omega))⟩
    have e1 : ((atB 256 (fs7.take 12) (min ns7.length 12) 5).length : Int) - 256 = 62 := by
      have h : (atB 256 (fs7.take 12) (min ns7.length 12) 5).length = 318 := img7_b2
      omega
    rw [e1])
  have HNIL := Lib.hid (fun W => parseE_any none 0 [] 1 0 W (fun v hv => by simp at hv) (Nat.le_refl _) (by omega) (by simp) (.inl rfl) (by omega) (by omega) (by omega) (by omega))
  rw [nil7_parse] at HNIL
  go_enter Try.func14, Try.ntmps14
  go_wp2_with fail
  refine HM.out.mono ?_
  rintro e w1 ⟨g, c, rfl, ⟨base, ho⟩, hw1⟩
  have HB := Lib.hid hw1
  have HP := Lib.hid (fun W (hW : Below w1.heap.size w1 W) => parseE_any (some ⟨g, 0, none⟩) c img7 256 62 W (ho.below hW).lb (ho.below hW).len (ho.below hW).most (by rw [img7_len]; omega) (ho.below hW).slB (by omega) (by omega) (by omega) (by omega))
  rw [img7_parse] at HP
  simp only [ParseE, List.length_cons, List.length_nil] at HP
  clear hw1 ho HM
  go_wp2_with fail
  refine (HP.out _ ((Below.refl _ _).alloc (Nat.le_refl _) _)).mono ?_
  rintro e w2 ⟨⟨A, c1, A', c2, rfl, ho1, ho2⟩, hw2⟩
  have HB2 := Lib.hid (HB.out.trans (((Below.refl w1.heap.size w1).alloc (Nat.le_refl _) _).trans (hw2.mono (by simp)) |>.mono HB.out.size))
  have hf1 := ho1.sl gC_len
  have hf2 := ho2.sl nC_len
  have HX := Lib.hid (heap_alloc_new w2 (.cells #[.int .i64 5, .slice A 3 c1, .slice A' 1 c2] 32))
  have HF := Lib.hid (fun W (hW : Below w2.heap.size w2 W) => hf1.below hW)
  have HN := Lib.hid (fun W (hW : Below w2.heap.size w2 W) => hf2.below hW)
  have HW3 := Lib.hid ((Below.refl w2.heap.size w2).alloc (Nat.le_refl _) (.cells #[.int .i64 5, .slice A 3 c1, .slice A' 1 c2] 32))
  have HNM := Lib.hid (fun W (hW : Below w2.heap.size w2 W) => byName_any funcs7 names7 A A' c1 c2 5 ⟨#[97]⟩ W (HF.out W hW) (HN.out W hW) fnOk7 (by simp [funcs7]) (by simp [names7]))
  have HOR := Lib.hid (fun ord W (h3 : -9223372036854775808 ≤ ord) (h4 : ord ≤ 9223372036854775807) (hW : Below w2.heap.size w2 W) => byOrd_any funcs7 A A' c1 1 c2 5 ord W (HF.out W hW) fnOk7 (by simp [funcs7]) (by omega) (by omega) h3 h4)
  have hnm : byNameM funcs7 (⟨#[97]⟩ : ByteArray).toList names7 = some (64, []) := by7_name
  rw [hnm] at HNM
  have h6 : byOrdM funcs7 5 6 = none := by7_six
  have h7 : byOrdM funcs7 5 7 = some (0, [120, 46, 103]) := by7_seven
  have HO6 := Lib.hid (fun W (hW : Below w2.heap.size w2 W) => HOR.out 6 W (by omega) (by omega) hW)
  have HO7 := Lib.hid (fun W (hW : Below w2.heap.size w2 W) => HOR.out 7 W (by omega) (by omega) hW)
  rw [h6] at HO6
  rw [h7] at HO7
  clear hf1 hf2 ho1 ho2 hw2 HP HB hnm h6 h7 HOR
  go_wp2_with fail
  refine (HNM.out _ HW3.out).mono ?_
  rintro e w4 ⟨hq, hw4⟩
  have hq' : e = .returned (.tuple #[.agg #[.int .i64 64, .string (txt [])], .bool true]) := hq
  subst hq'
  have HX4 := Lib.hid ((hw4.block w2.heap.size (by simp)).trans HX.out)
  have HW4 := Lib.hid (HW3.out.trans (hw4.mono HW3.out.size))
  clear hq hw4 HNM HX HW3
  have HXA := Lib.hid (heap_alloc_new w4 (.cells #[.int .i64 64, .string (txt [])] 37))
  have HW5 := Lib.hid (HW4.out.alloc HW4.out.size (.cells #[.int .i64 64, .string (txt [])] 37))
  have HX5 := Lib.hid ((Below.heap_alloc w4 (.cells #[.int .i64 64, .string (txt [])] 37) w2.heap.size (lt_of_row' HX4.out)).trans HX4.out)
  have x0 : (w4.alloc (.cells #[.int .i64 64, .string (txt [])] 37)).cell? ⟨w2.heap.size, 0, none⟩ = some (.int .i64 5) := by rw [cell_of_row _ _ _ _ _ _ HX5.out]; rfl
  have x1 : (w4.alloc (.cells #[.int .i64 64, .string (txt [])] 37)).cell? ⟨w2.heap.size, 1, none⟩ = some (.slice A 3 c1) := by rw [cell_of_row _ _ _ _ _ _ HX5.out]; rfl
  have x2 : (w4.alloc (.cells #[.int .i64 64, .string (txt [])] 37)).cell? ⟨w2.heap.size, 2, none⟩ = some (.slice A' 1 c2) := by rw [cell_of_row _ _ _ _ _ _ HX5.out]; rfl
  go_wp2_with fail
  refine (HO6.out _ HW5.out).mono ?_
  rintro e w6 ⟨hq, hw6⟩
  have hq' : e = .returned (.tuple #[.agg #[.int .i64 0, .string ByteArray.empty], .bool false]) := hq
  subst hq'
  have HX6 := Lib.hid ((hw6.block w2.heap.size (lt_of_row' HX5.out)).trans HX5.out)
  have HXB := Lib.hid ((hw6.block w4.heap.size (lt_of_row' HXA.out)).trans HXA.out)
  have HW6 := Lib.hid (HW5.out.trans (hw6.mono HW5.out.size))
  clear hq hw6 HO6 HXA HW5 HX5 x0 x1 x2 HX4 HW4
  have HW7 := Lib.hid (HW6.out.alloc HW6.out.size (.cells #[.int .i64 0, .string ByteArray.empty] 37))
  have HX7 := Lib.hid ((Below.heap_alloc w6 (.cells #[.int .i64 0, .string ByteArray.empty] 37) w2.heap.size (lt_of_row' HX6.out)).trans HX6.out)
  have HXC := Lib.hid ((Below.heap_alloc w6 (.cells #[.int .i64 0, .string ByteArray.empty] 37) w4.heap.size (lt_of_row' HXB.out)).trans HXB.out)
  have x0 : (w6.alloc (.cells #[.int .i64 0, .string ByteArray.empty] 37)).cell? ⟨w2.heap.size, 0, none⟩ = some (.int .i64 5) := by rw [cell_of_row _ _ _ _ _ _ HX7.out]; rfl
  have x1 : (w6.alloc (.cells #[.int .i64 0, .string ByteArray.empty] 37)).cell? ⟨w2.heap.size, 1, none⟩ = some (.slice A 3 c1) := by rw [cell_of_row _ _ _ _ _ _ HX7.out]; rfl
  have x2 : (w6.alloc (.cells #[.int .i64 0, .string ByteArray.empty] 37)).cell? ⟨w2.heap.size, 2, none⟩ = some (.slice A' 1 c2) := by rw [cell_of_row _ _ _ _ _ _ HX7.out]; rfl
  go_wp2_with fail
  refine (HO7.out _ HW7.out).mono ?_
  rintro e w8 ⟨hq, hw8⟩
  have hq' : e = .returned (.tuple #[.agg #[.int .i64 0, .string (txt [120, 46, 103])], .bool true]) := hq
  subst hq'
  have HX8 := Lib.hid ((hw8.block w2.heap.size (lt_of_row' HX7.out)).trans HX7.out)
  have HXD := Lib.hid ((hw8.block w4.heap.size (lt_of_row' HXC.out)).trans HXC.out)
  have HW8 := Lib.hid (HW7.out.trans (hw8.mono HW7.out.size))
  clear hq hw8 HO7 HW7 HX7 HXC x0 x1 x2 HX6 HXB HW6
  rw [txt_xg]
  have HXE := Lib.hid (heap_alloc_new w8 (.cells #[.int .i64 0, .string ⟨#[120, 46, 103]⟩] 37))
  have HW9 := Lib.hid (HW8.out.alloc HW8.out.size (.cells #[.int .i64 0, .string ⟨#[120, 46, 103]⟩] 37))
  have HX9 := Lib.hid ((Below.heap_alloc w8 (.cells #[.int .i64 0, .string ⟨#[120, 46, 103]⟩] 37) w2.heap.size (lt_of_row' HX8.out)).trans HX8.out)
  have HXF := Lib.hid ((Below.heap_alloc w8 (.cells #[.int .i64 0, .string ⟨#[120, 46, 103]⟩] 37) w4.heap.size (lt_of_row' HXD.out)).trans HXD.out)
  go_wp2_with fail
  refine (HNIL.out _).mono ?_
  rintro e w10 ⟨hq, hw10⟩
  have hq' : e = .returned (.tuple #[.agg #[.int .i64 0, .slice none 0 0, .slice none 0 0], .int .i64 11]) := hq
  subst hq'
  have hy1 := (hw10.block w2.heap.size (lt_of_row' HX9.out)).trans HX9.out
  have hy2 := (hw10.block w4.heap.size (lt_of_row' HXF.out)).trans HXF.out
  have hy3 := (hw10.block w8.heap.size (lt_of_row' HXE.out)).trans HXE.out
  have HW10 := Lib.hid (HB2.out.trans ((HW9.out.trans (hw10.mono HW9.out.size)).mono HB2.out.size))
  have y1 := (Below.heap_alloc w10 (.cells #[.int .i64 0, .slice none 0 0, .slice none 0 0] 32) w2.heap.size (lt_of_row' hy1)).trans hy1
  have y2 := (Below.heap_alloc w10 (.cells #[.int .i64 0, .slice none 0 0, .slice none 0 0] 32) w4.heap.size (lt_of_row' hy2)).trans hy2
  have y3 := (Below.heap_alloc w10 (.cells #[.int .i64 0, .slice none 0 0, .slice none 0 0] 32) w8.heap.size (lt_of_row' hy3)).trans hy3
  have z1 : (w10.alloc (.cells #[.int .i64 0, .slice none 0 0, .slice none 0 0] 32)).cell? ⟨w2.heap.size, 0, none⟩ = some (.int .i64 5) := by rw [cell_of_row _ _ _ _ _ _ y1]; rfl
  have z2 : (w10.alloc (.cells #[.int .i64 0, .slice none 0 0, .slice none 0 0] 32)).cell? ⟨w4.heap.size, 0, none⟩ = some (.int .i64 64) := by rw [cell_of_row _ _ _ _ _ _ y2]; rfl
  have z3 : (w10.alloc (.cells #[.int .i64 0, .slice none 0 0, .slice none 0 0] 32)).cell? ⟨w8.heap.size, 1, none⟩ = some (.string ⟨#[120, 46, 103]⟩) := by rw [cell_of_row _ _ _ _ _ _ y3]; rfl
  clear hq hw10 hy1 hy2 hy3 y1 y2 y3
  go_wp2_with fail
  go_ret
  exact ⟨rfl, HW10.out.alloc HW10.out.size _⟩
end Go.Proofs.Ytbjabncefhgefaa
