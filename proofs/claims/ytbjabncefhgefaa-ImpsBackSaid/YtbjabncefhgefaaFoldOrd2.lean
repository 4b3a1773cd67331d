/- fold: symbols that are numbers, and ways to them. -/
import Derived.Test.YtbjabncefhgefaaFoldOrd
import Derived.BigRegion
import Derived.ChangeAlike
namespace Go.Proofs.Ytbjabncefhgefaa
open Go.ChangeShapes Go.WideShapes Go.ChangeAt Go.RowKit
set_option linter.unusedVariables false
set_option linter.unusedSimpArgs false

def hashT : ByteArray := ⟨#[35]⟩
theorem hash_bt (D : ByteArray) : PlainAid.bt (hashT ++ D) 0 = 35 := by
  rw [bt_cat, if_pos (show 0 < hashT.size by decide)]; decide
theorem hash_size (D : ByteArray) : (hashT ++ D).size = D.size + 1 := by
  rw [ByteArray.size_append, show hashT.size = 1 from rfl]; omega

theorem cut_yes (D : ByteArray) (w : World) : Calls Try.prog 69 #[.string (hashT ++ D), .string ⟨#[35]⟩] w fun e w' => e = .returned (.tuple #[.string D, .bool true]) ∧ w = w' := by
  have hl : (hashT ++ D).data.toList = 35 :: D.data.toList := by rw [cat_data]; simp [hashT]
  refine (Try.strings_CutPrefix (hashT ++ D) ⟨#[35]⟩ w).mono fun e w' ⟨h1, h2⟩ => ⟨?_, h2.symm⟩
  rw [h1]
  show Ending.returned (.tuple #[.string ⟨(Lib.trimPrefix (hashT ++ D).data.toList [35]).toArray⟩, .bool (Lib.hasPrefix (hashT ++ D).data.toList [35])]) = _
  rw [hl]
  have hp : Lib.hasPrefix (35 :: D.data.toList) [35] = true := by simp [Lib.hasPrefix, List.isPrefixOf]
  unfold Lib.trimPrefix
  rw [hp]
  simp

theorem symbol_ord (D : ByteArray) (w : World) (h : OrdOk D) :
    Calls Try.prog 63 #[.string (hashT ++ D)] w fun e w' => e = .returned (.tuple #[.agg #[.string ByteArray.empty, .int .i64 (numV (PlainAid.bt D) D.size), .bool true], .bool true]) ∧ Below w.heap.size w w' := by
  have hs : (hashT ++ D).size ≤ 9223372036854775807 := by have := h.five; rw [hash_size]; omega
  have hn : ¬ OkSym (hashT ++ D) := fun k => k.2.2.1 (hash_bt D)
  have H := Lib.hid h
  clear h
  go_enter Try.func63, Try.ntmps63
  go_wp2_with fail
  refine (symok_no _ _ hs hn).mono ?_
  rintro e w' ⟨rfl, rfl⟩
  go_wp2_with fail
  refine (cut_yes D _).mono ?_
  rintro e w' ⟨rfl, rfl⟩
  go_wp2_with fail
  refine (ordinal_yes D _ H.out).mono ?_
  rintro e w' ⟨rfl, rfl⟩
  go_wp2
  exact bodyPost_ret (v := .tuple #[.agg #[.string ByteArray.empty, .int .i64 (numV (PlainAid.bt D) D.size), .bool true], .bool true]) (by simp [results, Try.results63, go_sem]; rfl) rfl ⟨rfl, by go_grown⟩

theorem symbol_noord (D : ByteArray) (w : World) (hz : D.size ≤ 140737488355300) (h : ¬ OrdOk D) :
    Calls Try.prog 63 #[.string (hashT ++ D)] w fun e w' => e = .returned (.tuple #[.agg #[.string ByteArray.empty, .int .i64 0, .bool false], .bool false]) ∧ Below w.heap.size w w' := by
  have hs : (hashT ++ D).size ≤ 9223372036854775807 := by rw [hash_size]; omega
  have hn : ¬ OkSym (hashT ++ D) := fun k => k.2.2.1 (hash_bt D)
  have H := Lib.hid h
  clear h
  go_enter Try.func63, Try.ntmps63
  go_wp2_with fail
  refine (symok_no _ _ hs hn).mono ?_
  rintro e w' ⟨rfl, rfl⟩
  go_wp2_with fail
  refine (cut_yes D _).mono ?_
  rintro e w' ⟨rfl, rfl⟩
  go_wp2_with fail
  refine (ordinal_no D _ (by omega) H.out).mono ?_
  rintro e w' ⟨rfl, rfl⟩
  go_wp2
  exact bodyPost_ret (v := .tuple #[.agg #[.string ByteArray.empty, .int .i64 0, .bool false], .bool false]) (by simp [results, Try.results63, go_sem]; rfl) rfl ⟨rfl, by go_grown⟩

set_option maxHeartbeats 4000000 in
theorem split_ord (T D R : ByteArray) (p : Nat) (w : World) (hs : T.size ≤ 140737488355400) (h : LastDot T D (hashT ++ R) p) (hD : OkName D) (hR : OrdOk R) :
    Calls Try.prog 57 #[.string T] w fun e w' => e = .returned (.tuple #[.string D, .agg #[.string ByteArray.empty, .int .i64 (numV (PlainAid.bt R) R.size), .bool true], .bool true]) ∧ Below w.heap.size w w' := by
  obtain ⟨hp, h1, h2, rfl, hx⟩ := h
  have hlast := lastIdx_at T p hp h1 h2
  have d0 : (0 : Int) ≤ p := by omega
  have d1 : ¬ (p : Int) < 0 := by omega
  have d2 : (p : Int) ≤ T.size := by omega
  have d3 : (p : Int) + 1 ≤ T.size := by omega
  have HX := Lib.hid hx
  clear h1 h2 hx
  go_enter Try.func57, Try.ntmps57
  go_wp2_with fail
  refine (last_any T _ hs).mono ?_
  rintro e w' ⟨rfl, rfl⟩
  rw [hlast]
  clear hlast
  go_wp2_with fail
  refine (ok_yes _ _ hD).mono ?_
  rintro e w' ⟨rfl, rfl⟩
  go_wp2_with fail
  rw [HX.out]
  refine (symbol_ord _ _ hR).mono ?_
  obtain ⟨V, hV⟩ : ∃ V, numV (PlainAid.bt R) R.size = V := ⟨_, rfl⟩
  rw [hV]
  have HV := Lib.hid hV
  clear hV HX
  rintro e w1 ⟨rfl, hb1⟩
  have HB := Lib.hid hb1
  have hc0 := hb1.cell (p := ⟨w.heap.size, 0, none⟩) (by simp)
  have hc1 := hb1.cell (p := ⟨w.heap.size, 1, none⟩) (by simp)
  have hc2 := hb1.cell (p := ⟨w.heap.size, 2, none⟩) (by simp)
  have hf0 := hb1.frozen (p := ⟨w.heap.size, 0, none⟩) (by simp)
  have hf1 := hb1.frozen (p := ⟨w.heap.size, 1, none⟩) (by simp)
  have hf2 := hb1.frozen (p := ⟨w.heap.size, 2, none⟩) (by simp)
  simp at hc0 hc1 hc2 hf0 hf1 hf2
  clear hb1
  go_wp2_with fail
  obtain ⟨W, hW⟩ : ∃ W, W = ((w1.setCell ⟨w.heap.size, 0, none⟩ (.string ByteArray.empty)).setCell ⟨w.heap.size, 1, none⟩ (.int .i64 V)).setCell ⟨w.heap.size, 2, none⟩ (.bool true) := ⟨_, rfl⟩
  rw [← hW]
  have hb3 : Below w.heap.size w W := by
    rw [hW]
    exact (((((Below.refl w.heap.size w).alloc (Nat.le_refl _) _).trans (HB.out.mono (by simp))).setCell (p := ⟨w.heap.size, 0, none⟩) (Nat.le_refl _) _).setCell (p := ⟨w.heap.size, 1, none⟩) (Nat.le_refl _) _).setCell (p := ⟨w.heap.size, 2, none⟩) (Nat.le_refl _) _
  have k0 : W.cell? ⟨w.heap.size, 0, none⟩ = some (.string ByteArray.empty) := by rw [hW]; simp [hc0, go_sem]
  have k1 : W.cell? ⟨w.heap.size, 1, none⟩ = some (.int .i64 V) := by rw [hW]; simp [hc1, go_sem]
  have k2 : W.cell? ⟨w.heap.size, 2, none⟩ = some (.bool true) := by rw [hW]; simp [hc2, go_sem]
  have g0 : W.frozen? ⟨w.heap.size, 0, none⟩ = false := by rw [hW]; simp [hf0, go_sem]
  have g1 : W.frozen? ⟨w.heap.size, 1, none⟩ = false := by rw [hW]; simp [hf1, go_sem]
  have g2 : W.frozen? ⟨w.heap.size, 2, none⟩ = false := by rw [hW]; simp [hf2, go_sem]
  clear hc0 hc1 hc2 hf0 hf1 hf2 HB hW
  go_region
  go_wp2
  exact bodyPost_ret (v := .tuple #[.string (T.extract 0 p), .agg #[.string ByteArray.empty, .int .i64 V, .bool true], .bool true]) (by simp [results, Try.results57, go_sem, k0, k1, k2]) rfl ⟨by rw [HV.out], by go_grown⟩

set_option maxHeartbeats 4000000 in
theorem split_noord (T D R : ByteArray) (p : Nat) (w : World) (hs : T.size ≤ 140737488355300) (h : LastDot T D (hashT ++ R) p) (hD : OkName D) (hR : ¬ OrdOk R) :
    Calls Try.prog 57 #[.string T] w fun e w' => e = .returned (.tuple #[.string ByteArray.empty, .agg #[.string ByteArray.empty, .int .i64 0, .bool false], .bool false]) ∧ Below w.heap.size w w' := by
  obtain ⟨hp, h1, h2, rfl, hx⟩ := h
  have hlast := lastIdx_at T p hp h1 h2
  have d0 : (0 : Int) ≤ p := by omega
  have d1 : ¬ (p : Int) < 0 := by omega
  have d2 : (p : Int) ≤ T.size := by omega
  have d3 : (p : Int) + 1 ≤ T.size := by omega
  have hz : R.size ≤ 140737488355300 := by
    have e : (T.extract (p + 1) T.size).size = R.size + 1 := by rw [hx, hash_size]
    rw [ByteArray.size_extract] at e; omega
  have HX := Lib.hid hx
  clear h1 h2 hx
  go_enter Try.func57, Try.ntmps57
  go_wp2_with fail
  refine (last_any T _ (by omega)).mono ?_
  rintro e w' ⟨rfl, rfl⟩
  rw [hlast]
  clear hlast
  go_wp2_with fail
  refine (ok_yes _ _ hD).mono ?_
  rintro e w' ⟨rfl, rfl⟩
  go_wp2_with fail
  rw [HX.out]
  refine (symbol_noord _ _ hz hR).mono ?_
  clear HX
  rintro e w1 ⟨rfl, hb1⟩
  have HB := Lib.hid hb1
  have hc0 := hb1.cell (p := ⟨w.heap.size, 0, none⟩) (by simp)
  have hc1 := hb1.cell (p := ⟨w.heap.size, 1, none⟩) (by simp)
  have hc2 := hb1.cell (p := ⟨w.heap.size, 2, none⟩) (by simp)
  have hf0 := hb1.frozen (p := ⟨w.heap.size, 0, none⟩) (by simp)
  have hf1 := hb1.frozen (p := ⟨w.heap.size, 1, none⟩) (by simp)
  have hf2 := hb1.frozen (p := ⟨w.heap.size, 2, none⟩) (by simp)
  simp at hc0 hc1 hc2 hf0 hf1 hf2
  clear hb1
  go_upto_region 6 with (fail)
  obtain ⟨W, hW⟩ : ∃ W, W = ((w1.setCell ⟨w.heap.size, 0, none⟩ (.string ByteArray.empty)).setCell ⟨w.heap.size, 1, none⟩ (.int .i64 0)).setCell ⟨w.heap.size, 2, none⟩ (.bool false) := ⟨_, rfl⟩
  rw [← hW]
  have hb3 : Below w.heap.size w W := by
    rw [hW]
    exact (((((Below.refl w.heap.size w).alloc (Nat.le_refl _) _).trans (HB.out.mono (by simp))).setCell (p := ⟨w.heap.size, 0, none⟩) (Nat.le_refl _) _).setCell (p := ⟨w.heap.size, 1, none⟩) (Nat.le_refl _) _).setCell (p := ⟨w.heap.size, 2, none⟩) (Nat.le_refl _) _
  have k0 : W.cell? ⟨w.heap.size, 0, none⟩ = some (.string ByteArray.empty) := by rw [hW]; simp [hc0, go_sem]
  have k1 : W.cell? ⟨w.heap.size, 1, none⟩ = some (.int .i64 0) := by rw [hW]; simp [hc1, go_sem]
  have k2 : W.cell? ⟨w.heap.size, 2, none⟩ = some (.bool false) := by rw [hW]; simp [hc2, go_sem]
  have g0 : W.frozen? ⟨w.heap.size, 0, none⟩ = false := by rw [hW]; simp [hf0, go_sem]
  have g1 : W.frozen? ⟨w.heap.size, 1, none⟩ = false := by rw [hW]; simp [hf1, go_sem]
  have g2 : W.frozen? ⟨w.heap.size, 2, none⟩ = false := by rw [hW]; simp [hf2, go_sem]
  clear hc0 hc1 hc2 hf0 hf1 hf2 HB hW
  go_wp2
  exact bodyPost_ret (v := .tuple #[.string ByteArray.empty, .agg #[.string ByteArray.empty, .int .i64 0, .bool false], .bool false]) (by simp [results, Try.results57, go_sem, k0, k1, k2]; rfl) rfl ⟨rfl, by go_grown⟩
end Go.Proofs.Ytbjabncefhgefaa
