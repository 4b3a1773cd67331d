import Derived.Test.YtplgdpjbkdagfaaGreatZFold
import Derived.Test.YtplgdpjbkdagfaaGreatZFoldSplit
import Derived.Lib.ItoaNum
import Derived.BigRegion
import Derived.ChangeAlike
namespace Go.Proofs.YtplgdpjbkdagfaaGreat
set_option maxRecDepth 100000
open Go.ChangeShapes Go.WideShapes Go.ChangeAt Go.RowKit
set_option linter.unusedVariables false
set_option linter.unusedSimpArgs false
def numV (f : Nat → Int) : Nat → Int
  | 0 => 0
  | i + 1 => numV f i * 10 + (f i - 48)
theorem numV_congr {f g : Nat → Int} : ∀ (k : Nat), (∀ i, i < k → f i = g i) → numV f k = numV g k
  | 0, _ => rfl
  | k + 1, h => by unfold numV; rw [numV_congr k (fun i hi => h i (by omega)), h k (by omega)]
theorem numV_bd {f : Nat → Int} {k : Nat} (h : ∀ i, i < k → 48 ≤ f i ∧ f i ≤ 57) (hk : k ≤ 5) : 0 ≤ numV f k ∧ numV f k < 100000 := by
  have h' := fun i (hi : i < k) => h i hi
  have a0 := fun hi => h' 0 hi
  have a1 := fun hi => h' 1 hi
  have a2 := fun hi => h' 2 hi
  have a3 := fun hi => h' 3 hi
  have a4 := fun hi => h' 4 hi
  rcases (by omega : k = 0 ∨ k = 1 ∨ k = 2 ∨ k = 3 ∨ k = 4 ∨ k = 5) with rfl | rfl | rfl | rfl | rfl | rfl <;> simp only [numV] <;> omega
structure OrdOk (D : ByteArray) : Prop where
  pos : 1 ≤ D.size
  five : D.size ≤ 5
  lead : PlainAid.bt D 0 = 48 → D.size = 1
  dig : ∀ i, i < D.size → 48 ≤ PlainAid.bt D i ∧ PlainAid.bt D i ≤ 57
  num : numV (PlainAid.bt D) D.size ≤ 65535
theorem ordinal_yes (D : ByteArray) (w : World) (h : OrdOk D) :
    Calls Tryz.prog 127 #[.string D] w fun e w' => e = .returned (.tuple #[.int .i64 (numV (PlainAid.bt D) D.size), .bool true]) ∧ w = w' := by
  obtain ⟨h1, h2, h3, h4, h5⟩ := h
  have gb := PlainAid.get_bt D
  have HV := Lib.hid (fun k (hk : k ≤ D.size) => numV_bd (f := PlainAid.bt D) (k := k) (fun i hi => h4 i (by omega)) (by omega))
  have H4 := Lib.hid h4
  have H5 := Lib.hid h5
  have d1 : ¬ (D.size : Int) < 1 := by omega
  have d2 : ¬ (5 : Int) < D.size := by omega
  have hp : (0 : Nat) < D.size := by omega
  have hc : (PlainAid.bt D 0 = 48 ∧ ¬ (1 : Int) < D.size) ∨ ¬ PlainAid.bt D 0 = 48 := by
    by_cases c : PlainAid.bt D 0 = 48
    · have := h3 c; exact .inl ⟨c, by omega⟩
    · exact .inr c
  clear h3 h4 h5
  go_enter Tryz.func127, Tryz.ntmps127
  rcases hc with ⟨hc1, hc2⟩ | hc1
  all_goals
    go_wp2_with fail
    go_loop [4, 26] (fun v4 v26 => ∃ k : Nat, k ≤ D.size ∧ v26 = .int .i64 k ∧ v4 = .int .i64 (numV (PlainAid.bt D) k)) (fun _ v26 => D.size - (intOf v26).toNat)
    case atStart => exact ⟨0, by omega, rfl, rfl⟩
    case round =>
      obtain ⟨k, hk, rfl, rfl⟩ := hrel
      have hb := HV.out k hk
      by_cases hlt : k < D.size
      · have hf := H4.out k hlt
        have hn : numV (PlainAid.bt D) (k + 1) = numV (PlainAid.bt D) k * 10 + (PlainAid.bt D k - 48) := rfl
        have HN := Lib.hid hn
        clear hn
        generalize numV (PlainAid.bt D) k = V at *
        obtain ⟨hb0, hb1⟩ := hb
        obtain ⟨hf0, hf1⟩ := hf
        go_wp2_with (go_at_call 140; refine (isDigit_any _ _).mono ?_; rintro e w' ⟨rfl, rfl⟩)
        all_goals
          go_round
          case rel => exact ⟨k + 1, by omega, by go_num, by rw [HN.out]⟩
          case measure => simp [intOf]; omega
      · obtain rfl : k = D.size := by omega
        have h5 := H5.out
        obtain ⟨V, hV⟩ : ∃ V, numV (PlainAid.bt D) D.size = V := ⟨_, rfl⟩
        rw [hV] at h5 hb ⊢
        have HVV := Lib.hid hV
        clear hV
        obtain ⟨hb0, hb1⟩ := hb
        go_wp2
        go_ret2
        refine ⟨?_, rfl⟩
        rw [HVV.out]
        rfl
theorem ordinal_no (D : ByteArray) (w : World) (hs : D.size ≤ 140737488355400) (h : ¬ OrdOk D) :
    Calls Tryz.prog 127 #[.string D] w fun e w' => e = .returned (.tuple #[.int .i64 0, .bool false]) ∧ w = w' := by
  have gb := PlainAid.get_bt D
  by_cases h1 : D.size < 1
  · have d1 : (D.size : Int) < 1 := by omega
    go_enter Tryz.func127, Tryz.ntmps127
    clear h
    go_wp2
    go_ret2
    exact ⟨rfl, rfl⟩
  have d1 : ¬ (D.size : Int) < 1 := by omega
  by_cases h2 : 5 < D.size
  · have d2 : (5 : Int) < D.size := by omega
    go_enter Tryz.func127, Tryz.ntmps127
    clear h h1 h2
    go_wp2
    go_ret2
    exact ⟨rfl, rfl⟩
  have d2 : ¬ (5 : Int) < D.size := by omega
  have hp : (0 : Nat) < D.size := by omega
  by_cases h3 : PlainAid.bt D 0 = 48 ∧ 1 < D.size
  · obtain ⟨h3, h4⟩ := h3
    have d3 : (1 : Int) < D.size := by omega
    go_enter Tryz.func127, Tryz.ntmps127
    clear h h1 h2
    go_wp2
    go_ret2
    exact ⟨rfl, rfl⟩
  have hc : (PlainAid.bt D 0 = 48 ∧ ¬ (1 : Int) < D.size) ∨ ¬ PlainAid.bt D 0 = 48 := by
    by_cases c : PlainAid.bt D 0 = 48
    · exact .inl ⟨c, fun k => h3 ⟨c, by omega⟩⟩
    · exact .inr c
  have H := Lib.hid (show (∀ i, i < D.size → 48 ≤ PlainAid.bt D i ∧ PlainAid.bt D i ≤ 57) → 65535 < numV (PlainAid.bt D) D.size from fun hd => by
    apply Classical.byContradiction
    intro hn
    exact h ⟨by omega, by omega, fun c => Classical.byContradiction fun k => h3 ⟨c, by omega⟩, hd, by omega⟩)
  have hz5 : D.size ≤ 5 := by omega
  clear h h1 h2 h3
  go_enter Tryz.func127, Tryz.ntmps127
  rcases hc with ⟨hc1, hc2⟩ | hc1
  all_goals
    go_wp2_with fail
    go_loop [4, 26] (fun v4 v26 => ∃ k : Nat, k ≤ D.size ∧ v26 = .int .i64 k ∧ v4 = .int .i64 (numV (PlainAid.bt D) k) ∧ ∀ i, i < k → 48 ≤ PlainAid.bt D i ∧ PlainAid.bt D i ≤ 57) (fun _ v26 => D.size - (intOf v26).toNat)
    case atStart => exact ⟨0, by omega, rfl, rfl, fun i hi => by omega⟩
    case round =>
      obtain ⟨k, hk, rfl, rfl, hd⟩ := hrel
      have hb := numV_bd (f := PlainAid.bt D) (k := k) hd (by omega)
      have HD := Lib.hid hd
      clear hd
      by_cases hlt : k < D.size
      · by_cases hf : 48 ≤ PlainAid.bt D k ∧ PlainAid.bt D k ≤ 57
        · have HD2 := Lib.hid (show ∀ i, i < k + 1 → 48 ≤ PlainAid.bt D i ∧ PlainAid.bt D i ≤ 57 from fun i hi => by
            by_cases e : i = k
            · subst e; exact hf
            · exact HD.out i (by omega))
          have hn : numV (PlainAid.bt D) (k + 1) = numV (PlainAid.bt D) k * 10 + (PlainAid.bt D k - 48) := rfl
          have HN := Lib.hid hn
          clear hn
          generalize numV (PlainAid.bt D) k = V at *
          obtain ⟨hb0, hb1⟩ := hb
          obtain ⟨hf0, hf1⟩ := hf
          go_wp2_with (go_at_call 140; refine (isDigit_any _ _).mono ?_; rintro e w' ⟨rfl, rfl⟩)
          all_goals
            go_round
            case rel => exact ⟨k + 1, by omega, by go_num, by rw [HN.out], HD2.out⟩
            case measure => simp [intOf]; omega
        · have hf' : decide (48 ≤ PlainAid.bt D k ∧ PlainAid.bt D k ≤ 57) = false := decide_eq_false hf
          clear hf
          go_wp2_with (go_at_call 140; refine (isDigit_any _ _).mono ?_; rintro e w' ⟨rfl, rfl⟩; rw [hf']; clear hf')
          all_goals
            go_ret2
            exact ⟨rfl, rfl⟩
      · obtain rfl : k = D.size := by omega
        have h5 := H.out HD.out
        obtain ⟨V, hV⟩ : ∃ V, numV (PlainAid.bt D) D.size = V := ⟨_, rfl⟩
        rw [hV] at h5 hb ⊢
        clear hV
        obtain ⟨hb0, hb1⟩ := hb
        go_wp2
        go_ret2
        exact ⟨rfl, rfl⟩
def hashT : ByteArray := ⟨#[35]⟩
theorem hash_bt (D : ByteArray) : PlainAid.bt (hashT ++ D) 0 = 35 := by
  rw [bt_cat, if_pos (show 0 < hashT.size by decide)]; decide
theorem hash_size (D : ByteArray) : (hashT ++ D).size = D.size + 1 := by
  rw [ByteArray.size_append, show hashT.size = 1 from rfl]; omega
theorem cut_yes (D : ByteArray) (w : World) : Calls Tryz.prog 126 #[.string (hashT ++ D), .string ⟨#[35]⟩] w fun e w' => e = .returned (.tuple #[.string D, .bool true]) ∧ w = w' := by
  have hl : (hashT ++ D).data.toList = 35 :: D.data.toList := by rw [cat_data]; simp [hashT]
  refine (Tryz.strings_CutPrefix (hashT ++ D) ⟨#[35]⟩ w).mono fun e w' ⟨h1, h2⟩ => ⟨?_, h2.symm⟩
  rw [h1]
  show Ending.returned (.tuple #[.string ⟨(Lib.trimPrefix (hashT ++ D).data.toList [35]).toArray⟩, .bool (Lib.hasPrefix (hashT ++ D).data.toList [35])]) = _
  rw [hl]
  have hp : Lib.hasPrefix (35 :: D.data.toList) [35] = true := by simp [Lib.hasPrefix, List.isPrefixOf]
  unfold Lib.trimPrefix
  rw [hp]
  simp
theorem symbol_ord (D : ByteArray) (w : World) (h : OrdOk D) :
    Calls Tryz.prog 89 #[.string (hashT ++ D)] w fun e w' => e = .returned (.tuple #[.agg #[.string ByteArray.empty, .int .i64 (numV (PlainAid.bt D) D.size), .bool true], .bool true]) ∧ Below w.heap.size w w' := by
  have hs : (hashT ++ D).size ≤ 9223372036854775807 := by have := h.five; rw [hash_size]; omega
  have hn : ¬ OkSym (hashT ++ D) := fun k => k.2.2.1 (hash_bt D)
  have H := Lib.hid h
  clear h
  go_enter Tryz.func89, Tryz.ntmps89
  go_wp2_with fail
  refine (symok_no _ _ hs hn).mono ?_
  rintro e w' ⟨rfl, rfl⟩
  go_wp2_with fail
  refine (cut_yes D _).mono ?_
  rintro e w' ⟨rfl, rfl⟩
  go_wp2_with fail
  refine (ordinal_yes D _ H.out).mono ?_
  rintro e w' ⟨rfl, rfl⟩
  go_wp2
  exact bodyPost_ret (v := .tuple #[.agg #[.string ByteArray.empty, .int .i64 (numV (PlainAid.bt D) D.size), .bool true], .bool true]) (by simp [results, Tryz.results89, go_sem]; rfl) rfl ⟨rfl, by go_grown⟩
theorem symbol_noord (D : ByteArray) (w : World) (hz : D.size ≤ 140737488355300) (h : ¬ OrdOk D) :
    Calls Tryz.prog 89 #[.string (hashT ++ D)] w fun e w' => e = .returned (.tuple #[.agg #[.string ByteArray.empty, .int .i64 0, .bool false], .bool false]) ∧ Below w.heap.size w w' := by
  have hs : (hashT ++ D).size ≤ 9223372036854775807 := by rw [hash_size]; omega
  have hn : ¬ OkSym (hashT ++ D) := fun k => k.2.2.1 (hash_bt D)
  have H := Lib.hid h
  clear h
  go_enter Tryz.func89, Tryz.ntmps89
  go_wp2_with fail
  refine (symok_no _ _ hs hn).mono ?_
  rintro e w' ⟨rfl, rfl⟩
  go_wp2_with fail
  refine (cut_yes D _).mono ?_
  rintro e w' ⟨rfl, rfl⟩
  go_wp2_with fail
  refine (ordinal_no D _ (by omega) H.out).mono ?_
  rintro e w' ⟨rfl, rfl⟩
  go_wp2
  exact bodyPost_ret (v := .tuple #[.agg #[.string ByteArray.empty, .int .i64 0, .bool false], .bool false]) (by simp [results, Tryz.results89, go_sem]; rfl) rfl ⟨rfl, by go_grown⟩
set_option maxHeartbeats 4000000 in
theorem split_ord (T D R : ByteArray) (p : Nat) (w : World) (hs : T.size ≤ 140737488355400) (h : LastDot T D (hashT ++ R) p) (hD : OkName D) (hR : OrdOk R) :
    Calls Tryz.prog 35 #[.string T] w fun e w' => e = .returned (.tuple #[.string D, .agg #[.string ByteArray.empty, .int .i64 (numV (PlainAid.bt R) R.size), .bool true], .bool true]) ∧ Below w.heap.size w w' := by
  obtain ⟨hp, h1, h2, rfl, hx⟩ := h
  have hlast := lastIdx_at T p hp h1 h2
  have d0 : (0 : Int) ≤ p := by omega
  have d1 : ¬ (p : Int) < 0 := by omega
  have d2 : (p : Int) ≤ T.size := by omega
  have d3 : (p : Int) + 1 ≤ T.size := by omega
  have HX := Lib.hid hx
  clear h1 h2 hx
  go_enter Tryz.func35, Tryz.ntmps35
  go_wp2_with fail
  refine (last_any T _ hs).mono ?_
  rintro e w' ⟨rfl, rfl⟩
  rw [hlast]
  clear hlast
  go_wp2_with fail
  refine (ok_yes _ _ hD).mono ?_
  rintro e w' ⟨rfl, rfl⟩
  go_wp2_with fail
  rw [HX.out]
  refine (symbol_ord _ _ hR).mono ?_
  obtain ⟨V, hV⟩ : ∃ V, numV (PlainAid.bt R) R.size = V := ⟨_, rfl⟩
  rw [hV]
  have HV := Lib.hid hV
  clear hV HX
  rintro e w1 ⟨rfl, hb1⟩
  have HB := Lib.hid hb1
  have hc0 := hb1.cell (p := ⟨w.heap.size, 0, none⟩) (by simp)
  have hc1 := hb1.cell (p := ⟨w.heap.size, 1, none⟩) (by simp)
  have hc2 := hb1.cell (p := ⟨w.heap.size, 2, none⟩) (by simp)
  have hf0 := hb1.frozen (p := ⟨w.heap.size, 0, none⟩) (by simp)
  have hf1 := hb1.frozen (p := ⟨w.heap.size, 1, none⟩) (by simp)
  have hf2 := hb1.frozen (p := ⟨w.heap.size, 2, none⟩) (by simp)
  simp at hc0 hc1 hc2 hf0 hf1 hf2
  clear hb1
  go_wp2_with fail
  obtain ⟨W, hW⟩ : ∃ W, W = ((w1.setCell ⟨w.heap.size, 0, none⟩ (.string ByteArray.empty)).setCell ⟨w.heap.size, 1, none⟩ (.int .i64 V)).setCell ⟨w.heap.size, 2, none⟩ (.bool true) := ⟨_, rfl⟩
  rw [← hW]
  have hb3 : Below w.heap.size w W := by
    rw [hW]
    exact (((((Below.refl w.heap.size w).alloc (Nat.le_refl _) _).trans (HB.out.mono (by simp))).setCell (p := ⟨w.heap.size, 0, none⟩) (Nat.le_refl _) _).setCell (p := ⟨w.heap.size, 1, none⟩) (Nat.le_refl _) _).setCell (p := ⟨w.heap.size, 2, none⟩) (Nat.le_refl _) _
  have k0 : W.cell? ⟨w.heap.size, 0, none⟩ = some (.string ByteArray.empty) := by rw [hW]; simp [hc0, go_sem]
  have k1 : W.cell? ⟨w.heap.size, 1, none⟩ = some (.int .i64 V) := by rw [hW]; simp [hc1, go_sem]
  have k2 : W.cell? ⟨w.heap.size, 2, none⟩ = some (.bool true) := by rw [hW]; simp [hc2, go_sem]
  have g0 : W.frozen? ⟨w.heap.size, 0, none⟩ = false := by rw [hW]; simp [hf0, go_sem]
  have g1 : W.frozen? ⟨w.heap.size, 1, none⟩ = false := by rw [hW]; simp [hf1, go_sem]
  have g2 : W.frozen? ⟨w.heap.size, 2, none⟩ = false := by rw [hW]; simp [hf2, go_sem]
  clear hc0 hc1 hc2 hf0 hf1 hf2 HB hW
  go_region
  go_wp2
  exact bodyPost_ret (v := .tuple #[.string (T.extract 0 p), .agg #[.string ByteArray.empty, .int .i64 V, .bool true], .bool true]) (by simp [results, Tryz.results35, go_sem, k0, k1, k2]) rfl ⟨by rw [HV.out], by go_grown⟩
set_option maxHeartbeats 4000000 in
theorem split_noord (T D R : ByteArray) (p : Nat) (w : World) (hs : T.size ≤ 140737488355300) (h : LastDot T D (hashT ++ R) p) (hD : OkName D) (hR : ¬ OrdOk R) :
    Calls Tryz.prog 35 #[.string T] w fun e w' => e = .returned (.tuple #[.string ByteArray.empty, .agg #[.string ByteArray.empty, .int .i64 0, .bool false], .bool false]) ∧ Below w.heap.size w w' := by
  obtain ⟨hp, h1, h2, rfl, hx⟩ := h
  have hlast := lastIdx_at T p hp h1 h2
  have d0 : (0 : Int) ≤ p := by omega
  have d1 : ¬ (p : Int) < 0 := by omega
  have d2 : (p : Int) ≤ T.size := by omega
  have d3 : (p : Int) + 1 ≤ T.size := by omega
  have hz : R.size ≤ 140737488355300 := by
    have e : (T.extract (p + 1) T.size).size = R.size + 1 := by rw [hx, hash_size]
    rw [ByteArray.size_extract] at e; omega
  have HX := Lib.hid hx
  clear h1 h2 hx
  go_enter Tryz.func35, Tryz.ntmps35
  go_wp2_with fail
  refine (last_any T _ (by omega)).mono ?_
  rintro e w' ⟨rfl, rfl⟩
  rw [hlast]
  clear hlast
  go_wp2_with fail
  refine (ok_yes _ _ hD).mono ?_
  rintro e w' ⟨rfl, rfl⟩
  go_wp2_with fail
  rw [HX.out]
  refine (symbol_noord _ _ hz hR).mono ?_
  clear HX
  rintro e w1 ⟨rfl, hb1⟩
  have HB := Lib.hid hb1
  have hc0 := hb1.cell (p := ⟨w.heap.size, 0, none⟩) (by simp)
  have hc1 := hb1.cell (p := ⟨w.heap.size, 1, none⟩) (by simp)
  have hc2 := hb1.cell (p := ⟨w.heap.size, 2, none⟩) (by simp)
  have hf0 := hb1.frozen (p := ⟨w.heap.size, 0, none⟩) (by simp)
  have hf1 := hb1.frozen (p := ⟨w.heap.size, 1, none⟩) (by simp)
  have hf2 := hb1.frozen (p := ⟨w.heap.size, 2, none⟩) (by simp)
  simp at hc0 hc1 hc2 hf0 hf1 hf2
  clear hb1
  go_upto_region 6 with (fail)
  obtain ⟨W, hW⟩ : ∃ W, W = ((w1.setCell ⟨w.heap.size, 0, none⟩ (.string ByteArray.empty)).setCell ⟨w.heap.size, 1, none⟩ (.int .i64 0)).setCell ⟨w.heap.size, 2, none⟩ (.bool false) := ⟨_, rfl⟩
  rw [← hW]
  have hb3 : Below w.heap.size w W := by
    rw [hW]
    exact (((((Below.refl w.heap.size w).alloc (Nat.le_refl _) _).trans (HB.out.mono (by simp))).setCell (p := ⟨w.heap.size, 0, none⟩) (Nat.le_refl _) _).setCell (p := ⟨w.heap.size, 1, none⟩) (Nat.le_refl _) _).setCell (p := ⟨w.heap.size, 2, none⟩) (Nat.le_refl _) _
  have k0 : W.cell? ⟨w.heap.size, 0, none⟩ = some (.string ByteArray.empty) := by rw [hW]; simp [hc0, go_sem]
  have k1 : W.cell? ⟨w.heap.size, 1, none⟩ = some (.int .i64 0) := by rw [hW]; simp [hc1, go_sem]
  have k2 : W.cell? ⟨w.heap.size, 2, none⟩ = some (.bool false) := by rw [hW]; simp [hc2, go_sem]
  have g0 : W.frozen? ⟨w.heap.size, 0, none⟩ = false := by rw [hW]; simp [hf0, go_sem]
  have g1 : W.frozen? ⟨w.heap.size, 1, none⟩ = false := by rw [hW]; simp [hf1, go_sem]
  have g2 : W.frozen? ⟨w.heap.size, 2, none⟩ = false := by rw [hW]; simp [hf2, go_sem]
  clear hc0 hc1 hc2 hf0 hf1 hf2 HB hW
  go_wp2
  exact bodyPost_ret (v := .tuple #[.string ByteArray.empty, .agg #[.string ByteArray.empty, .int .i64 0, .bool false], .bool false]) (by simp [results, Tryz.results35, go_sem, k0, k1, k2]; rfl) rfl ⟨rfl, by go_grown⟩
end Go.Proofs.YtplgdpjbkdagfaaGreat
