/- fold: numbers behind a point. -/
import Derived.Test.YtbjabncefhgefaaDec
namespace Go.Proofs.Ytbjabncefhgefaa
open Go.ChangeShapes Go.WideShapes Go.ChangeAt Go.RowKit
set_option linter.unusedVariables false
set_option linter.unusedSimpArgs false

/-- A number of five digits at most, without noughts ahead, up to 65,535. -/
structure OrdOk (D : ByteArray) : Prop where
  pos : 1 ≤ D.size
  five : D.size ≤ 5
  lead : PlainAid.bt D 0 = 48 → D.size = 1
  dig : ∀ i, i < D.size → 48 ≤ PlainAid.bt D i ∧ PlainAid.bt D i ≤ 57
  num : numV (PlainAid.bt D) D.size ≤ 65535

theorem ordinal_yes (D : ByteArray) (w : World) (h : OrdOk D) :
    Calls Try.prog 70 #[.string D] w fun e w' => e = .returned (.tuple #[.int .i64 (numV (PlainAid.bt D) D.size), .bool true]) ∧ w = w' := by
  obtain ⟨h1, h2, h3, h4, h5⟩ := h
  have gb := PlainAid.get_bt D
  have HV := Lib.hid (fun k (hk : k ≤ D.size) => numV_bd (f := PlainAid.bt D) (k := k) (fun i hi => h4 i (by omega)) (by omega))
  have H4 := Lib.hid h4
  have H5 := Lib.hid h5
  have d1 : ¬ (D.size : Int) < 1 := by omega
  have d2 : ¬ (5 : Int) < D.size := by omega
  have hp : (0 : Nat) < D.size := by omega
  have hc : (PlainAid.bt D 0 = 48 ∧ ¬ (1 : Int) < D.size) ∨ ¬ PlainAid.bt D 0 = 48 := by
    by_cases c : PlainAid.bt D 0 = 48
    · have := h3 c; exact .inl ⟨c, by omega⟩
    · exact .inr c
  clear h3 h4 h5
  go_enter Try.func70, Try.ntmps70
  rcases hc with ⟨hc1, hc2⟩ | hc1
  all_goals
    go_wp2_with fail
    go_loop [4, 26] (fun v4 v26 => ∃ k : Nat, k ≤ D.size ∧ v26 = .int .i64 k ∧ v4 = .int .i64 (numV (PlainAid.bt D) k)) (fun _ v26 => D.size - (intOf v26).toNat)
    case atStart => exact ⟨0, by omega, rfl, rfl⟩
    case round =>
      obtain ⟨k, hk, rfl, rfl⟩ := hrel
      have hb := HV.out k hk
      by_cases hlt : k < D.size
      · have hf := H4.out k hlt
        have hn : numV (PlainAid.bt D) (k + 1) = numV (PlainAid.bt D) k * 10 + (PlainAid.bt D k - 48) := rfl
        have HN := Lib.hid hn
        clear hn
        generalize numV (PlainAid.bt D) k = V at *
        obtain ⟨hb0, hb1⟩ := hb
        obtain ⟨hf0, hf1⟩ := hf
        go_wp2_with (go_at_call 71; refine (isDigit_any _ _).mono ?_; rintro e w' ⟨rfl, rfl⟩)
        all_goals
          go_round
          case rel => exact ⟨k + 1, by omega, by go_num, by rw [HN.out]⟩
          case measure => simp [intOf]; omega
      · obtain rfl : k = D.size := by omega
        have h5 := H5.out
        obtain ⟨V, hV⟩ : ∃ V, numV (PlainAid.bt D) D.size = V := ⟨_, rfl⟩
        rw [hV] at h5 hb ⊢
        have HVV := Lib.hid hV
        clear hV
        obtain ⟨hb0, hb1⟩ := hb
        go_wp2
        go_ret2
        refine ⟨?_, rfl⟩
        rw [HVV.out]
        rfl

theorem ordinal_no (D : ByteArray) (w : World) (hs : D.size ≤ 140737488355400) (h : ¬ OrdOk D) :
    Calls Try.prog 70 #[.string D] w fun e w' => e = .returned (.tuple #[.int .i64 0, .bool false]) ∧ w = w' := by
  have gb := PlainAid.get_bt D
  by_cases h1 : D.size < 1
  · have d1 : (D.size : Int) < 1 := by omega
    go_enter Try.func70, Try.ntmps70
    clear h
    go_wp2
    go_ret2
    exact ⟨rfl, rfl⟩
  have d1 : ¬ (D.size : Int) < 1 := by omega
  by_cases h2 : 5 < D.size
  · have d2 : (5 : Int) < D.size := by omega
    go_enter Try.func70, Try.ntmps70
    clear h h1 h2
    go_wp2
    go_ret2
    exact ⟨rfl, rfl⟩
  have d2 : ¬ (5 : Int) < D.size := by omega
  have hp : (0 : Nat) < D.size := by omega
  by_cases h3 : PlainAid.bt D 0 = 48 ∧ 1 < D.size
  · obtain ⟨h3, h4⟩ := h3
    have d3 : (1 : Int) < D.size := by omega
    go_enter Try.func70, Try.ntmps70
    clear h h1 h2
    go_wp2
    go_ret2
    exact ⟨rfl, rfl⟩
  have hc : (PlainAid.bt D 0 = 48 ∧ ¬ (1 : Int) < D.size) ∨ ¬ PlainAid.bt D 0 = 48 := by
    by_cases c : PlainAid.bt D 0 = 48
    · exact .inl ⟨c, fun k => h3 ⟨c, by omega⟩⟩
    · exact .inr c
  have H := Lib.hid (show (∀ i, i < D.size → 48 ≤ PlainAid.bt D i ∧ PlainAid.bt D i ≤ 57) → 65535 < numV (PlainAid.bt D) D.size from fun hd => by
    apply Classical.byContradiction
    intro hn
    exact h ⟨by omega, by omega, fun c => Classical.byContradiction fun k => h3 ⟨c, by omega⟩, hd, by omega⟩)
  have hz5 : D.size ≤ 5 := by omega
  clear h h1 h2 h3
  go_enter Try.func70, Try.ntmps70
  rcases hc with ⟨hc1, hc2⟩ | hc1
  all_goals
    go_wp2_with fail
    go_loop [4, 26] (fun v4 v26 => ∃ k : Nat, k ≤ D.size ∧ v26 = .int .i64 k ∧ v4 = .int .i64 (numV (PlainAid.bt D) k) ∧ ∀ i, i < k → 48 ≤ PlainAid.bt D i ∧ PlainAid.bt D i ≤ 57) (fun _ v26 => D.size - (intOf v26).toNat)
    case atStart => exact ⟨0, by omega, rfl, rfl, fun i hi => by omega⟩
    case round =>
      obtain ⟨k, hk, rfl, rfl, hd⟩ := hrel
      have hb := numV_bd (f := PlainAid.bt D) (k := k) hd (by omega)
      have HD := Lib.hid hd
      clear hd
      by_cases hlt : k < D.size
      · by_cases hf : 48 ≤ PlainAid.bt D k ∧ PlainAid.bt D k ≤ 57
        · have HD2 := Lib.hid (show ∀ i, i < k + 1 → 48 ≤ PlainAid.bt D i ∧ PlainAid.bt D i ≤ 57 from fun i hi => by
            by_cases e : i = k
            · subst e; exact hf
            · exact HD.out i (by omega))
          have hn : numV (PlainAid.bt D) (k + 1) = numV (PlainAid.bt D) k * 10 + (PlainAid.bt D k - 48) := rfl
          have HN := Lib.hid hn
          clear hn
          generalize numV (PlainAid.bt D) k = V at *
          obtain ⟨hb0, hb1⟩ := hb
          obtain ⟨hf0, hf1⟩ := hf
          go_wp2_with (go_at_call 71; refine (isDigit_any _ _).mono ?_; rintro e w' ⟨rfl, rfl⟩)
          all_goals
            go_round
            case rel => exact ⟨k + 1, by omega, by go_num, by rw [HN.out], HD2.out⟩
            case measure => simp [intOf]; omega
        · have hf' : decide (48 ≤ PlainAid.bt D k ∧ PlainAid.bt D k ≤ 57) = false := decide_eq_false hf
          clear hf
          go_wp2_with (go_at_call 71; refine (isDigit_any _ _).mono ?_; rintro e w' ⟨rfl, rfl⟩; rw [hf']; clear hf')
          all_goals
            go_ret2
            exact ⟨rfl, rfl⟩
      · obtain rfl : k = D.size := by omega
        have h5 := H.out HD.out
        obtain ⟨V, hV⟩ : ∃ V, numV (PlainAid.bt D) D.size = V := ⟨_, rfl⟩
        rw [hV] at h5 hb ⊢
        clear hV
        obtain ⟨hb0, hb1⟩ := hb
        go_wp2
        go_ret2
        exact ⟨rfl, rfl⟩
end Go.Proofs.Ytbjabncefhgefaa
