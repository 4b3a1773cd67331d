/- The contracts of package fold: which bytes, which names. -/
import Derived.Test.YtbjabncefhgefaaKeep
import Derived.Test.YtbjabncefhgefaaShelf
namespace Go.Proofs.Ytbjabncefhgefaa
open Go.ChangeShapes Go.WideShapes Go.ChangeAt Go.RowKit
set_option linter.unusedVariables false
set_option linter.unusedSimpArgs false

/-- A byte of a name. -/
def nameB (c : Int) : Bool := decide ((97 ≤ c ∧ c ≤ 122) ∨ (65 ≤ c ∧ c ≤ 90) ∨ (48 ≤ c ∧ c ≤ 57) ∨ c = 46 ∨ c = 95 ∨ c = 45)

theorem isDigit_any (c : Int) (w : World) : Calls Try.prog 71 #[.int .u8 c] w fun e w' => e = .returned (.bool (decide (48 ≤ c ∧ c ≤ 57))) ∧ w = w' := by
  by_cases h1 : 48 ≤ c
  · go_enter Try.func71, Try.ntmps71
    go_wp2
    go_ret
    exact ⟨ret_bool (by simp [h1]), rfl⟩
  · go_enter Try.func71, Try.ntmps71
    go_wp2
    go_ret
    exact ⟨ret_bool (by simp; omega), rfl⟩

theorem isNameByte_any (c : Int) (w : World) : Calls Try.prog 65 #[.int .u8 c] w fun e w' => e = .returned (.bool (nameB c)) ∧ w = w' := by
  go_enter Try.func65, Try.ntmps65
  go_wp2_with (go_at_call 71; refine (isDigit_any _ _).mono ?_; rintro e w' ⟨rfl, rfl⟩)
  all_goals go_ret
  all_goals refine ⟨ret_bool ?_, rfl⟩
  all_goals rw [Bool.eq_iff_iff]
  all_goals simp [nameB]
  all_goals omega

/-- A module's name: 2.1. -/
def OkName (S : ByteArray) : Prop := 1 ≤ S.size ∧ S.size ≤ 40 ∧ ∀ i, i < S.size → nameB (PlainAid.bt S i) = true
/-- A symbol's name. -/
def OkSym (S : ByteArray) : Prop := 1 ≤ S.size ∧ S.size ≤ 60 ∧ PlainAid.bt S 0 ≠ 35 ∧ ∀ i, i < S.size → 33 ≤ PlainAid.bt S i ∧ PlainAid.bt S i ≤ 126

theorem ok_yes (S : ByteArray) (w : World) (h : OkName S) : Calls Try.prog 60 #[.string S] w fun e w' => e = .returned (.bool true) ∧ w = w' := by
  obtain ⟨h1, h2, h3⟩ := h
  have gb := PlainAid.get_bt S
  have d1 : ¬ (S.size : Int) < 1 := by omega
  have d2 : ¬ (40 : Int) < S.size := by omega
  go_enter Try.func60, Try.ntmps60
  go_wp2
  go_loop [14] (fun i => ∃ k : Nat, k ≤ S.size ∧ i = .int .i64 k) (fun i => S.size - (intOf i).toNat)
  case atStart => exact ⟨0, by omega, rfl⟩
  case round =>
    obtain ⟨k, hk, rfl⟩ := hrel
    by_cases hlt : k < S.size
    · have hf := h3 k hlt
      go_wp2_with (go_at_call 65; refine (isNameByte_any _ _).mono ?_; rintro e w' ⟨rfl, rfl⟩)
      go_round
      case rel => exact ⟨k + 1, by omega, by go_num⟩
      case measure => simp [intOf]; omega
    · obtain rfl : k = S.size := by omega
      go_wp2
      go_ret
      exact ⟨rfl, rfl⟩

theorem ok_no (S : ByteArray) (w : World) (hs : S.size ≤ 9223372036854775807) (h : ¬ OkName S) : Calls Try.prog 60 #[.string S] w fun e w' => e = .returned (.bool false) ∧ w = w' := by
  by_cases h1 : S.size < 1
  · have d1 : (S.size : Int) < 1 := by omega
    go_enter Try.func60, Try.ntmps60
    go_wp2
    go_ret
    exact ⟨rfl, rfl⟩
  by_cases h2 : 40 < S.size
  · have d1 : ¬ (S.size : Int) < 1 := by omega
    have d2 : (40 : Int) < S.size := by omega
    go_enter Try.func60, Try.ntmps60
    go_wp2
    go_ret
    exact ⟨rfl, rfl⟩
  have hz : ∃ z, z < S.size ∧ nameB (PlainAid.bt S z) = false ∧ ∀ i, i < z → nameB (PlainAid.bt S i) = true := by
    by_cases hz : ∃ z, z < S.size ∧ nameB (PlainAid.bt S z) = false ∧ ∀ i, i < z → nameB (PlainAid.bt S i) = true
    · exact hz
    · exfalso
      apply h
      refine ⟨by omega, by omega, fun i => ?_⟩
      induction i using Nat.strongRecOn with
      | ind i ih =>
        intro hi
        cases hb : nameB (PlainAid.bt S i) with
        | true => rfl
        | false => exact absurd ⟨i, hi, hb, fun j hj => ih j hj (by omega)⟩ hz
  obtain ⟨z, hz1, hz2, hz3⟩ := hz
  have HZ := Lib.hid hz2
  clear hz2 h
  have gb := PlainAid.get_bt S
  have d1 : ¬ (S.size : Int) < 1 := by omega
  have d2 : ¬ (40 : Int) < S.size := by omega
  go_enter Try.func60, Try.ntmps60
  go_wp2
  go_loop [14] (fun i => ∃ k : Nat, k ≤ z ∧ i = .int .i64 k) (fun i => z - (intOf i).toNat)
  case atStart => exact ⟨0, by omega, rfl⟩
  case round =>
    obtain ⟨k, hk, rfl⟩ := hrel
    have hks : k < S.size := by omega
    by_cases hlt : k < z
    · have hf := hz3 k hlt
      go_wp2_with (go_at_call 65; refine (isNameByte_any _ _).mono ?_; rintro e w' ⟨rfl, rfl⟩)
      go_round
      case rel => exact ⟨k + 1, by omega, by go_num⟩
      case measure => simp [intOf]; omega
    · obtain rfl : k = z := by omega
      have hf := HZ.out
      go_wp2_with (go_at_call 65; refine (isNameByte_any _ _).mono ?_; rintro e w' ⟨rfl, rfl⟩)
      go_ret
      exact ⟨rfl, rfl⟩

theorem symok_yes (S : ByteArray) (w : World) (h : OkSym S) : Calls Try.prog 49 #[.string S] w fun e w' => e = .returned (.bool true) ∧ w = w' := by
  obtain ⟨h1, h2, h0, h3⟩ := h
  have gb := PlainAid.get_bt S
  have d1 : ¬ (S.size : Int) < 1 := by omega
  have d2 : ¬ (60 : Int) < S.size := by omega
  have d3 : 0 < S.size := by omega
  have d4 : (PlainAid.bt S 0 == 35) = false := by simpa using h0
  go_enter Try.func49, Try.ntmps49
  go_wp2
  go_loop [19] (fun i => ∃ k : Nat, k ≤ S.size ∧ i = .int .i64 k) (fun i => S.size - (intOf i).toNat)
  case atStart => exact ⟨0, by omega, rfl⟩
  case round =>
    obtain ⟨k, hk, rfl⟩ := hrel
    by_cases hlt : k < S.size
    · have hf := h3 k hlt
      have f1 : ¬ PlainAid.bt S k < 33 := by omega
      have f2 : ¬ 126 < PlainAid.bt S k := by omega
      go_wp2
      go_round
      case rel => exact ⟨k + 1, by omega, by go_num⟩
      case measure => simp [intOf]; omega
    · obtain rfl : k = S.size := by omega
      go_wp2
      go_ret
      exact ⟨rfl, rfl⟩

theorem symok_no (S : ByteArray) (w : World) (hs : S.size ≤ 9223372036854775807) (h : ¬ OkSym S) : Calls Try.prog 49 #[.string S] w fun e w' => e = .returned (.bool false) ∧ w = w' := by
  by_cases h1 : S.size < 1
  · have d1 : (S.size : Int) < 1 := by omega
    go_enter Try.func49, Try.ntmps49
    go_wp2
    go_ret
    exact ⟨rfl, rfl⟩
  have d1 : ¬ (S.size : Int) < 1 := by omega
  by_cases h2 : 60 < S.size
  · have d2 : (60 : Int) < S.size := by omega
    go_enter Try.func49, Try.ntmps49
    go_wp2
    go_ret
    exact ⟨rfl, rfl⟩
  have d2 : ¬ (60 : Int) < S.size := by omega
  have gb := PlainAid.get_bt S
  have d3 : 0 < S.size := by omega
  by_cases h0 : PlainAid.bt S 0 = 35
  · have d4 : (PlainAid.bt S 0 == 35) = true := by simpa using h0
    clear h0
    go_enter Try.func49, Try.ntmps49
    go_wp2
    go_ret
    exact ⟨rfl, rfl⟩
  have d4 : (PlainAid.bt S 0 == 35) = false := by simpa using h0
  have hz : ∃ z, z < S.size ∧ ¬ (33 ≤ PlainAid.bt S z ∧ PlainAid.bt S z ≤ 126) ∧ ∀ i, i < z → (33 ≤ PlainAid.bt S i ∧ PlainAid.bt S i ≤ 126) := by
    by_cases hz : ∃ z, z < S.size ∧ ¬ (33 ≤ PlainAid.bt S z ∧ PlainAid.bt S z ≤ 126) ∧ ∀ i, i < z → (33 ≤ PlainAid.bt S i ∧ PlainAid.bt S i ≤ 126)
    · exact hz
    · exfalso
      apply h
      refine ⟨by omega, by omega, h0, fun i => ?_⟩
      induction i using Nat.strongRecOn with
      | ind i ih =>
        intro hi
        by_cases hb : 33 ≤ PlainAid.bt S i ∧ PlainAid.bt S i ≤ 126
        · exact hb
        · exact absurd ⟨i, hi, hb, fun j hj => ih j hj (by omega)⟩ hz
  obtain ⟨z, hz1, hz2, hz3⟩ := hz
  have HZ := Lib.hid hz2
  clear hz2 h h0
  go_enter Try.func49, Try.ntmps49
  go_wp2
  go_loop [19] (fun i => ∃ k : Nat, k ≤ z ∧ i = .int .i64 k) (fun i => z - (intOf i).toNat)
  case atStart => exact ⟨0, by omega, rfl⟩
  case round =>
    obtain ⟨k, hk, rfl⟩ := hrel
    have hks : k < S.size := by omega
    by_cases hlt : k < z
    · have hf := hz3 k hlt
      have f1 : ¬ PlainAid.bt S k < 33 := by omega
      have f2 : ¬ 126 < PlainAid.bt S k := by omega
      go_wp2
      go_round
      case rel => exact ⟨k + 1, by omega, by go_num⟩
      case measure => simp [intOf]; omega
    · obtain rfl : k = z := by omega
      by_cases f1 : PlainAid.bt S k < 33
      · go_wp2
        go_ret
        exact ⟨rfl, rfl⟩
      · have f2 : 126 < PlainAid.bt S k := by have := HZ.out; omega
        go_wp2
        go_ret
        exact ⟨rfl, rfl⟩
end Go.Proofs.Ytbjabncefhgefaa
