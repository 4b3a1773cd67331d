/- The contracts of fold.Key and fold.Same. -/
import Derived.Test.YtbghgjhenahcgaaFold
namespace Go.Proofs.Ytbghgjhenahcgaa
open Go.ChangeShapes Go.WideShapes Go.ChangeAt Go.RowKit
set_option linter.unusedVariables false

/-- A letter's small form. -/
def lowB (c : Int) : Int := if 65 ≤ c ∧ c ≤ 90 then c + 32 else c
def lowF (S : ByteArray) (i : Nat) : Int := lowB (PlainAid.bt S i)
/-- A name's small form. -/
def lowT (S : ByteArray) : ByteArray := strF (lowF S) 0 S.size
def DotIn (S : ByteArray) : Prop := ∃ i, i < S.size ∧ PlainAid.bt S i = 46
def dotDll : ByteArray := ⟨#[46, 100, 108, 108]⟩

theorem lowB_bd {c : Int} (h0 : 0 ≤ c) (h1 : c ≤ 255) : 0 ≤ lowB c ∧ lowB c ≤ 255 := by unfold lowB; split <;> omega
theorem low255 (S : ByteArray) : Bytes255 (lowF S) := fun i => lowB_bd (bt255 S i).1 (bt255 S i).2
theorem lowT_size (S : ByteArray) : (lowT S).size = S.size := strF_size _ _ _
theorem lowT_bt {S : ByteArray} {i : Nat} (h : i < S.size) : PlainAid.bt (lowT S) i = lowB (PlainAid.bt S i) := by
  rw [show lowT S = strF (lowF S) 0 S.size from rfl, bt_strF (low255 S) h, Nat.zero_add]; rfl
theorem lowB_dot {c : Int} : lowB c = 46 ↔ c = 46 := by unfold lowB; split <;> omega
theorem lowT_dot (S : ByteArray) : DotIn (lowT S) ↔ DotIn S := by
  unfold DotIn
  rw [lowT_size]
  constructor
  · rintro ⟨i, hi, h⟩; rw [lowT_bt hi, lowB_dot] at h; exact ⟨i, hi, h⟩
  · rintro ⟨i, hi, h⟩; exact ⟨i, hi, by rw [lowT_bt hi, lowB_dot]; exact h⟩

/-- What a store of the small letters makes, when k of them are done. -/
def keyF (S : ByteArray) (k j : Nat) : Value := .int .u8 (if j < k then lowF S j else PlainAid.bt S j)
theorem keyF_zero (S : ByteArray) (j : Nat) : keyF S 0 j = .int .u8 (PlainAid.bt S j) := by simp [keyF]
theorem keyF_at (S : ByteArray) (k : Nat) : keyF S k k = .int .u8 (PlainAid.bt S k) := by simp [keyF]
theorem keyF_up (S : ByteArray) (k j : Nat) (x : Int) (h : lowF S k = x) : (if j = k then .int .u8 x else keyF S k j) = keyF S (k + 1) j := by
  unfold keyF
  by_cases e : j = k
  · subst e; rw [if_pos rfl, if_pos (by omega), h]
  · rw [if_neg e]
    by_cases h3 : j < k
    · rw [if_pos h3, if_pos (by omega)]
    · rw [if_neg h3, if_neg (by omega)]
theorem keyF_same (S : ByteArray) (k j : Nat) (h : lowF S k = PlainAid.bt S k) : keyF S k j = keyF S (k + 1) j := by
  unfold keyF
  by_cases e : j = k
  · subst e; rw [if_neg (by omega), if_pos (by omega), h]
  · by_cases h3 : j < k
    · rw [if_pos h3, if_pos (by omega)]
    · rw [if_neg h3, if_neg (by omega)]

theorem own_bytes (w : World) (S : ByteArray) (cap : Nat) (lo hi : Nat) (h1 : S.size ≤ lo) :
    Own (w.alloc (.cells (bytesRow S cap) 5 (lo, hi))) w.heap.size S.size (fun i => .int .u8 (PlainAid.bt S i)) := by
  refine ⟨by simp, fun i hi' => ⟨?_, ?_⟩⟩
  · have hi2 : i < S.data.size := hi'
    rw [World.cell?_alloc_mark w (bytesRow S cap) 5 (lo, hi) i, bytesRow_at S cap i hi2]
    show _ = some (Value.int .u8 (PlainAid.bt S i))
    unfold PlainAid.bt
    rw [dif_pos hi']
    rfl
  · rw [World.frozen?_alloc_mark w (bytesRow S cap) 5 lo hi i]
    simp only [Bool.and_eq_false_iff, decide_eq_false_iff_not]
    left
    omega

theorem bytesRow_size (S : ByteArray) (cap : Nat) (h : S.size ≤ cap) : (bytesRow S cap).size = cap := by
  have : S.data.size = S.size := rfl
  simp [bytesRow]
  omega

theorem dot_any (T : ByteArray) (w : World) : Calls Try.prog 29 #[.string T, .string ⟨#[46]⟩] w fun e w' => e = .returned (.bool (decide (0 ≤ Lib.indexByte T.data.toList 46))) ∧ w = w' :=
  (Try.strings_Contains_one T 46 w).mono fun _ _ ⟨h1, h2⟩ => ⟨h1, h2.symm⟩

theorem bt_get (T : ByteArray) (i : Nat) (c : UInt8) (hi : i < T.size) : PlainAid.bt T i = c.toNat ↔ T.data.toList[i]? = some c := by
  have hi2 : i < T.data.size := hi
  unfold PlainAid.bt
  rw [dif_pos hi, Array.getElem?_toList, Array.getElem?_eq_getElem hi2]
  constructor
  · intro h
    have : T.data[i] = c := UInt8.toNat_inj.1 (Int.ofNat.inj h)
    rw [this]
  · intro h
    injection h with h
    show ((T.data[i].toNat : Nat) : Int) = _
    rw [h]

theorem dot_iff (T : ByteArray) : 0 ≤ Lib.indexByte T.data.toList 46 ↔ DotIn T := by
  constructor
  · intro h
    obtain ⟨o, ho⟩ := Int.eq_ofNat_of_zero_le h
    have h1 := (Lib.indexByte_some ho).1
    have hi : o < T.size := by
      rcases Nat.lt_or_ge o T.size with h2 | h2
      · exact h2
      · rw [List.getElem?_eq_none (by simpa using h2)] at h1; cases h1
    exact ⟨o, hi, (bt_get T o 46 hi).2 h1⟩
  · rintro ⟨i, hi, h⟩
    rcases Int.lt_or_le (Lib.indexByte T.data.toList 46) 0 with h1 | h1
    · have h2 := Lib.indexByte_ge T.data.toList 46
      exact absurd ((bt_get T i 46 hi).1 h) (Lib.indexByte_none (show Lib.indexByte T.data.toList 46 = -1 by omega) i)
    · exact h1

/-- Key's answer. -/
def KeyOf (S T : ByteArray) : Prop := (DotIn S → T = lowT S) ∧ (¬ DotIn S → T = lowT S ++ dotDll)

theorem key_any (S T : ByteArray) (w : World) (hs : S.size ≤ 140737488355328) (hT : KeyOf S T) :
    Calls Try.prog 27 #[.string S] w fun e w' => e = .returned (.string T) ∧ Below w.heap.size w w' := by
  have hcv := fun (W : World) => run_bytes_of_string (P := Try.prog) W 9 29 5 S Try.underlying9 Try.underlying29 Try.underlying5
  have hcap := grownCap_ge w S.size 0 5
  have hown0 := own_bytes w S (grownCap w S.size 0 5) (bytesRow S (grownCap w S.size 0 5)).size ((bytesRow S (grownCap w S.size 0 5)).size + 1) (by rw [bytesRow_size S _ hcap]; exact hcap)
  have HO := Lib.hid hown0
  have HT := Lib.hid hT
  clear hown0 hT
  go_enter Try.func27, Try.ntmps27
  go_wp2
  clear hcv
  go_loopw [11] (fun i wr => ∃ k : Nat, k ≤ S.size ∧ i = .int .i64 k ∧ Own wr w.heap.size S.size (keyF S k) ∧ Below w.heap.size w wr) (fun i _ => S.size - (intOf i).toNat)
  case atStart => exact ⟨0, by omega, rfl, (Own.drew HO.out).congr fun j _ => (keyF_zero S j).symm, ((Below.refl _ _).alloc (Nat.le_refl _) _).drew⟩
  case round =>
    obtain ⟨k, hk, rfl, hown, hbel⟩ := hrel
    by_cases hlt : k < S.size
    · have hc := hown.cell hlt
      rw [keyF_at] at hc
      have hz := hown.frozen hlt
      have hb1 := (bt255 S k).1
      have hb2 := (bt255 S k).2
      by_cases hu : 65 ≤ PlainAid.bt S k ∧ PlainAid.bt S k ≤ 90
      · have hu1 := hu.1
        have hu2 := hu.2
        go_wp2
        go_roundw
        case rel => exact ⟨k + 1, by omega, by go_num, (hown.set hlt _).congr fun j _ => keyF_up S k j _ (by unfold lowF lowB; rw [if_pos hu]; omega), hbel.setCell (Nat.le_refl _) _⟩
        case measure => simp [intOf]; omega
      · have hsame : lowF S k = PlainAid.bt S k := by unfold lowF lowB; rw [if_neg hu]
        by_cases hu1 : 65 ≤ PlainAid.bt S k
        · have hu2 : ¬ PlainAid.bt S k ≤ 90 := by omega
          go_wp2
          go_roundw
          case rel => exact ⟨k + 1, by omega, by go_num, hown.congr fun j _ => keyF_same S k j hsame, hbel⟩
          case measure => simp [intOf]; omega
        · go_wp2
          go_roundw
          case rel => exact ⟨k + 1, by omega, by go_num, hown.congr fun j _ => keyF_same S k j hsame, hbel⟩
          case measure => simp [intOf]; omega
    · obtain rfl : k = S.size := by omega
      have hstr := fun (c : Nat) => show (convert 29 9 (.slice (some ⟨w.heap.size, 0, none⟩) S.size c)).run Try.prog wr = .ok (.string (lowT S)) wr from
        run_str (own_row (f' := lowF S) hown fun i hi => by unfold keyF; rw [if_pos hi])
      have hz2 : (lowT S).size ≤ 140737488355328 := by rw [lowT_size]; exact hs
      by_cases hd : DotIn S
      · have hdd : decide (0 ≤ Lib.indexByte (lowT S).data.toList 46) = true := decide_eq_true ((dot_iff _).2 ((lowT_dot S).2 hd))
        go_wp2_with (go_at_call 29; refine (dot_any _ _).mono ?_; rintro e w' ⟨rfl, rfl⟩)
        go_ret
        exact ⟨by rw [HT.out.1 hd]; rfl, hbel⟩
      · have hdd : decide (0 ≤ Lib.indexByte (lowT S).data.toList 46) = false := decide_eq_false fun h => hd ((lowT_dot S).1 ((dot_iff _).1 h))
        have hadd := fun (W : World) => run_string_add_sum (P := Try.prog) W (lowT S) dotDll (by have : dotDll.size = 4 := rfl; omega)
        unfold dotDll at hadd
        go_wp2_with (go_at_call 29; refine (dot_any _ _).mono ?_; rintro e w' ⟨rfl, rfl⟩)
        go_ret
        exact ⟨by rw [HT.out.2 hd]; rfl, hbel⟩
end Go.Proofs.Ytbghgjhenahcgaa
