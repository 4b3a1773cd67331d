/- The contracts of fold.Key and fold.Same. -/
import Derived.Test.YtbjabncefhgefaaFold
import Derived.Lib.IndexLaws
namespace Go.Proofs.Ytbjabncefhgefaa
open Go.ChangeShapes Go.WideShapes Go.ChangeAt Go.RowKit
set_option linter.unusedVariables false
set_option linter.unusedSimpArgs false

/-- A letter's small form. -/
def lowB (c : Int) : Int := if 65 ≤ c ∧ c ≤ 90 then c + 32 else c
def lowF (S : ByteArray) (i : Nat) : Int := lowB (PlainAid.bt S i)
/-- A name's small form. -/
def lowT (S : ByteArray) : ByteArray := strF (lowF S) 0 S.size
def DotIn (S : ByteArray) : Prop := ∃ i, i < S.size ∧ PlainAid.bt S i = 46
def dotDll : ByteArray := ⟨#[46, 100, 108, 108]⟩

theorem lowB_bd {c : Int} (h0 : 0 ≤ c) (h1 : c ≤ 255) : 0 ≤ lowB c ∧ lowB c ≤ 255 := by unfold lowB; split <;> omega
theorem low255 (S : ByteArray) : Bytes255 (lowF S) := fun i => lowB_bd (bt255 S i).1 (bt255 S i).2
theorem lowT_size (S : ByteArray) : (lowT S).size = S.size := strF_size _ _ _
theorem lowT_bt {S : ByteArray} {i : Nat} (h : i < S.size) : PlainAid.bt (lowT S) i = lowB (PlainAid.bt S i) := by
  rw [show lowT S = strF (lowF S) 0 S.size from rfl, bt_strF (low255 S) h, Nat.zero_add]; rfl
theorem lowB_dot {c : Int} : lowB c = 46 ↔ c = 46 := by unfold lowB; split <;> omega
theorem lowT_dot (S : ByteArray) : DotIn (lowT S) ↔ DotIn S := by
  unfold DotIn
  rw [lowT_size]
  constructor
  · rintro ⟨i, hi, h⟩; rw [lowT_bt hi, lowB_dot] at h; exact ⟨i, hi, h⟩
  · rintro ⟨i, hi, h⟩; exact ⟨i, hi, by rw [lowT_bt hi, lowB_dot]; exact h⟩

/-- What a store of the small letters makes, when k of them are done. -/
def keyF (S : ByteArray) (k j : Nat) : Value := .int .u8 (if j < k then lowF S j else PlainAid.bt S j)
theorem keyF_zero (S : ByteArray) (j : Nat) : keyF S 0 j = .int .u8 (PlainAid.bt S j) := by simp [keyF]
theorem keyF_at (S : ByteArray) (k : Nat) : keyF S k k = .int .u8 (PlainAid.bt S k) := by simp [keyF]
theorem keyF_up (S : ByteArray) (k j : Nat) (x : Int) (h : lowF S k = x) : (if j = k then .int .u8 x else keyF S k j) = keyF S (k + 1) j := by
  unfold keyF
  by_cases e : j = k
  · subst e; rw [if_pos rfl, if_pos (by omega), h]
  · rw [if_neg e]
    by_cases h3 : j < k
    · rw [if_pos h3, if_pos (by omega)]
    · rw [if_neg h3, if_neg (by omega)]
theorem keyF_same (S : ByteArray) (k j : Nat) (h : lowF S k = PlainAid.bt S k) : keyF S k j = keyF S (k + 1) j := by
  unfold keyF
  by_cases e : j = k
  · subst e; rw [if_neg (by omega), if_pos (by omega), h]
  · by_cases h3 : j < k
    · rw [if_pos h3, if_pos (by omega)]
    · rw [if_neg h3, if_neg (by omega)]

theorem own_bytes (w : World) (S : ByteArray) (cap : Nat) (lo hi : Nat) (h1 : S.size ≤ lo) :
    Own (w.alloc (.cells (bytesRow S cap) 5 (lo, hi))) w.heap.size S.size (fun i => .int .u8 (PlainAid.bt S i)) := by
  refine ⟨by simp, fun i hi' => ⟨?_, ?_⟩⟩
  · have hi2 : i < S.data.size := hi'
    rw [World.cell?_alloc_mark w (bytesRow S cap) 5 (lo, hi) i, bytesRow_at S cap i hi2]
    show _ = some (Value.int .u8 (PlainAid.bt S i))
    unfold PlainAid.bt
    rw [dif_pos hi']
    rfl
  · rw [World.frozen?_alloc_mark w (bytesRow S cap) 5 lo hi i]
    simp only [Bool.and_eq_false_iff, decide_eq_false_iff_not]
    left
    omega

theorem bytesRow_size (S : ByteArray) (cap : Nat) (h : S.size ≤ cap) : (bytesRow S cap).size = cap := by
  have : S.data.size = S.size := rfl
  simp [bytesRow]
  omega

theorem bt_get (T : ByteArray) (i : Nat) (c : UInt8) (hi : i < T.size) : PlainAid.bt T i = c.toNat ↔ T.data.toList[i]? = some c := by
  have hi2 : i < T.data.size := hi
  unfold PlainAid.bt
  rw [dif_pos hi, Array.getElem?_toList, Array.getElem?_eq_getElem hi2]
  constructor
  · intro h
    have : T.data[i] = c := UInt8.toNat_inj.1 (Int.ofNat.inj h)
    rw [this]
  · intro h
    injection h with h
    show ((T.data[i].toNat : Nat) : Int) = _
    rw [h]

theorem dot_iff (T : ByteArray) : 0 ≤ Lib.indexByte T.data.toList 46 ↔ DotIn T := by
  constructor
  · intro h
    obtain ⟨o, ho⟩ := Int.eq_ofNat_of_zero_le h
    have h1 := (Lib.indexByte_some ho).1
    have hi : o < T.size := by
      rcases Nat.lt_or_ge o T.size with h2 | h2
      · exact h2
      · rw [List.getElem?_eq_none (by simpa using h2)] at h1; cases h1
    exact ⟨o, hi, (bt_get T o 46 hi).2 h1⟩
  · rintro ⟨i, hi, h⟩
    rcases Int.lt_or_le (Lib.indexByte T.data.toList 46) 0 with h1 | h1
    · have h2 := Lib.indexByte_ge T.data.toList 46
      exact absurd ((bt_get T i 46 hi).1 h) (Lib.indexByte_none (show Lib.indexByte T.data.toList 46 = -1 by omega) i)
    · exact h1

/-- Key's answer. -/
def KeyOf (S T : ByteArray) : Prop := (DotIn S → T = lowT S) ∧ (¬ DotIn S → T = lowT S ++ dotDll)

end Go.Proofs.Ytbjabncefhgefaa
