/- A name's key, whatever the name. -/
import Derived.Test.YtbghgjhenahcgaaFoldKey
namespace Go.Proofs.Ytbghgjhenahcgaa
namespace KeyEx
open Go.ChangeShapes Go.WideShapes Go.ChangeAt Go.RowKit
set_option linter.unusedVariables false

theorem cat_data (A B : ByteArray) : (A ++ B).data = A.data ++ B.data := by simp

theorem bt_list (S : ByteArray) (i : Nat) : PlainAid.bt S i = ((S.data.toList[i]?.map fun c => (c.toNat : Int)).getD 0) := by
  unfold PlainAid.bt
  by_cases h : i < S.size
  · have h2 : i < S.data.size := h
    rw [dif_pos h, Array.getElem?_toList, Array.getElem?_eq_getElem h2]
    rfl
  · have h2 : S.data.size ≤ i := Nat.le_of_not_lt h
    rw [dif_neg h, Array.getElem?_toList, Array.getElem?_eq_none h2]
    rfl


theorem ext_bt {S T : ByteArray} (h : S.size = T.size) (e : ∀ i, i < S.size → PlainAid.bt S i = PlainAid.bt T i) : S = T := by
  have h1 := strF_bt S
  have h2 := strF_bt T
  rw [← h1, ← h2, ← h]
  exact strF_congr fun i hi => by rw [Nat.zero_add]; exact e i hi


theorem bt_cat (A B : ByteArray) (i : Nat) : PlainAid.bt (A ++ B) i = if i < A.size then PlainAid.bt A i else PlainAid.bt B (i - A.size) := by
  rw [bt_list, bt_list, bt_list, cat_data, Array.toList_append]
  have hs : A.data.toList.length = A.size := by simp
  by_cases h : i < A.size
  · rw [if_pos h, List.getElem?_append_left (by omega)]
  · rw [if_neg h, List.getElem?_append_right (by omega), hs]


theorem lowB_idem (c : Int) : lowB (lowB c) = lowB c := by
  unfold lowB
  by_cases h : 65 ≤ c ∧ c ≤ 90
  · rw [if_pos h, if_neg (by omega)]
  · rw [if_neg h, if_neg h]

theorem lowT_cat (A B : ByteArray) : lowT (A ++ B) = lowT A ++ lowT B := by
  refine ext_bt (by rw [lowT_size, ByteArray.size_append, ByteArray.size_append, lowT_size, lowT_size]) fun i hi => ?_
  rw [lowT_size, ByteArray.size_append] at hi
  rw [lowT_bt (by rw [ByteArray.size_append]; exact hi), bt_cat, bt_cat, lowT_size]
  by_cases h : i < A.size
  · rw [if_pos h, if_pos h, lowT_bt h]
  · rw [if_neg h, if_neg h, lowT_bt (by omega)]

theorem lowT_low (A : ByteArray) : lowT (lowT A) = lowT A := by
  refine ext_bt (by rw [lowT_size]) fun i hi => ?_
  rw [lowT_size, lowT_size] at hi
  rw [lowT_bt (by rw [lowT_size]; exact hi), lowT_bt hi, lowB_idem]

theorem dot_cat (A : ByteArray) {B : ByteArray} (h : DotIn B) : DotIn (A ++ B) := by
  obtain ⟨i, hi, e⟩ := h
  refine ⟨A.size + i, by rw [ByteArray.size_append]; omega, ?_⟩
  rw [bt_cat, if_neg (by omega), show A.size + i - A.size = i by omega, e]

theorem key_ex (S : ByteArray) : ∃ K, KeyOf S K ∧ KeyOf K K := by
  by_cases h : DotIn S
  · refine ⟨lowT S, ⟨fun _ => rfl, fun hn => absurd h hn⟩, fun _ => (lowT_low S).symm, fun hn => absurd ((lowT_dot S).2 h) hn⟩
  · refine ⟨lowT S ++ dotDll, ⟨fun hd => absurd hd h, fun _ => rfl⟩, fun _ => ?_, fun hn => absurd (dot_cat (lowT S) ⟨0, by decide, by decide⟩) hn⟩
    rw [lowT_cat, lowT_low]
    congr 1

end KeyEx
end Go.Proofs.Ytbghgjhenahcgaa
