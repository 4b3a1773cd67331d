/- The walk of the law FoldBounds. -/
import Derived.Test.YtbjabncefhgefaaAwake2
namespace Go.Proofs.Ytbjabncefhgefaa
open Go.ChangeShapes Go.WideShapes Go.ChangeAt Go.RowKit
set_option linter.unusedVariables false
set_option linter.unusedSimpArgs false

theorem cat_data (A B : ByteArray) : (A ++ B).data = A.data ++ B.data := by simp

theorem bt_list (S : ByteArray) (i : Nat) : PlainAid.bt S i = ((S.data.toList[i]?.map fun c => (c.toNat : Int)).getD 0) := by
  unfold PlainAid.bt
  by_cases h : i < S.size
  · have h2 : i < S.data.size := h
    rw [dif_pos h, Array.getElem?_toList, Array.getElem?_eq_getElem h2]
    rfl
  · have h2 : S.data.size ≤ i := Nat.le_of_not_lt h
    rw [dif_neg h, Array.getElem?_toList, Array.getElem?_eq_none h2]
    rfl

theorem bt_cat (A B : ByteArray) (i : Nat) : PlainAid.bt (A ++ B) i = if i < A.size then PlainAid.bt A i else PlainAid.bt B (i - A.size) := by
  rw [bt_list, bt_list, bt_list, cat_data, Array.toList_append]
  have hs : A.data.toList.length = A.size := by simp
  by_cases h : i < A.size
  · rw [if_pos h, List.getElem?_append_left (by omega)]
  · rw [if_neg h, List.getElem?_append_right (by omega), hs]

theorem ext_bt {S T : ByteArray} (h : S.size = T.size) (e : ∀ i, i < S.size → PlainAid.bt S i = PlainAid.bt T i) : S = T := by
  have h1 := strF_bt S
  have h2 := strF_bt T
  rw [← h1, ← h2, ← h]
  exact strF_congr fun i hi => by rw [Nat.zero_add]; exact e i hi

theorem extract_size (S : ByteArray) (a b : Nat) (h : b ≤ S.size) : (S.extract a b).size = b - a := by rw [ByteArray.size_extract]; omega

theorem bt_extract (S : ByteArray) (o n i : Nat) (h : o + n ≤ S.size) (hi : i < n) : PlainAid.bt (S.extract o (o + n)) i = PlainAid.bt S (o + i) := by
  rw [extract_bt S o n h, bt_strF (bt255 S) hi]

theorem extract_left (A B : ByteArray) : (A ++ B).extract 0 A.size = A := by
  have hz : (A ++ B).size = A.size + B.size := ByteArray.size_append
  refine ext_bt (by rw [extract_size _ _ _ (by omega)]; omega) fun i hi => ?_
  rw [extract_size _ _ _ (by omega)] at hi
  have := bt_extract (A ++ B) 0 A.size i (by omega) (by omega)
  rw [Nat.zero_add, Nat.zero_add] at this
  rw [this, bt_cat, if_pos (by omega)]

theorem extract_right (A B : ByteArray) (k : Nat) (hk : k ≤ B.size) : (A ++ B).extract (A.size + k) (A ++ B).size = B.extract k B.size := by
  have hz : (A ++ B).size = A.size + B.size := ByteArray.size_append
  refine ext_bt (by rw [extract_size _ _ _ (by omega), extract_size _ _ _ (by omega)]; omega) fun i hi => ?_
  rw [extract_size _ _ _ (by omega)] at hi
  have e1 := bt_extract (A ++ B) (A.size + k) (B.size - k) i (by omega) (by omega)
  have e2 := bt_extract B k (B.size - k) i (by omega) (by omega)
  rw [show A.size + k + (B.size - k) = (A ++ B).size by omega] at e1
  rw [show k + (B.size - k) = B.size by omega] at e2
  rw [e1, e2, bt_cat, if_neg (by omega)]
  congr 1; omega

/-- A text of n times one byte. -/
def repT (c : Int) (n : Nat) : ByteArray := strF (fun _ => c) 0 n
theorem repT_size (c : Int) (n : Nat) : (repT c n).size = n := strF_size _ _ _
theorem repT_bt (n i : Nat) (h : i < n) : PlainAid.bt (repT 120 n) i = 120 := bt_strF (f := fun _ => 120) (fun _ => ⟨show (0 : Int) ≤ 120 by omega, show (120 : Int) ≤ 255 by omega⟩) h

theorem rep_ok (n : Nat) (h1 : 1 ≤ n) (h2 : n ≤ 40) : OkName (repT 120 n) := ⟨by rw [repT_size]; exact h1, by rw [repT_size]; exact h2, fun i hi => by rw [repT_size] at hi; rw [repT_bt n i hi]; decide⟩
theorem rep_no (n : Nat) (h : ¬ (1 ≤ n ∧ n ≤ 40)) : ¬ OkName (repT 120 n) := fun hk => h ⟨by have := hk.1; rwa [repT_size] at this, by have := hk.2.1; rwa [repT_size] at this⟩
theorem rep_sym (n : Nat) (h1 : 1 ≤ n) (h2 : n ≤ 60) : OkSym (repT 120 n) :=
  ⟨by rw [repT_size]; exact h1, by rw [repT_size]; exact h2, by rw [repT_bt n 0 (by omega)]; decide, fun i hi => by rw [repT_size] at hi; rw [repT_bt n i hi]; decide⟩
theorem rep_nosym (n : Nat) (h : ¬ (1 ≤ n ∧ n ≤ 60)) : ¬ OkSym (repT 120 n) := fun hk => h ⟨by have := hk.1; rwa [repT_size] at this, by have := hk.2.1; rwa [repT_size] at this⟩

theorem cat_f (n : Nat) : LastDot (repT 120 n ++ ⟨#[46, 102]⟩) (repT 120 n) ⟨#[102]⟩ n := by
  have hz : (repT 120 n ++ ⟨#[46, 102]⟩).size = n + 2 := by rw [ByteArray.size_append, repT_size]; rfl
  refine ⟨by omega, ?_, fun j h1 h2 => ?_, ?_, ?_⟩
  · rw [bt_cat, repT_size, if_neg (by omega), Nat.sub_self]; decide
  · obtain rfl : j = n + 1 := by omega
    rw [bt_cat, repT_size, if_neg (by omega), show n + 1 - n = 1 by omega]; decide
  · have := extract_left (repT 120 n) ⟨#[46, 102]⟩
    rwa [repT_size] at this
  · have := extract_right (repT 120 n) ⟨#[46, 102]⟩ 1 (by decide)
    rw [repT_size] at this
    rw [this]; decide

theorem cat_a (n : Nat) : LastDot (⟨#[97, 46]⟩ ++ repT 120 n) ⟨#[97]⟩ (repT 120 n) 1 := by
  have hz : ((⟨#[97, 46]⟩ : ByteArray) ++ repT 120 n).size = 2 + n := by rw [ByteArray.size_append, repT_size]; rfl
  have h2s : (⟨#[97, 46]⟩ : ByteArray).size = 2 := rfl
  refine ⟨by omega, ?_, fun j h1 h2 => ?_, ?_, ?_⟩
  · rw [bt_cat, if_pos (by omega)]; decide
  · rw [bt_cat, if_neg (by omega), repT_bt n _ (by omega)]; decide
  · refine ext_bt (by rw [extract_size _ _ _ (by omega)]; rfl) fun i hi => ?_
    rw [extract_size _ _ _ (by omega)] at hi
    obtain rfl : i = 0 := by omega
    have := bt_extract ((⟨#[97, 46]⟩ : ByteArray) ++ repT 120 n) 0 1 0 (by omega) (by omega)
    rw [Nat.zero_add] at this
    rw [this, bt_cat, if_pos (by omega)]; decide
  · have := extract_right (⟨#[97, 46]⟩ : ByteArray) (repT 120 n) 0 (by omega)
    rw [h2s] at this
    rw [this]
    have e := extract_left (repT 120 n) ByteArray.empty
    refine ext_bt (by rw [extract_size _ _ _ (Nat.le_refl _)]; omega) fun i hi => ?_
    rw [extract_size _ _ _ (Nat.le_refl _)] at hi
    have := bt_extract (repT 120 n) 0 (repT 120 n).size i (by omega) (by omega)
    rw [Nat.zero_add, Nat.zero_add] at this
    exact this

theorem extract_bt0 (S : ByteArray) (p : Nat) (h : p < S.size) : S.extract 0 p = strF (PlainAid.bt S) 0 p := by
  have := extract_bt S 0 p (by omega)
  rwa [Nat.zero_add] at this
theorem lit_aok : OkName ⟨#[97]⟩ := by unfold OkName; decide

end Go.Proofs.Ytbjabncefhgefaa
