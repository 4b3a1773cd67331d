/- The walk of the law FoldBounds. -/
import Derived.Test.YtclholeopgfakaaAwake2
namespace Go.Proofs.Ytclholeopgfakaa
open Go.ChangeShapes Go.WideShapes Go.ChangeAt Go.RowKit
set_option linter.unusedVariables false

theorem cat_data (A B : ByteArray) : (A ++ B).data = A.data ++ B.data := by simp

theorem bt_list (S : ByteArray) (i : Nat) : PlainAid.bt S i = ((S.data.toList[i]?.map fun c => (c.toNat : Int)).getD 0) := by
  unfold PlainAid.bt
  by_cases h : i < S.size
  · have h2 : i < S.data.size := h
    rw [dif_pos h, Array.getElem?_toList, Array.getElem?_eq_getElem h2]
    rfl
  · have h2 : S.data.size ≤ i := Nat.le_of_not_lt h
    rw [dif_neg h, Array.getElem?_toList, Array.getElem?_eq_none h2]
    rfl

theorem bt_cat (A B : ByteArray) (i : Nat) : PlainAid.bt (A ++ B) i = if i < A.size then PlainAid.bt A i else PlainAid.bt B (i - A.size) := by
  rw [bt_list, bt_list, bt_list, cat_data, Array.toList_append]
  have hs : A.data.toList.length = A.size := by simp
  by_cases h : i < A.size
  · rw [if_pos h, List.getElem?_append_left (by omega)]
  · rw [if_neg h, List.getElem?_append_right (by omega), hs]

theorem ext_bt {S T : ByteArray} (h : S.size = T.size) (e : ∀ i, i < S.size → PlainAid.bt S i = PlainAid.bt T i) : S = T := by
  have h1 := strF_bt S
  have h2 := strF_bt T
  rw [← h1, ← h2, ← h]
  exact strF_congr fun i hi => by rw [Nat.zero_add]; exact e i hi

theorem extract_size (S : ByteArray) (a b : Nat) (h : b ≤ S.size) : (S.extract a b).size = b - a := by rw [ByteArray.size_extract]; omega

theorem bt_extract (S : ByteArray) (o n i : Nat) (h : o + n ≤ S.size) (hi : i < n) : PlainAid.bt (S.extract o (o + n)) i = PlainAid.bt S (o + i) := by
  rw [extract_bt S o n h, bt_strF (bt255 S) hi]

theorem extract_left (A B : ByteArray) : (A ++ B).extract 0 A.size = A := by
  have hz : (A ++ B).size = A.size + B.size := ByteArray.size_append
  refine ext_bt (by rw [extract_size _ _ _ (by omega)]; omega) fun i hi => ?_
  rw [extract_size _ _ _ (by omega)] at hi
  have := bt_extract (A ++ B) 0 A.size i (by omega) (by omega)
  rw [Nat.zero_add, Nat.zero_add] at this
  rw [this, bt_cat, if_pos (by omega)]

theorem extract_right (A B : ByteArray) (k : Nat) (hk : k ≤ B.size) : (A ++ B).extract (A.size + k) (A ++ B).size = B.extract k B.size := by
  have hz : (A ++ B).size = A.size + B.size := ByteArray.size_append
  refine ext_bt (by rw [extract_size _ _ _ (by omega), extract_size _ _ _ (by omega)]; omega) fun i hi => ?_
  rw [extract_size _ _ _ (by omega)] at hi
  have e1 := bt_extract (A ++ B) (A.size + k) (B.size - k) i (by omega) (by omega)
  have e2 := bt_extract B k (B.size - k) i (by omega) (by omega)
  rw [show A.size + k + (B.size - k) = (A ++ B).size by omega] at e1
  rw [show k + (B.size - k) = B.size by omega] at e2
  rw [e1, e2, bt_cat, if_neg (by omega)]
  congr 1; omega

/-- A text of n times one byte. -/
def repT (c : Int) (n : Nat) : ByteArray := strF (fun _ => c) 0 n
theorem repT_size (c : Int) (n : Nat) : (repT c n).size = n := strF_size _ _ _
theorem repT_bt (n i : Nat) (h : i < n) : PlainAid.bt (repT 120 n) i = 120 := bt_strF (f := fun _ => 120) (fun _ => ⟨show (0 : Int) ≤ 120 by omega, show (120 : Int) ≤ 255 by omega⟩) h

theorem rep_ok (n : Nat) (h1 : 1 ≤ n) (h2 : n ≤ 40) : OkName (repT 120 n) := ⟨by rw [repT_size]; exact h1, by rw [repT_size]; exact h2, fun i hi => by rw [repT_size] at hi; rw [repT_bt n i hi]; decide⟩
theorem rep_no (n : Nat) (h : ¬ (1 ≤ n ∧ n ≤ 40)) : ¬ OkName (repT 120 n) := fun hk => h ⟨by have := hk.1; rwa [repT_size] at this, by have := hk.2.1; rwa [repT_size] at this⟩
theorem rep_sym (n : Nat) (h1 : 1 ≤ n) (h2 : n ≤ 60) : OkSym (repT 120 n) :=
  ⟨by rw [repT_size]; exact h1, by rw [repT_size]; exact h2, by rw [repT_bt n 0 (by omega)]; decide, fun i hi => by rw [repT_size] at hi; rw [repT_bt n i hi]; decide⟩
theorem rep_nosym (n : Nat) (h : ¬ (1 ≤ n ∧ n ≤ 60)) : ¬ OkSym (repT 120 n) := fun hk => h ⟨by have := hk.1; rwa [repT_size] at this, by have := hk.2.1; rwa [repT_size] at this⟩

theorem cat_f (n : Nat) : LastDot (repT 120 n ++ ⟨#[46, 102]⟩) (repT 120 n) ⟨#[102]⟩ n := by
  have hz : (repT 120 n ++ ⟨#[46, 102]⟩).size = n + 2 := by rw [ByteArray.size_append, repT_size]; rfl
  refine ⟨by omega, ?_, fun j h1 h2 => ?_, ?_, ?_⟩
  · rw [bt_cat, repT_size, if_neg (by omega), Nat.sub_self]; decide
  · obtain rfl : j = n + 1 := by omega
    rw [bt_cat, repT_size, if_neg (by omega), show n + 1 - n = 1 by omega]; decide
  · have := extract_left (repT 120 n) ⟨#[46, 102]⟩
    rwa [repT_size] at this
  · have := extract_right (repT 120 n) ⟨#[46, 102]⟩ 1 (by decide)
    rw [repT_size] at this
    rw [this]; decide

theorem cat_a (n : Nat) : LastDot (⟨#[97, 46]⟩ ++ repT 120 n) ⟨#[97]⟩ (repT 120 n) 1 := by
  have hz : ((⟨#[97, 46]⟩ : ByteArray) ++ repT 120 n).size = 2 + n := by rw [ByteArray.size_append, repT_size]; rfl
  have h2s : (⟨#[97, 46]⟩ : ByteArray).size = 2 := rfl
  refine ⟨by omega, ?_, fun j h1 h2 => ?_, ?_, ?_⟩
  · rw [bt_cat, if_pos (by omega)]; decide
  · rw [bt_cat, if_neg (by omega), repT_bt n _ (by omega)]; decide
  · refine ext_bt (by rw [extract_size _ _ _ (by omega)]; rfl) fun i hi => ?_
    rw [extract_size _ _ _ (by omega)] at hi
    obtain rfl : i = 0 := by omega
    have := bt_extract ((⟨#[97, 46]⟩ : ByteArray) ++ repT 120 n) 0 1 0 (by omega) (by omega)
    rw [Nat.zero_add] at this
    rw [this, bt_cat, if_pos (by omega)]; decide
  · have := extract_right (⟨#[97, 46]⟩ : ByteArray) (repT 120 n) 0 (by omega)
    rw [h2s] at this
    rw [this]
    have e := extract_left (repT 120 n) ByteArray.empty
    refine ext_bt (by rw [extract_size _ _ _ (Nat.le_refl _)]; omega) fun i hi => ?_
    rw [extract_size _ _ _ (Nat.le_refl _)] at hi
    have := bt_extract (repT 120 n) 0 (repT 120 n).size i (by omega) (by omega)
    rw [Nat.zero_add, Nat.zero_add] at this
    exact this

theorem extract_bt0 (S : ByteArray) (p : Nat) (h : p < S.size) : S.extract 0 p = strF (PlainAid.bt S) 0 p := by
  have := extract_bt S 0 p (by omega)
  rwa [Nat.zero_add] at this
theorem lit_aok : OkName ⟨#[97]⟩ := by unfold OkName; decide

set_option maxHeartbeats 2000000 in
theorem foldBounds_walk (n : Int) (w : World) :
    Calls Try.prog 9 #[.int .i64 n] w fun e w' => e = .returned (.bool true) ∧ Below w.heap.size w w' := by
  have m1 : bits .and .i64 n 127 = n % 128 := i64_mask n 7 (by omega)
  obtain ⟨m, hm0, hm⟩ : ∃ m : Nat, n % 128 = m ∧ m < 128 := ⟨(n % 128).toNat, by omega, by omega⟩
  have hmk := run_make_row' (P := Try.prog) 22 5 (.int .u8 0) 1 Try.underlying22 infoU8 rfl .i64 .i64 m (by omega) (by omega)
  go_enter Try.func9, Try.ntmps9
  go_wp2
  clear hmk m1 hm0
  go_loopw [18] (fun i wr => ∃ k : Nat, k ≤ m ∧ i = .int .i64 k ∧ Own wr w.heap.size m (fun j => .int .u8 (if j < k then 120 else 0)) ∧ Below w.heap.size w wr) (fun i _ => m - (intOf i).toNat)
  case atStart => exact ⟨0, by omega, rfl, (Own.of_row (World.rowIs_made _ _ _ _)).congr fun j _ => by simp, (Below.refl _ _).alloc (Nat.le_refl _) _⟩
  case round =>
    obtain ⟨k, hk, rfl, hown, hbel⟩ := hrel
    by_cases hlt : k < m
    · have hc := hown.cell hlt
      have hz := hown.frozen hlt
      go_wp2
      go_roundw
      case rel =>
        refine ⟨k + 1, by omega, by go_num, (hown.set hlt _).congr fun j _ => ?_, hbel.setCell (Nat.le_refl _) _⟩
        by_cases e : j = k
        · subst e; rw [if_pos rfl, if_pos (by omega)]
        · rw [if_neg e]
          by_cases h3 : j < k
          · rw [if_pos h3, if_pos (by omega)]
          · rw [if_neg h3, if_neg (by omega)]
      case measure => simp [intOf]; omega
    · obtain rfl : k = m := by omega
      have hstr := fun (c : Nat) => show (convert 22 9 (.slice (some ⟨w.heap.size, 0, none⟩) k c)).run Try.prog wr = .ok (.string (repT 120 k)) wr from
        run_str (own_row (f' := fun _ => 120) hown fun i hi => by rw [if_pos hi])
      have hz1 : (repT 120 k).size ≤ 127 := by rw [repT_size]; omega
      have hzs : (repT 120 k).size ≤ 9223372036854775807 := by omega
      have hzf : (repT 120 k ++ ⟨#[46, 102]⟩).size ≤ 140737488355400 := by rw [ByteArray.size_append]; have : (⟨#[46, 102]⟩ : ByteArray).size = 2 := rfl; omega
      have hza : ((⟨#[97, 46]⟩ : ByteArray) ++ repT 120 k).size ≤ 140737488355400 := by rw [ByteArray.size_append]; have : (⟨#[97, 46]⟩ : ByteArray).size = 2 := rfl; omega
      have ha1 := fun (W : World) => run_string_add_sum (P := Try.prog) W (repT 120 k) ⟨#[46, 102]⟩ (by have : (⟨#[46, 102]⟩ : ByteArray).size = 2 := rfl; omega)
      have ha2 := fun (W : World) => run_string_add_sum (P := Try.prog) W ⟨#[97, 46]⟩ (repT 120 k) (by have : (⟨#[97, 46]⟩ : ByteArray).size = 2 := rfl; omega)
      have h0 : (repT 120 k).size = 0 ∨ PlainAid.bt (repT 120 k) 0 ≠ 35 := by
        rw [repT_size]
        by_cases h : k = 0
        · exact .inl h
        · right; rw [repT_bt k 0 (by omega)]; decide
      have H0 := Lib.hid h0
      clear h0 hown hz1
      by_cases h1 : 1 ≤ k
      · by_cases h2 : k ≤ 40
        · have h3 := h1
          have h4 : k ≤ 60 := by omega
          have d1 : (1 : Int) ≤ k := by omega
          have d2 : (k : Int) ≤ 40 := by omega
          have d3 : (k : Int) ≤ 60 := by omega
          go_wp2_with fail
          refine (split_sym _ _ _ k _ hzf (cat_f k) (rep_ok k h1 h2) lit_sym).mono ?_
          rintro e w2 ⟨rfl, hb2⟩
          go_wp2_with fail
          refine (split_sym _ _ _ 1 _ hza (cat_a k) lit_aok (rep_sym k h3 h4)).mono ?_
          rintro e w3 ⟨rfl, hb3⟩
          have hb4 : Below w.heap.size w w3 := ((hbel.trans (hb2.mono hbel.size)).alloc (Nat.le_trans hbel.size hb2.size) _).trans (hb3.mono (Nat.le_trans (Nat.le_trans hbel.size hb2.size) (by simp)))
          clear hb2 hb3
          go_wp2_with (first | (go_at_call 23; refine (ok_yes _ _ (rep_ok k h1 h2)).mono ?_; rintro e w' ⟨rfl, rfl⟩) | (go_at_call 24; refine (symok_yes _ _ (rep_sym k h3 h4)).mono ?_; rintro e w' ⟨rfl, rfl⟩) | (go_at_call 25; refine (awake2 _).mono ?_; rintro e w6 ⟨rfl, hb6⟩))
          go_ret
          exact ⟨rfl, (hb4.alloc hb4.size _).trans (hb6.mono (Nat.le_trans hb4.size (by simp)))⟩
        · by_cases h4 : k ≤ 60
          · have h3 := h1
            have h1 : ¬ (1 ≤ k ∧ k ≤ 40) := by omega
            have d1 : (1 : Int) ≤ k := by omega
            have d2 : decide ((k : Int) ≤ 40) = false := decide_eq_false (by omega)
            have d3 : (k : Int) ≤ 60 := by omega
            go_wp2_with fail
            refine (split_none _ _ hzf (.inr ⟨k, (cat_f k).lt, (cat_f k).dot, (cat_f k).last, by rw [← extract_bt0 _ _ (cat_f k).lt, (cat_f k).ahead]; exact rep_no k h1⟩)).mono ?_
            rintro e w2 ⟨rfl, hb2⟩
            go_wp2_with fail
            refine (split_sym _ _ _ 1 _ hza (cat_a k) lit_aok (rep_sym k h3 h4)).mono ?_
            rintro e w3 ⟨rfl, hb3⟩
            have hb4 : Below w.heap.size w w3 := ((hbel.trans (hb2.mono hbel.size)).alloc (Nat.le_trans hbel.size hb2.size) _).trans (hb3.mono (Nat.le_trans (Nat.le_trans hbel.size hb2.size) (by simp)))
            clear hb2 hb3
            go_wp2_with (first | (go_at_call 23; refine (ok_no _ _ hzs (rep_no k h1)).mono ?_; rintro e w' ⟨rfl, rfl⟩) | (go_at_call 24; refine (symok_yes _ _ (rep_sym k h3 h4)).mono ?_; rintro e w' ⟨rfl, rfl⟩) | (go_at_call 25; refine (awake2 _).mono ?_; rintro e w6 ⟨rfl, hb6⟩))
            go_ret
            exact ⟨rfl, (hb4.alloc hb4.size _).trans (hb6.mono (Nat.le_trans hb4.size (by simp)))⟩
          · have h3 : ¬ (1 ≤ k ∧ k ≤ 60) := by omega
            have h0 := H0.out
            have h1 : ¬ (1 ≤ k ∧ k ≤ 40) := by omega
            have d1 : (1 : Int) ≤ k := by omega
            have d2 : decide ((k : Int) ≤ 40) = false := decide_eq_false (by omega)
            have d3 : decide ((k : Int) ≤ 60) = false := decide_eq_false (by omega)
            clear h0
            go_wp2_with fail
            refine (split_none _ _ hzf (.inr ⟨k, (cat_f k).lt, (cat_f k).dot, (cat_f k).last, by rw [← extract_bt0 _ _ (cat_f k).lt, (cat_f k).ahead]; exact rep_no k h1⟩)).mono ?_
            rintro e w2 ⟨rfl, hb2⟩
            go_wp2_with fail
            refine (split_badsym _ _ _ 1 _ hza (cat_a k) lit_aok (rep_nosym k h3) H0.out).mono ?_
            rintro e w3 ⟨rfl, hb3⟩
            have hb4 : Below w.heap.size w w3 := ((hbel.trans (hb2.mono hbel.size)).alloc (Nat.le_trans hbel.size hb2.size) _).trans (hb3.mono (Nat.le_trans (Nat.le_trans hbel.size hb2.size) (by simp)))
            clear hb2 hb3
            go_wp2_with (first | (go_at_call 23; refine (ok_no _ _ hzs (rep_no k h1)).mono ?_; rintro e w' ⟨rfl, rfl⟩) | (go_at_call 24; refine (symok_no _ _ hzs (rep_nosym k h3)).mono ?_; rintro e w' ⟨rfl, rfl⟩) | (go_at_call 25; refine (awake2 _).mono ?_; rintro e w6 ⟨rfl, hb6⟩))
            go_ret
            exact ⟨rfl, (hb4.alloc hb4.size _).trans (hb6.mono (Nat.le_trans hb4.size (by simp)))⟩
      · have h3 : ¬ (1 ≤ k ∧ k ≤ 60) := by omega
        have d1 : ¬ (1 : Int) ≤ k := by omega
        have h1 : ¬ (1 ≤ k ∧ k ≤ 40) := by omega
        go_wp2_with fail
        refine (split_none _ _ hzf (.inr ⟨k, (cat_f k).lt, (cat_f k).dot, (cat_f k).last, by rw [← extract_bt0 _ _ (cat_f k).lt, (cat_f k).ahead]; exact rep_no k h1⟩)).mono ?_
        rintro e w2 ⟨rfl, hb2⟩
        go_wp2_with fail
        refine (split_badsym _ _ _ 1 _ hza (cat_a k) lit_aok (rep_nosym k h3) H0.out).mono ?_
        rintro e w3 ⟨rfl, hb3⟩
        have hb4 : Below w.heap.size w w3 := ((hbel.trans (hb2.mono hbel.size)).alloc (Nat.le_trans hbel.size hb2.size) _).trans (hb3.mono (Nat.le_trans (Nat.le_trans hbel.size hb2.size) (by simp)))
        clear hb2 hb3
        go_wp2_with (first | (go_at_call 23; refine (ok_no _ _ hzs (rep_no k h1)).mono ?_; rintro e w' ⟨rfl, rfl⟩) | (go_at_call 24; refine (symok_no _ _ hzs (rep_nosym k h3)).mono ?_; rintro e w' ⟨rfl, rfl⟩) | (go_at_call 25; refine (awake2 _).mono ?_; rintro e w6 ⟨rfl, hb6⟩))
        go_ret
        exact ⟨rfl, (hb4.alloc hb4.size _).trans (hb6.mono (Nat.le_trans hb4.size (by simp)))⟩
end Go.Proofs.Ytclholeopgfakaa
