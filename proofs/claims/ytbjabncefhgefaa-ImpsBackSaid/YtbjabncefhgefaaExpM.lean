/- Symbols' names, numbers behind a point and ways as lists of bytes: SymOk and Split. -/
import Derived.Test.YtbjabncefhgefaaNought
import Derived.Test.YtbjabncefhgefaaFoldOrd2
namespace Go.Proofs.Ytbjabncefhgefaa
open Go.ChangeShapes Go.WideShapes Go.ChangeAt Go.RowKit
set_option linter.unusedVariables false
set_option linter.unusedSimpArgs false

theorem bt_txt {t : List Nat} (h : Lb t) {i : Nat} (hi : i < t.length) : PlainAid.bt (txt t) i = lF t i := txt_bt h hi
theorem lF_get {t : List Nat} {i : Nat} (hi : i < t.length) : lF t i = (t[i] : Int) := by simp [lF, List.getD, hi]
theorem lF_head {t : List Nat} (h : 0 < t.length) : lF t 0 = (t.headD 0 : Nat) := by
  cases t with
  | nil => simp at h
  | cons a r => rfl

def okSymL (t : List Nat) : Bool := decide (1 ≤ t.length) && decide (t.length ≤ 60) && (t.headD 0 != 35) && t.all fun c => decide (33 ≤ c) && decide (c ≤ 126)
theorem okSym_iff {t : List Nat} (h : Lb t) : OkSym (txt t) ↔ okSymL t = true := by
  unfold OkSym okSymL
  rw [txt_size]
  simp only [Bool.and_eq_true, decide_eq_true_eq, List.all_eq_true, and_assoc, bne_iff_ne, ne_eq]
  refine and_congr_right fun h1 => and_congr_right fun _ => and_congr ?_ ⟨fun k v hv => ?_, fun k i hi => ?_⟩
  · rw [bt_txt h (by omega), lF_head (by omega)]; omega
  · obtain ⟨i, hi, rfl⟩ := List.mem_iff_getElem.mp hv
    have := k i hi
    rw [bt_txt h hi, lF_get hi] at this
    omega
  · rw [bt_txt h hi, lF_get hi]
    have := k t[i] (List.getElem_mem hi)
    omega
theorem symOk_any (t : List Nat) (w : World) (h : Lb t) (hl : t.length ≤ 9223372036854775807) : Calls Try.prog 49 #[.string (txt t)] w fun e w' => e = .returned (.bool (okSymL t)) ∧ w = w' := by
  by_cases k : okSymL t = true
  · rw [k]; exact symok_yes _ w ((okSym_iff h).2 k)
  · rw [show okSymL t = false by simpa using k]
    exact symok_no _ w (by rw [txt_size]; exact hl) (fun q => k ((okSym_iff h).1 q))

def ordOkL (t : List Nat) : Bool := decide (1 ≤ t.length) && decide (t.length ≤ 5) && (t.headD 0 != 48 || decide (t.length = 1)) && (t.all fun c => decide (48 ≤ c) && decide (c ≤ 57)) && decide (numV (lF t) t.length ≤ 65535)
theorem ordOk_iff {t : List Nat} (h : Lb t) : OrdOk (txt t) ↔ ordOkL t = true := by
  have hn : numV (PlainAid.bt (txt t)) (txt t).size = numV (lF t) t.length := by
    rw [txt_size]; exact numV_congr _ fun i hi => bt_txt h hi
  unfold ordOkL
  simp only [Bool.and_eq_true, decide_eq_true_eq, List.all_eq_true, Bool.or_eq_true, bne_iff_ne, ne_eq]
  constructor
  · rintro ⟨h1, h2, h3, h4, h5⟩
    rw [hn] at h5
    rw [txt_size] at h1 h2 h3 h4
    refine ⟨⟨⟨⟨h1, h2⟩, ?_⟩, fun v hv => ?_⟩, h5⟩
    · rw [bt_txt h (by omega), lF_head (by omega)] at h3
      by_cases c : t.headD 0 = 48
      · right; exact h3 (by omega)
      · left; exact c
    · obtain ⟨i, hi, rfl⟩ := List.mem_iff_getElem.mp hv
      have := h4 i hi
      rw [bt_txt h hi, lF_get hi] at this
      omega
  · rintro ⟨⟨⟨⟨h1, h2⟩, h3⟩, h4⟩, h5⟩
    refine ⟨by rw [txt_size]; exact h1, by rw [txt_size]; exact h2, fun q => ?_, fun i hi => ?_, by rw [hn]; exact h5⟩
    · rw [bt_txt h (by omega), lF_head (by omega)] at q
      rw [txt_size]
      exact h3.resolve_left (fun c => c (by omega))
    · rw [txt_size] at hi
      rw [bt_txt h hi, lF_get hi]
      have := h4 t[i] (List.getElem_mem hi)
      omega

/-- Where the last point stands. -/
def lastDot (t : List Nat) : Option Nat := (t.reverse.findIdx? (· == 46)).map fun k => t.length - 1 - k
theorem lastDot_none {t : List Nat} (h : lastDot t = none) : ∀ i, i < t.length → lF t i ≠ 46 := by
  intro i hi
  unfold lastDot at h
  rw [Option.map_eq_none_iff, List.findIdx?_eq_none_iff] at h
  have := h t[i] (by simp)
  rw [lF_get hi]
  simp at this
  omega
theorem lastDot_some {t : List Nat} {p : Nat} (h : lastDot t = some p) : p < t.length ∧ lF t p = 46 ∧ ∀ j, p < j → j < t.length → lF t j ≠ 46 := by
  unfold lastDot at h
  rw [Option.map_eq_some_iff] at h
  obtain ⟨k, hk, rfl⟩ := h
  rw [List.findIdx?_eq_some_iff_getElem] at hk
  obtain ⟨hkl, hk0, hkn⟩ := hk
  rw [List.length_reverse] at hkl
  rw [List.getElem_reverse] at hk0
  refine ⟨by omega, ?_, fun j h1 h2 => ?_⟩
  · rw [lF_get (by omega)]
    simp at hk0
    omega
  · have := hkn (t.length - 1 - j) (by omega)
    rw [List.getElem_reverse] at this
    rw [lF_get h2]
    simp only [show t.length - 1 - (t.length - 1 - j) = j by omega] at this
    simp at this
    omega

/-- Is a text a way? -/
def splitOk (t : List Nat) : Bool :=
  match lastDot t with
  | none => false
  | some p => okNm (t.take p) && (okSymL (t.drop (p + 1)) || ((t.drop (p + 1)).headD 0 == 35 && ordOkL (t.drop (p + 1)).tail))

theorem txt_part {t : List Nat} (h : Lb t) (o n : Nat) (hn : o + n ≤ t.length) : (txt t).extract o (o + n) = txt ((t.drop o).take n) := by
  rw [extract_bt _ _ _ (by rw [txt_size]; exact hn), ← strF_txt _ _ _ hn]
  exact strF_congr fun i hi => bt_txt h (by omega)
theorem txt_hash (r : List Nat) : txt (35 :: r) = hashT ++ txt r := by
  unfold txt
  rw [List.length_cons, Nat.add_comm, ← strF_cat]
  congr 1
  exact strF_congr fun i hi => by
    rw [Nat.zero_add, Nat.zero_add, Nat.add_comm 1 i]
    rfl

theorem split_any (t : List Nat) (w : World) (h : Lb t) (hl : t.length ≤ 1000000) : Calls Try.prog 57 #[.string (txt t)] w fun e w' =>
    (∃ D S O B, e = .returned (.tuple #[.string D, .agg #[.string S, .int .i64 O, .bool B], .bool (splitOk t)])) ∧ Below w.heap.size w w' := by
  have hz : (txt t).size ≤ 140737488355300 := by rw [txt_size]; omega
  rcases hd : lastDot t with _ | p
  · have hs : splitOk t = false := by unfold splitOk; rw [hd]
    rw [hs]
    refine (split_none (txt t) w (by omega) (.inl ?_)).mono ?_
    · rintro ⟨i, hi, h46⟩
      rw [txt_size] at hi
      rw [bt_txt h hi] at h46
      exact lastDot_none hd i hi h46
    · rintro e w' ⟨rfl, hw⟩
      exact ⟨⟨_, _, _, _, rfl⟩, hw⟩
  · obtain ⟨hp, h46, hafter⟩ := lastDot_some hd
    have e1 : (txt t).extract 0 p = txt (t.take p) := by
      have := txt_part h 0 p (by omega)
      rwa [Nat.zero_add, List.drop_zero] at this
    have e2 : (txt t).extract (p + 1) (txt t).size = txt (t.drop (p + 1)) := by
      have := txt_part h (p + 1) (t.length - (p + 1)) (by omega)
      rw [show p + 1 + (t.length - (p + 1)) = t.length by omega] at this
      rw [txt_size, this, List.take_of_length_le (by simp)]
    have hld : LastDot (txt t) (txt (t.take p)) (txt (t.drop (p + 1))) p :=
      ⟨by rw [txt_size]; exact hp, by rw [bt_txt h hp]; exact h46, fun j h1 h2 => by rw [txt_size] at h2; rw [bt_txt h h2]; exact hafter j h1 h2, e1, e2⟩
    have hs : splitOk t = (okNm (t.take p) && (okSymL (t.drop (p + 1)) || ((t.drop (p + 1)).headD 0 == 35 && ordOkL (t.drop (p + 1)).tail))) := by unfold splitOk; rw [hd]
    by_cases hD : okNm (t.take p) = true
    · have hD' := (okNm_iff (h.take p)).2 hD
      by_cases hR : okSymL (t.drop (p + 1)) = true
      · rw [hs, hD, hR]
        refine (split_sym _ _ _ p w (by omega) hld hD' ((okSym_iff (h.drop _)).2 hR)).mono ?_
        rintro e w' ⟨rfl, hw⟩
        exact ⟨⟨_, _, _, _, rfl⟩, hw⟩
      · have hR' : ¬ OkSym (txt (t.drop (p + 1))) := fun q => hR ((okSym_iff (h.drop _)).1 q)
        have hRf : okSymL (t.drop (p + 1)) = false := by simpa using hR
        have hlb := h.drop (p + 1)
        rcases hr : t.drop (p + 1) with _ | ⟨c, r⟩
        · rw [hr] at hld hR' hRf
          rw [hs, hr, hD, hRf]
          refine (split_badsym _ _ _ p w (by omega) hld hD' hR' (.inl rfl)).mono ?_
          rintro e w' ⟨rfl, hw⟩
          exact ⟨⟨_, _, _, _, rfl⟩, hw⟩
        · rw [hr] at hld hR' hRf hlb
          rw [hs, hr, hD, hRf]
          by_cases hc : c = 35
          · subst hc
            have hlr : Lb r := fun v hv => hlb v (List.mem_cons_of_mem _ hv)
            rw [txt_hash] at hld
            by_cases hO : ordOkL r = true
            · have e3 : (true && (false || ((35 :: r).headD 0 == 35 && ordOkL (35 :: r).tail))) = true := by simp [hO]
              rw [e3]
              refine (split_ord _ _ _ p w (by omega) hld hD' ((ordOk_iff hlr).2 hO)).mono ?_
              rintro e w' ⟨rfl, hw⟩
              exact ⟨⟨_, _, _, _, rfl⟩, hw⟩
            · have e3 : (true && (false || ((35 :: r).headD 0 == 35 && ordOkL (35 :: r).tail))) = false := by simpa using hO
              rw [e3]
              refine (split_noord _ _ _ p w (by omega) hld hD' (fun q => hO ((ordOk_iff hlr).1 q))).mono ?_
              rintro e w' ⟨rfl, hw⟩
              exact ⟨⟨_, _, _, _, rfl⟩, hw⟩
          · have e3 : (true && (false || ((c :: r).headD 0 == 35 && ordOkL (c :: r).tail))) = false := by simp [hc]
            rw [e3]
            refine (split_badsym _ _ _ p w (by omega) hld hD' hR' (.inr ?_)).mono ?_
            · rw [bt_txt hlb (by simp), lF_head (by simp)]
              show (c : Int) ≠ 35
              omega
            · rintro e w' ⟨rfl, hw⟩
              exact ⟨⟨_, _, _, _, rfl⟩, hw⟩
    · have hDf : okNm (t.take p) = false := by simpa using hD
      rw [hs, hDf]
      refine (split_none (txt t) w (by omega) (.inr ⟨p, by rw [txt_size]; exact hp, by rw [bt_txt h hp]; exact h46, hld.last, fun q => ?_⟩)).mono ?_
      · have e4 : strF (PlainAid.bt (txt t)) 0 p = txt (t.take p) := by
          have := extract_bt (txt t) 0 p (by rw [txt_size]; omega)
          rw [Nat.zero_add] at this
          rw [← this, e1]
        rw [e4] at q
        exact hD ((okNm_iff (h.take p)).1 q)
      · rintro e w' ⟨rfl, hw⟩
        exact ⟨⟨_, _, _, _, rfl⟩, hw⟩
end Go.Proofs.Ytbjabncefhgefaa
