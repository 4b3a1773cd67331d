/- The document's answer on numbers, texts, names and symbols, told in lists. · The document's answer on numbers behind a point and on ways: Number and Split. · The document's answer on ways: Split. · The document's answer on what an image offers, Exports: frames. -/
import Derived.Test.YtbjabncefhgefaaExpM
import Derived.Test.YtbjabncefhgefaaRef1
import Derived.Test.YtbjabncefhgefaaExpC
import Derived.Test.YtbjabncefhgefaaExpE
import Derived.Test.YtbjabncefhgefaaExpG
import Derived.Test.YtbjabncefhgefaaPieces
namespace Go.Proofs.Ytbjabncefhgefaa
open Go.ChangeShapes Go.WideShapes Go.ChangeAt Go.RowKit
set_option linter.unusedVariables false
set_option linter.unusedSimpArgs false

/-- The document's Int, where the bytes are there. -/
theorem rint_list (bs : List Nat) (o n : Nat) (w : World) (hb : Lb bs) (hl : bs.length ≤ 9223372036854775807) (hn : n ≤ 4) (h : o + n ≤ bs.length) :
    Calls Try.prog 35 #[.string (txt bs), .int .i64 o, .int .i64 n] w fun e w' => e = .returned (.int .i64 (numL (bs.drop o) n)) ∧ w = w' := by
  have e1 : rdF (PlainAid.bt (txt bs)) o n = ((numL (bs.drop o) n : Nat) : Int) := by
    rw [← rdF_numL]
    exact rdF_congr n o fun i hi => bt_txt hb (by omega)
  have HR := Lib.hid (rnum_yes (txt bs) o n w (by rw [txt_size]; exact hl) (by omega) (by rw [txt_size]; exact h))
  rw [e1] at HR
  have hv := numL_lt (hb.drop o) n
  have hp : (256 : Nat) ^ n ≤ 4294967296 := by
    rcases (by omega : n = 0 ∨ n = 1 ∨ n = 2 ∨ n = 3 ∨ n = 4) with rfl | rfl | rfl | rfl | rfl <;> decide
  have h1 : numL (bs.drop o) n < 4294967296 := by omega
  clear hv hp e1
  generalize numL (bs.drop o) n = x at *
  generalize txt bs = S at *
  go_enter Try.func35, Try.ntmps35
  go_wp2_with fail
  refine HR.out.mono ?_
  rintro e u ⟨rfl, rfl⟩
  go_wp2
  go_ret
  exact ⟨rfl, rfl⟩

/-- The document's Text. -/
theorem rtext_list (bs : List Nat) (o most : Nat) (w : World) (hb : Lb bs) (hl : bs.length ≤ 9223372036854775807) :
    Calls Try.prog 36 #[.string (txt bs), .int .i64 o, .int .i64 most] w fun e w' => e = .returned (match textL bs o most with | some t => .tuple #[.string (txt t), .bool true] | none => .tuple #[.string ByteArray.empty, .bool false]) ∧ w = w' := by
  have hz : (txt bs).size ≤ 9223372036854775807 := by rw [txt_size]; exact hl
  rcases ht : textL bs o most with _ | t
  · by_cases hc : o < bs.length
    · exact rtext_no (txt bs) o most w hz (by rw [txt_size]; exact hc) fun i h1 h2 => by
        rw [txt_size] at h1
        rw [bt_txt hb h1]
        exact textL_none ht i h1 (by omega)
    · exact rtext_out (txt bs) o most w hz (by rw [txt_size]; omega)
  · obtain ⟨h1, h2, h3, h4, h5⟩ := textL_some ht
    have e : strF (PlainAid.bt (txt bs)) o t.length = txt t := by
      rw [show strF (PlainAid.bt (txt bs)) o t.length = strF (lF bs) o t.length from strF_congr fun i hi => bt_txt hb (by omega), strF_txt _ _ _ (by omega)]
      rw [← h5]
    have k := rtext_yes (txt bs) o t.length most w hz (by rw [txt_size]; omega) (by omega) (by rw [bt_txt hb (by omega)]; exact h3) (fun i hi => by rw [bt_txt hb (by omega)]; exact h4 i hi)
    rw [e] at k
    exact k

theorem ne_empty {S : ByteArray} (h : 1 ≤ S.size) : (S.toList == ([] : List UInt8)) = false := by
  rw [Bool.eq_false_iff, ne_eq, beq_iff_eq, ByteArray.toList_eq]
  intro q
  have h2 := congrArg List.length q
  rw [List.length_nil, Array.length_toList] at h2
  have : S.data.size = S.size := rfl
  omega
theorem is_empty {S : ByteArray} (h : S.size < 1) : (S.toList == ([] : List UInt8)) = true := by
  rw [beq_iff_eq, ByteArray.toList_eq]
  refine List.eq_nil_of_length_eq_zero ?_
  rw [Array.length_toList]
  have : S.data.size = S.size := rfl
  omega
theorem nameB_ways {c : Int} (h : nameB c = true) : (97 ≤ c ∧ c ≤ 122) ∨ (65 ≤ c ∧ c ≤ 90) ∨ (48 ≤ c ∧ c ≤ 57) ∨ c = 46 ∨ c = 95 ∨ c = 45 := by
  simpa [nameB] using h
theorem nameB_not {c : Int} (h : nameB c = false) : ¬ ((97 ≤ c ∧ c ≤ 122) ∨ (65 ≤ c ∧ c ≤ 90) ∨ (48 ≤ c ∧ c ≤ 57) ∨ c = 46 ∨ c = 95 ∨ c = 45) := by
  simpa [nameB] using h

set_option maxHeartbeats 1000000 in
theorem rname_yes (S : ByteArray) (w : World) (h : OkName S) : Calls Try.prog 26 #[.string S] w fun e w' => e = .returned (.bool true) ∧ w = w' := by
  obtain ⟨h1, h2, h3⟩ := h
  have gb := PlainAid.get_bt S
  have d1 := ne_empty h1
  have d2 : ¬ (40 : Int) < S.size := by omega
  have H3 := Lib.hid h3
  clear h3
  go_enter Try.func26, Try.ntmps26
  go_wp2
  go_loop [3] (fun i => ∃ k : Nat, k ≤ S.size ∧ i = .int .i64 k) (fun i => S.size - (intOf i).toNat)
  case atStart => exact ⟨0, by omega, rfl⟩
  case round =>
    obtain ⟨k, hk, rfl⟩ := hrel
    by_cases hlt : k < S.size
    · rcases nameB_ways (H3.out k hlt) with ⟨h4, h5⟩ | ⟨h4, h5⟩ | ⟨h4, h5⟩ | h4 | h4 | h4
      all_goals
        go_wp2
        go_round
        case rel => exact ⟨k + 1, by omega, by go_num⟩
        case measure => simp [intOf]; omega
    · obtain rfl : k = S.size := by omega
      go_wp2
      go_ret
      exact ⟨rfl, rfl⟩

theorem first_bad (P : Nat → Prop) [DecidablePred P] (n : Nat) (h : ¬ ∀ i, i < n → P i) : ∃ z, z < n ∧ ¬ P z ∧ ∀ i, i < z → P i := by
  by_cases hz : ∃ z, z < n ∧ ¬ P z ∧ ∀ i, i < z → P i
  · exact hz
  · exfalso
    apply h
    intro i
    induction i using Nat.strongRecOn with
    | ind i ih =>
      intro hi
      by_cases hb : P i
      · exact hb
      · exact absurd ⟨i, hi, hb, fun j hj => ih j hj (by omega)⟩ hz

set_option maxHeartbeats 1000000 in
theorem rname_no (S : ByteArray) (w : World) (hs : S.size ≤ 9223372036854775807) (h : ¬ OkName S) : Calls Try.prog 26 #[.string S] w fun e w' => e = .returned (.bool false) ∧ w = w' := by
  by_cases h1 : S.size < 1
  · have d1 := is_empty h1
    go_enter Try.func26, Try.ntmps26
    go_wp2
    go_ret
    exact ⟨rfl, rfl⟩
  have d1 := ne_empty (show 1 ≤ S.size by omega)
  by_cases h2 : 40 < S.size
  · have d2 : (40 : Int) < S.size := by omega
    go_enter Try.func26, Try.ntmps26
    go_wp2
    go_ret
    exact ⟨rfl, rfl⟩
  obtain ⟨z, hz1, hz2, hz3⟩ := first_bad (fun i => nameB (PlainAid.bt S i) = true) S.size (fun q => h ⟨by omega, by omega, q⟩)
  have HZ := Lib.hid hz2
  have H3 := Lib.hid hz3
  clear hz2 hz3 h
  have gb := PlainAid.get_bt S
  have d2 : ¬ (40 : Int) < S.size := by omega
  go_enter Try.func26, Try.ntmps26
  go_wp2
  go_loop [3] (fun i => ∃ k : Nat, k ≤ z ∧ i = .int .i64 k) (fun i => z - (intOf i).toNat)
  case atStart => exact ⟨0, by omega, rfl⟩
  case round =>
    obtain ⟨k, hk, rfl⟩ := hrel
    have hks : k < S.size := by omega
    by_cases hlt : k < z
    · rcases nameB_ways (H3.out k hlt) with ⟨h4, h5⟩ | ⟨h4, h5⟩ | ⟨h4, h5⟩ | h4 | h4 | h4
      all_goals
        go_wp2
        go_round
        case rel => exact ⟨k + 1, by omega, by go_num⟩
        case measure => simp [intOf]; omega
    · obtain rfl : k = z := by omega
      have hf := nameB_not (by simpa using HZ.out)
      have e1 : (PlainAid.bt S k == 46) = false := beq_eq_false_iff_ne.mpr (by omega)
      have e2 : (PlainAid.bt S k == 95) = false := beq_eq_false_iff_ne.mpr (by omega)
      have e3 : (PlainAid.bt S k == 45) = false := beq_eq_false_iff_ne.mpr (by omega)
      rcases (show PlainAid.bt S k < 48 ∨ (58 ≤ PlainAid.bt S k ∧ PlainAid.bt S k < 65) ∨ (91 ≤ PlainAid.bt S k ∧ PlainAid.bt S k < 97) ∨ 122 < PlainAid.bt S k by omega) with h4 | ⟨h4, h5⟩ | ⟨h4, h5⟩ | h4
      all_goals
        clear hf
        go_wp2
      all_goals first
        | (go_ret; exact ⟨rfl, rfl⟩)
        | (rename_i hbad; simp at hbad; omega)

theorem rsym_yes (S : ByteArray) (w : World) (h : OkSym S) : Calls Try.prog 27 #[.string S] w fun e w' => e = .returned (.bool true) ∧ w = w' := by
  obtain ⟨h1, h2, h0, h3⟩ := h
  have gb := PlainAid.get_bt S
  have d1 := ne_empty h1
  have d2 : ¬ (60 : Int) < S.size := by omega
  have d3 : 0 < S.size := by omega
  have d4 : (PlainAid.bt S 0 == 35) = false := by simpa using h0
  have H3 := Lib.hid h3
  clear h3 h0
  go_enter Try.func27, Try.ntmps27
  go_wp2
  go_loop [3] (fun i => ∃ k : Nat, k ≤ S.size ∧ i = .int .i64 k) (fun i => S.size - (intOf i).toNat)
  case atStart => exact ⟨0, by omega, rfl⟩
  case round =>
    obtain ⟨k, hk, rfl⟩ := hrel
    by_cases hlt : k < S.size
    · have hf := H3.out k hlt
      have f1 : ¬ PlainAid.bt S k < 33 := by omega
      have f2 : ¬ 126 < PlainAid.bt S k := by omega
      go_wp2
      go_round
      case rel => exact ⟨k + 1, by omega, by go_num⟩
      case measure => simp [intOf]; omega
    · obtain rfl : k = S.size := by omega
      go_wp2
      go_ret
      exact ⟨rfl, rfl⟩

theorem rsym_no (S : ByteArray) (w : World) (hs : S.size ≤ 9223372036854775807) (h : ¬ OkSym S) : Calls Try.prog 27 #[.string S] w fun e w' => e = .returned (.bool false) ∧ w = w' := by
  by_cases h1 : S.size < 1
  · have d1 := is_empty h1
    go_enter Try.func27, Try.ntmps27
    go_wp2
    go_ret
    exact ⟨rfl, rfl⟩
  have d1 := ne_empty (show 1 ≤ S.size by omega)
  by_cases h2 : 60 < S.size
  · have d2 : (60 : Int) < S.size := by omega
    go_enter Try.func27, Try.ntmps27
    go_wp2
    go_ret
    exact ⟨rfl, rfl⟩
  have d2 : ¬ (60 : Int) < S.size := by omega
  have gb := PlainAid.get_bt S
  have d3 : 0 < S.size := by omega
  by_cases h0 : PlainAid.bt S 0 = 35
  · have d4 : (PlainAid.bt S 0 == 35) = true := by simpa using h0
    clear h0
    go_enter Try.func27, Try.ntmps27
    go_wp2
    go_ret
    exact ⟨rfl, rfl⟩
  have d4 : (PlainAid.bt S 0 == 35) = false := by simpa using h0
  obtain ⟨z, hz1, hz2, hz3⟩ := first_bad (fun i => 33 ≤ PlainAid.bt S i ∧ PlainAid.bt S i ≤ 126) S.size (fun q => h ⟨by omega, by omega, h0, q⟩)
  have HZ := Lib.hid hz2
  have H3 := Lib.hid hz3
  clear hz2 hz3 h h0
  go_enter Try.func27, Try.ntmps27
  go_wp2
  go_loop [3] (fun i => ∃ k : Nat, k ≤ z ∧ i = .int .i64 k) (fun i => z - (intOf i).toNat)
  case atStart => exact ⟨0, by omega, rfl⟩
  case round =>
    obtain ⟨k, hk, rfl⟩ := hrel
    have hks : k < S.size := by omega
    by_cases hlt : k < z
    · have hf := H3.out k hlt
      have f1 : ¬ PlainAid.bt S k < 33 := by omega
      have f2 : ¬ 126 < PlainAid.bt S k := by omega
      go_wp2
      go_round
      case rel => exact ⟨k + 1, by omega, by go_num⟩
      case measure => simp [intOf]; omega
    · obtain rfl : k = z := by omega
      by_cases f1 : PlainAid.bt S k < 33
      · go_wp2
        go_ret
        exact ⟨rfl, rfl⟩
      · have f2 : 126 < PlainAid.bt S k := by have := HZ.out; omega
        go_wp2
        go_ret
        exact ⟨rfl, rfl⟩

theorem rname_list (t : List Nat) (w : World) (h : Lb t) (hl : t.length ≤ 9223372036854775807) : Calls Try.prog 26 #[.string (txt t)] w fun e w' => e = .returned (.bool (okNm t)) ∧ w = w' := by
  by_cases k : okNm t = true
  · rw [k]; exact rname_yes _ w ((okNm_iff h).2 k)
  · rw [show okNm t = false by simpa using k]
    exact rname_no _ w (by rw [txt_size]; exact hl) (fun q => k ((okNm_iff h).1 q))
theorem rsym_list (t : List Nat) (w : World) (h : Lb t) (hl : t.length ≤ 9223372036854775807) : Calls Try.prog 27 #[.string (txt t)] w fun e w' => e = .returned (.bool (okSymL t)) ∧ w = w' := by
  by_cases k : okSymL t = true
  · rw [k]; exact rsym_yes _ w ((okSym_iff h).2 k)
  · rw [show okSymL t = false by simpa using k]
    exact rsym_no _ w (by rw [txt_size]; exact hl) (fun q => k ((okSym_iff h).1 q))
end Go.Proofs.Ytbjabncefhgefaa
namespace Go.Proofs.Ytbjabncefhgefaa
open Go.ChangeShapes Go.WideShapes Go.ChangeAt Go.RowKit
set_option linter.unusedVariables false
set_option linter.unusedSimpArgs false

theorem numV_bd' {f : Nat → Int} : ∀ (k : Nat), (∀ i, i < k → 48 ≤ f i ∧ f i ≤ 57) → 0 ≤ numV f k ∧ numV f k < 10 ^ k
  | 0, _ => by simp [numV]
  | k + 1, h => by
    have h1 := numV_bd' k (fun i hi => h i (by omega))
    have h2 := h k (by omega)
    rw [Int.pow_succ]
    simp only [numV]
    omega
/-- Digits without noughts ahead are the digits of their number. -/
theorem dec_back {f : Nat → Int} : ∀ (k : Nat), 1 ≤ k → (∀ i, i < k → 48 ≤ f i ∧ f i ≤ 57) → (f 0 = 48 → k = 1) → strF f 0 k = decT (numV f k).toNat
  | 0, h, _, _ => absurd h (by omega)
  | k + 1, _, hd, h0 => by
    have h2 := hd k (by omega)
    obtain ⟨d, hdd⟩ : ∃ d : Nat, f k = 48 + d := ⟨(f k - 48).toNat, by omega⟩
    have hd10 : d < 10 := by omega
    have e1 : strF f k 1 = digT d := by
      apply ByteArray.ext
      apply Array.ext'
      unfold strF digT
      rw [strOfNums_data]
      simp only [List.range_one, List.map_cons, List.map_nil]
      congr 1
      rw [Nat.add_zero, hdd]
      congr 1
    by_cases hk : k = 0
    · subst hk
      have e2 : (numV f (0 + 1)).toNat = d := by simp only [numV]; omega
      rw [e2, decT_small hd10, ← e1]
    · have hf0 : f 0 ≠ 48 := fun q => by have := h0 q; omega
      have ih := dec_back k (by omega) (fun i hi => hd i (by omega)) (fun q => absurd q hf0)
      have hb := numV_bd' k (fun i hi => hd i (by omega))
      have hlow : 1 ≤ numV f k := by
        have : ∀ j, 1 ≤ j → j ≤ k → 1 ≤ numV f j := by
          intro j
          induction j with
          | zero => intro h; omega
          | succ j ihj =>
            intro _ hjk
            by_cases hj : j = 0
            · subst hj
              have := hd 0 (by omega)
              simp only [numV]
              omega
            · have h3 := ihj (by omega) (by omega)
              have := hd j (by omega)
              simp only [numV]
              omega
        exact this k (by omega) (Nat.le_refl _)
      have e2 : (numV f (k + 1)).toNat = (numV f k).toNat * 10 + d := by simp only [numV]; omega
      rw [e2, decT_big (by omega)]
      rw [show ((numV f k).toNat * 10 + d) / 10 = (numV f k).toNat by omega, show ((numV f k).toNat * 10 + d) % 10 = d by omega, ← ih, ← e1]
      rw [show strF f k 1 = strF f (0 + k) 1 by rw [Nat.zero_add], strF_cat]

theorem ord_dec {t : List Nat} (h : Lb t) (h1 : 1 ≤ t.length) (hd : ∀ i, i < t.length → 48 ≤ lF t i ∧ lF t i ≤ 57) (n : Nat) (hn : numV (lF t) t.length = n) (h6 : n ≤ 65535) : ((decT n).toList == (txt t).toList) = ordOkL t := by
  rw [Bool.eq_iff_iff, beq_iff_eq]
  constructor
  · intro q
    have q2 : decT n = txt t := by
      have q3 := congrArg List.toByteArray q
      apply ByteArray.ext
      rw [ByteArray.toList_eq, ByteArray.toList_eq] at q
      exact Array.toList_inj.mp q
    refine (ordOk_iff h).1 ⟨by rw [txt_size]; exact h1, ?_, ?_, ?_, ?_⟩
    · rw [← q2]; exact decT_five (by omega)
    · intro z
      rw [← q2] at z ⊢
      by_cases n0 : n = 0
      · subst n0; rw [decT_small (by omega)]; rfl
      · exact absurd z (decT_lead (by omega))
    · intro i hi
      rw [txt_size] at hi
      rw [bt_txt h hi]
      exact hd i hi
    · rw [txt_size, numV_congr (g := lF t) t.length (fun i hi => bt_txt h hi), hn]
      omega
  · intro q
    obtain ⟨o1, o2, o3, o4, o5⟩ := (ordOk_iff h).2 q
    rw [txt_size] at o1 o2 o3 o4 o5
    have e := dec_back (f := lF t) t.length h1 hd (fun z => by
      refine o3 ?_
      rw [bt_txt h (by omega)]
      exact z)
    rw [hn, Int.toNat_natCast] at e
    rw [← e]
    rfl

theorem ordOk_long {t : List Nat} (h : ¬ (1 ≤ t.length ∧ t.length ≤ 5)) : ordOkL t = false := by
  unfold ordOkL
  rw [Bool.eq_false_iff]
  intro q
  simp only [Bool.and_eq_true, decide_eq_true_eq] at q
  omega
theorem ordOk_digit {t : List Nat} (hb : Lb t) (h : ordOkL t = true) : ∀ i, i < t.length → 48 ≤ lF t i ∧ lF t i ≤ 57 := by
  intro i hi
  have := ((ordOk_iff hb).2 h).dig i (by rw [txt_size]; exact hi)
  rwa [bt_txt hb hi] at this

set_option maxRecDepth 100000 in
set_option maxHeartbeats 1000000 in
theorem rnumber_any (t : List Nat) (w : World) (h : Lb t) (hl : t.length ≤ 1000000) :
    Calls Try.prog 51 #[.string (txt t), .int .i64 65535] w fun e w' => (∃ N, e = .returned (.tuple #[.int .i64 N, .bool (ordOkL t)])) ∧ Below w.heap.size w w' := by
  by_cases h0 : t.length < 1
  · have d1 := is_empty (S := txt t) (by rw [txt_size]; exact h0)
    rw [ordOk_long (by omega)]
    generalize txt t = S at *
    go_enter Try.func51, Try.ntmps51
    go_wp2
    go_ret2
    exact ⟨⟨0, rfl⟩, Below.refl _ _⟩
  have d1 := ne_empty (S := txt t) (by rw [txt_size]; omega)
  have hsz := txt_size t
  have gb0 : ∀ i, i < t.length → PlainAid.bt (txt t) i = lF t i := fun i hi => bt_txt h hi
  by_cases h15 : 15 < t.length
  · rw [ordOk_long (by omega)]
    have d2 : (15 : Int) < (txt t).size := by omega
    clear gb0
    generalize txt t = S at *
    go_enter Try.func51, Try.ntmps51
    go_wp2
    go_ret2
    exact ⟨⟨0, rfl⟩, Below.refl _ _⟩
  have d2 : ¬ (15 : Int) < (txt t).size := by omega
  have hp15 : ∀ k, k ≤ 15 → (10 : Int) ^ k ≤ 1000000000000000 := by
    intro k hk
    rcases (by omega : k = 0 ∨ k = 1 ∨ k = 2 ∨ k = 3 ∨ k = 4 ∨ k = 5 ∨ k = 6 ∨ k = 7 ∨ k = 8 ∨ k = 9 ∨ k = 10 ∨ k = 11 ∨ k = 12 ∨ k = 13 ∨ k = 14 ∨ k = 15) with rfl | rfl | rfl | rfl | rfl | rfl | rfl | rfl | rfl | rfl | rfl | rfl | rfl | rfl | rfl | rfl <;> decide
  by_cases hdig : ∀ i, i < t.length → 48 ≤ lF t i ∧ lF t i ≤ 57
  · obtain ⟨n, hn⟩ : ∃ n : Nat, numV (lF t) t.length = n := ⟨(numV (lF t) t.length).toNat, by have := numV_bd' t.length hdig; omega⟩
    have hn2 : numV (PlainAid.bt (txt t)) (txt t).size = n := by rw [hsz, numV_congr (g := lF t) t.length gb0, hn]
    have HB := Lib.hid (show n ≤ 65535 → ((decT n).toList == (txt t).toList) = ordOkL t from fun q => ord_dec h (by omega) hdig n hn q)
    have HBIG := Lib.hid (show 65535 < n → ordOkL t = false from fun q => by
      rw [Bool.eq_false_iff]
      intro z
      have := ((ordOk_iff h).2 z).num
      rw [hn2] at this
      omega)
    have HD := Lib.hid (show ∀ i, i < (txt t).size → 48 ≤ PlainAid.bt (txt t) i ∧ PlainAid.bt (txt t) i ≤ 57 from fun i hi => by rw [gb0 i (by omega)]; exact hdig i (by omega))
    have hn15 : (n : Int) < 1000000000000000 := by
      have := numV_bd' t.length hdig
      have := hp15 t.length (by omega)
      omega
    have HV := Lib.hid (show ∀ k, k ≤ (txt t).size → 0 ≤ numV (PlainAid.bt (txt t)) k ∧ numV (PlainAid.bt (txt t)) k < 1000000000000000 from fun k hk => by
      have h1 := numV_bd' (f := PlainAid.bt (txt t)) k (fun i hi => HD.out i (by omega))
      have h2 := hp15 k (by omega)
      omega)
    have HN2 := Lib.hid hn2
    obtain ⟨B, hB⟩ : ∃ B, ordOkL t = B := ⟨_, rfl⟩
    rw [hB] at HB HBIG ⊢
    have hs15 : (txt t).size ≤ 15 := by omega
    have HN15 := Lib.hid hn15
    clear hdig hn hn2 gb0 hp15 hB h hsz hl h0 h15 hn15
    have gb := PlainAid.get_bt (txt t)
    generalize txt t = S at *
    go_enter Try.func51, Try.ntmps51
    go_wp2
    go_loop [6, 7] (fun v i => ∃ k : Nat, k ≤ S.size ∧ i = .int .i64 k ∧ v = .int .i64 (numV (PlainAid.bt S) k)) (fun _ i => S.size - (intOf i).toNat)
    case atStart => exact ⟨0, by omega, rfl, rfl⟩
    case round =>
      obtain ⟨k, hk, rfl, rfl⟩ := hrel
      obtain ⟨hb0, hb1⟩ := HV.out k hk
      by_cases hlt : k < S.size
      · obtain ⟨hf0, hf1⟩ := HD.out k hlt
        have hnx : numV (PlainAid.bt S) (k + 1) = 10 * numV (PlainAid.bt S) k + (PlainAid.bt S k - 48) := by show numV (PlainAid.bt S) k * 10 + (PlainAid.bt S k - 48) = _; omega
        have HNX := Lib.hid hnx
        clear hnx
        generalize numV (PlainAid.bt S) k = V at *
        clear HB HBIG HN2 HN15 HV HD hs15
        go_wp2
        go_round
        case rel => exact ⟨k + 1, by omega, by go_num, by rw [HNX.out]⟩
        case measure => simp [intOf]; omega
      · obtain rfl : k = S.size := by omega
        rw [HN2.out]
        clear HV HD HN2 hb0 hb1
        by_cases hbig : 65535 < n
        · obtain rfl := HBIG.out hbig
          have d5 : (65535 : Int) < (n : Int) := by omega
          go_wp2
          go_ret2
          exact ⟨⟨0, rfl⟩, Below.refl _ _⟩
        · have d5 : ¬ (65535 : Int) < (n : Int) := by omega
          have hq := HB.out (by omega)
          go_wp2_with fail
          refine (digits_any n _ (by omega)).mono ?_
          rintro e w1 ⟨rfl, hw1⟩
          rcases B with _ | _
          · go_wp2
            go_ret2
            exact ⟨⟨0, rfl⟩, hw1⟩
          · go_wp2
            go_ret2
            exact ⟨⟨_, rfl⟩, hw1⟩
  · obtain ⟨z, hz1, hz2, hz3⟩ := first_bad (fun i => 48 ≤ lF t i ∧ lF t i ≤ 57) t.length hdig
    rw [show ordOkL t = false from by
      rw [Bool.eq_false_iff]
      exact fun q => hdig (ordOk_digit h q)]
    have HD := Lib.hid (show ∀ i, i < z → 48 ≤ PlainAid.bt (txt t) i ∧ PlainAid.bt (txt t) i ≤ 57 from fun i hi => by rw [gb0 i (by omega)]; exact hz3 i hi)
    have HZ := Lib.hid (show ¬ (48 ≤ PlainAid.bt (txt t) z ∧ PlainAid.bt (txt t) z ≤ 57) from by rw [gb0 z hz1]; exact hz2)
    have HV := Lib.hid (show ∀ k, k ≤ z → 0 ≤ numV (PlainAid.bt (txt t)) k ∧ numV (PlainAid.bt (txt t)) k < 1000000000000000 from fun k hk => by
      have h1 := numV_bd' (f := PlainAid.bt (txt t)) k (fun i hi => HD.out i (by omega))
      have h2 := hp15 k (by omega)
      omega)
    have hs15 : (txt t).size ≤ 15 := by omega
    have hzs : z < (txt t).size := by omega
    clear hdig gb0 hp15 h hsz hl hz2 hz3 hz1 h0 h15
    have gb := PlainAid.get_bt (txt t)
    generalize txt t = S at *
    go_enter Try.func51, Try.ntmps51
    go_wp2
    go_loop [6, 7] (fun v i => ∃ k : Nat, k ≤ z ∧ i = .int .i64 k ∧ v = .int .i64 (numV (PlainAid.bt S) k)) (fun _ i => z - (intOf i).toNat)
    case atStart => exact ⟨0, by omega, rfl, rfl⟩
    case round =>
      obtain ⟨k, hk, rfl, rfl⟩ := hrel
      obtain ⟨hb0, hb1⟩ := HV.out k hk
      have hks : k < S.size := by omega
      by_cases hlt : k < z
      · obtain ⟨hf0, hf1⟩ := HD.out k hlt
        have hnx : numV (PlainAid.bt S) (k + 1) = 10 * numV (PlainAid.bt S) k + (PlainAid.bt S k - 48) := by show numV (PlainAid.bt S) k * 10 + (PlainAid.bt S k - 48) = _; omega
        have HNX := Lib.hid hnx
        clear hnx
        generalize numV (PlainAid.bt S) k = V at *
        go_wp2
        go_round
        case rel => exact ⟨k + 1, by omega, by go_num, by rw [HNX.out]⟩
        case measure => simp [intOf]; omega
      · obtain rfl : k = z := by omega
        generalize numV (PlainAid.bt S) k = V at *
        have hz := HZ.out
        by_cases f1 : PlainAid.bt S k < 48
        · go_wp2
          go_ret2
          exact ⟨⟨0, rfl⟩, Below.refl _ _⟩
        · have f2 : 57 < PlainAid.bt S k := by omega
          clear hz
          go_wp2
          go_ret2
          exact ⟨⟨0, rfl⟩, Below.refl _ _⟩
end Go.Proofs.Ytbjabncefhgefaa
namespace Go.Proofs.Ytbjabncefhgefaa
open Go.ChangeShapes Go.WideShapes Go.ChangeAt Go.RowKit
set_option linter.unusedVariables false
set_option linter.unusedSimpArgs false

theorem wayOne {n : Int} {S T : ByteArray} {b : Bool} : (#[.string S, .string T, .int .i64 n, .bool b] : Array Value).all (·.oneCell') = true := by simp [Value.oneCell']
theorem wayInfo {x y z u : Value} : (Try.prog.info? 95).map (·.size) = some (#[x, y, z, u] : Array Value).size := by kernel_rfl

set_option maxHeartbeats 2000000 in
theorem rsplit_dot (t : List Nat) (w : World) (h : Lb t) (hl : t.length ≤ 1000000) (p : Nat) (hp : lastDot t = some p) :
    Calls Try.prog 37 #[.string (txt t)] w fun e w' =>
    (∃ D S O B, e = .returned (.tuple #[.agg #[.string D, .string S, .int .i64 O, .bool B], .bool (splitOk t)])) ∧ Below w.heap.size w w' := by
  obtain ⟨hpl, h46, hafter⟩ := lastDot_some hp
  have hspl : splitOk t = (okNm (t.take p) && (okSymL (t.drop (p + 1)) || ((t.drop (p + 1)).headD 0 == 35 && ordOkL (t.drop (p + 1)).tail))) := by unfold splitOk; rw [hp]
  have e1 : (txt t).extract 0 p = txt (t.take p) := by
    have := txt_part h 0 p (by omega)
    rwa [Nat.zero_add, List.drop_zero] at this
  have e2 : (txt t).extract (p + 1) (txt t).size = txt (t.drop (p + 1)) := by
    have := txt_part h (p + 1) (t.length - (p + 1)) (by omega)
    rw [show p + 1 + (t.length - (p + 1)) = t.length by omega] at this
    rw [txt_size, this, List.take_of_length_le (by simp)]
  have HNM := Lib.hid (fun W => rname_list (t.take p) W (h.take p) (by rw [List.length_take]; omega))
  have hsz := txt_size t
  have HP := Lib.hid (show PlainAid.bt (txt t) p = 46 from by rw [bt_txt h hpl]; exact h46)
  have HAF := Lib.hid (show ∀ j, p < j → j < (txt t).size → (PlainAid.bt (txt t) j == 46) = false from fun j h1 h2 => beq_eq_false_iff_ne.mpr (by rw [bt_txt h (by omega)]; exact hafter j h1 (by omega)))
  have hrl : (txt (t.drop (p + 1))).size = t.length - (p + 1) := by rw [txt_size, List.length_drop]
  have HRL := Lib.hid hrl
  have hlb := h.drop (p + 1)
  have HSY := Lib.hid (fun W => rsym_list (t.drop (p + 1)) W hlb (by rw [List.length_drop]; omega))
  have hlen : t.length - (p + 1) = (t.drop (p + 1)).length := by rw [List.length_drop]
  have HSPL := Lib.hid hspl
  have HE1 := Lib.hid e1
  have HE2 := Lib.hid e2
  have hps : p < (txt t).size := by omega
  have hs1 : (txt t).size ≤ 1000000 := by omega
  have HW0 := Lib.hid (show Below w.heap.size w (w.alloc (.cells #[.string ⟨#[]⟩, .string ⟨#[]⟩, .int .i64 0, .bool false] 95)) from (Below.refl w.heap.size w).alloc (Nat.le_refl _) _)
  have HX0 := Lib.hid (heap_alloc_new w (.cells #[.string ⟨#[]⟩, .string ⟨#[]⟩, .int .i64 0, .bool false] 95))
  obtain ⟨R, hR⟩ : ∃ R, t.drop (p + 1) = R := ⟨_, rfl⟩
  obtain ⟨D, hD⟩ : ∃ D, t.take p = D := ⟨_, rfl⟩
  rw [hR] at HRL HSY HSPL HE2 hlb hlen
  rw [hD] at HNM HSPL HE1
  obtain ⟨L, hL⟩ : ∃ L, splitOk t = L := ⟨_, rfl⟩
  rw [hL] at HSPL ⊢
  have HLT := Lib.hid (show (txt t).size = p + 1 + R.length from by omega)
  clear hspl e1 e2 hrl hR hD hL h46 hafter hp h hsz hpl hlen hl
  have gb := PlainAid.get_bt (txt t)
  generalize txt t = S at *
  go_enter Try.func37, Try.ntmps37
  generalize hw0 : w.alloc (.cells #[.string ⟨#[]⟩, .string ⟨#[]⟩, .int .i64 0, .bool false] 95) = w0 at *
  go_wp2
  go_loop [4] (fun v => ∃ k : Nat, p ≤ k ∧ k < S.size ∧ v = .int .i64 k) (fun v => (intOf v).toNat)
  case atStart => exact ⟨S.size - 1, by omega, by omega, by congr 1; omega⟩
  case round =>
    obtain ⟨k, hk, hks, rfl⟩ := hrel
    by_cases hlt : p < k
    · have hf := HAF.out k hlt hks
      go_wp2
      go_round
      case rel => exact ⟨k - 1, by omega, by omega, by congr 1; omega⟩
      case measure => simp [intOf]; omega
    · obtain rfl : k = p := by omega
      have hf := HP.out
      have hsl1 : (0 : Int) ≤ k := by omega
      have hw1 : IntKind.i64.wrap ((k : Int) + 1) = (k : Int) + 1 := by rw [IntKind.wrap_i64]; omega
      have hx1 := HE1.out
      have hx2 := HE2.out
      rcases hD : okNm D with _ | _
      · have hL := HSPL.out
        rw [hD] at hL HNM
        simp only [Bool.false_and] at hL
        subst hL
        clear HSPL HSY HE2 hx2 HP HAF
        go_wp2_with fail
        refine (HNM.out _).mono ?_
        rintro e w' ⟨rfl, rfl⟩
        obtain ⟨w9, hw9⟩ : ∃ w9, w0.setRow w.heap.size #[.string ⟨#[]⟩, .string ⟨#[]⟩, .int .i64 0, .bool false] = w9 := ⟨_, rfl⟩
        have HE9 := Lib.hid hw9
        have HR9 := Lib.hid (show w9.heap[w.heap.size]? = some (.cells #[.string ⟨#[]⟩, .string ⟨#[]⟩, .int .i64 0, .bool false] 95 (0, 0)) from by rw [← hw9]; exact setRow_heap _ _ _ _ _ _ HX0.out)
        have HB9 := Lib.hid (show Below w.heap.size w w9 from by rw [← hw9]; exact below_setRow HW0.out (Nat.le_refl _) _)
        have k0 : w9.cell? ⟨w.heap.size, 0, none⟩ = some (.string ⟨#[]⟩) := by rw [cell_of_row _ _ _ _ _ _ HR9.out]; rfl
        have k1 : w9.cell? ⟨w.heap.size, 1, none⟩ = some (.string ⟨#[]⟩) := by rw [cell_of_row _ _ _ _ _ _ HR9.out]; rfl
        have k2 : w9.cell? ⟨w.heap.size, 2, none⟩ = some (.int .i64 0) := by rw [cell_of_row _ _ _ _ _ _ HR9.out]; rfl
        have k3 : w9.cell? ⟨w.heap.size, 3, none⟩ = some (.bool false) := by rw [cell_of_row _ _ _ _ _ _ HR9.out]; rfl
        clear hw9
        go_wp2_with (first | (refine wpList_store_row rfl 95 _ _ rfl w.heap.size #[.string ⟨#[]⟩, .string ⟨#[]⟩, .int .i64 0, .bool false] rfl rfl 95 #[.string ⟨#[]⟩, .string ⟨#[]⟩, .int .i64 0, .bool false] HX0.out wayInfo rfl wayOne ?_; refine (congrArg _ HE9.out).mpr ?_) | fail)
        refine bodyPost_ret (v := .tuple #[.agg #[.string ⟨#[]⟩, .string ⟨#[]⟩, .int .i64 0, .bool false], .bool false]) (by simp [results, Try.results37, go_sem, k0, k1, k2, k3]) rfl ⟨⟨_, _, _, _, rfl⟩, HB9.out⟩
      · have hL := HSPL.out
        rw [hD] at hL HNM
        simp only [Bool.true_and] at hL
        clear HSPL
        rcases R with _ | ⟨c, r⟩
        · have hL' : L = false := by rw [hL]; rfl
          subst hL'
          have hlt2 := HLT.out
          simp only [List.length_nil, Nat.add_zero] at hlt2
          have dl : ((k : Int) == (S.size : Int) - 1) = true := by rw [beq_iff_eq]; omega
          clear HSY HE2 hx2 HP HAF hL hlb hlt2
          go_wp2_with fail
          refine (HNM.out _).mono ?_
          rintro e w' ⟨rfl, rfl⟩
          obtain ⟨w9, hw9⟩ : ∃ w9, w0.setRow w.heap.size #[.string ⟨#[]⟩, .string ⟨#[]⟩, .int .i64 0, .bool false] = w9 := ⟨_, rfl⟩
          have HE9 := Lib.hid hw9
          have HR9 := Lib.hid (show w9.heap[w.heap.size]? = some (.cells #[.string ⟨#[]⟩, .string ⟨#[]⟩, .int .i64 0, .bool false] 95 (0, 0)) from by rw [← hw9]; exact setRow_heap _ _ _ _ _ _ HX0.out)
          have HB9 := Lib.hid (show Below w.heap.size w w9 from by rw [← hw9]; exact below_setRow HW0.out (Nat.le_refl _) _)
          have k0 : w9.cell? ⟨w.heap.size, 0, none⟩ = some (.string ⟨#[]⟩) := by rw [cell_of_row _ _ _ _ _ _ HR9.out]; rfl
          have k1 : w9.cell? ⟨w.heap.size, 1, none⟩ = some (.string ⟨#[]⟩) := by rw [cell_of_row _ _ _ _ _ _ HR9.out]; rfl
          have k2 : w9.cell? ⟨w.heap.size, 2, none⟩ = some (.int .i64 0) := by rw [cell_of_row _ _ _ _ _ _ HR9.out]; rfl
          have k3 : w9.cell? ⟨w.heap.size, 3, none⟩ = some (.bool false) := by rw [cell_of_row _ _ _ _ _ _ HR9.out]; rfl
          clear hw9
          go_wp2_with (first | (refine wpList_store_row rfl 95 _ _ rfl w.heap.size #[.string ⟨#[]⟩, .string ⟨#[]⟩, .int .i64 0, .bool false] rfl rfl 95 #[.string ⟨#[]⟩, .string ⟨#[]⟩, .int .i64 0, .bool false] HX0.out wayInfo rfl wayOne ?_; refine (congrArg _ HE9.out).mpr ?_) | fail)
          refine bodyPost_ret (v := .tuple #[.agg #[.string ⟨#[]⟩, .string ⟨#[]⟩, .int .i64 0, .bool false], .bool false]) (by simp [results, Try.results37, go_sem, k0, k1, k2, k3]) rfl ⟨⟨_, _, _, _, rfl⟩, HB9.out⟩
        · have hlt2 := HLT.out
          simp only [List.length_cons] at hlt2
          have dl : ((k : Int) == (S.size : Int) - 1) = false := beq_eq_false_iff_ne.mpr (by omega)
          have hb0 : PlainAid.bt (txt (c :: r)) 0 = c := by rw [bt_txt hlb (by simp), lF_head (by simp)]; rfl
          have hTs := txt_size (c :: r)
          rw [List.length_cons] at hTs
          have hlr : Lb r := fun v hv => hlb v (List.mem_cons_of_mem _ hv)
          by_cases hc : c = 35
          · subst hc
            have hL' : L = ordOkL r := by rw [hL]; simp [okSymL]
            have he1 : (txt (35 :: r)).extract 1 (txt (35 :: r)).size = txt r := by
              have := txt_part hlb 1 r.length (by rw [List.length_cons]; omega)
              rw [hTs, Nat.add_comm, this]
              simp
            have hnum := fun W => rnumber_any r W hlr (by omega)
            have HNU := Lib.hid hnum
            have hkl : (k : Int) + 1 ≤ S.size := by omega
            have gT := PlainAid.get_bt (txt (35 :: r))
            have hT1 : 0 < (txt (35 :: r)).size := by omega
            have hT2 : (1 : Int) ≤ (txt (35 :: r)).size := by omega
            have db : (PlainAid.bt (txt (35 :: r)) 0 == 35) = true := by rw [hb0]; rfl
            clear HSY HP HAF hL hlb hlr hnum hb0 hTs HE2 hlt2
            generalize txt (35 :: r) = T at *
            generalize ordOkL r = O at *
            subst hL'
            go_wp2_with fail
            refine (HNM.out _).mono ?_
            rintro e w' ⟨rfl, rfl⟩
            go_wp2_with fail
            refine (HNU.out _).mono ?_
            rintro e w1 ⟨⟨N, rfl⟩, hw1⟩
            have HW1 := Lib.hid (HW0.out.trans (hw1.mono HW0.out.size))
            have HX1 := Lib.hid ((hw1.block w.heap.size (lt_of_row' HX0.out)).trans HX0.out)
            clear hw1
            rcases L with _ | _
            · obtain ⟨w9, hw9⟩ : ∃ w9, w1.setRow w.heap.size #[.string ⟨#[]⟩, .string ⟨#[]⟩, .int .i64 0, .bool false] = w9 := ⟨_, rfl⟩
              have HE9 := Lib.hid hw9
              have HR9 := Lib.hid (show w9.heap[w.heap.size]? = some (.cells #[.string ⟨#[]⟩, .string ⟨#[]⟩, .int .i64 0, .bool false] 95 (0, 0)) from by rw [← hw9]; exact setRow_heap _ _ _ _ _ _ HX1.out)
              have HB9 := Lib.hid (show Below w.heap.size w w9 from by rw [← hw9]; exact below_setRow HW1.out (Nat.le_refl _) _)
              have k0 : w9.cell? ⟨w.heap.size, 0, none⟩ = some (.string ⟨#[]⟩) := by rw [cell_of_row _ _ _ _ _ _ HR9.out]; rfl
              have k1 : w9.cell? ⟨w.heap.size, 1, none⟩ = some (.string ⟨#[]⟩) := by rw [cell_of_row _ _ _ _ _ _ HR9.out]; rfl
              have k2 : w9.cell? ⟨w.heap.size, 2, none⟩ = some (.int .i64 0) := by rw [cell_of_row _ _ _ _ _ _ HR9.out]; rfl
              have k3 : w9.cell? ⟨w.heap.size, 3, none⟩ = some (.bool false) := by rw [cell_of_row _ _ _ _ _ _ HR9.out]; rfl
              clear hw9
              go_wp2_with (first | (refine wpList_store_row rfl 95 _ _ rfl w.heap.size #[.string ⟨#[]⟩, .string ⟨#[]⟩, .int .i64 0, .bool false] rfl rfl 95 #[.string ⟨#[]⟩, .string ⟨#[]⟩, .int .i64 0, .bool false] HX1.out wayInfo rfl wayOne ?_; refine (congrArg _ HE9.out).mpr ?_) | fail)
              refine bodyPost_ret (v := .tuple #[.agg #[.string ⟨#[]⟩, .string ⟨#[]⟩, .int .i64 0, .bool false], .bool false]) (by simp [results, Try.results37, go_sem, k0, k1, k2, k3]) rfl ⟨⟨_, _, _, _, rfl⟩, HB9.out⟩
            · obtain ⟨w9, hw9⟩ : ∃ w9, w1.setRow w.heap.size #[.string (txt D), .string ⟨#[]⟩, .int .i64 N, .bool true] = w9 := ⟨_, rfl⟩
              have HE9 := Lib.hid hw9
              have HR9 := Lib.hid (show w9.heap[w.heap.size]? = some (.cells #[.string (txt D), .string ⟨#[]⟩, .int .i64 N, .bool true] 95 (0, 0)) from by rw [← hw9]; exact setRow_heap _ _ _ _ _ _ HX1.out)
              have HB9 := Lib.hid (show Below w.heap.size w w9 from by rw [← hw9]; exact below_setRow HW1.out (Nat.le_refl _) _)
              have k0 : w9.cell? ⟨w.heap.size, 0, none⟩ = some (.string (txt D)) := by rw [cell_of_row _ _ _ _ _ _ HR9.out]; rfl
              have k1 : w9.cell? ⟨w.heap.size, 1, none⟩ = some (.string ⟨#[]⟩) := by rw [cell_of_row _ _ _ _ _ _ HR9.out]; rfl
              have k2 : w9.cell? ⟨w.heap.size, 2, none⟩ = some (.int .i64 N) := by rw [cell_of_row _ _ _ _ _ _ HR9.out]; rfl
              have k3 : w9.cell? ⟨w.heap.size, 3, none⟩ = some (.bool true) := by rw [cell_of_row _ _ _ _ _ _ HR9.out]; rfl
              clear hw9
              go_wp2_with (first | (refine wpList_store_row rfl 95 _ _ rfl w.heap.size #[.string (txt D), .string ⟨#[]⟩, .int .i64 N, .bool true] rfl rfl 95 #[.string ⟨#[]⟩, .string ⟨#[]⟩, .int .i64 0, .bool false] HX1.out wayInfo rfl wayOne ?_; refine (congrArg _ HE9.out).mpr ?_) | fail)
              refine bodyPost_ret (v := .tuple #[.agg #[.string (txt D), .string ⟨#[]⟩, .int .i64 N, .bool true], .bool true]) (by simp [results, Try.results37, go_sem, k0, k1, k2, k3]) rfl ⟨⟨_, _, _, _, rfl⟩, HB9.out⟩
          · have hL' : L = okSymL (c :: r) := by rw [hL]; simp [hc]
            have gT := PlainAid.get_bt (txt (c :: r))
            have hT1 : 0 < (txt (c :: r)).size := by omega
            have db : (PlainAid.bt (txt (c :: r)) 0 == 35) = false := by rw [hb0]; exact beq_eq_false_iff_ne.mpr (by omega)
            have hkl : (k : Int) + 1 ≤ S.size := by omega
            clear HP HAF hL hlb hlr hb0 hTs HE2 hlt2
            generalize txt (c :: r) = T at *
            generalize okSymL (c :: r) = O at *
            subst hL'
            go_wp2_with fail
            refine (HNM.out _).mono ?_
            rintro e w' ⟨rfl, rfl⟩
            go_wp2_with fail
            refine (HSY.out _).mono ?_
            rintro e w' ⟨rfl, rfl⟩
            rcases L with _ | _
            · obtain ⟨w9, hw9⟩ : ∃ w9, w0.setRow w.heap.size #[.string ⟨#[]⟩, .string ⟨#[]⟩, .int .i64 0, .bool false] = w9 := ⟨_, rfl⟩
              have HE9 := Lib.hid hw9
              have HR9 := Lib.hid (show w9.heap[w.heap.size]? = some (.cells #[.string ⟨#[]⟩, .string ⟨#[]⟩, .int .i64 0, .bool false] 95 (0, 0)) from by rw [← hw9]; exact setRow_heap _ _ _ _ _ _ HX0.out)
              have HB9 := Lib.hid (show Below w.heap.size w w9 from by rw [← hw9]; exact below_setRow HW0.out (Nat.le_refl _) _)
              have k0 : w9.cell? ⟨w.heap.size, 0, none⟩ = some (.string ⟨#[]⟩) := by rw [cell_of_row _ _ _ _ _ _ HR9.out]; rfl
              have k1 : w9.cell? ⟨w.heap.size, 1, none⟩ = some (.string ⟨#[]⟩) := by rw [cell_of_row _ _ _ _ _ _ HR9.out]; rfl
              have k2 : w9.cell? ⟨w.heap.size, 2, none⟩ = some (.int .i64 0) := by rw [cell_of_row _ _ _ _ _ _ HR9.out]; rfl
              have k3 : w9.cell? ⟨w.heap.size, 3, none⟩ = some (.bool false) := by rw [cell_of_row _ _ _ _ _ _ HR9.out]; rfl
              clear hw9
              go_wp2_with (first | (refine wpList_store_row rfl 95 _ _ rfl w.heap.size #[.string ⟨#[]⟩, .string ⟨#[]⟩, .int .i64 0, .bool false] rfl rfl 95 #[.string ⟨#[]⟩, .string ⟨#[]⟩, .int .i64 0, .bool false] HX0.out wayInfo rfl wayOne ?_; refine (congrArg _ HE9.out).mpr ?_) | fail)
              refine bodyPost_ret (v := .tuple #[.agg #[.string ⟨#[]⟩, .string ⟨#[]⟩, .int .i64 0, .bool false], .bool false]) (by simp [results, Try.results37, go_sem, k0, k1, k2, k3]) rfl ⟨⟨_, _, _, _, rfl⟩, HB9.out⟩
            · obtain ⟨w9, hw9⟩ : ∃ w9, w0.setRow w.heap.size #[.string (txt D), .string T, .int .i64 0, .bool false] = w9 := ⟨_, rfl⟩
              have HE9 := Lib.hid hw9
              have HR9 := Lib.hid (show w9.heap[w.heap.size]? = some (.cells #[.string (txt D), .string T, .int .i64 0, .bool false] 95 (0, 0)) from by rw [← hw9]; exact setRow_heap _ _ _ _ _ _ HX0.out)
              have HB9 := Lib.hid (show Below w.heap.size w w9 from by rw [← hw9]; exact below_setRow HW0.out (Nat.le_refl _) _)
              have k0 : w9.cell? ⟨w.heap.size, 0, none⟩ = some (.string (txt D)) := by rw [cell_of_row _ _ _ _ _ _ HR9.out]; rfl
              have k1 : w9.cell? ⟨w.heap.size, 1, none⟩ = some (.string T) := by rw [cell_of_row _ _ _ _ _ _ HR9.out]; rfl
              have k2 : w9.cell? ⟨w.heap.size, 2, none⟩ = some (.int .i64 0) := by rw [cell_of_row _ _ _ _ _ _ HR9.out]; rfl
              have k3 : w9.cell? ⟨w.heap.size, 3, none⟩ = some (.bool false) := by rw [cell_of_row _ _ _ _ _ _ HR9.out]; rfl
              clear hw9
              go_wp2_with (first | (refine wpList_store_row rfl 95 _ _ rfl w.heap.size #[.string (txt D), .string T, .int .i64 0, .bool false] rfl rfl 95 #[.string ⟨#[]⟩, .string ⟨#[]⟩, .int .i64 0, .bool false] HX0.out wayInfo rfl wayOne ?_; refine (congrArg _ HE9.out).mpr ?_) | fail)
              refine bodyPost_ret (v := .tuple #[.agg #[.string (txt D), .string T, .int .i64 0, .bool false], .bool true]) (by simp [results, Try.results37, go_sem, k0, k1, k2, k3]) rfl ⟨⟨_, _, _, _, rfl⟩, HB9.out⟩

theorem rsplit_nodot (t : List Nat) (w : World) (h : Lb t) (hl : t.length ≤ 1000000) (hp : lastDot t = none) :
    Calls Try.prog 37 #[.string (txt t)] w fun e w' =>
    (∃ D S O B, e = .returned (.tuple #[.agg #[.string D, .string S, .int .i64 O, .bool B], .bool (splitOk t)])) ∧ Below w.heap.size w w' := by
  have hno := lastDot_none hp
  have hspl : splitOk t = false := by unfold splitOk; rw [hp]
  rw [hspl]
  have hsz := txt_size t
  have HAF := Lib.hid (show ∀ j, j < (txt t).size → (PlainAid.bt (txt t) j == 46) = false from fun j h2 => beq_eq_false_iff_ne.mpr (by rw [bt_txt h (by omega)]; exact hno j (by omega)))
  have HW0 := Lib.hid (show Below w.heap.size w (w.alloc (.cells #[.string ⟨#[]⟩, .string ⟨#[]⟩, .int .i64 0, .bool false] 95)) from (Below.refl w.heap.size w).alloc (Nat.le_refl _) _)
  have HX0 := Lib.hid (heap_alloc_new w (.cells #[.string ⟨#[]⟩, .string ⟨#[]⟩, .int .i64 0, .bool false] 95))
  have hs1 : (txt t).size ≤ 1000000 := by omega
  clear hspl hsz hno hp h hl
  have gb := PlainAid.get_bt (txt t)
  generalize txt t = S at *
  go_enter Try.func37, Try.ntmps37
  generalize hw0 : w.alloc (.cells #[.string ⟨#[]⟩, .string ⟨#[]⟩, .int .i64 0, .bool false] 95) = w0 at *
  go_wp2
  go_loop [4] (fun v => ∃ k : Nat, k ≤ S.size ∧ v = .int .i64 ((k : Int) - 1)) (fun v => (intOf v + 1).toNat)
  case atStart => exact ⟨S.size, by omega, rfl⟩
  case round =>
    obtain ⟨k, hk, rfl⟩ := hrel
    rcases k with _ | k
    · have e0 : (((0 : Nat) : Int) - 1) = -1 := by omega
      rw [e0]
      obtain ⟨w9, hw9⟩ : ∃ w9, w0.setRow w.heap.size #[.string ⟨#[]⟩, .string ⟨#[]⟩, .int .i64 0, .bool false] = w9 := ⟨_, rfl⟩
      have HE9 := Lib.hid hw9
      have HR9 := Lib.hid (show w9.heap[w.heap.size]? = some (.cells #[.string ⟨#[]⟩, .string ⟨#[]⟩, .int .i64 0, .bool false] 95 (0, 0)) from by rw [← hw9]; exact setRow_heap _ _ _ _ _ _ HX0.out)
      have HB9 := Lib.hid (show Below w.heap.size w w9 from by rw [← hw9]; exact below_setRow HW0.out (Nat.le_refl _) _)
      have k0 : w9.cell? ⟨w.heap.size, 0, none⟩ = some (.string ⟨#[]⟩) := by rw [cell_of_row _ _ _ _ _ _ HR9.out]; rfl
      have k1 : w9.cell? ⟨w.heap.size, 1, none⟩ = some (.string ⟨#[]⟩) := by rw [cell_of_row _ _ _ _ _ _ HR9.out]; rfl
      have k2 : w9.cell? ⟨w.heap.size, 2, none⟩ = some (.int .i64 0) := by rw [cell_of_row _ _ _ _ _ _ HR9.out]; rfl
      have k3 : w9.cell? ⟨w.heap.size, 3, none⟩ = some (.bool false) := by rw [cell_of_row _ _ _ _ _ _ HR9.out]; rfl
      clear hw9
      go_wp2_with (first | (refine wpList_store_row rfl 95 _ _ rfl w.heap.size #[.string ⟨#[]⟩, .string ⟨#[]⟩, .int .i64 0, .bool false] rfl rfl 95 #[.string ⟨#[]⟩, .string ⟨#[]⟩, .int .i64 0, .bool false] HX0.out wayInfo rfl wayOne ?_; refine (congrArg _ HE9.out).mpr ?_) | fail)
      refine bodyPost_ret (v := .tuple #[.agg #[.string ⟨#[]⟩, .string ⟨#[]⟩, .int .i64 0, .bool false], .bool false]) (by simp [results, Try.results37, go_sem, k0, k1, k2, k3]) rfl ?_
      first | exact ⟨⟨_, _, _, .inl rfl⟩, HB9.out⟩ | exact ⟨⟨_, _, _, _, rfl⟩, HB9.out⟩
    · have e0 : (((k + 1 : Nat) : Int) - 1) = (k : Int) := by omega
      rw [e0]
      have hks : k < S.size := by omega
      have hf := HAF.out k hks
      go_wp2
      go_round
      case rel => exact ⟨k, by omega, rfl⟩
      case measure => simp [intOf]

theorem rsplit_any (t : List Nat) (w : World) (h : Lb t) (hl : t.length ≤ 1000000) :
    Calls Try.prog 37 #[.string (txt t)] w fun e w' =>
    (∃ D S O B, e = .returned (.tuple #[.agg #[.string D, .string S, .int .i64 O, .bool B], .bool (splitOk t)])) ∧ Below w.heap.size w w' := by
  rcases hp : lastDot t with _ | p
  · exact rsplit_nodot t w h hl hp
  · exact rsplit_dot t w h hl p hp
end Go.Proofs.Ytbjabncefhgefaa
namespace Go.Proofs.Ytbjabncefhgefaa
open Go.ChangeShapes Go.WideShapes Go.ChangeAt Go.RowKit
set_option linter.unusedVariables false
set_option linter.unusedSimpArgs false

noncomputable def bodyX : Code := (Try.f16.body).getD .skip
/-- What Exports is to come to. -/
def QX (w : World) (r : Option ExpV) : Exit → Act → World → Prop :=
  bodyPost Try.prog Try.f16 fun e w' => ParseE w w' r e ∧ Below w.heap.size w w'
theorem less_other : ∀ (t s : List Nat), (!lessL s t) = leqL t s
  | [], [] => rfl
  | [], _ :: _ => rfl
  | _ :: _, [] => rfl
  | a :: x, b :: y => by
    have ih := less_other x y
    simp only [leqL] at ih ⊢
    simp only [lessL]
    rcases Nat.lt_trichotomy a b with h | h | h
    · have h1 : ¬ b < a := by omega
      have h2 : (b == a) = false := beq_eq_false_iff_ne.mpr (by omega)
      have h3 : (a == b) = false := beq_eq_false_iff_ne.mpr (by omega)
      simp [h, h1, h2]
    · subst h
      simp at ih ⊢
      exact ih
    · have h1 : ¬ a < b := by omega
      have h2 : (b == a) = false := beq_eq_false_iff_ne.mpr (by omega)
      have h3 : (a == b) = false := beq_eq_false_iff_ne.mpr (by omega)
      have h4 : ¬ a = b := by omega
      simp [h, h1, h2, h3, h4]
theorem less_txt {t s : List Nat} (ht : Lb t) (hs : Lb s) : Op.bytesLess (txt s).toList (txt t).toList = !leqL t s := by
  rw [txt_list ht, txt_list hs, less_map s t hs ht, ← less_other, Bool.not_not]
theorem expOne2 {n : Int} {A A' : Option Addr} {a b c d : Nat} : (#[.int .i64 n, .slice A a b, .slice A' c d] : Array Value).all (·.oneCell') = true := by simp [Value.oneCell']
theorem ownT_setBelow {α : Type} {C : α → List Value} {sz : Nat} {w : World} {base : Nat} {e : TypeId} {v : Value} {l : List α} (h : OwnT C sz w base e v l) {a : Addr} (ha : a.block < base) (u : Value) : OwnT C sz (w.setCell a u) base e v l :=
  ownsRow_setCell_below h ha u
theorem ownT_setRowBelow {α : Type} {C : α → List Value} {sz : Nat} {w : World} {base : Nat} {e : TypeId} {v : Value} {l : List α} (h : OwnT C sz w base e v l) {g : Nat} (hg : g < base) (cs : Array Value) : OwnT C sz (w.setRow g cs) base e v l :=
  h.of_block fun k hk => setRow_other w _ _ _ (by have := (h.lt k hk).1; omega)
set_option maxRecDepth 100000
theorem range244 {α : Type} (f : Nat → α) : (List.range 244).map f = (f 0 :: f 1 :: f 2 :: f 3 :: f 4 :: f 5 :: f 6 :: f 7 :: f 8 :: f 9 :: f 10 :: f 11 :: f 12 :: f 13 :: f 14 :: f 15 :: f 16 :: f 17 :: f 18 :: f 19 :: f 20 :: f 21 :: f 22 :: f 23 :: f 24 :: f 25 :: f 26 :: f 27 :: f 28 :: f 29 :: f 30 :: f 31 :: f 32 :: f 33 :: f 34 :: f 35 :: f 36 :: f 37 :: f 38 :: f 39 :: f 40 :: f 41 :: f 42 :: f 43 :: f 44 :: f 45 :: f 46 :: f 47 :: f 48 :: f 49 :: f 50 :: f 51 :: f 52 :: f 53 :: f 54 :: f 55 :: f 56 :: f 57 :: f 58 :: f 59 :: f 60 :: f 61 :: f 62 :: f 63 :: f 64 :: f 65 :: f 66 :: f 67 :: f 68 :: f 69 :: f 70 :: f 71 :: f 72 :: f 73 :: f 74 :: f 75 :: f 76 :: f 77 :: f 78 :: f 79 :: f 80 :: f 81 :: f 82 :: f 83 :: f 84 :: f 85 :: f 86 :: f 87 :: f 88 :: f 89 :: f 90 :: f 91 :: f 92 :: f 93 :: f 94 :: f 95 :: f 96 :: f 97 :: f 98 :: f 99 :: f 100 :: f 101 :: f 102 :: f 103 :: f 104 :: f 105 :: f 106 :: f 107 :: f 108 :: f 109 :: f 110 :: f 111 :: f 112 :: f 113 :: f 114 :: f 115 :: f 116 :: f 117 :: f 118 :: f 119 :: f 120 :: f 121 :: f 122 :: f 123 :: f 124 :: f 125 :: f 126 :: f 127 :: f 128 :: f 129 :: f 130 :: f 131 :: f 132 :: f 133 :: f 134 :: f 135 :: f 136 :: f 137 :: f 138 :: f 139 :: f 140 :: f 141 :: f 142 :: f 143 :: f 144 :: f 145 :: f 146 :: f 147 :: f 148 :: f 149 :: f 150 :: f 151 :: f 152 :: f 153 :: f 154 :: f 155 :: f 156 :: f 157 :: f 158 :: f 159 :: f 160 :: f 161 :: f 162 :: f 163 :: f 164 :: f 165 :: f 166 :: f 167 :: f 168 :: f 169 :: f 170 :: f 171 :: f 172 :: f 173 :: f 174 :: f 175 :: f 176 :: f 177 :: f 178 :: f 179 :: f 180 :: f 181 :: f 182 :: f 183 :: f 184 :: f 185 :: f 186 :: f 187 :: f 188 :: f 189 :: f 190 :: f 191 :: f 192 :: f 193 :: f 194 :: f 195 :: f 196 :: f 197 :: f 198 :: f 199 :: f 200 :: f 201 :: f 202 :: f 203 :: f 204 :: f 205 :: f 206 :: f 207 :: f 208 :: f 209 :: f 210 :: f 211 :: f 212 :: f 213 :: f 214 :: f 215 :: f 216 :: f 217 :: f 218 :: f 219 :: f 220 :: f 221 :: f 222 :: f 223 :: f 224 :: f 225 :: f 226 :: f 227 :: f 228 :: f 229 :: f 230 :: f 231 :: f 232 :: f 233 :: f 234 :: f 235 :: f 236 :: f 237 :: f 238 :: f 239 :: f 240 :: f 241 :: f 242 :: f 243 :: []) := rfl
theorem xopen_0_4_6_7_8_9_11_12 {a : Act} {v0 v4 v6 v7 v8 v9 v11 v12 : Value} (h : Has 244 [0, 4, 6, 7, 8, 9, 11, 12] [v0, v4, v6, v7, v8, v9, v11, v12] a) : ∃ u : Nat → Value, a = ⟨(v0 :: u 1 :: u 2 :: u 3 :: v4 :: u 5 :: v6 :: v7 :: v8 :: v9 :: u 10 :: v11 :: v12 :: u 13 :: u 14 :: u 15 :: u 16 :: u 17 :: u 18 :: u 19 :: u 20 :: u 21 :: u 22 :: u 23 :: u 24 :: u 25 :: u 26 :: u 27 :: u 28 :: u 29 :: u 30 :: u 31 :: u 32 :: u 33 :: u 34 :: u 35 :: u 36 :: u 37 :: u 38 :: u 39 :: u 40 :: u 41 :: u 42 :: u 43 :: u 44 :: u 45 :: u 46 :: u 47 :: u 48 :: u 49 :: u 50 :: u 51 :: u 52 :: u 53 :: u 54 :: u 55 :: u 56 :: u 57 :: u 58 :: u 59 :: u 60 :: u 61 :: u 62 :: u 63 :: u 64 :: u 65 :: u 66 :: u 67 :: u 68 :: u 69 :: u 70 :: u 71 :: u 72 :: u 73 :: u 74 :: u 75 :: u 76 :: u 77 :: u 78 :: u 79 :: u 80 :: u 81 :: u 82 :: u 83 :: u 84 :: u 85 :: u 86 :: u 87 :: u 88 :: u 89 :: u 90 :: u 91 :: u 92 :: u 93 :: u 94 :: u 95 :: u 96 :: u 97 :: u 98 :: u 99 :: u 100 :: u 101 :: u 102 :: u 103 :: u 104 :: u 105 :: u 106 :: u 107 :: u 108 :: u 109 :: u 110 :: u 111 :: u 112 :: u 113 :: u 114 :: u 115 :: u 116 :: u 117 :: u 118 :: u 119 :: u 120 :: u 121 :: u 122 :: u 123 :: u 124 :: u 125 :: u 126 :: u 127 :: u 128 :: u 129 :: u 130 :: u 131 :: u 132 :: u 133 :: u 134 :: u 135 :: u 136 :: u 137 :: u 138 :: u 139 :: u 140 :: u 141 :: u 142 :: u 143 :: u 144 :: u 145 :: u 146 :: u 147 :: u 148 :: u 149 :: u 150 :: u 151 :: u 152 :: u 153 :: u 154 :: u 155 :: u 156 :: u 157 :: u 158 :: u 159 :: u 160 :: u 161 :: u 162 :: u 163 :: u 164 :: u 165 :: u 166 :: u 167 :: u 168 :: u 169 :: u 170 :: u 171 :: u 172 :: u 173 :: u 174 :: u 175 :: u 176 :: u 177 :: u 178 :: u 179 :: u 180 :: u 181 :: u 182 :: u 183 :: u 184 :: u 185 :: u 186 :: u 187 :: u 188 :: u 189 :: u 190 :: u 191 :: u 192 :: u 193 :: u 194 :: u 195 :: u 196 :: u 197 :: u 198 :: u 199 :: u 200 :: u 201 :: u 202 :: u 203 :: u 204 :: u 205 :: u 206 :: u 207 :: u 208 :: u 209 :: u 210 :: u 211 :: u 212 :: u 213 :: u 214 :: u 215 :: u 216 :: u 217 :: u 218 :: u 219 :: u 220 :: u 221 :: u 222 :: u 223 :: u 224 :: u 225 :: u 226 :: u 227 :: u 228 :: u 229 :: u 230 :: u 231 :: u 232 :: u 233 :: u 234 :: u 235 :: u 236 :: u 237 :: u 238 :: u 239 :: u 240 :: u 241 :: u 242 :: u 243 :: []).toArray, []⟩ := by
  obtain ⟨⟨l⟩, d⟩ := a
  obtain ⟨hs, hd, hl⟩ := h
  have hs' : l.length = 244 := hs
  have hd' : d = [] := hd
  subst hd'
  simp only [at_, List.map_cons, List.map_nil, List.cons.injEq, and_true] at hl
  obtain ⟨e0, e4, e6, e7, e8, e9, e11, e12⟩ := hl
  refine ⟨sl ⟨⟨l⟩, []⟩, ?_⟩
  have key := open_list l [] 244 hs'
  rw [range244] at key
  have u0 : sl ⟨⟨l⟩, []⟩ 0 = v0 := by unfold sl; rw [e0]; rfl
  have u4 : sl ⟨⟨l⟩, []⟩ 4 = v4 := by unfold sl; rw [e4]; rfl
  have u6 : sl ⟨⟨l⟩, []⟩ 6 = v6 := by unfold sl; rw [e6]; rfl
  have u7 : sl ⟨⟨l⟩, []⟩ 7 = v7 := by unfold sl; rw [e7]; rfl
  have u8 : sl ⟨⟨l⟩, []⟩ 8 = v8 := by unfold sl; rw [e8]; rfl
  have u9 : sl ⟨⟨l⟩, []⟩ 9 = v9 := by unfold sl; rw [e9]; rfl
  have u11 : sl ⟨⟨l⟩, []⟩ 11 = v11 := by unfold sl; rw [e11]; rfl
  have u12 : sl ⟨⟨l⟩, []⟩ 12 = v12 := by unfold sl; rw [e12]; rfl
  have k2 : l = (v0 :: sl ⟨⟨l⟩, []⟩ 1 :: sl ⟨⟨l⟩, []⟩ 2 :: sl ⟨⟨l⟩, []⟩ 3 :: v4 :: sl ⟨⟨l⟩, []⟩ 5 :: v6 :: v7 :: v8 :: v9 :: sl ⟨⟨l⟩, []⟩ 10 :: v11 :: v12 :: sl ⟨⟨l⟩, []⟩ 13 :: sl ⟨⟨l⟩, []⟩ 14 :: sl ⟨⟨l⟩, []⟩ 15 :: sl ⟨⟨l⟩, []⟩ 16 :: sl ⟨⟨l⟩, []⟩ 17 :: sl ⟨⟨l⟩, []⟩ 18 :: sl ⟨⟨l⟩, []⟩ 19 :: sl ⟨⟨l⟩, []⟩ 20 :: sl ⟨⟨l⟩, []⟩ 21 :: sl ⟨⟨l⟩, []⟩ 22 :: sl ⟨⟨l⟩, []⟩ 23 :: sl ⟨⟨l⟩, []⟩ 24 :: sl ⟨⟨l⟩, []⟩ 25 :: sl ⟨⟨l⟩, []⟩ 26 :: sl ⟨⟨l⟩, []⟩ 27 :: sl ⟨⟨l⟩, []⟩ 28 :: sl ⟨⟨l⟩, []⟩ 29 :: sl ⟨⟨l⟩, []⟩ 30 :: sl ⟨⟨l⟩, []⟩ 31 :: sl ⟨⟨l⟩, []⟩ 32 :: sl ⟨⟨l⟩, []⟩ 33 :: sl ⟨⟨l⟩, []⟩ 34 :: sl ⟨⟨l⟩, []⟩ 35 :: sl ⟨⟨l⟩, []⟩ 36 :: sl ⟨⟨l⟩, []⟩ 37 :: sl ⟨⟨l⟩, []⟩ 38 :: sl ⟨⟨l⟩, []⟩ 39 :: sl ⟨⟨l⟩, []⟩ 40 :: sl ⟨⟨l⟩, []⟩ 41 :: sl ⟨⟨l⟩, []⟩ 42 :: sl ⟨⟨l⟩, []⟩ 43 :: sl ⟨⟨l⟩, []⟩ 44 :: sl ⟨⟨l⟩, []⟩ 45 :: sl ⟨⟨l⟩, []⟩ 46 :: sl ⟨⟨l⟩, []⟩ 47 :: sl ⟨⟨l⟩, []⟩ 48 :: sl ⟨⟨l⟩, []⟩ 49 :: sl ⟨⟨l⟩, []⟩ 50 :: sl ⟨⟨l⟩, []⟩ 51 :: sl ⟨⟨l⟩, []⟩ 52 :: sl ⟨⟨l⟩, []⟩ 53 :: sl ⟨⟨l⟩, []⟩ 54 :: sl ⟨⟨l⟩, []⟩ 55 :: sl ⟨⟨l⟩, []⟩ 56 :: sl ⟨⟨l⟩, []⟩ 57 :: sl ⟨⟨l⟩, []⟩ 58 :: sl ⟨⟨l⟩, []⟩ 59 :: sl ⟨⟨l⟩, []⟩ 60 :: sl ⟨⟨l⟩, []⟩ 61 :: sl ⟨⟨l⟩, []⟩ 62 :: sl ⟨⟨l⟩, []⟩ 63 :: sl ⟨⟨l⟩, []⟩ 64 :: sl ⟨⟨l⟩, []⟩ 65 :: sl ⟨⟨l⟩, []⟩ 66 :: sl ⟨⟨l⟩, []⟩ 67 :: sl ⟨⟨l⟩, []⟩ 68 :: sl ⟨⟨l⟩, []⟩ 69 :: sl ⟨⟨l⟩, []⟩ 70 :: sl ⟨⟨l⟩, []⟩ 71 :: sl ⟨⟨l⟩, []⟩ 72 :: sl ⟨⟨l⟩, []⟩ 73 :: sl ⟨⟨l⟩, []⟩ 74 :: sl ⟨⟨l⟩, []⟩ 75 :: sl ⟨⟨l⟩, []⟩ 76 :: sl ⟨⟨l⟩, []⟩ 77 :: sl ⟨⟨l⟩, []⟩ 78 :: sl ⟨⟨l⟩, []⟩ 79 :: sl ⟨⟨l⟩, []⟩ 80 :: sl ⟨⟨l⟩, []⟩ 81 :: sl ⟨⟨l⟩, []⟩ 82 :: sl ⟨⟨l⟩, []⟩ 83 :: sl ⟨⟨l⟩, []⟩ 84 :: sl ⟨⟨l⟩, []⟩ 85 :: sl ⟨⟨l⟩, []⟩ 86 :: sl ⟨⟨l⟩, []⟩ 87 :: sl ⟨⟨l⟩, []⟩ 88 :: sl ⟨⟨l⟩, []⟩ 89 :: sl ⟨⟨l⟩, []⟩ 90 :: sl ⟨⟨l⟩, []⟩ 91 :: sl ⟨⟨l⟩, []⟩ 92 :: sl ⟨⟨l⟩, []⟩ 93 :: sl ⟨⟨l⟩, []⟩ 94 :: sl ⟨⟨l⟩, []⟩ 95 :: sl ⟨⟨l⟩, []⟩ 96 :: sl ⟨⟨l⟩, []⟩ 97 :: sl ⟨⟨l⟩, []⟩ 98 :: sl ⟨⟨l⟩, []⟩ 99 :: sl ⟨⟨l⟩, []⟩ 100 :: sl ⟨⟨l⟩, []⟩ 101 :: sl ⟨⟨l⟩, []⟩ 102 :: sl ⟨⟨l⟩, []⟩ 103 :: sl ⟨⟨l⟩, []⟩ 104 :: sl ⟨⟨l⟩, []⟩ 105 :: sl ⟨⟨l⟩, []⟩ 106 :: sl ⟨⟨l⟩, []⟩ 107 :: sl ⟨⟨l⟩, []⟩ 108 :: sl ⟨⟨l⟩, []⟩ 109 :: sl ⟨⟨l⟩, []⟩ 110 :: sl ⟨⟨l⟩, []⟩ 111 :: sl ⟨⟨l⟩, []⟩ 112 :: sl ⟨⟨l⟩, []⟩ 113 :: sl ⟨⟨l⟩, []⟩ 114 :: sl ⟨⟨l⟩, []⟩ 115 :: sl ⟨⟨l⟩, []⟩ 116 :: sl ⟨⟨l⟩, []⟩ 117 :: sl ⟨⟨l⟩, []⟩ 118 :: sl ⟨⟨l⟩, []⟩ 119 :: sl ⟨⟨l⟩, []⟩ 120 :: sl ⟨⟨l⟩, []⟩ 121 :: sl ⟨⟨l⟩, []⟩ 122 :: sl ⟨⟨l⟩, []⟩ 123 :: sl ⟨⟨l⟩, []⟩ 124 :: sl ⟨⟨l⟩, []⟩ 125 :: sl ⟨⟨l⟩, []⟩ 126 :: sl ⟨⟨l⟩, []⟩ 127 :: sl ⟨⟨l⟩, []⟩ 128 :: sl ⟨⟨l⟩, []⟩ 129 :: sl ⟨⟨l⟩, []⟩ 130 :: sl ⟨⟨l⟩, []⟩ 131 :: sl ⟨⟨l⟩, []⟩ 132 :: sl ⟨⟨l⟩, []⟩ 133 :: sl ⟨⟨l⟩, []⟩ 134 :: sl ⟨⟨l⟩, []⟩ 135 :: sl ⟨⟨l⟩, []⟩ 136 :: sl ⟨⟨l⟩, []⟩ 137 :: sl ⟨⟨l⟩, []⟩ 138 :: sl ⟨⟨l⟩, []⟩ 139 :: sl ⟨⟨l⟩, []⟩ 140 :: sl ⟨⟨l⟩, []⟩ 141 :: sl ⟨⟨l⟩, []⟩ 142 :: sl ⟨⟨l⟩, []⟩ 143 :: sl ⟨⟨l⟩, []⟩ 144 :: sl ⟨⟨l⟩, []⟩ 145 :: sl ⟨⟨l⟩, []⟩ 146 :: sl ⟨⟨l⟩, []⟩ 147 :: sl ⟨⟨l⟩, []⟩ 148 :: sl ⟨⟨l⟩, []⟩ 149 :: sl ⟨⟨l⟩, []⟩ 150 :: sl ⟨⟨l⟩, []⟩ 151 :: sl ⟨⟨l⟩, []⟩ 152 :: sl ⟨⟨l⟩, []⟩ 153 :: sl ⟨⟨l⟩, []⟩ 154 :: sl ⟨⟨l⟩, []⟩ 155 :: sl ⟨⟨l⟩, []⟩ 156 :: sl ⟨⟨l⟩, []⟩ 157 :: sl ⟨⟨l⟩, []⟩ 158 :: sl ⟨⟨l⟩, []⟩ 159 :: sl ⟨⟨l⟩, []⟩ 160 :: sl ⟨⟨l⟩, []⟩ 161 :: sl ⟨⟨l⟩, []⟩ 162 :: sl ⟨⟨l⟩, []⟩ 163 :: sl ⟨⟨l⟩, []⟩ 164 :: sl ⟨⟨l⟩, []⟩ 165 :: sl ⟨⟨l⟩, []⟩ 166 :: sl ⟨⟨l⟩, []⟩ 167 :: sl ⟨⟨l⟩, []⟩ 168 :: sl ⟨⟨l⟩, []⟩ 169 :: sl ⟨⟨l⟩, []⟩ 170 :: sl ⟨⟨l⟩, []⟩ 171 :: sl ⟨⟨l⟩, []⟩ 172 :: sl ⟨⟨l⟩, []⟩ 173 :: sl ⟨⟨l⟩, []⟩ 174 :: sl ⟨⟨l⟩, []⟩ 175 :: sl ⟨⟨l⟩, []⟩ 176 :: sl ⟨⟨l⟩, []⟩ 177 :: sl ⟨⟨l⟩, []⟩ 178 :: sl ⟨⟨l⟩, []⟩ 179 :: sl ⟨⟨l⟩, []⟩ 180 :: sl ⟨⟨l⟩, []⟩ 181 :: sl ⟨⟨l⟩, []⟩ 182 :: sl ⟨⟨l⟩, []⟩ 183 :: sl ⟨⟨l⟩, []⟩ 184 :: sl ⟨⟨l⟩, []⟩ 185 :: sl ⟨⟨l⟩, []⟩ 186 :: sl ⟨⟨l⟩, []⟩ 187 :: sl ⟨⟨l⟩, []⟩ 188 :: sl ⟨⟨l⟩, []⟩ 189 :: sl ⟨⟨l⟩, []⟩ 190 :: sl ⟨⟨l⟩, []⟩ 191 :: sl ⟨⟨l⟩, []⟩ 192 :: sl ⟨⟨l⟩, []⟩ 193 :: sl ⟨⟨l⟩, []⟩ 194 :: sl ⟨⟨l⟩, []⟩ 195 :: sl ⟨⟨l⟩, []⟩ 196 :: sl ⟨⟨l⟩, []⟩ 197 :: sl ⟨⟨l⟩, []⟩ 198 :: sl ⟨⟨l⟩, []⟩ 199 :: sl ⟨⟨l⟩, []⟩ 200 :: sl ⟨⟨l⟩, []⟩ 201 :: sl ⟨⟨l⟩, []⟩ 202 :: sl ⟨⟨l⟩, []⟩ 203 :: sl ⟨⟨l⟩, []⟩ 204 :: sl ⟨⟨l⟩, []⟩ 205 :: sl ⟨⟨l⟩, []⟩ 206 :: sl ⟨⟨l⟩, []⟩ 207 :: sl ⟨⟨l⟩, []⟩ 208 :: sl ⟨⟨l⟩, []⟩ 209 :: sl ⟨⟨l⟩, []⟩ 210 :: sl ⟨⟨l⟩, []⟩ 211 :: sl ⟨⟨l⟩, []⟩ 212 :: sl ⟨⟨l⟩, []⟩ 213 :: sl ⟨⟨l⟩, []⟩ 214 :: sl ⟨⟨l⟩, []⟩ 215 :: sl ⟨⟨l⟩, []⟩ 216 :: sl ⟨⟨l⟩, []⟩ 217 :: sl ⟨⟨l⟩, []⟩ 218 :: sl ⟨⟨l⟩, []⟩ 219 :: sl ⟨⟨l⟩, []⟩ 220 :: sl ⟨⟨l⟩, []⟩ 221 :: sl ⟨⟨l⟩, []⟩ 222 :: sl ⟨⟨l⟩, []⟩ 223 :: sl ⟨⟨l⟩, []⟩ 224 :: sl ⟨⟨l⟩, []⟩ 225 :: sl ⟨⟨l⟩, []⟩ 226 :: sl ⟨⟨l⟩, []⟩ 227 :: sl ⟨⟨l⟩, []⟩ 228 :: sl ⟨⟨l⟩, []⟩ 229 :: sl ⟨⟨l⟩, []⟩ 230 :: sl ⟨⟨l⟩, []⟩ 231 :: sl ⟨⟨l⟩, []⟩ 232 :: sl ⟨⟨l⟩, []⟩ 233 :: sl ⟨⟨l⟩, []⟩ 234 :: sl ⟨⟨l⟩, []⟩ 235 :: sl ⟨⟨l⟩, []⟩ 236 :: sl ⟨⟨l⟩, []⟩ 237 :: sl ⟨⟨l⟩, []⟩ 238 :: sl ⟨⟨l⟩, []⟩ 239 :: sl ⟨⟨l⟩, []⟩ 240 :: sl ⟨⟨l⟩, []⟩ 241 :: sl ⟨⟨l⟩, []⟩ 242 :: sl ⟨⟨l⟩, []⟩ 243 :: []) := by
    rw [← u0, ← u4, ← u6, ← u7, ← u8, ← u9, ← u11, ← u12]
    exact key
  exact congrArg (fun x => (⟨⟨x⟩, []⟩ : Act)) k2
theorem xopen_0_3_4_6_7_8_9_10_11_12 {a : Act} {v0 v3 v4 v6 v7 v8 v9 v10 v11 v12 : Value} (h : Has 244 [0, 3, 4, 6, 7, 8, 9, 10, 11, 12] [v0, v3, v4, v6, v7, v8, v9, v10, v11, v12] a) : ∃ u : Nat → Value, a = ⟨(v0 :: u 1 :: u 2 :: v3 :: v4 :: u 5 :: v6 :: v7 :: v8 :: v9 :: v10 :: v11 :: v12 :: u 13 :: u 14 :: u 15 :: u 16 :: u 17 :: u 18 :: u 19 :: u 20 :: u 21 :: u 22 :: u 23 :: u 24 :: u 25 :: u 26 :: u 27 :: u 28 :: u 29 :: u 30 :: u 31 :: u 32 :: u 33 :: u 34 :: u 35 :: u 36 :: u 37 :: u 38 :: u 39 :: u 40 :: u 41 :: u 42 :: u 43 :: u 44 :: u 45 :: u 46 :: u 47 :: u 48 :: u 49 :: u 50 :: u 51 :: u 52 :: u 53 :: u 54 :: u 55 :: u 56 :: u 57 :: u 58 :: u 59 :: u 60 :: u 61 :: u 62 :: u 63 :: u 64 :: u 65 :: u 66 :: u 67 :: u 68 :: u 69 :: u 70 :: u 71 :: u 72 :: u 73 :: u 74 :: u 75 :: u 76 :: u 77 :: u 78 :: u 79 :: u 80 :: u 81 :: u 82 :: u 83 :: u 84 :: u 85 :: u 86 :: u 87 :: u 88 :: u 89 :: u 90 :: u 91 :: u 92 :: u 93 :: u 94 :: u 95 :: u 96 :: u 97 :: u 98 :: u 99 :: u 100 :: u 101 :: u 102 :: u 103 :: u 104 :: u 105 :: u 106 :: u 107 :: u 108 :: u 109 :: u 110 :: u 111 :: u 112 :: u 113 :: u 114 :: u 115 :: u 116 :: u 117 :: u 118 :: u 119 :: u 120 :: u 121 :: u 122 :: u 123 :: u 124 :: u 125 :: u 126 :: u 127 :: u 128 :: u 129 :: u 130 :: u 131 :: u 132 :: u 133 :: u 134 :: u 135 :: u 136 :: u 137 :: u 138 :: u 139 :: u 140 :: u 141 :: u 142 :: u 143 :: u 144 :: u 145 :: u 146 :: u 147 :: u 148 :: u 149 :: u 150 :: u 151 :: u 152 :: u 153 :: u 154 :: u 155 :: u 156 :: u 157 :: u 158 :: u 159 :: u 160 :: u 161 :: u 162 :: u 163 :: u 164 :: u 165 :: u 166 :: u 167 :: u 168 :: u 169 :: u 170 :: u 171 :: u 172 :: u 173 :: u 174 :: u 175 :: u 176 :: u 177 :: u 178 :: u 179 :: u 180 :: u 181 :: u 182 :: u 183 :: u 184 :: u 185 :: u 186 :: u 187 :: u 188 :: u 189 :: u 190 :: u 191 :: u 192 :: u 193 :: u 194 :: u 195 :: u 196 :: u 197 :: u 198 :: u 199 :: u 200 :: u 201 :: u 202 :: u 203 :: u 204 :: u 205 :: u 206 :: u 207 :: u 208 :: u 209 :: u 210 :: u 211 :: u 212 :: u 213 :: u 214 :: u 215 :: u 216 :: u 217 :: u 218 :: u 219 :: u 220 :: u 221 :: u 222 :: u 223 :: u 224 :: u 225 :: u 226 :: u 227 :: u 228 :: u 229 :: u 230 :: u 231 :: u 232 :: u 233 :: u 234 :: u 235 :: u 236 :: u 237 :: u 238 :: u 239 :: u 240 :: u 241 :: u 242 :: u 243 :: []).toArray, []⟩ := by
  obtain ⟨⟨l⟩, d⟩ := a
  obtain ⟨hs, hd, hl⟩ := h
  have hs' : l.length = 244 := hs
  have hd' : d = [] := hd
  subst hd'
  simp only [at_, List.map_cons, List.map_nil, List.cons.injEq, and_true] at hl
  obtain ⟨e0, e3, e4, e6, e7, e8, e9, e10, e11, e12⟩ := hl
  refine ⟨sl ⟨⟨l⟩, []⟩, ?_⟩
  have key := open_list l [] 244 hs'
  rw [range244] at key
  have u0 : sl ⟨⟨l⟩, []⟩ 0 = v0 := by unfold sl; rw [e0]; rfl
  have u3 : sl ⟨⟨l⟩, []⟩ 3 = v3 := by unfold sl; rw [e3]; rfl
  have u4 : sl ⟨⟨l⟩, []⟩ 4 = v4 := by unfold sl; rw [e4]; rfl
  have u6 : sl ⟨⟨l⟩, []⟩ 6 = v6 := by unfold sl; rw [e6]; rfl
  have u7 : sl ⟨⟨l⟩, []⟩ 7 = v7 := by unfold sl; rw [e7]; rfl
  have u8 : sl ⟨⟨l⟩, []⟩ 8 = v8 := by unfold sl; rw [e8]; rfl
  have u9 : sl ⟨⟨l⟩, []⟩ 9 = v9 := by unfold sl; rw [e9]; rfl
  have u10 : sl ⟨⟨l⟩, []⟩ 10 = v10 := by unfold sl; rw [e10]; rfl
  have u11 : sl ⟨⟨l⟩, []⟩ 11 = v11 := by unfold sl; rw [e11]; rfl
  have u12 : sl ⟨⟨l⟩, []⟩ 12 = v12 := by unfold sl; rw [e12]; rfl
  have k2 : l = (v0 :: sl ⟨⟨l⟩, []⟩ 1 :: sl ⟨⟨l⟩, []⟩ 2 :: v3 :: v4 :: sl ⟨⟨l⟩, []⟩ 5 :: v6 :: v7 :: v8 :: v9 :: v10 :: v11 :: v12 :: sl ⟨⟨l⟩, []⟩ 13 :: sl ⟨⟨l⟩, []⟩ 14 :: sl ⟨⟨l⟩, []⟩ 15 :: sl ⟨⟨l⟩, []⟩ 16 :: sl ⟨⟨l⟩, []⟩ 17 :: sl ⟨⟨l⟩, []⟩ 18 :: sl ⟨⟨l⟩, []⟩ 19 :: sl ⟨⟨l⟩, []⟩ 20 :: sl ⟨⟨l⟩, []⟩ 21 :: sl ⟨⟨l⟩, []⟩ 22 :: sl ⟨⟨l⟩, []⟩ 23 :: sl ⟨⟨l⟩, []⟩ 24 :: sl ⟨⟨l⟩, []⟩ 25 :: sl ⟨⟨l⟩, []⟩ 26 :: sl ⟨⟨l⟩, []⟩ 27 :: sl ⟨⟨l⟩, []⟩ 28 :: sl ⟨⟨l⟩, []⟩ 29 :: sl ⟨⟨l⟩, []⟩ 30 :: sl ⟨⟨l⟩, []⟩ 31 :: sl ⟨⟨l⟩, []⟩ 32 :: sl ⟨⟨l⟩, []⟩ 33 :: sl ⟨⟨l⟩, []⟩ 34 :: sl ⟨⟨l⟩, []⟩ 35 :: sl ⟨⟨l⟩, []⟩ 36 :: sl ⟨⟨l⟩, []⟩ 37 :: sl ⟨⟨l⟩, []⟩ 38 :: sl ⟨⟨l⟩, []⟩ 39 :: sl ⟨⟨l⟩, []⟩ 40 :: sl ⟨⟨l⟩, []⟩ 41 :: sl ⟨⟨l⟩, []⟩ 42 :: sl ⟨⟨l⟩, []⟩ 43 :: sl ⟨⟨l⟩, []⟩ 44 :: sl ⟨⟨l⟩, []⟩ 45 :: sl ⟨⟨l⟩, []⟩ 46 :: sl ⟨⟨l⟩, []⟩ 47 :: sl ⟨⟨l⟩, []⟩ 48 :: sl ⟨⟨l⟩, []⟩ 49 :: sl ⟨⟨l⟩, []⟩ 50 :: sl ⟨⟨l⟩, []⟩ 51 :: sl ⟨⟨l⟩, []⟩ 52 :: sl ⟨⟨l⟩, []⟩ 53 :: sl ⟨⟨l⟩, []⟩ 54 :: sl ⟨⟨l⟩, []⟩ 55 :: sl ⟨⟨l⟩, []⟩ 56 :: sl ⟨⟨l⟩, []⟩ 57 :: sl ⟨⟨l⟩, []⟩ 58 :: sl ⟨⟨l⟩, []⟩ 59 :: sl ⟨⟨l⟩, []⟩ 60 :: sl ⟨⟨l⟩, []⟩ 61 :: sl ⟨⟨l⟩, []⟩ 62 :: sl ⟨⟨l⟩, []⟩ 63 :: sl ⟨⟨l⟩, []⟩ 64 :: sl ⟨⟨l⟩, []⟩ 65 :: sl ⟨⟨l⟩, []⟩ 66 :: sl ⟨⟨l⟩, []⟩ 67 :: sl ⟨⟨l⟩, []⟩ 68 :: sl ⟨⟨l⟩, []⟩ 69 :: sl ⟨⟨l⟩, []⟩ 70 :: sl ⟨⟨l⟩, []⟩ 71 :: sl ⟨⟨l⟩, []⟩ 72 :: sl ⟨⟨l⟩, []⟩ 73 :: sl ⟨⟨l⟩, []⟩ 74 :: sl ⟨⟨l⟩, []⟩ 75 :: sl ⟨⟨l⟩, []⟩ 76 :: sl ⟨⟨l⟩, []⟩ 77 :: sl ⟨⟨l⟩, []⟩ 78 :: sl ⟨⟨l⟩, []⟩ 79 :: sl ⟨⟨l⟩, []⟩ 80 :: sl ⟨⟨l⟩, []⟩ 81 :: sl ⟨⟨l⟩, []⟩ 82 :: sl ⟨⟨l⟩, []⟩ 83 :: sl ⟨⟨l⟩, []⟩ 84 :: sl ⟨⟨l⟩, []⟩ 85 :: sl ⟨⟨l⟩, []⟩ 86 :: sl ⟨⟨l⟩, []⟩ 87 :: sl ⟨⟨l⟩, []⟩ 88 :: sl ⟨⟨l⟩, []⟩ 89 :: sl ⟨⟨l⟩, []⟩ 90 :: sl ⟨⟨l⟩, []⟩ 91 :: sl ⟨⟨l⟩, []⟩ 92 :: sl ⟨⟨l⟩, []⟩ 93 :: sl ⟨⟨l⟩, []⟩ 94 :: sl ⟨⟨l⟩, []⟩ 95 :: sl ⟨⟨l⟩, []⟩ 96 :: sl ⟨⟨l⟩, []⟩ 97 :: sl ⟨⟨l⟩, []⟩ 98 :: sl ⟨⟨l⟩, []⟩ 99 :: sl ⟨⟨l⟩, []⟩ 100 :: sl ⟨⟨l⟩, []⟩ 101 :: sl ⟨⟨l⟩, []⟩ 102 :: sl ⟨⟨l⟩, []⟩ 103 :: sl ⟨⟨l⟩, []⟩ 104 :: sl ⟨⟨l⟩, []⟩ 105 :: sl ⟨⟨l⟩, []⟩ 106 :: sl ⟨⟨l⟩, []⟩ 107 :: sl ⟨⟨l⟩, []⟩ 108 :: sl ⟨⟨l⟩, []⟩ 109 :: sl ⟨⟨l⟩, []⟩ 110 :: sl ⟨⟨l⟩, []⟩ 111 :: sl ⟨⟨l⟩, []⟩ 112 :: sl ⟨⟨l⟩, []⟩ 113 :: sl ⟨⟨l⟩, []⟩ 114 :: sl ⟨⟨l⟩, []⟩ 115 :: sl ⟨⟨l⟩, []⟩ 116 :: sl ⟨⟨l⟩, []⟩ 117 :: sl ⟨⟨l⟩, []⟩ 118 :: sl ⟨⟨l⟩, []⟩ 119 :: sl ⟨⟨l⟩, []⟩ 120 :: sl ⟨⟨l⟩, []⟩ 121 :: sl ⟨⟨l⟩, []⟩ 122 :: sl ⟨⟨l⟩, []⟩ 123 :: sl ⟨⟨l⟩, []⟩ 124 :: sl ⟨⟨l⟩, []⟩ 125 :: sl ⟨⟨l⟩, []⟩ 126 :: sl ⟨⟨l⟩, []⟩ 127 :: sl ⟨⟨l⟩, []⟩ 128 :: sl ⟨⟨l⟩, []⟩ 129 :: sl ⟨⟨l⟩, []⟩ 130 :: sl ⟨⟨l⟩, []⟩ 131 :: sl ⟨⟨l⟩, []⟩ 132 :: sl ⟨⟨l⟩, []⟩ 133 :: sl ⟨⟨l⟩, []⟩ 134 :: sl ⟨⟨l⟩, []⟩ 135 :: sl ⟨⟨l⟩, []⟩ 136 :: sl ⟨⟨l⟩, []⟩ 137 :: sl ⟨⟨l⟩, []⟩ 138 :: sl ⟨⟨l⟩, []⟩ 139 :: sl ⟨⟨l⟩, []⟩ 140 :: sl ⟨⟨l⟩, []⟩ 141 :: sl ⟨⟨l⟩, []⟩ 142 :: sl ⟨⟨l⟩, []⟩ 143 :: sl ⟨⟨l⟩, []⟩ 144 :: sl ⟨⟨l⟩, []⟩ 145 :: sl ⟨⟨l⟩, []⟩ 146 :: sl ⟨⟨l⟩, []⟩ 147 :: sl ⟨⟨l⟩, []⟩ 148 :: sl ⟨⟨l⟩, []⟩ 149 :: sl ⟨⟨l⟩, []⟩ 150 :: sl ⟨⟨l⟩, []⟩ 151 :: sl ⟨⟨l⟩, []⟩ 152 :: sl ⟨⟨l⟩, []⟩ 153 :: sl ⟨⟨l⟩, []⟩ 154 :: sl ⟨⟨l⟩, []⟩ 155 :: sl ⟨⟨l⟩, []⟩ 156 :: sl ⟨⟨l⟩, []⟩ 157 :: sl ⟨⟨l⟩, []⟩ 158 :: sl ⟨⟨l⟩, []⟩ 159 :: sl ⟨⟨l⟩, []⟩ 160 :: sl ⟨⟨l⟩, []⟩ 161 :: sl ⟨⟨l⟩, []⟩ 162 :: sl ⟨⟨l⟩, []⟩ 163 :: sl ⟨⟨l⟩, []⟩ 164 :: sl ⟨⟨l⟩, []⟩ 165 :: sl ⟨⟨l⟩, []⟩ 166 :: sl ⟨⟨l⟩, []⟩ 167 :: sl ⟨⟨l⟩, []⟩ 168 :: sl ⟨⟨l⟩, []⟩ 169 :: sl ⟨⟨l⟩, []⟩ 170 :: sl ⟨⟨l⟩, []⟩ 171 :: sl ⟨⟨l⟩, []⟩ 172 :: sl ⟨⟨l⟩, []⟩ 173 :: sl ⟨⟨l⟩, []⟩ 174 :: sl ⟨⟨l⟩, []⟩ 175 :: sl ⟨⟨l⟩, []⟩ 176 :: sl ⟨⟨l⟩, []⟩ 177 :: sl ⟨⟨l⟩, []⟩ 178 :: sl ⟨⟨l⟩, []⟩ 179 :: sl ⟨⟨l⟩, []⟩ 180 :: sl ⟨⟨l⟩, []⟩ 181 :: sl ⟨⟨l⟩, []⟩ 182 :: sl ⟨⟨l⟩, []⟩ 183 :: sl ⟨⟨l⟩, []⟩ 184 :: sl ⟨⟨l⟩, []⟩ 185 :: sl ⟨⟨l⟩, []⟩ 186 :: sl ⟨⟨l⟩, []⟩ 187 :: sl ⟨⟨l⟩, []⟩ 188 :: sl ⟨⟨l⟩, []⟩ 189 :: sl ⟨⟨l⟩, []⟩ 190 :: sl ⟨⟨l⟩, []⟩ 191 :: sl ⟨⟨l⟩, []⟩ 192 :: sl ⟨⟨l⟩, []⟩ 193 :: sl ⟨⟨l⟩, []⟩ 194 :: sl ⟨⟨l⟩, []⟩ 195 :: sl ⟨⟨l⟩, []⟩ 196 :: sl ⟨⟨l⟩, []⟩ 197 :: sl ⟨⟨l⟩, []⟩ 198 :: sl ⟨⟨l⟩, []⟩ 199 :: sl ⟨⟨l⟩, []⟩ 200 :: sl ⟨⟨l⟩, []⟩ 201 :: sl ⟨⟨l⟩, []⟩ 202 :: sl ⟨⟨l⟩, []⟩ 203 :: sl ⟨⟨l⟩, []⟩ 204 :: sl ⟨⟨l⟩, []⟩ 205 :: sl ⟨⟨l⟩, []⟩ 206 :: sl ⟨⟨l⟩, []⟩ 207 :: sl ⟨⟨l⟩, []⟩ 208 :: sl ⟨⟨l⟩, []⟩ 209 :: sl ⟨⟨l⟩, []⟩ 210 :: sl ⟨⟨l⟩, []⟩ 211 :: sl ⟨⟨l⟩, []⟩ 212 :: sl ⟨⟨l⟩, []⟩ 213 :: sl ⟨⟨l⟩, []⟩ 214 :: sl ⟨⟨l⟩, []⟩ 215 :: sl ⟨⟨l⟩, []⟩ 216 :: sl ⟨⟨l⟩, []⟩ 217 :: sl ⟨⟨l⟩, []⟩ 218 :: sl ⟨⟨l⟩, []⟩ 219 :: sl ⟨⟨l⟩, []⟩ 220 :: sl ⟨⟨l⟩, []⟩ 221 :: sl ⟨⟨l⟩, []⟩ 222 :: sl ⟨⟨l⟩, []⟩ 223 :: sl ⟨⟨l⟩, []⟩ 224 :: sl ⟨⟨l⟩, []⟩ 225 :: sl ⟨⟨l⟩, []⟩ 226 :: sl ⟨⟨l⟩, []⟩ 227 :: sl ⟨⟨l⟩, []⟩ 228 :: sl ⟨⟨l⟩, []⟩ 229 :: sl ⟨⟨l⟩, []⟩ 230 :: sl ⟨⟨l⟩, []⟩ 231 :: sl ⟨⟨l⟩, []⟩ 232 :: sl ⟨⟨l⟩, []⟩ 233 :: sl ⟨⟨l⟩, []⟩ 234 :: sl ⟨⟨l⟩, []⟩ 235 :: sl ⟨⟨l⟩, []⟩ 236 :: sl ⟨⟨l⟩, []⟩ 237 :: sl ⟨⟨l⟩, []⟩ 238 :: sl ⟨⟨l⟩, []⟩ 239 :: sl ⟨⟨l⟩, []⟩ 240 :: sl ⟨⟨l⟩, []⟩ 241 :: sl ⟨⟨l⟩, []⟩ 242 :: sl ⟨⟨l⟩, []⟩ 243 :: []) := by
    rw [← u0, ← u3, ← u4, ← u6, ← u7, ← u8, ← u9, ← u10, ← u11, ← u12]
    exact key
  exact congrArg (fun x => (⟨⟨x⟩, []⟩ : Act)) k2
end Go.Proofs.Ytbjabncefhgefaa
