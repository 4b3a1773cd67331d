import Derived.Test.YtplgdpjbkdagfaaGreatZAwake1
import Derived.Test.YtplgdpjbkdagfaaGreatShelf
import Derived.Lib.IndexLaws
namespace Go.Proofs.YtplgdpjbkdagfaaGreat
set_option maxRecDepth 100000
open Go.ChangeShapes Go.WideShapes Go.ChangeAt Go.RowKit
set_option linter.unusedVariables false
set_option linter.unusedSimpArgs false
def nameB (c : Int) : Bool := decide ((97 ≤ c ∧ c ≤ 122) ∨ (65 ≤ c ∧ c ≤ 90) ∨ (48 ≤ c ∧ c ≤ 57) ∨ c = 46 ∨ c = 95 ∨ c = 45)
theorem isDigit_any (c : Int) (w : World) : Calls Tryz.prog 140 #[.int .u8 c] w fun e w' => e = .returned (.bool (decide (48 ≤ c ∧ c ≤ 57))) ∧ w = w' := by
  by_cases h1 : 48 ≤ c
  · go_enter Tryz.func140, Tryz.ntmps140
    go_wp2
    go_ret
    exact ⟨ret_bool (by simp [h1]), rfl⟩
  · go_enter Tryz.func140, Tryz.ntmps140
    go_wp2
    go_ret
    exact ⟨ret_bool (by simp; omega), rfl⟩
theorem isNameByte_any (c : Int) (w : World) : Calls Tryz.prog 124 #[.int .u8 c] w fun e w' => e = .returned (.bool (nameB c)) ∧ w = w' := by
  go_enter Tryz.func124, Tryz.ntmps124
  go_wp2_with (go_at_call 140; refine (isDigit_any _ _).mono ?_; rintro e w' ⟨rfl, rfl⟩)
  all_goals go_ret
  all_goals refine ⟨ret_bool ?_, rfl⟩
  all_goals rw [Bool.eq_iff_iff]
  all_goals simp [nameB]
  all_goals omega
def OkName (S : ByteArray) : Prop := 1 ≤ S.size ∧ S.size ≤ 40 ∧ ∀ i, i < S.size → nameB (PlainAid.bt S i) = true
def OkSym (S : ByteArray) : Prop := 1 ≤ S.size ∧ S.size ≤ 60 ∧ PlainAid.bt S 0 ≠ 35 ∧ ∀ i, i < S.size → 33 ≤ PlainAid.bt S i ∧ PlainAid.bt S i ≤ 126
theorem ok_yes (S : ByteArray) (w : World) (h : OkName S) : Calls Tryz.prog 88 #[.string S] w fun e w' => e = .returned (.bool true) ∧ w = w' := by
  obtain ⟨h1, h2, h3⟩ := h
  have gb := PlainAid.get_bt S
  have d1 : ¬ (S.size : Int) < 1 := by omega
  have d2 : ¬ (40 : Int) < S.size := by omega
  go_enter Tryz.func88, Tryz.ntmps88
  go_wp2
  go_loop [14] (fun i => ∃ k : Nat, k ≤ S.size ∧ i = .int .i64 k) (fun i => S.size - (intOf i).toNat)
  case atStart => exact ⟨0, by omega, rfl⟩
  case round =>
    obtain ⟨k, hk, rfl⟩ := hrel
    by_cases hlt : k < S.size
    · have hf := h3 k hlt
      go_wp2_with (go_at_call 124; refine (isNameByte_any _ _).mono ?_; rintro e w' ⟨rfl, rfl⟩)
      go_round
      case rel => exact ⟨k + 1, by omega, by go_num⟩
      case measure => simp [intOf]; omega
    · obtain rfl : k = S.size := by omega
      go_wp2
      go_ret
      exact ⟨rfl, rfl⟩
theorem ok_no (S : ByteArray) (w : World) (hs : S.size ≤ 9223372036854775807) (h : ¬ OkName S) : Calls Tryz.prog 88 #[.string S] w fun e w' => e = .returned (.bool false) ∧ w = w' := by
  by_cases h1 : S.size < 1
  · have d1 : (S.size : Int) < 1 := by omega
    go_enter Tryz.func88, Tryz.ntmps88
    go_wp2
    go_ret
    exact ⟨rfl, rfl⟩
  by_cases h2 : 40 < S.size
  · have d1 : ¬ (S.size : Int) < 1 := by omega
    have d2 : (40 : Int) < S.size := by omega
    go_enter Tryz.func88, Tryz.ntmps88
    go_wp2
    go_ret
    exact ⟨rfl, rfl⟩
  have hz : ∃ z, z < S.size ∧ nameB (PlainAid.bt S z) = false ∧ ∀ i, i < z → nameB (PlainAid.bt S i) = true := by
    by_cases hz : ∃ z, z < S.size ∧ nameB (PlainAid.bt S z) = false ∧ ∀ i, i < z → nameB (PlainAid.bt S i) = true
    · exact hz
    · exfalso
      apply h
      refine ⟨by omega, by omega, fun i => ?_⟩
      induction i using Nat.strongRecOn with
      | ind i ih =>
        intro hi
        cases hb : nameB (PlainAid.bt S i) with
        | true => rfl
        | false => exact absurd ⟨i, hi, hb, fun j hj => ih j hj (by omega)⟩ hz
  obtain ⟨z, hz1, hz2, hz3⟩ := hz
  have HZ := Lib.hid hz2
  clear hz2 h
  have gb := PlainAid.get_bt S
  have d1 : ¬ (S.size : Int) < 1 := by omega
  have d2 : ¬ (40 : Int) < S.size := by omega
  go_enter Tryz.func88, Tryz.ntmps88
  go_wp2
  go_loop [14] (fun i => ∃ k : Nat, k ≤ z ∧ i = .int .i64 k) (fun i => z - (intOf i).toNat)
  case atStart => exact ⟨0, by omega, rfl⟩
  case round =>
    obtain ⟨k, hk, rfl⟩ := hrel
    have hks : k < S.size := by omega
    by_cases hlt : k < z
    · have hf := hz3 k hlt
      go_wp2_with (go_at_call 124; refine (isNameByte_any _ _).mono ?_; rintro e w' ⟨rfl, rfl⟩)
      go_round
      case rel => exact ⟨k + 1, by omega, by go_num⟩
      case measure => simp [intOf]; omega
    · obtain rfl : k = z := by omega
      have hf := HZ.out
      go_wp2_with (go_at_call 124; refine (isNameByte_any _ _).mono ?_; rintro e w' ⟨rfl, rfl⟩)
      go_ret
      exact ⟨rfl, rfl⟩
theorem symok_yes (S : ByteArray) (w : World) (h : OkSym S) : Calls Tryz.prog 125 #[.string S] w fun e w' => e = .returned (.bool true) ∧ w = w' := by
  obtain ⟨h1, h2, h0, h3⟩ := h
  have gb := PlainAid.get_bt S
  have d1 : ¬ (S.size : Int) < 1 := by omega
  have d2 : ¬ (60 : Int) < S.size := by omega
  have d3 : 0 < S.size := by omega
  have d4 : (PlainAid.bt S 0 == 35) = false := by simpa using h0
  go_enter Tryz.func125, Tryz.ntmps125
  go_wp2
  go_loop [19] (fun i => ∃ k : Nat, k ≤ S.size ∧ i = .int .i64 k) (fun i => S.size - (intOf i).toNat)
  case atStart => exact ⟨0, by omega, rfl⟩
  case round =>
    obtain ⟨k, hk, rfl⟩ := hrel
    by_cases hlt : k < S.size
    · have hf := h3 k hlt
      have f1 : ¬ PlainAid.bt S k < 33 := by omega
      have f2 : ¬ 126 < PlainAid.bt S k := by omega
      go_wp2
      go_round
      case rel => exact ⟨k + 1, by omega, by go_num⟩
      case measure => simp [intOf]; omega
    · obtain rfl : k = S.size := by omega
      go_wp2
      go_ret
      exact ⟨rfl, rfl⟩
theorem symok_no (S : ByteArray) (w : World) (hs : S.size ≤ 9223372036854775807) (h : ¬ OkSym S) : Calls Tryz.prog 125 #[.string S] w fun e w' => e = .returned (.bool false) ∧ w = w' := by
  by_cases h1 : S.size < 1
  · have d1 : (S.size : Int) < 1 := by omega
    go_enter Tryz.func125, Tryz.ntmps125
    go_wp2
    go_ret
    exact ⟨rfl, rfl⟩
  have d1 : ¬ (S.size : Int) < 1 := by omega
  by_cases h2 : 60 < S.size
  · have d2 : (60 : Int) < S.size := by omega
    go_enter Tryz.func125, Tryz.ntmps125
    go_wp2
    go_ret
    exact ⟨rfl, rfl⟩
  have d2 : ¬ (60 : Int) < S.size := by omega
  have gb := PlainAid.get_bt S
  have d3 : 0 < S.size := by omega
  by_cases h0 : PlainAid.bt S 0 = 35
  · have d4 : (PlainAid.bt S 0 == 35) = true := by simpa using h0
    clear h0
    go_enter Tryz.func125, Tryz.ntmps125
    go_wp2
    go_ret
    exact ⟨rfl, rfl⟩
  have d4 : (PlainAid.bt S 0 == 35) = false := by simpa using h0
  have hz : ∃ z, z < S.size ∧ ¬ (33 ≤ PlainAid.bt S z ∧ PlainAid.bt S z ≤ 126) ∧ ∀ i, i < z → (33 ≤ PlainAid.bt S i ∧ PlainAid.bt S i ≤ 126) := by
    by_cases hz : ∃ z, z < S.size ∧ ¬ (33 ≤ PlainAid.bt S z ∧ PlainAid.bt S z ≤ 126) ∧ ∀ i, i < z → (33 ≤ PlainAid.bt S i ∧ PlainAid.bt S i ≤ 126)
    · exact hz
    · exfalso
      apply h
      refine ⟨by omega, by omega, h0, fun i => ?_⟩
      induction i using Nat.strongRecOn with
      | ind i ih =>
        intro hi
        by_cases hb : 33 ≤ PlainAid.bt S i ∧ PlainAid.bt S i ≤ 126
        · exact hb
        · exact absurd ⟨i, hi, hb, fun j hj => ih j hj (by omega)⟩ hz
  obtain ⟨z, hz1, hz2, hz3⟩ := hz
  have HZ := Lib.hid hz2
  clear hz2 h h0
  go_enter Tryz.func125, Tryz.ntmps125
  go_wp2
  go_loop [19] (fun i => ∃ k : Nat, k ≤ z ∧ i = .int .i64 k) (fun i => z - (intOf i).toNat)
  case atStart => exact ⟨0, by omega, rfl⟩
  case round =>
    obtain ⟨k, hk, rfl⟩ := hrel
    have hks : k < S.size := by omega
    by_cases hlt : k < z
    · have hf := hz3 k hlt
      have f1 : ¬ PlainAid.bt S k < 33 := by omega
      have f2 : ¬ 126 < PlainAid.bt S k := by omega
      go_wp2
      go_round
      case rel => exact ⟨k + 1, by omega, by go_num⟩
      case measure => simp [intOf]; omega
    · obtain rfl : k = z := by omega
      by_cases f1 : PlainAid.bt S k < 33
      · go_wp2
        go_ret
        exact ⟨rfl, rfl⟩
      · have f2 : 126 < PlainAid.bt S k := by have := HZ.out; omega
        go_wp2
        go_ret
        exact ⟨rfl, rfl⟩
def DotIn (S : ByteArray) : Prop := ∃ i, i < S.size ∧ PlainAid.bt S i = 46
theorem bt_get (T : ByteArray) (i : Nat) (c : UInt8) (hi : i < T.size) : PlainAid.bt T i = c.toNat ↔ T.data.toList[i]? = some c := by
  have hi2 : i < T.data.size := hi
  unfold PlainAid.bt
  rw [dif_pos hi, Array.getElem?_toList, Array.getElem?_eq_getElem hi2]
  constructor
  · intro h
    have : T.data[i] = c := UInt8.toNat_inj.1 (Int.ofNat.inj h)
    rw [this]
  · intro h
    injection h with h
    show ((T.data[i].toNat : Nat) : Int) = _
    rw [h]
def lF (bs : List Nat) (i : Nat) : Int := ((bs.getD i 0 : Nat) : Int)
theorem lF_drop (bs : List Nat) (k i : Nat) : lF (bs.drop k) i = lF bs (k + i) := by simp [lF, List.getD]
theorem lF_take (bs : List Nat) (n i : Nat) (h : i < n) : lF (bs.take n) i = lF bs i := by simp [lF, List.getD, List.getElem?_take, h]
def Lb (bs : List Nat) : Prop := ∀ v ∈ bs, v ≤ 255
theorem Lb.drop {bs : List Nat} (h : Lb bs) (k : Nat) : Lb (bs.drop k) := fun v hv => h v (List.mem_of_mem_drop hv)
theorem Lb.take {bs : List Nat} (h : Lb bs) (k : Nat) : Lb (bs.take k) := fun v hv => h v (List.mem_of_mem_take hv)
theorem Lb.append {bs cs : List Nat} (h : Lb bs) (k : Lb cs) : Lb (bs ++ cs) := fun v hv => (List.mem_append.mp hv).elim (h v) (k v)
theorem Lb.b255 {bs : List Nat} (h : Lb bs) : Bytes255 (lF bs) := by
  intro i
  unfold lF
  rcases Nat.lt_or_ge i bs.length with hi | hi
  · have := h bs[i] (List.getElem_mem hi)
    simp [List.getD, hi]; omega
  · simp [List.getD, hi]
def numL (bs : List Nat) : Nat → Nat
  | 0 => 0
  | n + 1 => bs.headD 0 + 256 * numL bs.tail n
theorem rdF_numL (bs : List Nat) : ∀ (n k : Nat), rdF (lF bs) k n = ((numL (bs.drop k) n : Nat) : Int)
  | 0, k => rfl
  | n + 1, k => by
    have h1 : (bs.drop k).tail = bs.drop (k + 1) := by simp
    have h2 : (bs.drop k).headD 0 = bs.getD k 0 := by simp [List.headD_eq_head?_getD, List.getD]
    simp only [rdF, numL, h1, h2, rdF_numL bs n (k + 1)]
    unfold lF
    omega
theorem numL_lt {bs : List Nat} (h : Lb bs) (n : Nat) : numL bs n < 256 ^ n := by
  have h1 := rdF_bd (lF bs) h.b255 n 0
  rw [rdF_numL] at h1
  have : ((numL bs n : Nat) : Int) < ((256 ^ n : Nat) : Int) := by rw [Int.natCast_pow]; simpa using h1.2
  exact_mod_cast this
def txt (t : List Nat) : ByteArray := strF (lF t) 0 t.length
theorem txt_size (t : List Nat) : (txt t).size = t.length := strF_size _ _ _
theorem txt_bt {t : List Nat} (h : Lb t) {i : Nat} (hi : i < t.length) : PlainAid.bt (txt t) i = lF t i := by
  unfold txt; rw [bt_strF h.b255 hi, Nat.zero_add]
theorem strF_txt (bs : List Nat) (o n : Nat) (h : o + n ≤ bs.length) : strF (lF bs) o n = txt ((bs.drop o).take n) := by
  have hl : ((bs.drop o).take n).length = n := by rw [List.length_take, List.length_drop]; omega
  unfold txt
  rw [hl]
  exact strF_congr fun i hi => by rw [Nat.zero_add, lF_take _ _ _ hi, lF_drop]
def textL (b : List Nat) (o most : Nat) : Option (List Nat) :=
  match ((b.drop o).take (most + 1)).findIdx? (· == 0) with
  | some k => some ((b.drop o).take k)
  | none => none
theorem textL_some {b : List Nat} {o most : Nat} {t : List Nat} (h : textL b o most = some t) :
    o + t.length < b.length ∧ t.length ≤ most ∧ lF b (o + t.length) = 0 ∧ (∀ i, i < t.length → lF b (o + i) ≠ 0) ∧ t = (b.drop o).take t.length := by
  unfold textL at h
  split at h
  · rename_i k hk
    injection h with h
    rw [List.findIdx?_eq_some_iff_getElem] at hk
    obtain ⟨hkl, hk0, hkn⟩ := hk
    rw [List.length_take, List.length_drop] at hkl
    have hl : t.length = k := by rw [← h, List.length_take, List.length_drop]; omega
    rw [List.getElem_take, List.getElem_drop] at hk0
    refine ⟨by omega, by omega, ?_, fun i hi => ?_, by rw [hl, h]⟩
    · rw [hl]
      unfold lF
      have : o + k < b.length := by omega
      simp only [List.getD, List.getElem?_eq_getElem this, Option.getD_some]
      simpa using hk0
    · have := hkn i (by omega)
      rw [List.getElem_take, List.getElem_drop] at this
      unfold lF
      have h2 : o + i < b.length := by omega
      simp only [List.getD, List.getElem?_eq_getElem h2, Option.getD_some]
      simpa using this
  · exact absurd h (by simp)
theorem textL_none {b : List Nat} {o most : Nat} (h : textL b o most = none) (i : Nat) (h1 : o + i < b.length) (h2 : i ≤ most) : lF b (o + i) ≠ 0 := by
  unfold textL at h
  split at h
  · exact absurd h (by simp)
  · rename_i hk
    rw [List.findIdx?_eq_none_iff] at hk
    have hm : b[o + i] ∈ (b.drop o).take (most + 1) := by
      rw [List.mem_iff_getElem]
      exact ⟨i, by rw [List.length_take, List.length_drop]; omega, by rw [List.getElem_take, List.getElem_drop]⟩
    have := hk _ hm
    unfold lF
    simp only [List.getD, List.getElem?_eq_getElem h1, Option.getD_some]
    simpa using this
theorem text_list (A : Option Addr) (cap : Nat) (bs : List Nat) (o most : Nat) (w : World) (h0 : cap ≤ 9223372036854775807) (h1 : bs.length ≤ cap) (hs : SlB w A bs.length (lF bs)) :
    Calls Tryz.prog 135 #[.slice A bs.length cap, .int .i64 o, .int .i64 most] w fun e w' =>
      e = .returned (match textL bs o most with | some t => .tuple #[.string (txt t), .bool true] | none => .tuple #[.string ByteArray.empty, .bool false]) ∧ w = w' := by
  rcases ht : textL bs o most with _ | t
  · rcases Nat.lt_or_ge o bs.length with ho | ho
    · rcases hs with h | ⟨b, off, rfl, _, hr⟩
      · omega
      · exact text_no b off _ cap _ o most w h0 h1 ho (fun i hi hm => textL_none ht i hi (by omega)) hr
    · exact text_out A _ cap o most w (by omega) (.inr (by omega))
  · obtain ⟨t1, t2, t3, t4, t5⟩ := textL_some ht
    rcases hs with h | ⟨b, off, rfl, _, hr⟩
    · omega
    · refine (text_yes b off _ cap _ o t.length most w h0 h1 t1 (by omega) t3 t4 hr).mono ?_
      rintro e w' ⟨rfl, rfl⟩
      refine ⟨?_, rfl⟩
      rw [strF_txt bs o t.length (by omega), ← t5]
def nameN (c : Nat) : Bool := (decide (97 ≤ c) && decide (c ≤ 122)) || (decide (65 ≤ c) && decide (c ≤ 90)) || (decide (48 ≤ c) && decide (c ≤ 57)) || c == 46 || c == 95 || c == 45
def okNm (t : List Nat) : Bool := decide (1 ≤ t.length) && decide (t.length ≤ 40) && t.all nameN
theorem nameN_iff (c : Nat) : nameB (c : Int) = nameN c := by
  unfold nameB nameN
  rw [Bool.eq_iff_iff]
  simp only [decide_eq_true_eq, Bool.or_eq_true, Bool.and_eq_true, beq_iff_eq]
  omega
theorem okNm_iff {t : List Nat} (h : Lb t) : OkName (txt t) ↔ okNm t = true := by
  unfold OkName okNm
  rw [txt_size]
  simp only [Bool.and_eq_true, decide_eq_true_eq, List.all_eq_true, and_assoc]
  refine and_congr_right fun _ => and_congr_right fun _ => ⟨fun k v hv => ?_, fun k i hi => ?_⟩
  · obtain ⟨i, hi, rfl⟩ := List.mem_iff_getElem.mp hv
    have := k i hi
    rw [txt_bt h hi] at this
    rw [← nameN_iff]
    unfold lF at this
    simpa [List.getD, hi] using this
  · rw [txt_bt h hi]
    unfold lF
    rw [nameN_iff]
    have := k t[i] (List.getElem_mem hi)
    simpa [List.getD, hi] using this
theorem okNm_any (t : List Nat) (w : World) (h : Lb t) (hl : t.length ≤ 9223372036854775807) : Calls Tryz.prog 88 #[.string (txt t)] w fun e w' => e = .returned (.bool (okNm t)) ∧ w = w' := by
  by_cases k : okNm t = true
  · rw [k]; exact ok_yes _ w ((okNm_iff h).2 k)
  · rw [show okNm t = false by simpa using k]
    exact ok_no _ w (by rw [txt_size]; exact hl) (fun q => k ((okNm_iff h).1 q))
theorem u16_list (A : Option Addr) (cap : Nat) (bs : List Nat) (o : Nat) (w : World) (hl : bs.length ≤ 9223372036854775807) (hb : Lb bs) (h : o + 2 ≤ bs.length) (hs : SlB w A bs.length (lF bs)) :
    Calls Tryz.prog 104 #[.slice A bs.length cap, .int .i64 o] w fun e w' => e = .returned (.tuple #[.int .i64 (numL (bs.drop o) 2), .bool true]) ∧ w = w' := by
  rcases hs with h' | ⟨b, off, rfl, _, hr⟩
  · omega
  · rw [← rdF_numL]; exact u16_yes b off _ cap _ o w hl h hb.b255 hr
theorem u32_list (A : Option Addr) (cap : Nat) (bs : List Nat) (o : Nat) (w : World) (hl : bs.length ≤ 9223372036854775807) (hb : Lb bs) (h : o + 4 ≤ bs.length) (hs : SlB w A bs.length (lF bs)) :
    Calls Tryz.prog 129 #[.slice A bs.length cap, .int .i64 o] w fun e w' => e = .returned (.tuple #[.int .i64 (numL (bs.drop o) 4), .bool true]) ∧ w = w' := by
  rcases hs with h' | ⟨b, off, rfl, _, hr⟩
  · omega
  · rw [← rdF_numL]; exact u32_yes b off _ cap _ o w hl h hb.b255 hr
end Go.Proofs.YtplgdpjbkdagfaaGreat
