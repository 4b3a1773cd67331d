/- Rows of bytes as lists of naturals: numbers, texts and names in them, reckoned plainly. -/
import Derived.Test.YtbjabncefhgefaaFoldKey
namespace Go.Proofs.Ytbjabncefhgefaa
open Go.ChangeShapes Go.WideShapes Go.ChangeAt Go.RowKit
set_option linter.unusedVariables false
set_option linter.unusedSimpArgs false

/-- The i-th byte. -/
def lF (bs : List Nat) (i : Nat) : Int := ((bs.getD i 0 : Nat) : Int)
theorem lF_drop (bs : List Nat) (k i : Nat) : lF (bs.drop k) i = lF bs (k + i) := by simp [lF, List.getD]
theorem lF_take (bs : List Nat) (n i : Nat) (h : i < n) : lF (bs.take n) i = lF bs i := by simp [lF, List.getD, List.getElem?_take, h]
def Lb (bs : List Nat) : Prop := ∀ v ∈ bs, v ≤ 255
theorem Lb.drop {bs : List Nat} (h : Lb bs) (k : Nat) : Lb (bs.drop k) := fun v hv => h v (List.mem_of_mem_drop hv)
theorem Lb.take {bs : List Nat} (h : Lb bs) (k : Nat) : Lb (bs.take k) := fun v hv => h v (List.mem_of_mem_take hv)
theorem Lb.append {bs cs : List Nat} (h : Lb bs) (k : Lb cs) : Lb (bs ++ cs) := fun v hv => (List.mem_append.mp hv).elim (h v) (k v)
theorem Lb.b255 {bs : List Nat} (h : Lb bs) : Bytes255 (lF bs) := by
  intro i
  unfold lF
  rcases Nat.lt_or_ge i bs.length with hi | hi
  · have := h bs[i] (List.getElem_mem hi)
    simp [List.getD, hi]; omega
  · simp [List.getD, hi]

/-- The number of the first n bytes, the lowest first. -/
def numL (bs : List Nat) : Nat → Nat
  | 0 => 0
  | n + 1 => bs.headD 0 + 256 * numL bs.tail n
theorem rdF_numL (bs : List Nat) : ∀ (n k : Nat), rdF (lF bs) k n = ((numL (bs.drop k) n : Nat) : Int)
  | 0, k => rfl
  | n + 1, k => by
    have h1 : (bs.drop k).tail = bs.drop (k + 1) := by simp
    have h2 : (bs.drop k).headD 0 = bs.getD k 0 := by simp [List.headD_eq_head?_getD, List.getD]
    simp only [rdF, numL, h1, h2, rdF_numL bs n (k + 1)]
    unfold lF
    omega
theorem numL_lt {bs : List Nat} (h : Lb bs) (n : Nat) : numL bs n < 256 ^ n := by
  have h1 := rdF_bd (lF bs) h.b255 n 0
  rw [rdF_numL] at h1
  have : ((numL bs n : Nat) : Int) < ((256 ^ n : Nat) : Int) := by rw [Int.natCast_pow]; simpa using h1.2
  exact_mod_cast this

/-- A text of bytes. -/
def txt (t : List Nat) : ByteArray := strF (lF t) 0 t.length
theorem txt_size (t : List Nat) : (txt t).size = t.length := strF_size _ _ _
theorem txt_bt {t : List Nat} (h : Lb t) {i : Nat} (hi : i < t.length) : PlainAid.bt (txt t) i = lF t i := by
  unfold txt; rw [bt_strF h.b255 hi, Nat.zero_add]
theorem strF_txt (bs : List Nat) (o n : Nat) (h : o + n ≤ bs.length) : strF (lF bs) o n = txt ((bs.drop o).take n) := by
  have hl : ((bs.drop o).take n).length = n := by rw [List.length_take, List.length_drop]; omega
  unfold txt
  rw [hl]
  exact strF_congr fun i hi => by rw [Nat.zero_add, lF_take _ _ _ hi, lF_drop]

/-- A text that begins at o, with a nought behind it within so many bytes. -/
def textL (b : List Nat) (o most : Nat) : Option (List Nat) :=
  match ((b.drop o).take (most + 1)).findIdx? (· == 0) with
  | some k => some ((b.drop o).take k)
  | none => none
theorem textL_some {b : List Nat} {o most : Nat} {t : List Nat} (h : textL b o most = some t) :
    o + t.length < b.length ∧ t.length ≤ most ∧ lF b (o + t.length) = 0 ∧ (∀ i, i < t.length → lF b (o + i) ≠ 0) ∧ t = (b.drop o).take t.length := by
  unfold textL at h
  split at h
  · rename_i k hk
    injection h with h
    rw [List.findIdx?_eq_some_iff_getElem] at hk
    obtain ⟨hkl, hk0, hkn⟩ := hk
    rw [List.length_take, List.length_drop] at hkl
    have hl : t.length = k := by rw [← h, List.length_take, List.length_drop]; omega
    rw [List.getElem_take, List.getElem_drop] at hk0
    refine ⟨by omega, by omega, ?_, fun i hi => ?_, by rw [hl, h]⟩
    · rw [hl]
      unfold lF
      have : o + k < b.length := by omega
      simp only [List.getD, List.getElem?_eq_getElem this, Option.getD_some]
      simpa using hk0
    · have := hkn i (by omega)
      rw [List.getElem_take, List.getElem_drop] at this
      unfold lF
      have h2 : o + i < b.length := by omega
      simp only [List.getD, List.getElem?_eq_getElem h2, Option.getD_some]
      simpa using this
  · exact absurd h (by simp)
theorem textL_none {b : List Nat} {o most : Nat} (h : textL b o most = none) (i : Nat) (h1 : o + i < b.length) (h2 : i ≤ most) : lF b (o + i) ≠ 0 := by
  unfold textL at h
  split at h
  · exact absurd h (by simp)
  · rename_i hk
    rw [List.findIdx?_eq_none_iff] at hk
    have hm : b[o + i] ∈ (b.drop o).take (most + 1) := by
      rw [List.mem_iff_getElem]
      exact ⟨i, by rw [List.length_take, List.length_drop]; omega, by rw [List.getElem_take, List.getElem_drop]⟩
    have := hk _ hm
    unfold lF
    simp only [List.getD, List.getElem?_eq_getElem h1, Option.getD_some]
    simpa using this

/-- le.Text at a row of bytes. -/
theorem text_list (A : Option Addr) (cap : Nat) (bs : List Nat) (o most : Nat) (w : World) (h0 : cap ≤ 9223372036854775807) (h1 : bs.length ≤ cap) (hs : SlB w A bs.length (lF bs)) :
    Calls Try.prog 48 #[.slice A bs.length cap, .int .i64 o, .int .i64 most] w fun e w' =>
      e = .returned (match textL bs o most with | some t => .tuple #[.string (txt t), .bool true] | none => .tuple #[.string ByteArray.empty, .bool false]) ∧ w = w' := by
  rcases ht : textL bs o most with _ | t
  · rcases Nat.lt_or_ge o bs.length with ho | ho
    · rcases hs with h | ⟨b, off, rfl, _, hr⟩
      · omega
      · exact text_no b off _ cap _ o most w h0 h1 ho (fun i hi hm => textL_none ht i hi (by omega)) hr
    · exact text_out A _ cap o most w (by omega) (.inr (by omega))
  · obtain ⟨t1, t2, t3, t4, t5⟩ := textL_some ht
    rcases hs with h | ⟨b, off, rfl, _, hr⟩
    · omega
    · refine (text_yes b off _ cap _ o t.length most w h0 h1 t1 (by omega) t3 t4 hr).mono ?_
      rintro e w' ⟨rfl, rfl⟩
      refine ⟨?_, rfl⟩
      rw [strF_txt bs o t.length (by omega), ← t5]

def nameN (c : Nat) : Bool := (decide (97 ≤ c) && decide (c ≤ 122)) || (decide (65 ≤ c) && decide (c ≤ 90)) || (decide (48 ≤ c) && decide (c ≤ 57)) || c == 46 || c == 95 || c == 45
def okNm (t : List Nat) : Bool := decide (1 ≤ t.length) && decide (t.length ≤ 40) && t.all nameN
theorem nameN_iff (c : Nat) : nameB (c : Int) = nameN c := by
  unfold nameB nameN
  rw [Bool.eq_iff_iff]
  simp only [decide_eq_true_eq, Bool.or_eq_true, Bool.and_eq_true, beq_iff_eq]
  omega
theorem okNm_iff {t : List Nat} (h : Lb t) : OkName (txt t) ↔ okNm t = true := by
  unfold OkName okNm
  rw [txt_size]
  simp only [Bool.and_eq_true, decide_eq_true_eq, List.all_eq_true, and_assoc]
  refine and_congr_right fun _ => and_congr_right fun _ => ⟨fun k v hv => ?_, fun k i hi => ?_⟩
  · obtain ⟨i, hi, rfl⟩ := List.mem_iff_getElem.mp hv
    have := k i hi
    rw [txt_bt h hi] at this
    rw [← nameN_iff]
    unfold lF at this
    simpa [List.getD, hi] using this
  · rw [txt_bt h hi]
    unfold lF
    rw [nameN_iff]
    have := k t[i] (List.getElem_mem hi)
    simpa [List.getD, hi] using this
/-- fold.Ok at a text of bytes. -/
theorem okNm_any (t : List Nat) (w : World) (h : Lb t) (hl : t.length ≤ 9223372036854775807) : Calls Try.prog 60 #[.string (txt t)] w fun e w' => e = .returned (.bool (okNm t)) ∧ w = w' := by
  by_cases k : okNm t = true
  · rw [k]; exact ok_yes _ w ((okNm_iff h).2 k)
  · rw [show okNm t = false by simpa using k]
    exact ok_no _ w (by rw [txt_size]; exact hl) (fun q => k ((okNm_iff h).1 q))

theorem u16_list (A : Option Addr) (cap : Nat) (bs : List Nat) (o : Nat) (w : World) (hl : bs.length ≤ 9223372036854775807) (hb : Lb bs) (h : o + 2 ≤ bs.length) (hs : SlB w A bs.length (lF bs)) :
    Calls Try.prog 50 #[.slice A bs.length cap, .int .i64 o] w fun e w' => e = .returned (.tuple #[.int .i64 (numL (bs.drop o) 2), .bool true]) ∧ w = w' := by
  rcases hs with h' | ⟨b, off, rfl, _, hr⟩
  · omega
  · rw [← rdF_numL]; exact u16_yes b off _ cap _ o w hl h hb.b255 hr
theorem u32_list (A : Option Addr) (cap : Nat) (bs : List Nat) (o : Nat) (w : World) (hl : bs.length ≤ 9223372036854775807) (hb : Lb bs) (h : o + 4 ≤ bs.length) (hs : SlB w A bs.length (lF bs)) :
    Calls Try.prog 56 #[.slice A bs.length cap, .int .i64 o] w fun e w' => e = .returned (.tuple #[.int .i64 (numL (bs.drop o) 4), .bool true]) ∧ w = w' := by
  rcases hs with h' | ⟨b, off, rfl, _, hr⟩
  · omega
  · rw [← rdF_numL]; exact u32_yes b off _ cap _ o w hl h hb.b255 hr
end Go.Proofs.Ytbjabncefhgefaa
