/- Images as lists of bytes: what is read where numbers were put and texts were laid behind. -/
import Derived.Test.YtbjabncefhgefaaLstPut
namespace Go.Proofs.Ytbjabncefhgefaa
open Go.ChangeShapes Go.WideShapes Go.ChangeAt Go.RowKit
set_option linter.unusedVariables false
set_option linter.unusedSimpArgs false

/-- Two rows have the same bytes from o on, n of them. -/
def Agree (b c : List Nat) (o n : Nat) : Prop := ∀ i, i < n → b[o + i]? = c[o + i]?
theorem Agree.symm {b c : List Nat} {o n : Nat} (h : Agree b c o n) : Agree c b o n := fun i hi => (h i hi).symm
theorem Agree.trans {b c d : List Nat} {o n : Nat} (h : Agree b c o n) (k : Agree c d o n) : Agree b d o n := fun i hi => (h i hi).trans (k i hi)
theorem Agree.refl (b : List Nat) (o n : Nat) : Agree b b o n := fun _ _ => rfl
theorem Agree.sub {b c : List Nat} {o n o' n' : Nat} (h : Agree b c o n) (h1 : o ≤ o') (h2 : o' + n' ≤ o + n) : Agree b c o' n' := fun i hi => by
  have := h (o' - o + i) (by omega)
  rwa [show o + (o' - o + i) = o' + i by omega] at this
theorem Agree.put {b : List Nat} {o n v p m : Nat} (h : o + n ≤ b.length) (ha : p + m ≤ o ∨ o + n ≤ p) : Agree (putL b o n v) b p m := by
  intro i hi
  have hl : (b.take o).length = o := by rw [List.length_take]; omega
  unfold putL
  rcases ha with ha | ha
  · rw [List.getElem?_append_left (by rw [hl]; omega), List.getElem?_take, if_pos (by omega)]
  · rw [List.getElem?_append_right (by rw [hl]; omega), hl, List.getElem?_append_right (by rw [bytN_len]; omega), bytN_len, List.getElem?_drop]
    congr 1
    omega
theorem Agree.app {b c : List Nat} {o n : Nat} (h : o + n ≤ b.length) : Agree (b ++ c) b o n := fun i hi => List.getElem?_append_left (by omega)

theorem numL_agree {b c : List Nat} : ∀ (n o : Nat), Agree b c o n → numL (b.drop o) n = numL (c.drop o) n
  | 0, _, _ => rfl
  | n + 1, o, h => by
    have h0 := h 0 (by omega)
    rw [Nat.add_zero] at h0
    have e1 : (b.drop o).headD 0 = (c.drop o).headD 0 := by simp only [List.headD_eq_head?_getD, List.head?_drop, h0]
    simp only [numL, e1, List.tail_drop]
    rw [numL_agree n (o + 1) (h.sub (by omega) (by omega))]
theorem numL_bytN (v : Nat) : ∀ (n : Nat) (r : List Nat), numL (bytN v n ++ r) n = v % 256 ^ n := by
  intro n
  induction n generalizing v with
  | zero => intro r; simp [numL, Nat.mod_one]
  | succ n ih =>
    intro r
    have e : bytN v (n + 1) = (v % 256) :: bytN (v / 256) n := by
      unfold bytN
      rw [List.range_succ_eq_map, List.map_cons, List.map_map]
      congr 1
      · simp
      · apply List.map_congr_left
        intro i _
        simp only [Function.comp]
        rw [Nat.div_div_eq_div_mul, show 256 * 2 ^ (8 * i) = 2 ^ (8 * (i + 1)) from by rw [show 8 * (i + 1) = 8 + 8 * i by omega, Nat.pow_add]]
    rw [e]
    simp only [numL, List.cons_append, List.headD_cons, List.tail_cons, ih]
    rw [Nat.pow_succ, Nat.mul_comm (256 ^ n) 256, Nat.mod_mul]
theorem numL_put {b : List Nat} {o n v : Nat} (h : o + n ≤ b.length) : numL ((putL b o n v).drop o) n = v % 256 ^ n := by
  have hl : (b.take o).length = o := by rw [List.length_take]; omega
  have e : (putL b o n v).drop o = bytN v n ++ b.drop (o + n) := by
    unfold putL
    rw [List.drop_append_of_le_length (by omega), List.drop_of_length_le (by omega), List.nil_append]
  rw [e, numL_bytN]
theorem numL_at {b c : List Nat} {o n v : Nat} (h : o + n ≤ b.length) (hv : v < 256 ^ n) (ha : Agree c (putL b o n v) o n) : numL (c.drop o) n = v := by
  rw [numL_agree n o ha, numL_put h, Nat.mod_eq_of_lt hv]

/-- A text is read where it was laid, whatever agrees with it there. -/
theorem textL_at {b c : List Nat} {s : List Nat} {most : Nat} (h0 : ∀ v ∈ s, v ≠ 0) (hm : s.length ≤ most) (ha : Agree c (b ++ s ++ [0]) b.length (s.length + 1)) : textL c b.length most = some s := by
  have hg : ∀ i, i < s.length → c[b.length + i]? = some (s.getD i 0) := by
    intro i hi
    rw [ha i (by omega), List.append_assoc, List.getElem?_append_right (by omega), List.getElem?_append_left (by omega)]
    simp [List.getD, hi]
  have hz : c[b.length + s.length]? = some 0 := by
    rw [ha s.length (by omega), List.getElem?_append_right (by simp), List.length_append, Nat.sub_self]
    rfl
  have hlen : b.length + s.length < c.length := by
    rcases Nat.lt_or_ge (b.length + s.length) c.length with h | h
    · exact h
    · rw [List.getElem?_eq_none h] at hz; cases hz
  have hk : ((c.drop b.length).take (most + 1)).findIdx? (· == 0) = some s.length := by
    rw [List.findIdx?_eq_some_iff_getElem]
    have hl : s.length < ((c.drop b.length).take (most + 1)).length := by rw [List.length_take, List.length_drop]; omega
    refine ⟨hl, ?_, fun j hj => ?_⟩
    · have e : ((c.drop b.length).take (most + 1))[s.length]? = some 0 := by rw [List.getElem?_take, if_pos (by omega), List.getElem?_drop, hz]
      rw [List.getElem?_eq_getElem hl] at e
      injection e with e
      rw [e]; rfl
    · have hj' : j < ((c.drop b.length).take (most + 1)).length := by omega
      have e : ((c.drop b.length).take (most + 1))[j]? = some (s.getD j 0) := by rw [List.getElem?_take, if_pos (by omega), List.getElem?_drop, hg j hj]
      rw [List.getElem?_eq_getElem hj'] at e
      injection e with e
      rw [e]
      have : s.getD j 0 = s[j] := by simp [List.getD, hj]
      rw [this]
      have := h0 s[j] (List.getElem_mem hj)
      simpa using this
  unfold textL
  rw [hk]
  simp only [Option.some.injEq]
  apply List.ext_getElem?
  intro i
  rcases Nat.lt_or_ge i s.length with hi | hi
  · rw [List.getElem?_take, if_pos hi, List.getElem?_drop, hg i hi, List.getElem?_eq_getElem hi]
    simp [List.getD, hi]
  · rw [List.getElem?_eq_none (by rw [List.length_take]; omega), List.getElem?_eq_none hi]
end Go.Proofs.Ytbjabncefhgefaa
