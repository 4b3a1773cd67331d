/- Images as lists of bytes: what is read where numbers were put and texts were laid behind. · law 7's images, read again: what At lays is what Parse tells. · law 7's images, read again: Parse tells what was laid. · law ExpsTells: the four images. · law ExpsTells: the image that is made, and one of its bytes turned. · law ExpsTells: what is made. · law ExpsTells: every input. -/
import Derived.Test.YtbjabncefhgefaaLstPut
import Derived.Test.YtbjabncefhgefaaExpI0
import Derived.Test.YtbjabncefhgefaaExpE
import Derived.Test.YtbjabncefhgefaaMgD
import Derived.Test.YtbjabncefhgefaaMask
namespace Go.Proofs.Ytbjabncefhgefaa
open Go.ChangeShapes Go.WideShapes Go.ChangeAt Go.RowKit
set_option linter.unusedVariables false
set_option linter.unusedSimpArgs false

/-- Two rows have the same bytes from o on, n of them. -/
def Agree (b c : List Nat) (o n : Nat) : Prop := ∀ i, i < n → b[o + i]? = c[o + i]?
theorem Agree.symm {b c : List Nat} {o n : Nat} (h : Agree b c o n) : Agree c b o n := fun i hi => (h i hi).symm
theorem Agree.trans {b c d : List Nat} {o n : Nat} (h : Agree b c o n) (k : Agree c d o n) : Agree b d o n := fun i hi => (h i hi).trans (k i hi)
theorem Agree.refl (b : List Nat) (o n : Nat) : Agree b b o n := fun _ _ => rfl
theorem Agree.sub {b c : List Nat} {o n o' n' : Nat} (h : Agree b c o n) (h1 : o ≤ o') (h2 : o' + n' ≤ o + n) : Agree b c o' n' := fun i hi => by
  have := h (o' - o + i) (by omega)
  rwa [show o + (o' - o + i) = o' + i by omega] at this
theorem Agree.put {b : List Nat} {o n v p m : Nat} (h : o + n ≤ b.length) (ha : p + m ≤ o ∨ o + n ≤ p) : Agree (putL b o n v) b p m := by
  intro i hi
  have hl : (b.take o).length = o := by rw [List.length_take]; omega
  unfold putL
  rcases ha with ha | ha
  · rw [List.getElem?_append_left (by rw [hl]; omega), List.getElem?_take, if_pos (by omega)]
  · rw [List.getElem?_append_right (by rw [hl]; omega), hl, List.getElem?_append_right (by rw [bytN_len]; omega), bytN_len, List.getElem?_drop]
    congr 1
    omega
theorem Agree.app {b c : List Nat} {o n : Nat} (h : o + n ≤ b.length) : Agree (b ++ c) b o n := fun i hi => List.getElem?_append_left (by omega)

theorem numL_agree {b c : List Nat} : ∀ (n o : Nat), Agree b c o n → numL (b.drop o) n = numL (c.drop o) n
  | 0, _, _ => rfl
  | n + 1, o, h => by
    have h0 := h 0 (by omega)
    rw [Nat.add_zero] at h0
    have e1 : (b.drop o).headD 0 = (c.drop o).headD 0 := by simp only [List.headD_eq_head?_getD, List.head?_drop, h0]
    simp only [numL, e1, List.tail_drop]
    rw [numL_agree n (o + 1) (h.sub (by omega) (by omega))]
theorem numL_bytN (v : Nat) : ∀ (n : Nat) (r : List Nat), numL (bytN v n ++ r) n = v % 256 ^ n := by
  intro n
  induction n generalizing v with
  | zero => intro r; simp [numL, Nat.mod_one]
  | succ n ih =>
    intro r
    have e : bytN v (n + 1) = (v % 256) :: bytN (v / 256) n := by
      unfold bytN
      rw [List.range_succ_eq_map, List.map_cons, List.map_map]
      congr 1
      · simp
      · apply List.map_congr_left
        intro i _
        simp only [Function.comp]
        rw [Nat.div_div_eq_div_mul, show 256 * 2 ^ (8 * i) = 2 ^ (8 * (i + 1)) from by rw [show 8 * (i + 1) = 8 + 8 * i by omega, Nat.pow_add]]
    rw [e]
    simp only [numL, List.cons_append, List.headD_cons, List.tail_cons, ih]
    rw [Nat.pow_succ, Nat.mul_comm (256 ^ n) 256, Nat.mod_mul]
theorem numL_put {b : List Nat} {o n v : Nat} (h : o + n ≤ b.length) : numL ((putL b o n v).drop o) n = v % 256 ^ n := by
  have hl : (b.take o).length = o := by rw [List.length_take]; omega
  have e : (putL b o n v).drop o = bytN v n ++ b.drop (o + n) := by
    unfold putL
    rw [List.drop_append_of_le_length (by omega), List.drop_of_length_le (by omega), List.nil_append]
  rw [e, numL_bytN]
theorem numL_at {b c : List Nat} {o n v : Nat} (h : o + n ≤ b.length) (hv : v < 256 ^ n) (ha : Agree c (putL b o n v) o n) : numL (c.drop o) n = v := by
  rw [numL_agree n o ha, numL_put h, Nat.mod_eq_of_lt hv]

/-- A text is read where it was laid, whatever agrees with it there. -/
theorem textL_at {b c : List Nat} {s : List Nat} {most : Nat} (h0 : ∀ v ∈ s, v ≠ 0) (hm : s.length ≤ most) (ha : Agree c (b ++ s ++ [0]) b.length (s.length + 1)) : textL c b.length most = some s := by
  have hg : ∀ i, i < s.length → c[b.length + i]? = some (s.getD i 0) := by
    intro i hi
    rw [ha i (by omega), List.append_assoc, List.getElem?_append_right (by omega), List.getElem?_append_left (by omega)]
    simp [List.getD, hi]
  have hz : c[b.length + s.length]? = some 0 := by
    rw [ha s.length (by omega), List.getElem?_append_right (by simp), List.length_append, Nat.sub_self]
    rfl
  have hlen : b.length + s.length < c.length := by
    rcases Nat.lt_or_ge (b.length + s.length) c.length with h | h
    · exact h
    · rw [List.getElem?_eq_none h] at hz; cases hz
  have hk : ((c.drop b.length).take (most + 1)).findIdx? (· == 0) = some s.length := by
    rw [List.findIdx?_eq_some_iff_getElem]
    have hl : s.length < ((c.drop b.length).take (most + 1)).length := by rw [List.length_take, List.length_drop]; omega
    refine ⟨hl, ?_, fun j hj => ?_⟩
    · have e : ((c.drop b.length).take (most + 1))[s.length]? = some 0 := by rw [List.getElem?_take, if_pos (by omega), List.getElem?_drop, hz]
      rw [List.getElem?_eq_getElem hl] at e
      injection e with e
      rw [e]; rfl
    · have hj' : j < ((c.drop b.length).take (most + 1)).length := by omega
      have e : ((c.drop b.length).take (most + 1))[j]? = some (s.getD j 0) := by rw [List.getElem?_take, if_pos (by omega), List.getElem?_drop, hg j hj]
      rw [List.getElem?_eq_getElem hj'] at e
      injection e with e
      rw [e]
      have : s.getD j 0 = s[j] := by simp [List.getD, hj]
      rw [this]
      have := h0 s[j] (List.getElem_mem hj)
      simpa using this
  unfold textL
  rw [hk]
  simp only [Option.some.injEq]
  apply List.ext_getElem?
  intro i
  rcases Nat.lt_or_ge i s.length with hi | hi
  · rw [List.getElem?_take, if_pos hi, List.getElem?_drop, hg i hi, List.getElem?_eq_getElem hi]
    simp [List.getD, hi]
  · rw [List.getElem?_eq_none (by rw [List.length_take]; omega), List.getElem?_eq_none hi]
end Go.Proofs.Ytbjabncefhgefaa
namespace Go.Proofs.Ytbjabncefhgefaa
open Go.ChangeShapes Go.WideShapes Go.ChangeAt Go.RowKit
set_option linter.unusedVariables false
set_option linter.unusedSimpArgs false

/-- A text with a nought behind it lies at v. -/
structure TxAt (c : List Nat) (v : Nat) (s : List Nat) : Prop where
  lt : v + s.length < c.length
  ag : Agree c (List.replicate v 0 ++ s ++ [0]) v (s.length + 1)
theorem TxAt.later {c c' : List Nat} {v : Nat} {s : List Nat} (h : TxAt c v s) (ha : Agree c' c v (s.length + 1)) : TxAt c' v s := by
  refine ⟨?_, ha.trans h.ag⟩
  have h1 := ha s.length (by omega)
  rcases Nat.lt_or_ge (v + s.length) c'.length with h2 | h2
  · exact h2
  · rw [List.getElem?_eq_none h2, List.getElem?_eq_getElem h.lt] at h1
    cases h1
theorem TxAt.new (b s : List Nat) : TxAt (b ++ s ++ [0]) b.length s := by
  refine ⟨by simp only [List.length_append, List.length_singleton]; omega, fun i hi => ?_⟩
  have e : ∀ x : List Nat, x.length = b.length → (x ++ s ++ [0])[b.length + i]? = (s ++ [0])[i]? := by
    intro x hx
    rw [List.append_assoc, List.getElem?_append_right (by omega), hx]
    congr 1
    omega
  rw [e b rfl, e _ List.length_replicate]
theorem TxAt.read {c : List Nat} {v most : Nat} {s : List Nat} (h : TxAt c v s) (h0 : ∀ x ∈ s, x ≠ 0) (hm : s.length ≤ most) : textL c v most = some s := by
  have h1 := textL_at (b := List.replicate v 0) (c := c) (s := s) (most := most) h0 hm (by rw [List.length_replicate]; exact h.ag)
  rwa [List.length_replicate] at h1

/-- The i-th function's row. -/
def FnRow (c : List Nat) (Z rows i : Nat) (s : List Nat) : Prop :=
  if s.contains 46 then ∃ v, Z ≤ v ∧ numL (c.drop (rows + 4 * i)) 4 = v ∧ TxAt c v s else numL (c.drop (rows + 4 * i)) 4 = if s = [] then 0 else 64 + i
theorem FnRow.later {c c' : List Nat} {Z rows i : Nat} {s : List Nat} (h : FnRow c Z rows i s) (h1 : Agree c' c (rows + 4 * i) 4) (h2 : Agree c' c Z (c.length - Z)) : FnRow c' Z rows i s := by
  unfold FnRow at *
  rw [numL_agree 4 _ h1]
  by_cases hs : s.contains 46 = true
  · rw [if_pos hs] at h ⊢
    obtain ⟨v, hv, hn, ht⟩ := h
    exact ⟨v, hv, hn, ht.later (h2.sub hv (by have := ht.lt; omega))⟩
  · rw [if_neg hs] at h ⊢
    exact h

theorem fStep_spec {rows i Z : Nat} {b s : List Nat} (hr : rows + 4 * (i + 1) ≤ Z) (hZ : Z ≤ b.length) (hb : b.length + 100 < 4294967296) (hi : i < 1000) (hs : s.length ≤ 64) :
    b.length ≤ (fStep rows b i s).length ∧ (fStep rows b i s).length ≤ b.length + 65 ∧ (∀ p m, p + m ≤ b.length → (p + m ≤ rows + 4 * i ∨ rows + 4 * (i + 1) ≤ p) → Agree (fStep rows b i s) b p m) ∧ FnRow (fStep rows b i s) Z rows i s := by
  unfold fStep FnRow
  by_cases hc : s.contains 46 = true
  · rw [if_pos hc, if_pos hc]
    have hl : (b ++ s ++ [0]).length = b.length + s.length + 1 := by simp only [List.length_append, List.length_singleton]
    have ho : rows + 4 * i + 4 ≤ (b ++ s ++ [0]).length := by omega
    have hpl := putL_len ho b.length
    refine ⟨by omega, by omega, fun p m hp hpm => ?_, b.length, hZ, ?_, ?_⟩
    · refine (Agree.put ho (by omega)).trans ?_
      rw [List.append_assoc]
      exact Agree.app hp
    · exact numL_at ho (by have : (256 : Nat) ^ 4 = 4294967296 := rfl; omega) (Agree.refl _ _ _)
    · exact (TxAt.new b s).later (Agree.put ho (.inr (by omega)))
  · rw [if_neg hc, if_neg hc]
    have ho : rows + 4 * i + 4 ≤ b.length := by omega
    have hpl := putL_len ho (if s = [] then 0 else 64 + i)
    refine ⟨by omega, by omega, fun p m hp hpm => Agree.put ho (by omega), ?_⟩
    refine numL_at ho ?_ (Agree.refl _ _ _)
    have : (256 : Nat) ^ 4 = 4294967296 := rfl
    split <;> omega

theorem atF_spec {rows Z : Nat} : ∀ (l : List (List Nat)) (i : Nat) (b : List Nat), rows + 4 * (i + l.length) ≤ Z → Z ≤ b.length → b.length + 65 * l.length + 100 < 4294967296 → i + l.length < 1000 → (∀ s ∈ l, s.length ≤ 64) →
    b.length ≤ (atF rows l i b).length ∧ (atF rows l i b).length ≤ b.length + 65 * l.length ∧ (∀ p m, p + m ≤ b.length → (p + m ≤ rows + 4 * i ∨ rows + 4 * (i + l.length) ≤ p) → Agree (atF rows l i b) b p m) ∧ ∀ j (hj : j < l.length), FnRow (atF rows l i b) Z rows (i + j) l[j]
  | [], i, b, _, _, _, _, _ => ⟨Nat.le_refl _, by simp [atF], fun p m _ _ => Agree.refl _ _ _, fun j hj => by simp at hj⟩
  | s :: l, i, b, hr, hZ, hb, hi, hs => by
    have hlc : (s :: l).length = l.length + 1 := List.length_cons
    obtain ⟨a1, a2, a3, a4⟩ := fStep_spec (rows := rows) (i := i) (Z := Z) (b := b) (s := s) (by omega) hZ (by omega) (by omega) (hs s (by simp))
    obtain ⟨c1, c2, c3, c4⟩ := atF_spec (rows := rows) (Z := Z) l (i + 1) (fStep rows b i s) (by omega) (by omega) (by omega) (by omega) (fun x hx => hs x (by simp [hx]))
    simp only [atF]
    refine ⟨by omega, by omega, fun p m hp hpm => ?_, fun j hj => ?_⟩
    · exact (c3 p m (by omega) (by omega)).trans (a3 p m hp (by omega))
    · rcases j with _ | j
      · simp only [List.getElem_cons_zero, Nat.add_zero]
        exact a4.later (c3 _ _ (by omega) (by omega)) (c3 _ _ (by omega) (by omega))
      · have := c4 j (by simpa using hj)
        simp only [List.getElem_cons_succ]
        rwa [show i + 1 + j = i + (j + 1) by omega] at this

/-- The i-th name's row. -/
structure NmRow (c : List Nat) (r1 r2 n i : Nat) (s : List Nat) : Prop where
  tx : TxAt c (numL (c.drop (r1 + 4 * i)) 4) s
  ix : numL (c.drop (r2 + 2 * i)) 2 = i % max n 1

theorem nStep_spec {r1 r2 n i Z : Nat} {b s : List Nat} (h1 : r1 + 4 * (i + 1) ≤ r2) (h2 : r2 + 2 * (i + 1) ≤ Z) (hZ : Z ≤ b.length) (hb : b.length + 100 < 4294967296) (hi : i < 1000) (hs : s.length ≤ 64) :
    b.length ≤ (nStep r1 r2 n b i s).length ∧ (nStep r1 r2 n b i s).length ≤ b.length + 65 ∧
    (∀ p m, p + m ≤ b.length → (p + m ≤ r1 + 4 * i ∨ (r1 + 4 * (i + 1) ≤ p ∧ p + m ≤ r2 + 2 * i) ∨ r2 + 2 * (i + 1) ≤ p) → Agree (nStep r1 r2 n b i s) b p m) ∧
    NmRow (nStep r1 r2 n b i s) r1 r2 n i s ∧ b.length ≤ numL ((nStep r1 r2 n b i s).drop (r1 + 4 * i)) 4 := by
  have o1 : r1 + 4 * i + 4 ≤ b.length := by omega
  have l1 := putL_len o1 b.length
  have o2 : r2 + 2 * i + 2 ≤ (putL b (r1 + 4 * i) 4 b.length).length := by omega
  have l2 := putL_len o2 (i % max n 1)
  have hl : (nStep r1 r2 n b i s).length = b.length + s.length + 1 := by
    unfold nStep
    simp only [List.length_append, List.length_singleton, l2, l1]
  have hag : ∀ p m, p + m ≤ b.length → Agree (nStep r1 r2 n b i s) (putL (putL b (r1 + 4 * i) 4 b.length) (r2 + 2 * i) 2 (i % max n 1)) p m := fun p m hp => by
    unfold nStep
    rw [List.append_assoc]
    exact Agree.app (by rw [l2, l1]; exact hp)
  have hn : numL ((nStep r1 r2 n b i s).drop (r1 + 4 * i)) 4 = b.length :=
    numL_at o1 (by have : (256 : Nat) ^ 4 = 4294967296 := rfl; omega) ((hag _ _ o1).trans (Agree.put o2 (by omega)))
  have hx : numL ((nStep r1 r2 n b i s).drop (r2 + 2 * i)) 2 = i % max n 1 :=
    numL_at o2 (by have : (256 : Nat) ^ 2 = 65536 := rfl; have := Nat.mod_le i (max n 1); omega) (hag _ _ (by omega))
  refine ⟨by omega, by omega, fun p m hp hpm => ?_, ⟨?_, hx⟩, by omega⟩
  · exact (hag p m hp).trans ((Agree.put o2 (by omega)).trans (Agree.put o1 (by omega)))
  · rw [hn]
    have h := TxAt.new (putL (putL b (r1 + 4 * i) 4 b.length) (r2 + 2 * i) 2 (i % max n 1)) s
    rw [l2, l1] at h
    exact h

theorem atN_spec {r1 r2 n Z : Nat} : ∀ (l : List (List Nat)) (i : Nat) (b : List Nat), r1 + 4 * (i + l.length) ≤ r2 → r2 + 2 * (i + l.length) ≤ Z → Z ≤ b.length → b.length + 65 * l.length + 100 < 4294967296 → i + l.length < 1000 → (∀ s ∈ l, s.length ≤ 64) →
    (b.length ≤ (atN r1 r2 n l i b).length ∧ (atN r1 r2 n l i b).length ≤ b.length + 65 * l.length) ∧
    (∀ p m, p + m ≤ b.length → (p + m ≤ r1 + 4 * i ∨ (r1 + 4 * (i + l.length) ≤ p ∧ p + m ≤ r2 + 2 * i) ∨ r2 + 2 * (i + l.length) ≤ p) → Agree (atN r1 r2 n l i b) b p m) ∧
    ∀ j (hj : j < l.length), NmRow (atN r1 r2 n l i b) r1 r2 n (i + j) l[j]
  | [], i, b, _, _, _, _, _, _ => ⟨⟨Nat.le_refl _, by simp [atN]⟩, fun p m _ _ => Agree.refl _ _ _, fun j hj => by simp at hj⟩
  | s :: l, i, b, h1, h2, hZ, hb, hi, hs => by
    have hlc : (s :: l).length = l.length + 1 := List.length_cons
    obtain ⟨a1, a2, a3, a4, a5⟩ := nStep_spec (r1 := r1) (r2 := r2) (n := n) (i := i) (Z := Z) (b := b) (s := s) (by omega) (by omega) hZ (by omega) (by omega) (hs s (by simp))
    obtain ⟨⟨c1, c1'⟩, c2, c3⟩ := atN_spec (r1 := r1) (r2 := r2) (n := n) (Z := Z) l (i + 1) (nStep r1 r2 n b i s) (by omega) (by omega) (by omega) (by omega) (by omega) (fun x hx => hs x (by simp [hx]))
    simp only [atN]
    refine ⟨⟨by omega, by omega⟩, fun p m hp hpm => ?_, fun j hj => ?_⟩
    · exact (c2 p m (by omega) (by omega)).trans (a3 p m hp (by omega))
    · rcases j with _ | j
      · simp only [List.getElem_cons_zero, Nat.add_zero]
        have e1 := numL_agree 4 _ (c2 (r1 + 4 * i) 4 (by omega) (by omega))
        have hlt := a4.tx.lt
        refine ⟨?_, ?_⟩
        · rw [e1]
          exact a4.tx.later (c2 _ _ (by omega) (by omega))
        · rw [numL_agree 2 _ (c2 (r2 + 2 * i) 2 (by omega) (by omega))]
          exact a4.ix
      · have := c3 j (by simpa using hj)
        simp only [List.getElem_cons_succ]
        rwa [show i + 1 + j = i + (j + 1) by omega] at this
end Go.Proofs.Ytbjabncefhgefaa
namespace Go.Proofs.Ytbjabncefhgefaa
open Go.ChangeShapes Go.WideShapes Go.ChangeAt Go.RowKit
set_option linter.unusedVariables false
set_option linter.unusedSimpArgs false

def fV1 (i : Nat) (s : List Nat) : FnV := if s.contains 46 then (0, s) else if s = [] then (0, []) else (64 + i, [])
def fV : Nat → List (List Nat) → List FnV
  | _, [] => []
  | i, s :: l => fV1 i s :: fV (i + 1) l
def nV : Nat → List (List Nat) → List NmV
  | _, [] => []
  | i, s :: l => (s, i) :: nV (i + 1) l
def rises : List Nat → List (List Nat) → Bool
  | _, [] => true
  | last, s :: l => !leqL s last && rises s l
def nonz (s : List Nat) : Bool := s.all fun x => x != 0
theorem nonz_iff {s : List Nat} (h : nonz s = true) : ∀ x ∈ s, x ≠ 0 := fun x hx => by
  have := List.all_eq_true.mp h x hx
  simpa using this

theorem atH_spec (start n m base : Nat) (hb : base < 4294967296) (hs : start ≤ 4096) (hn : n ≤ 12) (hm : m ≤ 12) :
    (atH start n m base).length = start + 40 + 4 * n + 6 * m ∧ numL ((atH start n m base).drop (start + 16)) 4 = base ∧ numL ((atH start n m base).drop (start + 20)) 4 = n ∧ numL ((atH start n m base).drop (start + 24)) 4 = m ∧
    numL ((atH start n m base).drop (start + 28)) 4 = start + 40 ∧ numL ((atH start n m base).drop (start + 32)) 4 = start + 40 + 4 * n ∧ numL ((atH start n m base).drop (start + 36)) 4 = start + 40 + 4 * n + 4 * m := by
  have e4 : (256 : Nat) ^ 4 = 4294967296 := rfl
  unfold atH
  obtain ⟨b0, h0⟩ : ∃ b, List.replicate (start + 40 + 4 * n + 6 * m) 0 = b := ⟨_, rfl⟩
  have l0 : b0.length = start + 40 + 4 * n + 6 * m := by rw [← h0]; exact List.length_replicate
  rw [h0]
  clear h0
  have o1 : start + 16 + 4 ≤ b0.length := by omega
  have l1 := putL_len o1 base
  have a1 := numL_put (v := base) o1
  obtain ⟨b1, g1⟩ : ∃ b, putL b0 (start + 16) 4 base = b := ⟨_, rfl⟩
  rw [g1] at l1 a1 ⊢
  have o2 : start + 20 + 4 ≤ b1.length := by omega
  have l2 := putL_len o2 n
  have a2 := numL_put (v := n) o2
  have t2 : ∀ p m', p + m' ≤ start + 20 → Agree (putL b1 (start + 20) 4 n) b1 p m' := fun p m' h => Agree.put o2 (.inl h)
  obtain ⟨b2, g2⟩ : ∃ b, putL b1 (start + 20) 4 n = b := ⟨_, rfl⟩
  rw [g2] at l2 a2 t2 ⊢
  have o3 : start + 24 + 4 ≤ b2.length := by omega
  have l3 := putL_len o3 m
  have a3 := numL_put (v := m) o3
  have t3 : ∀ p m', p + m' ≤ start + 24 → Agree (putL b2 (start + 24) 4 m) b2 p m' := fun p m' h => Agree.put o3 (.inl h)
  obtain ⟨b3, g3⟩ : ∃ b, putL b2 (start + 24) 4 m = b := ⟨_, rfl⟩
  rw [g3] at l3 a3 t3 ⊢
  have o4 : start + 28 + 4 ≤ b3.length := by omega
  have l4 := putL_len o4 (start + 40)
  have a4 := numL_put (v := start + 40) o4
  have t4 : ∀ p m', p + m' ≤ start + 28 → Agree (putL b3 (start + 28) 4 (start + 40)) b3 p m' := fun p m' h => Agree.put o4 (.inl h)
  obtain ⟨b4, g4⟩ : ∃ b, putL b3 (start + 28) 4 (start + 40) = b := ⟨_, rfl⟩
  rw [g4] at l4 a4 t4 ⊢
  have o5 : start + 32 + 4 ≤ b4.length := by omega
  have l5 := putL_len o5 (start + 40 + 4 * n)
  have a5 := numL_put (v := start + 40 + 4 * n) o5
  have t5 : ∀ p m', p + m' ≤ start + 32 → Agree (putL b4 (start + 32) 4 (start + 40 + 4 * n)) b4 p m' := fun p m' h => Agree.put o5 (.inl h)
  obtain ⟨b5, g5⟩ : ∃ b, putL b4 (start + 32) 4 (start + 40 + 4 * n) = b := ⟨_, rfl⟩
  rw [g5] at l5 a5 t5 ⊢
  have o6 : start + 36 + 4 ≤ b5.length := by omega
  have l6 := putL_len o6 (start + 40 + 4 * n + 4 * m)
  have a6 := numL_put (v := start + 40 + 4 * n + 4 * m) o6
  have t6 : ∀ p m', p + m' ≤ start + 36 → Agree (putL b5 (start + 36) 4 (start + 40 + 4 * n + 4 * m)) b5 p m' := fun p m' h => Agree.put o6 (.inl h)
  obtain ⟨b6, g6⟩ : ∃ b, putL b5 (start + 36) 4 (start + 40 + 4 * n + 4 * m) = b := ⟨_, rfl⟩
  rw [g6] at l6 a6 t6 ⊢
  clear g1 g2 g3 g4 g5 g6
  refine ⟨by omega, ?_, ?_, ?_, ?_, ?_, ?_⟩
  · rw [numL_agree 4 _ (t6 _ _ (by omega)), numL_agree 4 _ (t5 _ _ (by omega)), numL_agree 4 _ (t4 _ _ (by omega)), numL_agree 4 _ (t3 _ _ (by omega)), numL_agree 4 _ (t2 _ _ (by omega)), a1]; omega
  · rw [numL_agree 4 _ (t6 _ _ (by omega)), numL_agree 4 _ (t5 _ _ (by omega)), numL_agree 4 _ (t4 _ _ (by omega)), numL_agree 4 _ (t3 _ _ (by omega)), a2]; omega
  · rw [numL_agree 4 _ (t6 _ _ (by omega)), numL_agree 4 _ (t5 _ _ (by omega)), numL_agree 4 _ (t4 _ _ (by omega)), a3]; omega
  · rw [numL_agree 4 _ (t6 _ _ (by omega)), numL_agree 4 _ (t5 _ _ (by omega)), a4]; omega
  · rw [numL_agree 4 _ (t6 _ _ (by omega)), a5]; omega
  · rw [a6]; omega

theorem funcs_told {c : List Nat} {size rows : Nat} : ∀ (l : List (List Nat)) (i : Nat) (acc : List FnV), (∀ j (hj : j < l.length), readFn c 256 size (numL (c.drop (rows + 4 * (i + j))) 4) = some (fV1 (i + j) l[j])) →
    funcsL c 256 size rows l.length i acc = some (acc ++ fV i l)
  | [], i, acc, _ => by simp [funcsL, fV]
  | s :: l, i, acc, h => by
    have h0 := h 0 (by simp)
    simp only [Nat.add_zero, List.getElem_cons_zero] at h0
    simp only [List.length_cons, funcsL, h0, fV]
    rw [funcs_told l (i + 1) _ fun j hj => by
      have := h (j + 1) (by simpa using hj)
      simp only [List.getElem_cons_succ] at this
      rwa [show i + 1 + j = i + (j + 1) by omega]]
    simp
theorem names_told {c : List Nat} {r1 r2 n : Nat} : ∀ (l : List (List Nat)) (i : Nat) (last : List Nat) (acc : List NmV), i + l.length ≤ n → rises last l = true → (∀ s ∈ l, okSymL s = true) →
    (∀ j (hj : j < l.length), textL c (numL (c.drop (r1 + 4 * (i + j))) 4) 64 = some l[j] ∧ numL (c.drop (r2 + 2 * (i + j))) 2 = i + j) →
    namesL c r1 r2 n l.length i last acc = some (acc ++ nV i l)
  | [], i, last, acc, _, _, _, _ => by simp [namesL, nV]
  | s :: l, i, last, acc, hn, hr, hk, h => by
    have hlc : (s :: l).length = l.length + 1 := List.length_cons
    have h0 := h 0 (by simp)
    simp only [Nat.add_zero, List.getElem_cons_zero] at h0
    have hr' : leqL s last = false ∧ rises s l = true := by
      simp only [rises, Bool.and_eq_true, Bool.not_eq_true'] at hr
      exact hr
    simp only [List.length_cons, namesL, h0.1, h0.2, hk s (by simp), if_true, hr'.1, Bool.false_eq_true, if_false, nV]
    rw [if_pos (by omega), names_told l (i + 1) s _ (by omega) hr'.2 (fun x hx => hk x (by simp [hx])) fun j hj => by
      have := h (j + 1) (by simpa using hj)
      simp only [List.getElem_cons_succ] at this
      rwa [show i + 1 + j = i + (j + 1) by omega]]
    simp
end Go.Proofs.Ytbjabncefhgefaa
namespace Go.Proofs.Ytbjabncefhgefaa
open Go.ChangeShapes Go.WideShapes Go.ChangeAt Go.RowKit
set_option linter.unusedVariables false
set_option linter.unusedSimpArgs false

/-- What the law is to come to. -/
def QL (w : World) : Exit → Act → World → Prop := bodyPost Try.prog Try.f5 fun e w' => e = .returned (.bool true) ∧ Below w.heap.size w w'
set_option maxRecDepth 100000 in
set_option maxHeartbeats 8000000 in
theorem tel_loop (bs0 B3 Cs : List Nat) (A0 : Option Addr) (c0 g1 c1 g2 c2 nD n1 gO : Nat) (dr dz zz b0 t0 so : Int) (S : ByteArray) (sb : Bool) (w wt : World) (i0 : Im wt A0 c0 bs0) (i1 : Im wt (some ⟨g1, 0, none⟩) c1 B3) (i2 : Im wt (some ⟨g2, 0, none⟩) c2 Cs)
    (hr : -9223372036854775808 ≤ dr) (hr' : dr ≤ 9223372036854775807) (hz : -9223372036854775808 ≤ dz) (hz' : dz ≤ 9223372036854775807) (ho : -9223372036854775808 ≤ zz) (ho' : zz ≤ 9223372036854775807) (h3 : -9223372036854775808 ≤ so) (h4 : so ≤ 9223372036854775807) (h5 : -9223372036854775808 ≤ t0) (h6 : t0 ≤ 9223372036854775807)
    (HB : Hid (Below w.heap.size w wt)) (HD : Hid (wt.heap[nD]? = some (.cells #[.int .i64 dr, .int .i64 dz] 26 (0, 0)))) (H15 : Hid (wt.heap[n1]? = some (.cells #[.string S, .int .i64 so, .bool sb] 50 (0, 0)))) (HOD : Hid (wt.heap[gO]? = some (.cells #[.int .i64 256, .int .i64 zz] 26 (0, 0)))) (a : Act)
    (ha : Has 224 [0, 4, 5, 9, 15, 18, 19, 20] [.slice A0 bs0.length c0, .int .i64 b0, .int .i64 t0, .pointer (some ⟨nD, 0, none⟩), .pointer (some ⟨n1, 0, none⟩), .slice (some ⟨g1, 0, none⟩) B3.length c1, .pointer (some ⟨gO, 0, none⟩), .slice (some ⟨g2, 0, none⟩) Cs.length c2] a) : (dropS 6 bodyL).wp Try.prog (QL w) a wt := by
  obtain ⟨u, rfl⟩ := topen_0_4_5_9_15_18_19_20 ha
  clear ha
  conv => arg 2; whnf
  have HI0 := Lib.hid (fun W (hW : Below wt.heap.size wt W) => i0.below hW)
  have HI1 := Lib.hid (fun W (hW : Below wt.heap.size wt W) => i1.below hW)
  have HI2 := Lib.hid (fun W (hW : Below wt.heap.size wt W) => i2.below hW)
  have HRG := Lib.hid (And.intro h3 (And.intro h4 (And.intro h5 h6)))
  have HRD := Lib.hid (And.intro hr (And.intro hr' (And.intro hz hz')))
  have HRO := Lib.hid (And.intro ho ho')
  clear i0 i1 i2 h3 h4 h5 h6 hr hr' hz hz' ho ho'
  go_upto_region 11 with (fail)
  rename_i K2 hK2 K1 hK1
  have HK2 := Lib.hid hK2
  clear hK2
  go_wp2_with fail
  refine wp_loopS 224 [0, 4, 5, 9, 15, 18, 19, 20] (fun n s wx => ∃ i : Nat, n = 4 - i ∧ i ≤ 4 ∧ s 21 = .int .i64 i ∧ Below wt.heap.size wt wx) 4 ⟨rfl, rfl, rfl⟩ ⟨0, rfl, by omega, rfl, Below.refl _ _⟩ ?_
  intro gk a' wr hS hR J1 K3 hJ1 hK3
  have HJ1 := Lib.hid hJ1
  clear hJ1
  obtain ⟨u3, hu, rfl⟩ := lopen_0_4_5_9_15_18_19_20 hS _ _ _ _ _ _ _ _ rfl
  rw [hu] at hR
  clear hu hS
  obtain ⟨i, hgk, hi, h21, hbel⟩ := hR
  rw [h21]
  subst hgk
  clear h21
  have HBT := Lib.hid hbel
  clear hbel
  by_cases hlt : i < 4
  · have hkI : (i : Int) < 4 := by omega
    have hd := Nat.lt_of_lt_of_le (lt_of_row' HD.out) HBT.out.size
    have ho := Nat.lt_of_lt_of_le (lt_of_row' HOD.out) HBT.out.size
    have d0 : wr.cell? ⟨nD, 0, none⟩ = some (.int .i64 dr) := by rw [cell_of_row _ _ _ _ _ _ ((HBT.out.block _ (lt_of_row' HD.out)).trans HD.out)]; rfl
    have d1 : wr.cell? ⟨nD, 1, none⟩ = some (.int .i64 dz) := by rw [cell_of_row _ _ _ _ _ _ ((HBT.out.block _ (lt_of_row' HD.out)).trans HD.out)]; rfl
    have o0 : wr.cell? ⟨gO, 0, none⟩ = some (.int .i64 256) := by rw [cell_of_row _ _ _ _ _ _ ((HBT.out.block _ (lt_of_row' HOD.out)).trans HOD.out)]; rfl
    have o1 : wr.cell? ⟨gO, 1, none⟩ = some (.int .i64 zz) := by rw [cell_of_row _ _ _ _ _ _ ((HBT.out.block _ (lt_of_row' HOD.out)).trans HOD.out)]; rfl
    rcases (by omega : i = 0 ∨ i = 1 ∨ i = 2 ∨ i = 3) with rfl | rfl | rfl | rfl
    · obtain ⟨w1, hw1⟩ : ∃ w1, (((wr.alloc (.cells #[.slice A0 bs0.length c0, .slice (some ⟨g1, 0, none⟩) B3.length c1, .slice (some ⟨g2, 0, none⟩) Cs.length c2, .slice (some ⟨g1, 0, none⟩) B3.length c1] 24)).alloc (.cells #[.int .i64 dr, .int .i64 dz, .int .i64 256, .int .i64 zz, .int .i64 256, .int .i64 zz, .int .i64 dr, .int .i64 dz] 26)).alloc (.cells #[.int .i64 dr, .int .i64 dz] 26)) = w1 := ⟨_, rfl⟩
      have HE1 := Lib.hid hw1
      have HA1 := Lib.hid (show Below wr.heap.size wr w1 from by rw [← hw1]; exact (((Below.refl wr.heap.size wr).alloc (Nat.le_refl _) _).alloc (by simp) _).alloc (by simp; omega) _)
      have HY1 := Lib.hid (show w1.heap[wr.heap.size + 2]? = some (.cells #[.int .i64 dr, .int .i64 dz] 26 (0, 0)) from by
        rw [← hw1]
        have h := heap_alloc_new ((wr.alloc (.cells #[.slice A0 bs0.length c0, .slice (some ⟨g1, 0, none⟩) B3.length c1, .slice (some ⟨g2, 0, none⟩) Cs.length c2, .slice (some ⟨g1, 0, none⟩) B3.length c1] 24)).alloc (.cells #[.int .i64 dr, .int .i64 dz, .int .i64 256, .int .i64 zz, .int .i64 256, .int .i64 zz, .int .i64 dr, .int .i64 dz] 26)) (.cells #[.int .i64 dr, .int .i64 dz] 26)
        rwa [show ((wr.alloc (.cells #[.slice A0 bs0.length c0, .slice (some ⟨g1, 0, none⟩) B3.length c1, .slice (some ⟨g2, 0, none⟩) Cs.length c2, .slice (some ⟨g1, 0, none⟩) B3.length c1] 24)).alloc (.cells #[.int .i64 dr, .int .i64 dz, .int .i64 256, .int .i64 zz, .int .i64 256, .int .i64 zz, .int .i64 dr, .int .i64 dz] 26)).heap.size = wr.heap.size + 2 by simp] at h)
      have HAT := Lib.hid (HBT.out.trans (HA1.out.mono HBT.out.size))
      clear hw1
      go_upto_region 15 with (fail)
      rename_i Kp hKp
      have HKp := Lib.hid hKp
      clear hKp
      go_wp2_with fail
      refine (congrArg _ HE1.out).mpr ?_
      refine HKp.out _ _ ?_
      refine tel_parse A0 c0 bs0 (wr.heap.size + 2) n1 dr dz b0 t0 so S sb w1 (HI0.out _ HAT.out) HRD.out.1 HRD.out.2.1 HRD.out.2.2.1 HRD.out.2.2.2 HRG.out.1 HRG.out.2.1 HRG.out.2.2.1 HRG.out.2.2.2 HY1 (Lib.hid ((HAT.out.block _ (lt_of_row' H15.out)).trans H15.out)) _ _ ?_ ?_
      · exact ⟨rfl, rfl, rfl⟩
      intro a' w' hsame hbel'
      obtain ⟨u', rfl⟩ := sopen_0_4_5_9_15_18_19_20_21 hsame _ _ _ _ _ _ _ _ _ rfl
      go_wp2_with fail
      refine Handed.intro (4 - 1) (by omega) ?_
      refine HJ1.out _ _ _ ?_
      exact ⟨⟨rfl, rfl, rfl⟩, 1, rfl, by omega, by first | rfl | go_num, HAT.out.trans (hbel'.mono HAT.out.size)⟩
    · obtain ⟨w1, hw1⟩ : ∃ w1, (((wr.alloc (.cells #[.slice A0 bs0.length c0, .slice (some ⟨g1, 0, none⟩) B3.length c1, .slice (some ⟨g2, 0, none⟩) Cs.length c2, .slice (some ⟨g1, 0, none⟩) B3.length c1] 24)).alloc (.cells #[.int .i64 dr, .int .i64 dz, .int .i64 256, .int .i64 zz, .int .i64 256, .int .i64 zz, .int .i64 dr, .int .i64 dz] 26)).alloc (.cells #[.int .i64 256, .int .i64 zz] 26)) = w1 := ⟨_, rfl⟩
      have HE1 := Lib.hid hw1
      have HA1 := Lib.hid (show Below wr.heap.size wr w1 from by rw [← hw1]; exact (((Below.refl wr.heap.size wr).alloc (Nat.le_refl _) _).alloc (by simp) _).alloc (by simp; omega) _)
      have HY1 := Lib.hid (show w1.heap[wr.heap.size + 2]? = some (.cells #[.int .i64 256, .int .i64 zz] 26 (0, 0)) from by
        rw [← hw1]
        have h := heap_alloc_new ((wr.alloc (.cells #[.slice A0 bs0.length c0, .slice (some ⟨g1, 0, none⟩) B3.length c1, .slice (some ⟨g2, 0, none⟩) Cs.length c2, .slice (some ⟨g1, 0, none⟩) B3.length c1] 24)).alloc (.cells #[.int .i64 dr, .int .i64 dz, .int .i64 256, .int .i64 zz, .int .i64 256, .int .i64 zz, .int .i64 dr, .int .i64 dz] 26)) (.cells #[.int .i64 256, .int .i64 zz] 26)
        rwa [show ((wr.alloc (.cells #[.slice A0 bs0.length c0, .slice (some ⟨g1, 0, none⟩) B3.length c1, .slice (some ⟨g2, 0, none⟩) Cs.length c2, .slice (some ⟨g1, 0, none⟩) B3.length c1] 24)).alloc (.cells #[.int .i64 dr, .int .i64 dz, .int .i64 256, .int .i64 zz, .int .i64 256, .int .i64 zz, .int .i64 dr, .int .i64 dz] 26)).heap.size = wr.heap.size + 2 by simp] at h)
      have HAT := Lib.hid (HBT.out.trans (HA1.out.mono HBT.out.size))
      clear hw1
      go_upto_region 15 with (fail)
      rename_i Kp hKp
      have HKp := Lib.hid hKp
      clear hKp
      go_wp2_with fail
      refine (congrArg _ HE1.out).mpr ?_
      refine HKp.out _ _ ?_
      refine tel_parse _ c1 B3 (wr.heap.size + 2) n1 256 zz b0 t0 so S sb w1 (HI1.out _ HAT.out) (by omega) (by omega) HRO.out.1 HRO.out.2 HRG.out.1 HRG.out.2.1 HRG.out.2.2.1 HRG.out.2.2.2 HY1 (Lib.hid ((HAT.out.block _ (lt_of_row' H15.out)).trans H15.out)) _ _ ?_ ?_
      · exact ⟨rfl, rfl, rfl⟩
      intro a' w' hsame hbel'
      obtain ⟨u', rfl⟩ := sopen_0_4_5_9_15_18_19_20_21 hsame _ _ _ _ _ _ _ _ _ rfl
      go_wp2_with fail
      refine Handed.intro (4 - 2) (by omega) ?_
      refine HJ1.out _ _ _ ?_
      exact ⟨⟨rfl, rfl, rfl⟩, 2, rfl, by omega, by first | rfl | go_num, HAT.out.trans (hbel'.mono HAT.out.size)⟩
    · obtain ⟨w1, hw1⟩ : ∃ w1, (((wr.alloc (.cells #[.slice A0 bs0.length c0, .slice (some ⟨g1, 0, none⟩) B3.length c1, .slice (some ⟨g2, 0, none⟩) Cs.length c2, .slice (some ⟨g1, 0, none⟩) B3.length c1] 24)).alloc (.cells #[.int .i64 dr, .int .i64 dz, .int .i64 256, .int .i64 zz, .int .i64 256, .int .i64 zz, .int .i64 dr, .int .i64 dz] 26)).alloc (.cells #[.int .i64 256, .int .i64 zz] 26)) = w1 := ⟨_, rfl⟩
      have HE1 := Lib.hid hw1
      have HA1 := Lib.hid (show Below wr.heap.size wr w1 from by rw [← hw1]; exact (((Below.refl wr.heap.size wr).alloc (Nat.le_refl _) _).alloc (by simp) _).alloc (by simp; omega) _)
      have HY1 := Lib.hid (show w1.heap[wr.heap.size + 2]? = some (.cells #[.int .i64 256, .int .i64 zz] 26 (0, 0)) from by
        rw [← hw1]
        have h := heap_alloc_new ((wr.alloc (.cells #[.slice A0 bs0.length c0, .slice (some ⟨g1, 0, none⟩) B3.length c1, .slice (some ⟨g2, 0, none⟩) Cs.length c2, .slice (some ⟨g1, 0, none⟩) B3.length c1] 24)).alloc (.cells #[.int .i64 dr, .int .i64 dz, .int .i64 256, .int .i64 zz, .int .i64 256, .int .i64 zz, .int .i64 dr, .int .i64 dz] 26)) (.cells #[.int .i64 256, .int .i64 zz] 26)
        rwa [show ((wr.alloc (.cells #[.slice A0 bs0.length c0, .slice (some ⟨g1, 0, none⟩) B3.length c1, .slice (some ⟨g2, 0, none⟩) Cs.length c2, .slice (some ⟨g1, 0, none⟩) B3.length c1] 24)).alloc (.cells #[.int .i64 dr, .int .i64 dz, .int .i64 256, .int .i64 zz, .int .i64 256, .int .i64 zz, .int .i64 dr, .int .i64 dz] 26)).heap.size = wr.heap.size + 2 by simp] at h)
      have HAT := Lib.hid (HBT.out.trans (HA1.out.mono HBT.out.size))
      clear hw1
      go_upto_region 15 with (fail)
      rename_i Kp hKp
      have HKp := Lib.hid hKp
      clear hKp
      go_wp2_with fail
      refine (congrArg _ HE1.out).mpr ?_
      refine HKp.out _ _ ?_
      refine tel_parse _ c2 Cs (wr.heap.size + 2) n1 256 zz b0 t0 so S sb w1 (HI2.out _ HAT.out) (by omega) (by omega) HRO.out.1 HRO.out.2 HRG.out.1 HRG.out.2.1 HRG.out.2.2.1 HRG.out.2.2.2 HY1 (Lib.hid ((HAT.out.block _ (lt_of_row' H15.out)).trans H15.out)) _ _ ?_ ?_
      · exact ⟨rfl, rfl, rfl⟩
      intro a' w' hsame hbel'
      obtain ⟨u', rfl⟩ := sopen_0_4_5_9_15_18_19_20_21 hsame _ _ _ _ _ _ _ _ _ rfl
      go_wp2_with fail
      refine Handed.intro (4 - 3) (by omega) ?_
      refine HJ1.out _ _ _ ?_
      exact ⟨⟨rfl, rfl, rfl⟩, 3, rfl, by omega, by first | rfl | go_num, HAT.out.trans (hbel'.mono HAT.out.size)⟩
    · obtain ⟨w1, hw1⟩ : ∃ w1, (((wr.alloc (.cells #[.slice A0 bs0.length c0, .slice (some ⟨g1, 0, none⟩) B3.length c1, .slice (some ⟨g2, 0, none⟩) Cs.length c2, .slice (some ⟨g1, 0, none⟩) B3.length c1] 24)).alloc (.cells #[.int .i64 dr, .int .i64 dz, .int .i64 256, .int .i64 zz, .int .i64 256, .int .i64 zz, .int .i64 dr, .int .i64 dz] 26)).alloc (.cells #[.int .i64 dr, .int .i64 dz] 26)) = w1 := ⟨_, rfl⟩
      have HE1 := Lib.hid hw1
      have HA1 := Lib.hid (show Below wr.heap.size wr w1 from by rw [← hw1]; exact (((Below.refl wr.heap.size wr).alloc (Nat.le_refl _) _).alloc (by simp) _).alloc (by simp; omega) _)
      have HY1 := Lib.hid (show w1.heap[wr.heap.size + 2]? = some (.cells #[.int .i64 dr, .int .i64 dz] 26 (0, 0)) from by
        rw [← hw1]
        have h := heap_alloc_new ((wr.alloc (.cells #[.slice A0 bs0.length c0, .slice (some ⟨g1, 0, none⟩) B3.length c1, .slice (some ⟨g2, 0, none⟩) Cs.length c2, .slice (some ⟨g1, 0, none⟩) B3.length c1] 24)).alloc (.cells #[.int .i64 dr, .int .i64 dz, .int .i64 256, .int .i64 zz, .int .i64 256, .int .i64 zz, .int .i64 dr, .int .i64 dz] 26)) (.cells #[.int .i64 dr, .int .i64 dz] 26)
        rwa [show ((wr.alloc (.cells #[.slice A0 bs0.length c0, .slice (some ⟨g1, 0, none⟩) B3.length c1, .slice (some ⟨g2, 0, none⟩) Cs.length c2, .slice (some ⟨g1, 0, none⟩) B3.length c1] 24)).alloc (.cells #[.int .i64 dr, .int .i64 dz, .int .i64 256, .int .i64 zz, .int .i64 256, .int .i64 zz, .int .i64 dr, .int .i64 dz] 26)).heap.size = wr.heap.size + 2 by simp] at h)
      have HAT := Lib.hid (HBT.out.trans (HA1.out.mono HBT.out.size))
      clear hw1
      go_upto_region 15 with (fail)
      rename_i Kp hKp
      have HKp := Lib.hid hKp
      clear hKp
      go_wp2_with fail
      refine (congrArg _ HE1.out).mpr ?_
      refine HKp.out _ _ ?_
      refine tel_parse _ c1 B3 (wr.heap.size + 2) n1 dr dz b0 t0 so S sb w1 (HI1.out _ HAT.out) HRD.out.1 HRD.out.2.1 HRD.out.2.2.1 HRD.out.2.2.2 HRG.out.1 HRG.out.2.1 HRG.out.2.2.1 HRG.out.2.2.2 HY1 (Lib.hid ((HAT.out.block _ (lt_of_row' H15.out)).trans H15.out)) _ _ ?_ ?_
      · exact ⟨rfl, rfl, rfl⟩
      intro a' w' hsame hbel'
      obtain ⟨u', rfl⟩ := sopen_0_4_5_9_15_18_19_20_21 hsame _ _ _ _ _ _ _ _ _ rfl
      go_wp2_with fail
      refine Handed.intro (4 - 4) (by omega) ?_
      refine HJ1.out _ _ _ ?_
      exact ⟨⟨rfl, rfl, rfl⟩, 4, rfl, by omega, by first | rfl | go_num, HAT.out.trans (hbel'.mono HAT.out.size)⟩
  · obtain rfl : i = 4 := by omega
    go_wp2_with fail
    refine HK2.out _ _ ?_
    go_wp2_with fail
    refine (awake7_any _).mono ?_
    rintro e w' ⟨rfl, hb⟩
    have HBW := Lib.hid (HB.out.trans (HBT.out.mono HB.out.size))
    have HBE := Lib.hid (HBW.out.trans (hb.mono HBW.out.size))
    clear hb
    go_wp2_with fail
    go_ret
    exact ⟨rfl, HBE.out⟩
end Go.Proofs.Ytbjabncefhgefaa
namespace Go.Proofs.Ytbjabncefhgefaa
open Go.ChangeShapes Go.WideShapes Go.ChangeAt Go.RowKit
set_option linter.unusedVariables false
set_option linter.unusedSimpArgs false
set_option maxRecDepth 100000

theorem topen_0_2_3_4_5_6_9_15 {a : Act} {v0 v2 v3 v4 v5 v6 v9 v15 : Value} (h : Has 224 [0, 2, 3, 4, 5, 6, 9, 15] [v0, v2, v3, v4, v5, v6, v9, v15] a) : ∃ u : Nat → Value, a = ⟨(v0 :: u 1 :: v2 :: v3 :: v4 :: v5 :: v6 :: u 7 :: u 8 :: v9 :: u 10 :: u 11 :: u 12 :: u 13 :: u 14 :: v15 :: u 16 :: u 17 :: u 18 :: u 19 :: u 20 :: u 21 :: u 22 :: u 23 :: u 24 :: u 25 :: u 26 :: u 27 :: u 28 :: u 29 :: u 30 :: u 31 :: u 32 :: u 33 :: u 34 :: u 35 :: u 36 :: u 37 :: u 38 :: u 39 :: u 40 :: u 41 :: u 42 :: u 43 :: u 44 :: u 45 :: u 46 :: u 47 :: u 48 :: u 49 :: u 50 :: u 51 :: u 52 :: u 53 :: u 54 :: u 55 :: u 56 :: u 57 :: u 58 :: u 59 :: u 60 :: u 61 :: u 62 :: u 63 :: u 64 :: u 65 :: u 66 :: u 67 :: u 68 :: u 69 :: u 70 :: u 71 :: u 72 :: u 73 :: u 74 :: u 75 :: u 76 :: u 77 :: u 78 :: u 79 :: u 80 :: u 81 :: u 82 :: u 83 :: u 84 :: u 85 :: u 86 :: u 87 :: u 88 :: u 89 :: u 90 :: u 91 :: u 92 :: u 93 :: u 94 :: u 95 :: u 96 :: u 97 :: u 98 :: u 99 :: u 100 :: u 101 :: u 102 :: u 103 :: u 104 :: u 105 :: u 106 :: u 107 :: u 108 :: u 109 :: u 110 :: u 111 :: u 112 :: u 113 :: u 114 :: u 115 :: u 116 :: u 117 :: u 118 :: u 119 :: u 120 :: u 121 :: u 122 :: u 123 :: u 124 :: u 125 :: u 126 :: u 127 :: u 128 :: u 129 :: u 130 :: u 131 :: u 132 :: u 133 :: u 134 :: u 135 :: u 136 :: u 137 :: u 138 :: u 139 :: u 140 :: u 141 :: u 142 :: u 143 :: u 144 :: u 145 :: u 146 :: u 147 :: u 148 :: u 149 :: u 150 :: u 151 :: u 152 :: u 153 :: u 154 :: u 155 :: u 156 :: u 157 :: u 158 :: u 159 :: u 160 :: u 161 :: u 162 :: u 163 :: u 164 :: u 165 :: u 166 :: u 167 :: u 168 :: u 169 :: u 170 :: u 171 :: u 172 :: u 173 :: u 174 :: u 175 :: u 176 :: u 177 :: u 178 :: u 179 :: u 180 :: u 181 :: u 182 :: u 183 :: u 184 :: u 185 :: u 186 :: u 187 :: u 188 :: u 189 :: u 190 :: u 191 :: u 192 :: u 193 :: u 194 :: u 195 :: u 196 :: u 197 :: u 198 :: u 199 :: u 200 :: u 201 :: u 202 :: u 203 :: u 204 :: u 205 :: u 206 :: u 207 :: u 208 :: u 209 :: u 210 :: u 211 :: u 212 :: u 213 :: u 214 :: u 215 :: u 216 :: u 217 :: u 218 :: u 219 :: u 220 :: u 221 :: u 222 :: u 223 :: []).toArray, []⟩ := by
  obtain ⟨⟨l⟩, d⟩ := a
  obtain ⟨hs, hd, hl⟩ := h
  have hs' : l.length = 224 := hs
  have hd' : d = [] := hd
  subst hd'
  simp only [at_, List.map_cons, List.map_nil, List.cons.injEq, and_true] at hl
  obtain ⟨e0, e2, e3, e4, e5, e6, e9, e15⟩ := hl
  refine ⟨sl ⟨⟨l⟩, []⟩, ?_⟩
  have key := open_list l [] 224 hs'
  rw [range224] at key
  have u0 : sl ⟨⟨l⟩, []⟩ 0 = v0 := by unfold sl; rw [e0]; rfl
  have u2 : sl ⟨⟨l⟩, []⟩ 2 = v2 := by unfold sl; rw [e2]; rfl
  have u3 : sl ⟨⟨l⟩, []⟩ 3 = v3 := by unfold sl; rw [e3]; rfl
  have u4 : sl ⟨⟨l⟩, []⟩ 4 = v4 := by unfold sl; rw [e4]; rfl
  have u5 : sl ⟨⟨l⟩, []⟩ 5 = v5 := by unfold sl; rw [e5]; rfl
  have u6 : sl ⟨⟨l⟩, []⟩ 6 = v6 := by unfold sl; rw [e6]; rfl
  have u9 : sl ⟨⟨l⟩, []⟩ 9 = v9 := by unfold sl; rw [e9]; rfl
  have u15 : sl ⟨⟨l⟩, []⟩ 15 = v15 := by unfold sl; rw [e15]; rfl
  have k2 : l = (v0 :: sl ⟨⟨l⟩, []⟩ 1 :: v2 :: v3 :: v4 :: v5 :: v6 :: sl ⟨⟨l⟩, []⟩ 7 :: sl ⟨⟨l⟩, []⟩ 8 :: v9 :: sl ⟨⟨l⟩, []⟩ 10 :: sl ⟨⟨l⟩, []⟩ 11 :: sl ⟨⟨l⟩, []⟩ 12 :: sl ⟨⟨l⟩, []⟩ 13 :: sl ⟨⟨l⟩, []⟩ 14 :: v15 :: sl ⟨⟨l⟩, []⟩ 16 :: sl ⟨⟨l⟩, []⟩ 17 :: sl ⟨⟨l⟩, []⟩ 18 :: sl ⟨⟨l⟩, []⟩ 19 :: sl ⟨⟨l⟩, []⟩ 20 :: sl ⟨⟨l⟩, []⟩ 21 :: sl ⟨⟨l⟩, []⟩ 22 :: sl ⟨⟨l⟩, []⟩ 23 :: sl ⟨⟨l⟩, []⟩ 24 :: sl ⟨⟨l⟩, []⟩ 25 :: sl ⟨⟨l⟩, []⟩ 26 :: sl ⟨⟨l⟩, []⟩ 27 :: sl ⟨⟨l⟩, []⟩ 28 :: sl ⟨⟨l⟩, []⟩ 29 :: sl ⟨⟨l⟩, []⟩ 30 :: sl ⟨⟨l⟩, []⟩ 31 :: sl ⟨⟨l⟩, []⟩ 32 :: sl ⟨⟨l⟩, []⟩ 33 :: sl ⟨⟨l⟩, []⟩ 34 :: sl ⟨⟨l⟩, []⟩ 35 :: sl ⟨⟨l⟩, []⟩ 36 :: sl ⟨⟨l⟩, []⟩ 37 :: sl ⟨⟨l⟩, []⟩ 38 :: sl ⟨⟨l⟩, []⟩ 39 :: sl ⟨⟨l⟩, []⟩ 40 :: sl ⟨⟨l⟩, []⟩ 41 :: sl ⟨⟨l⟩, []⟩ 42 :: sl ⟨⟨l⟩, []⟩ 43 :: sl ⟨⟨l⟩, []⟩ 44 :: sl ⟨⟨l⟩, []⟩ 45 :: sl ⟨⟨l⟩, []⟩ 46 :: sl ⟨⟨l⟩, []⟩ 47 :: sl ⟨⟨l⟩, []⟩ 48 :: sl ⟨⟨l⟩, []⟩ 49 :: sl ⟨⟨l⟩, []⟩ 50 :: sl ⟨⟨l⟩, []⟩ 51 :: sl ⟨⟨l⟩, []⟩ 52 :: sl ⟨⟨l⟩, []⟩ 53 :: sl ⟨⟨l⟩, []⟩ 54 :: sl ⟨⟨l⟩, []⟩ 55 :: sl ⟨⟨l⟩, []⟩ 56 :: sl ⟨⟨l⟩, []⟩ 57 :: sl ⟨⟨l⟩, []⟩ 58 :: sl ⟨⟨l⟩, []⟩ 59 :: sl ⟨⟨l⟩, []⟩ 60 :: sl ⟨⟨l⟩, []⟩ 61 :: sl ⟨⟨l⟩, []⟩ 62 :: sl ⟨⟨l⟩, []⟩ 63 :: sl ⟨⟨l⟩, []⟩ 64 :: sl ⟨⟨l⟩, []⟩ 65 :: sl ⟨⟨l⟩, []⟩ 66 :: sl ⟨⟨l⟩, []⟩ 67 :: sl ⟨⟨l⟩, []⟩ 68 :: sl ⟨⟨l⟩, []⟩ 69 :: sl ⟨⟨l⟩, []⟩ 70 :: sl ⟨⟨l⟩, []⟩ 71 :: sl ⟨⟨l⟩, []⟩ 72 :: sl ⟨⟨l⟩, []⟩ 73 :: sl ⟨⟨l⟩, []⟩ 74 :: sl ⟨⟨l⟩, []⟩ 75 :: sl ⟨⟨l⟩, []⟩ 76 :: sl ⟨⟨l⟩, []⟩ 77 :: sl ⟨⟨l⟩, []⟩ 78 :: sl ⟨⟨l⟩, []⟩ 79 :: sl ⟨⟨l⟩, []⟩ 80 :: sl ⟨⟨l⟩, []⟩ 81 :: sl ⟨⟨l⟩, []⟩ 82 :: sl ⟨⟨l⟩, []⟩ 83 :: sl ⟨⟨l⟩, []⟩ 84 :: sl ⟨⟨l⟩, []⟩ 85 :: sl ⟨⟨l⟩, []⟩ 86 :: sl ⟨⟨l⟩, []⟩ 87 :: sl ⟨⟨l⟩, []⟩ 88 :: sl ⟨⟨l⟩, []⟩ 89 :: sl ⟨⟨l⟩, []⟩ 90 :: sl ⟨⟨l⟩, []⟩ 91 :: sl ⟨⟨l⟩, []⟩ 92 :: sl ⟨⟨l⟩, []⟩ 93 :: sl ⟨⟨l⟩, []⟩ 94 :: sl ⟨⟨l⟩, []⟩ 95 :: sl ⟨⟨l⟩, []⟩ 96 :: sl ⟨⟨l⟩, []⟩ 97 :: sl ⟨⟨l⟩, []⟩ 98 :: sl ⟨⟨l⟩, []⟩ 99 :: sl ⟨⟨l⟩, []⟩ 100 :: sl ⟨⟨l⟩, []⟩ 101 :: sl ⟨⟨l⟩, []⟩ 102 :: sl ⟨⟨l⟩, []⟩ 103 :: sl ⟨⟨l⟩, []⟩ 104 :: sl ⟨⟨l⟩, []⟩ 105 :: sl ⟨⟨l⟩, []⟩ 106 :: sl ⟨⟨l⟩, []⟩ 107 :: sl ⟨⟨l⟩, []⟩ 108 :: sl ⟨⟨l⟩, []⟩ 109 :: sl ⟨⟨l⟩, []⟩ 110 :: sl ⟨⟨l⟩, []⟩ 111 :: sl ⟨⟨l⟩, []⟩ 112 :: sl ⟨⟨l⟩, []⟩ 113 :: sl ⟨⟨l⟩, []⟩ 114 :: sl ⟨⟨l⟩, []⟩ 115 :: sl ⟨⟨l⟩, []⟩ 116 :: sl ⟨⟨l⟩, []⟩ 117 :: sl ⟨⟨l⟩, []⟩ 118 :: sl ⟨⟨l⟩, []⟩ 119 :: sl ⟨⟨l⟩, []⟩ 120 :: sl ⟨⟨l⟩, []⟩ 121 :: sl ⟨⟨l⟩, []⟩ 122 :: sl ⟨⟨l⟩, []⟩ 123 :: sl ⟨⟨l⟩, []⟩ 124 :: sl ⟨⟨l⟩, []⟩ 125 :: sl ⟨⟨l⟩, []⟩ 126 :: sl ⟨⟨l⟩, []⟩ 127 :: sl ⟨⟨l⟩, []⟩ 128 :: sl ⟨⟨l⟩, []⟩ 129 :: sl ⟨⟨l⟩, []⟩ 130 :: sl ⟨⟨l⟩, []⟩ 131 :: sl ⟨⟨l⟩, []⟩ 132 :: sl ⟨⟨l⟩, []⟩ 133 :: sl ⟨⟨l⟩, []⟩ 134 :: sl ⟨⟨l⟩, []⟩ 135 :: sl ⟨⟨l⟩, []⟩ 136 :: sl ⟨⟨l⟩, []⟩ 137 :: sl ⟨⟨l⟩, []⟩ 138 :: sl ⟨⟨l⟩, []⟩ 139 :: sl ⟨⟨l⟩, []⟩ 140 :: sl ⟨⟨l⟩, []⟩ 141 :: sl ⟨⟨l⟩, []⟩ 142 :: sl ⟨⟨l⟩, []⟩ 143 :: sl ⟨⟨l⟩, []⟩ 144 :: sl ⟨⟨l⟩, []⟩ 145 :: sl ⟨⟨l⟩, []⟩ 146 :: sl ⟨⟨l⟩, []⟩ 147 :: sl ⟨⟨l⟩, []⟩ 148 :: sl ⟨⟨l⟩, []⟩ 149 :: sl ⟨⟨l⟩, []⟩ 150 :: sl ⟨⟨l⟩, []⟩ 151 :: sl ⟨⟨l⟩, []⟩ 152 :: sl ⟨⟨l⟩, []⟩ 153 :: sl ⟨⟨l⟩, []⟩ 154 :: sl ⟨⟨l⟩, []⟩ 155 :: sl ⟨⟨l⟩, []⟩ 156 :: sl ⟨⟨l⟩, []⟩ 157 :: sl ⟨⟨l⟩, []⟩ 158 :: sl ⟨⟨l⟩, []⟩ 159 :: sl ⟨⟨l⟩, []⟩ 160 :: sl ⟨⟨l⟩, []⟩ 161 :: sl ⟨⟨l⟩, []⟩ 162 :: sl ⟨⟨l⟩, []⟩ 163 :: sl ⟨⟨l⟩, []⟩ 164 :: sl ⟨⟨l⟩, []⟩ 165 :: sl ⟨⟨l⟩, []⟩ 166 :: sl ⟨⟨l⟩, []⟩ 167 :: sl ⟨⟨l⟩, []⟩ 168 :: sl ⟨⟨l⟩, []⟩ 169 :: sl ⟨⟨l⟩, []⟩ 170 :: sl ⟨⟨l⟩, []⟩ 171 :: sl ⟨⟨l⟩, []⟩ 172 :: sl ⟨⟨l⟩, []⟩ 173 :: sl ⟨⟨l⟩, []⟩ 174 :: sl ⟨⟨l⟩, []⟩ 175 :: sl ⟨⟨l⟩, []⟩ 176 :: sl ⟨⟨l⟩, []⟩ 177 :: sl ⟨⟨l⟩, []⟩ 178 :: sl ⟨⟨l⟩, []⟩ 179 :: sl ⟨⟨l⟩, []⟩ 180 :: sl ⟨⟨l⟩, []⟩ 181 :: sl ⟨⟨l⟩, []⟩ 182 :: sl ⟨⟨l⟩, []⟩ 183 :: sl ⟨⟨l⟩, []⟩ 184 :: sl ⟨⟨l⟩, []⟩ 185 :: sl ⟨⟨l⟩, []⟩ 186 :: sl ⟨⟨l⟩, []⟩ 187 :: sl ⟨⟨l⟩, []⟩ 188 :: sl ⟨⟨l⟩, []⟩ 189 :: sl ⟨⟨l⟩, []⟩ 190 :: sl ⟨⟨l⟩, []⟩ 191 :: sl ⟨⟨l⟩, []⟩ 192 :: sl ⟨⟨l⟩, []⟩ 193 :: sl ⟨⟨l⟩, []⟩ 194 :: sl ⟨⟨l⟩, []⟩ 195 :: sl ⟨⟨l⟩, []⟩ 196 :: sl ⟨⟨l⟩, []⟩ 197 :: sl ⟨⟨l⟩, []⟩ 198 :: sl ⟨⟨l⟩, []⟩ 199 :: sl ⟨⟨l⟩, []⟩ 200 :: sl ⟨⟨l⟩, []⟩ 201 :: sl ⟨⟨l⟩, []⟩ 202 :: sl ⟨⟨l⟩, []⟩ 203 :: sl ⟨⟨l⟩, []⟩ 204 :: sl ⟨⟨l⟩, []⟩ 205 :: sl ⟨⟨l⟩, []⟩ 206 :: sl ⟨⟨l⟩, []⟩ 207 :: sl ⟨⟨l⟩, []⟩ 208 :: sl ⟨⟨l⟩, []⟩ 209 :: sl ⟨⟨l⟩, []⟩ 210 :: sl ⟨⟨l⟩, []⟩ 211 :: sl ⟨⟨l⟩, []⟩ 212 :: sl ⟨⟨l⟩, []⟩ 213 :: sl ⟨⟨l⟩, []⟩ 214 :: sl ⟨⟨l⟩, []⟩ 215 :: sl ⟨⟨l⟩, []⟩ 216 :: sl ⟨⟨l⟩, []⟩ 217 :: sl ⟨⟨l⟩, []⟩ 218 :: sl ⟨⟨l⟩, []⟩ 219 :: sl ⟨⟨l⟩, []⟩ 220 :: sl ⟨⟨l⟩, []⟩ 221 :: sl ⟨⟨l⟩, []⟩ 222 :: sl ⟨⟨l⟩, []⟩ 223 :: []) := by
    rw [← u0, ← u2, ← u3, ← u4, ← u5, ← u6, ← u9, ← u15]
    exact key
  exact congrArg (fun x => (⟨⟨x⟩, []⟩ : Act)) k2
theorem atF_len {rows Z : Nat} : ∀ (l : List (List Nat)) (i : Nat) (b : List Nat), rows + 4 * (i + l.length) ≤ Z → Z ≤ b.length → (∀ s ∈ l, TxOk s) → b.length ≤ (atF rows l i b).length ∧ (atF rows l i b).length ≤ b.length + 201 * l.length
  | [], i, b, _, _, _ => by simp [atF]
  | s :: l, i, b, h, hz, hs => by
    have hlc : (s :: l).length = l.length + 1 := List.length_cons
    have hs1 := (hs s (by simp)).2
    have hst : b.length ≤ (fStep rows b i s).length ∧ (fStep rows b i s).length ≤ b.length + 201 := by
      unfold fStep
      split
      · rw [putL_len (by simp only [List.length_append, List.length_singleton]; omega)]
        simp only [List.length_append, List.length_singleton]
        omega
      · rw [putL_len (by omega)]
        omega
    have ih := atF_len (rows := rows) (Z := Z) l (i + 1) (fStep rows b i s) (by omega) (by omega) (fun x hx => hs x (List.mem_cons_of_mem _ hx))
    simp only [atF]
    omega
theorem atN_len {r1 r2 n Z : Nat} : ∀ (l : List (List Nat)) (i : Nat) (b : List Nat), r1 + 4 * (i + l.length) ≤ Z → r2 + 2 * (i + l.length) ≤ Z → Z ≤ b.length → (∀ s ∈ l, TxOk s) → b.length ≤ (atN r1 r2 n l i b).length ∧ (atN r1 r2 n l i b).length ≤ b.length + 201 * l.length
  | [], i, b, _, _, _, _ => by simp [atN]
  | s :: l, i, b, h, h2, hz, hs => by
    have hlc : (s :: l).length = l.length + 1 := List.length_cons
    have hs1 := (hs s (by simp)).2
    have hst : b.length ≤ (nStep r1 r2 n b i s).length ∧ (nStep r1 r2 n b i s).length ≤ b.length + 201 := by
      unfold nStep
      have l1 := putL_len (b := b) (o := r1 + 4 * i) (n := 4) (by omega) b.length
      have l2 := putL_len (b := putL b (r1 + 4 * i) 4 b.length) (o := r2 + 2 * i) (n := 2) (by omega) (i % max n 1)
      simp only [List.length_append, List.length_singleton, l2, l1]
      omega
    have ih := atN_len (r1 := r1) (r2 := r2) (n := n) (Z := Z) l (i + 1) (nStep r1 r2 n b i s) (by omega) (by omega) (by omega) (fun x hx => hs x (List.mem_cons_of_mem _ hx))
    simp only [atN]
    omega
theorem made_len (fs ns : List (List Nat)) (base : Nat) (hb : base < 4294967296) (hf : fs.length ≤ 12) (hn : ns.length ≤ 12) (hfs : ∀ s ∈ fs, TxOk s) (hns : ∀ s ∈ ns, TxOk s) :
    296 ≤ (atE 256 fs ns base).length ∧ (atE 256 fs ns base).length ≤ 10000 ∧ (atB 256 fs ns.length base).length ≤ 10000 := by
  have hh := (atH_spec 256 fs.length ns.length base hb (by omega) hf hn).1
  have hB := atF_len (rows := 256 + 40) (Z := 256 + 40 + 4 * fs.length + 6 * ns.length) fs 0 (atH 256 fs.length ns.length base) (by omega) (by omega) hfs
  have hE := atN_len (r1 := 256 + 40 + 4 * fs.length) (r2 := 256 + 40 + 4 * fs.length + 4 * ns.length) (n := fs.length) (Z := 256 + 40 + 4 * fs.length + 6 * ns.length) ns 0 (atB 256 fs ns.length base) (by omega) (by omega) (by unfold atB; omega) hns
  unfold atE
  unfold atB at hE ⊢
  omega
theorem u8_xor_bd {a b : Int} (ha : 0 ≤ a) (ha' : a ≤ 255) (hb : 0 ≤ b) (hb' : b ≤ 255) : 0 ≤ bits .xor .u8 a b ∧ bits .xor .u8 a b ≤ 255 := by
  obtain ⟨x, rfl⟩ := Int.eq_ofNat_of_zero_le ha
  obtain ⟨y, rfl⟩ := Int.eq_ofNat_of_zero_le hb
  have h1 : x < 2 ^ 8 := by omega
  have h2 : y < 2 ^ 8 := by omega
  have h3 := Nat.xor_lt_two_pow h1 h2
  have e := u8_xor (x : Int) (y : Int) (by omega) (by omega) (by omega) (by omega)
  rw [e, Int.toNat_natCast, Int.toNat_natCast]
  omega
theorem Im.set {w : World} {g c : Nat} {bs : List Nat} (h : Im w (some ⟨g, 0, none⟩) c bs) (i : Nat) (hi : i < bs.length) (v : Nat) (hv : v ≤ 255) (old : Value) (hold : w.cell? ⟨g, i, none⟩ = some old) : Im (w.setCell ⟨g, i, none⟩ (.int .u8 v)) (some ⟨g, 0, none⟩) c (bs.set i v) := by
  rcases h.sl with h0 | ⟨b, off, hA, hlt, hrow⟩
  · omega
  · injection hA with hA
    injection hA with hb ho
    subst hb ho
    have hl : (bs.set i v).length = bs.length := List.length_set
    refine ⟨.inr ⟨g, 0, rfl, by simpa using hlt, fun j hj => ?_⟩, fun x hx => ?_, by rw [hl]; exact h.le, h.cap, by rw [hl]; exact h.most⟩
    · rw [hl] at hj
      have h1 := hrow j hj
      rw [Nat.zero_add] at h1 ⊢
      by_cases e : j = i
      · subst e
        rw [World.cell?_setCell_same _ _ _ hold]
        simp [lF, List.getD, hj]
      · rw [World.cell?_setCell_other _ _ _ _ (by intro q; injection q with _ q; exact e q.symm), h1]
        congr 2
        simp [lF, List.getD, List.getElem?_set, Ne.symm e]
    · rcases List.mem_or_eq_of_mem_set hx with h2 | h2
      · exact h.lb x h2
      · omega
theorem OwnD.none (w : World) : OwnD (w.alloc (.cells #[] 5)) w.heap.size w.heap.size 0 [] :=
  ⟨Nat.le_refl _, by simp, fun i hi => by simp at hi, fun v hv => by simp at hv, Nat.le_refl _, by omega, fun j hj => by omega⟩
end Go.Proofs.Ytbjabncefhgefaa
namespace Go.Proofs.Ytbjabncefhgefaa
open Go.ChangeShapes Go.WideShapes Go.ChangeAt Go.RowKit
set_option linter.unusedVariables false
set_option linter.unusedSimpArgs false

set_option maxRecDepth 100000 in
set_option maxHeartbeats 8000000 in
theorem tel_made (bs0 : List Nat) (A0 : Option Addr) (c0 : Nat) (fs ns : List (List Nat)) (lf ln : Nat) (F Nn : Option Addr) (fc nc : Nat) (dr dz b0 t0 so y : Int) (S : ByteArray) (sb : Bool) (w w1 : World) (i0 : Im w1 A0 c0 bs0) (hF : SlT sC 1 w1 F fs) (hN : SlT sC 1 w1 Nn ns) (hfs : ∀ s ∈ fs, TxOk s) (hns : ∀ s ∈ ns, TxOk s) (hLf : min lf 12 = fs.length) (hLn : min ln 12 = ns.length) (hlf : lf ≤ 9223372036854775807) (hln : ln ≤ 9223372036854775807)
    (hr : -9223372036854775808 ≤ dr) (hr' : dr ≤ 9223372036854775807) (hz : -9223372036854775808 ≤ dz) (hz' : dz ≤ 9223372036854775807) (h3 : -9223372036854775808 ≤ so) (h4 : so ≤ 9223372036854775807) (h5 : -9223372036854775808 ≤ t0) (h6 : t0 ≤ 9223372036854775807) (hy : 0 ≤ y) (hy' : y ≤ 255)
    (HB : Hid (Below w.heap.size w w1)) (HD : Hid (w1.heap[w.heap.size]? = some (.cells #[.int .i64 dr, .int .i64 dz] 26 (0, 0)))) (H15 : Hid (w1.heap[w.heap.size + 1]? = some (.cells #[.string S, .int .i64 so, .bool sb] 50 (0, 0)))) (a : Act)
    (ha : Has 224 [0, 2, 3, 4, 5, 6, 9, 15] [.slice A0 bs0.length c0, .slice F lf fc, .slice Nn ln nc, .int .i64 b0, .int .i64 t0, .int .u8 y, .pointer (some ⟨w.heap.size, 0, none⟩), .pointer (some ⟨w.heap.size + 1, 0, none⟩)] a) : (dropS 3 bodyL).wp Try.prog (QL w) a w1 := by
  obtain ⟨u, rfl⟩ := topen_0_2_3_4_5_6_9_15 ha
  clear ha
  obtain ⟨B, hB, mB⟩ : ∃ x : Nat, x < 256 ∧ bits .and .i64 b0 255 = (x : Int) := ⟨(b0 % 256).toNat, by omega, by rw [and_ff]; omega⟩
  obtain ⟨x, hx, mx⟩ : ∃ x : Nat, x < 65536 ∧ bits .and .i64 t0 65535 = (x : Int) := ⟨(t0 % 65536).toNat, by omega, by rw [and_ffff]; omega⟩
  have hml := made_len fs ns B (by omega) (by omega) (by omega) hfs hns
  obtain ⟨B3, hB3⟩ : ∃ q, atE 256 fs ns B = q := ⟨_, rfl⟩
  obtain ⟨B2, hB2⟩ : ∃ q, atB 256 fs ns.length B = q := ⟨_, rfl⟩
  rw [hB3, hB2] at hml
  have hm := made7_gen B fs ns lf ln F Nn fc nc w1 hF hN hfs hns (by omega) (by omega) (by omega) hlf hln B2 B3 (by rw [List.take_of_length_le (by omega), hLn]; exact hB2) (by rw [List.take_of_length_le (by omega), List.take_of_length_le (by omega)]; exact hB3)
  obtain ⟨L, hL⟩ : ∃ L, B3.length = L := ⟨_, rfl⟩
  obtain ⟨zz, hzz⟩ : ∃ z : Int, (B2.length : Int) - 256 = z := ⟨_, rfl⟩
  rw [hL, hzz] at hm
  rw [hL] at hml
  have hzb : -1000 ≤ zz ∧ zz ≤ 100000 := by omega
  have hLb : 296 ≤ L ∧ L ≤ 10000 := by omega
  have HM := Lib.hid hm
  have HI0 := Lib.hid (fun W (hW : Below w1.heap.size w1 W) => i0.below hW)
  have HRG := Lib.hid (And.intro h3 (And.intro h4 (And.intro h5 h6)))
  have HRD := Lib.hid (And.intro hr (And.intro hr' (And.intro hz hz')))
  have HZB := Lib.hid hzb
  have HL := Lib.hid hL
  have HLB := Lib.hid hLb
  clear hm hB3 hB2 hml hzz hzb i0 hF hN hfs hns hLf hLn hr hr' hz hz' h3 h4 h5 h6
  conv => arg 2; whnf
  go_wp2_with fail
  refine HM.out.mono ?_
  rintro e w2 ⟨g1, c1, rfl, ho1, hw2⟩
  obtain ⟨w3, hw3⟩ : ∃ w3, w2.alloc (.cells #[.int .i64 256, .int .i64 zz] 26) = w3 := ⟨_, rfl⟩
  have HE3 := Lib.hid hw3
  have h23 : Below w2.heap.size w2 w3 := by rw [← hw3]; exact (Below.refl _ _).alloc (Nat.le_refl _) _
  have h13 : Below w1.heap.size w1 w3 := hw2.trans (h23.mono hw2.size)
  have HB3 := Lib.hid (HB.out.trans (h13.mono HB.out.size))
  have HO1 := Lib.hid (ho1.below h23)
  have HD3 := Lib.hid ((h13.block _ (lt_of_row' HD.out)).trans HD.out)
  have H153 := Lib.hid ((h13.block _ (lt_of_row' H15.out)).trans H15.out)
  have HOD := Lib.hid (show w3.heap[w2.heap.size]? = some (.cells #[.int .i64 256, .int .i64 zz] 26 (0, 0)) from by rw [← hw3]; exact heap_alloc_new w2 _)
  have HI3 := Lib.hid (HI0.out _ h13)
  clear hw3 h23 h13 ho1 hw2 HI0 HM
  go_upto_region 9 with (fail)
  refine (congrArg _ HE3.out).mpr ?_
  have HNO := Lib.hid (OwnD.none w3)
  have HSR := Lib.hid (show Src Try.prog 1 24 (.slice (some ⟨g1, 0, none⟩) L c1) L (bytesL L (lF B3)) (w3.alloc (.cells #[] 5)) from by
    rw [← HL.out]
    exact src_sl (HO1.out.alloc _).slB)
  go_upto_region 10 with (first
    | (at_builtin; refine wpList_appD rfl (.tmp 83) (.tmp 84) 24 rfl (.slice (some ⟨g1, 0, none⟩) L c1) HNO.out (show 0 = ([] : List Nat).length from rfl) HL.out.symm HSR.out HO1.out.lb (by omega) (by simp) rfl rfl ?_; intro g2 c2 w5 hown5 hbel5; rw [Nat.zero_add L]; have HO5 := Lib.hid hown5; have HB5 := Lib.hid hbel5; clear hown5 hbel5)
    | fail)
  rename_i K2 hK2
  have HK2 := Lib.hid hK2
  clear hK2
  have h35 : Below w3.heap.size w3 w5 := ((Below.refl w3.heap.size w3).alloc (Nat.le_refl _) _).trans HB5.out
  have ho5 := HO5.out
  rw [List.nil_append] at ho5
  obtain ⟨L2, hL2⟩ : ∃ q, L - 256 = q := ⟨_, rfl⟩
  have eL2 : (L : Int) - 256 = (L2 : Int) := by have := HLB.out; omega
  obtain ⟨j, hj⟩ : ∃ j, x % L2 = j := ⟨_, rfl⟩
  have hL20 : L2 ≠ 0 := by have := HLB.out; omega
  have hjl : j < L2 := by rw [← hj]; exact Nat.mod_lt _ (by omega)
  have erem : Int.tmod (x : Int) (L2 : Int) = (j : Int) := by rw [← hj]; rfl
  obtain ⟨ix, hix⟩ : ∃ q, 256 + j = q := ⟨_, rfl⟩
  have eix : (256 : Int) + (j : Int) = (ix : Int) := by omega
  have hixL : ix < L := by have := HLB.out; omega
  have hixI : (ix : Int) < (L : Int) := by omega
  have hcell := ho5.row ix (by rw [HL.out]; exact hixL)
  rw [Nat.zero_add] at hcell
  have hfz := (ho5.wr ix (by have := ho5.len; rw [HL.out] at this; omega)).2
  have h255 := ho5.lb.b255 ix
  obtain ⟨q, hq⟩ : ∃ q, lF B3 ix = q := ⟨_, rfl⟩
  rw [hq] at hcell h255
  have hxb := u8_xor_bd h255.1 h255.2 hy hy'
  obtain ⟨v, hv⟩ : ∃ v : Nat, bits .xor .u8 q y = (v : Int) := ⟨(bits .xor .u8 q y).toNat, by omega⟩
  have hv255 : v ≤ 255 := by omega
  obtain ⟨w6, hw6⟩ : ∃ w6, w5.setCell ⟨g2, ix, none⟩ (.int .u8 v) = w6 := ⟨_, rfl⟩
  have HE6 := Lib.hid hw6
  have h36 : Below w3.heap.size w3 w6 := by rw [← hw6]; exact h35.setCell (p := ⟨g2, ix, none⟩) ho5.le _
  have HIC := Lib.hid (show Im w6 (some ⟨g2, 0, none⟩) c2 (B3.set ix v) from by
    rw [← hw6]
    exact Im.set ⟨ho5.slB, ho5.lb, ho5.len, ho5.most, by rw [HL.out]; have := HLB.out; omega⟩ ix (by rw [HL.out]; exact hixL) v hv255 _ hcell)
  have HII := Lib.hid (show Im w6 (some ⟨g1, 0, none⟩) c1 B3 from
    Im.below ⟨HO1.out.slB, HO1.out.lb, HO1.out.len, HO1.out.most, by rw [HL.out]; have := HLB.out; omega⟩ h36)
  have HI6 := Lib.hid (HI3.out.below h36)
  have HB6 := Lib.hid (HB3.out.trans (h36.mono HB3.out.size))
  have HD6 := Lib.hid ((h36.block _ (lt_of_row' HD3.out)).trans HD3.out)
  have H156 := Lib.hid ((h36.block _ (lt_of_row' H153.out)).trans H153.out)
  have HOD6 := Lib.hid ((h36.block _ (lt_of_row' HOD.out)).trans HOD.out)
  have hCl : (B3.set ix v).length = L := by rw [List.length_set]; exact HL.out
  have HCL := Lib.hid hCl
  clear hw6 h35 h36 ho5 hL2 hj hjl hix hq h255 hxb hCl hx hB
  go_wp2_with fail
  refine (congrArg _ HE6.out).mpr ?_
  refine HK2.out _ _ ?_
  refine tel_loop bs0 B3 (B3.set ix v) A0 c0 g1 c1 g2 c2 w.heap.size (w.heap.size + 1) w2.heap.size dr dz zz b0 t0 so S sb w w6 HI6.out HII.out HIC.out HRD.out.1 HRD.out.2.1 HRD.out.2.2.1 HRD.out.2.2.2 (by have := HZB.out; omega) (by have := HZB.out; omega) HRG.out.1 HRG.out.2.1 HRG.out.2.2.1 HRG.out.2.2.2 HB6 HD6 H156 HOD6 _ ?_
  rw [HCL.out, HL.out]
  exact ⟨rfl, rfl, rfl⟩
end Go.Proofs.Ytbjabncefhgefaa
namespace Go.Proofs.Ytbjabncefhgefaa
open Go.ChangeShapes Go.WideShapes Go.ChangeAt Go.RowKit
set_option linter.unusedVariables false
set_option linter.unusedSimpArgs false

/-- A text's bytes. -/
def byt (S : ByteArray) : List Nat := S.data.toList.map UInt8.toNat
theorem byt_lb (S : ByteArray) : Lb (byt S) := by
  intro v hv
  obtain ⟨x, _, rfl⟩ := List.mem_map.mp hv
  have := x.toNat_lt
  omega
theorem byt_len (S : ByteArray) : (byt S).length = S.size := by
  unfold byt
  rw [List.length_map, Array.length_toList]; rfl
theorem txt_byt (S : ByteArray) : txt (byt S) = S := by
  have h := txt_list (byt_lb S)
  have h2 : (byt S).map UInt8.ofNat = S.data.toList := by
    unfold byt
    rw [List.map_map]
    have : (UInt8.ofNat ∘ UInt8.toNat) = id := by funext x; simp
    rw [this, List.map_id]
  rw [h2, ByteArray.toList_eq] at h
  exact ByteArray.ext (Array.toList_inj.mp h)
/-- Texts in a slice, any of them. -/
def StrS (w : World) (F : Option Addr) (n : Nat) (Sx : Nat → ByteArray) : Prop := n = 0 ∨ ∃ b off, F = some ⟨b, off, none⟩ ∧ b < w.heap.size ∧ ∀ i, i < n → w.cell? ⟨b, off + i, none⟩ = some (.string (Sx i))
theorem StrS.below {w w' : World} {F : Option Addr} {n : Nat} {Sx : Nat → ByteArray} (h : StrS w F n Sx) (hb : Below w.heap.size w w') : StrS w' F n Sx := by
  rcases h with h | ⟨b, off, hF, hlt, hc⟩
  · exact .inl h
  · exact .inr ⟨b, off, hF, Nat.lt_of_lt_of_le hlt hb.size, fun i hi => (hb.cell (p := ⟨b, off + i, none⟩) hlt).trans (hc i hi)⟩
def fstL (n : Nat) (Sx : Nat → ByteArray) : List (List Nat) := (List.range (min n 12)).map fun i => byt (Sx i)
theorem fstL_len (n : Nat) (Sx : Nat → ByteArray) : min n 12 = (fstL n Sx).length := by simp [fstL]
theorem StrS.fst {w : World} {F : Option Addr} {n : Nat} {Sx : Nat → ByteArray} (h : StrS w F n Sx) : SlT sC 1 w F (fstL n Sx) := by
  rcases h with h | ⟨b, off, hF, hlt, hc⟩
  · subst h; exact .inl (by simp [fstL])
  · refine .inr ⟨b, off, hF, hlt, fun i hi j u hu => ?_⟩
    have hi' : i < min n 12 := by rw [fstL_len n Sx]; exact hi
    rcases j with _ | j
    · simp [sC, fstL, txt_byt] at hu
      subst hu
      have := hc i (by omega)
      simpa using this
    · simp [sC] at hu
theorem fstL_ok {n : Nat} {Sx : Nat → ByteArray} (h : ∀ j, j < 12 → j < n → (Sx j).size ≤ 100) : ∀ s ∈ fstL n Sx, TxOk s := by
  intro s hs
  obtain ⟨i, hi, rfl⟩ := List.mem_map.mp hs
  have hi' : i < min n 12 := by simpa using hi
  exact ⟨byt_lb _, by rw [byt_len]; have := h i (by omega) (by omega); omega⟩
/-- The first numbers of a row, as a list. -/
def natL (f : Nat → Int) (n : Nat) : List Nat := (List.range n).map fun i => (f i).toNat
theorem natL_len (f : Nat → Int) (n : Nat) : (natL f n).length = n := by simp [natL]
theorem natL_at {f : Nat → Int} (h : Bytes255 f) {n i : Nat} (hi : i < n) : lF (natL f n) i = f i := by
  have := h i
  simp [lF, natL, List.getD, hi]
  omega
theorem natL_lb {f : Nat → Int} (h : Bytes255 f) (n : Nat) : Lb (natL f n) := by
  intro v hv
  obtain ⟨i, _, rfl⟩ := List.mem_map.mp hv
  have := h i
  omega
theorem natL_im {w : World} {A : Option Addr} {n c : Nat} {f : Nat → Int} (h : Bytes255 f) (hs : SlB w A n f) (hl : n ≤ c) (hc : c ≤ 9223372036854775807) (h4 : n ≤ 100000) : Im w A c (natL f n) := by
  refine ⟨?_, natL_lb h n, by rw [natL_len]; exact hl, hc, by rw [natL_len]; exact h4⟩
  rw [natL_len]
  rcases hs with h0 | ⟨b, off, hA, hlt, hr⟩
  · exact .inl h0
  · exact .inr ⟨b, off, hA, hlt, fun i hi => by rw [hr i hi, natL_at h hi]⟩

set_option maxRecDepth 100000 in
set_option maxHeartbeats 8000000 in
theorem tel_any (A0 : Option Addr) (l0 c0 : Nat) (f0 : Nat → Int) (F Nn : Option Addr) (lf fc ln nc : Nat) (SF SN : Nat → ByteArray) (dr dz b0 t0 so y : Int) (S : ByteArray) (sb : Bool) (w : World) (hs0 : SlB w A0 l0 f0) (h255 : Bytes255 f0) (hl0 : l0 ≤ c0) (hc0 : c0 ≤ 9223372036854775807) (hF : StrS w F lf SF) (hN : StrS w Nn ln SN) (hlf : lf ≤ 9223372036854775807) (hln : ln ≤ 9223372036854775807)
    (hr : -9223372036854775808 ≤ dr) (hr' : dr ≤ 9223372036854775807) (hz : -9223372036854775808 ≤ dz) (hz' : dz ≤ 9223372036854775807) (h3 : -9223372036854775808 ≤ so) (h4 : so ≤ 9223372036854775807) (h5 : -9223372036854775808 ≤ t0) (h6 : t0 ≤ 9223372036854775807) (hy : 0 ≤ y) (hy' : y ≤ 255) :
    Calls Try.prog 5 #[.slice A0 l0 c0, .agg #[.int .i64 dr, .int .i64 dz], .slice F lf fc, .slice Nn ln nc, .int .i64 b0, .int .i64 t0, .int .u8 y, .agg #[.string S, .int .i64 so, .bool sb]] w fun e w' => e = .returned (.bool true) ∧ Below w.heap.size w w' := by
  obtain ⟨w1, hw1⟩ : ∃ w1, (w.alloc (.cells #[.int .i64 dr, .int .i64 dz] 26)).alloc (.cells #[.string S, .int .i64 so, .bool sb] 50) = w1 := ⟨_, rfl⟩
  have hs1 : (w.alloc (.cells #[.int .i64 dr, .int .i64 dz] 26)).heap.size = w.heap.size + 1 := by simp
  have hb1 : Below w.heap.size w w1 := by rw [← hw1]; exact ((Below.refl w.heap.size w).alloc (Nat.le_refl _) _).alloc (by rw [hs1]; omega) _
  have HB := Lib.hid hb1
  have HD := Lib.hid (show w1.heap[w.heap.size]? = some (.cells #[.int .i64 dr, .int .i64 dz] 26 (0, 0)) from by
    rw [← hw1]
    exact (Below.heap_alloc _ _ w.heap.size (by rw [hs1]; omega)).trans (heap_alloc_new w _))
  have H15 := Lib.hid (show w1.heap[w.heap.size + 1]? = some (.cells #[.string S, .int .i64 so, .bool sb] 50 (0, 0)) from by
    rw [← hw1]
    have h := heap_alloc_new (w.alloc (.cells #[.int .i64 dr, .int .i64 dz] 26)) (.cells #[.string S, .int .i64 so, .bool sb] 50)
    rwa [hs1] at h)
  have HE1 := Lib.hid hw1
  have HS0 := Lib.hid (show l0 ≤ 400 → Im w1 A0 c0 (natL f0 l0) from fun h => natL_im h255 (SlB.below hs0 hb1) hl0 hc0 (by omega))
  have HF := Lib.hid (hF.below hb1)
  have HN := Lib.hid (hN.below hb1)
  have HRG := Lib.hid (And.intro h3 (And.intro h4 (And.intro h5 h6)))
  have HRD := Lib.hid (And.intro hr (And.intro hr' (And.intro hz hz')))
  clear hw1 hs1 hb1 hs0 h255 hF hN h3 h4 h5 h6 hr hr' hz hz'
  by_cases c400 : 400 < l0
  · have d1 : (400 : Int) < (l0 : Int) := by omega
    clear c400
    go_enter Try.func5, Try.ntmps5
    go_upto_region 1 with (fail)
    refine (congrArg _ HE1.out).mpr ?_
    go_wp2_with fail
    refine (awake7_any _).mono ?_
    rintro e w' ⟨rfl, hb⟩
    have HBE := Lib.hid (HB.out.trans (hb.mono HB.out.size))
    clear hb
    go_wp2_with fail
    go_ret
    exact ⟨rfl, HBE.out⟩
  have d1 : ¬ (400 : Int) < (l0 : Int) := by omega
  have q0 : w1.cell? ⟨w.heap.size + 1, 0, none⟩ = some (.string S) := by rw [cell_of_row _ _ _ _ _ _ H15.out]; rfl
  by_cases c100 : 100 < S.size
  · have d2 : (100 : Int) < (S.size : Int) := by omega
    clear c100
    go_enter Try.func5, Try.ntmps5
    go_upto_region 1 with (fail)
    refine (congrArg _ HE1.out).mpr ?_
    go_wp2_with fail
    refine (awake7_any _).mono ?_
    rintro e w' ⟨rfl, hb⟩
    have HBE := Lib.hid (HB.out.trans (hb.mono HB.out.size))
    clear hb
    go_wp2_with fail
    go_ret
    exact ⟨rfl, HBE.out⟩
  have d2 : ¬ (100 : Int) < (S.size : Int) := by omega
  go_enter Try.func5, Try.ntmps5
  go_upto_region 1 with (fail)
  refine (congrArg _ HE1.out).mpr ?_
  go_upto_region 3 with (fail)
  rename_i K2 hK2 K1 hK1
  have HK2 := Lib.hid hK2
  clear hK2
  have HL4 := Lib.hid (show l0 ≤ 400 from by omega)
  clear c400 c100 d1 d2 q0
  go_wp2_with fail
  go_loop [17] (fun v17 => ∃ i : Nat, i ≤ 12 ∧ v17 = .int .i64 i ∧ ∀ j, j < i → (j < lf → (SF j).size ≤ 100) ∧ (j < ln → (SN j).size ≤ 100)) (fun v17 => 12 - (intOf v17).toNat)
  case atStart => exact ⟨0, by omega, rfl, fun j hj => by omega⟩
  case round =>
    obtain ⟨i, hi, rfl, hall⟩ := hrel
    have HALL := Lib.hid hall
    clear hall
    by_cases hlt : i < 12
    · have hltI : (i : Int) < 12 := by omega
      by_cases hfi : i < lf
      · obtain ⟨bf, off, hFn, _, hcf⟩ := HF.out.resolve_left (by omega)
        subst hFn
        have x0 := hcf i hfi
        have hfiI : (i : Int) < (lf : Int) := by omega
        clear hcf
        obtain ⟨TF, hTF⟩ : ∃ T, SF i = T := ⟨_, rfl⟩
        rw [hTF] at x0
        by_cases hbf : 100 < TF.size
        · have d1 : (100 : Int) < (TF.size : Int) := by omega
          clear hbf hTF
          go_wp2_with fail
          refine (awake7_any _).mono ?_
          rintro e w' ⟨rfl, hb⟩
          have HBE := Lib.hid (HB.out.trans (hb.mono HB.out.size))
          clear hb
          go_wp2_with fail
          go_ret
          exact ⟨rfl, HBE.out⟩
        · have d1 : ¬ (100 : Int) < (TF.size : Int) := by omega
          have HTF := Lib.hid (show (SF i).size ≤ 100 from by rw [hTF]; omega)
          clear hbf hTF
          by_cases hni : i < ln
          · obtain ⟨bn, off2, hNn, _, hcn⟩ := HN.out.resolve_left (by omega)
            subst hNn
            have y0 := hcn i hni
            have hniI : (i : Int) < (ln : Int) := by omega
            clear hcn
            obtain ⟨TN, hTN⟩ : ∃ T, SN i = T := ⟨_, rfl⟩
            rw [hTN] at y0
            by_cases hbn : 100 < TN.size
            · have d2 : (100 : Int) < (TN.size : Int) := by omega
              clear hbn hTN
              go_wp2_with fail
              refine (awake7_any _).mono ?_
              rintro e w' ⟨rfl, hb⟩
              have HBE := Lib.hid (HB.out.trans (hb.mono HB.out.size))
              clear hb
              go_wp2_with fail
              go_ret
              exact ⟨rfl, HBE.out⟩
            · have d2 : ¬ (100 : Int) < (TN.size : Int) := by omega
              have HTN := Lib.hid (show (SN i).size ≤ 100 from by rw [hTN]; omega)
              clear hbn hTN
              go_wp2_with fail
              go_round
              case rel => exact ⟨i + 1, by omega, by go_num, fun j hj => by
                by_cases e : j = i
                · subst e; exact ⟨fun _ => HTF.out, fun _ => HTN.out⟩
                · exact HALL.out j (by omega)⟩
              case measure => simp [intOf]; omega
          · have hniI : ¬ (i : Int) < (ln : Int) := by omega
            go_wp2_with fail
            go_round
            case rel => exact ⟨i + 1, by omega, by go_num, fun j hj => by
              by_cases e : j = i
              · subst e; exact ⟨fun _ => HTF.out, fun h => absurd h hni⟩
              · exact HALL.out j (by omega)⟩
            case measure => simp [intOf]; omega
      · have hfiI : ¬ (i : Int) < (lf : Int) := by omega
        by_cases hni : i < ln
        · obtain ⟨bn, off2, hNn, _, hcn⟩ := HN.out.resolve_left (by omega)
          subst hNn
          have y0 := hcn i hni
          have hniI : (i : Int) < (ln : Int) := by omega
          clear hcn
          obtain ⟨TN, hTN⟩ : ∃ T, SN i = T := ⟨_, rfl⟩
          rw [hTN] at y0
          by_cases hbn : 100 < TN.size
          · have d2 : (100 : Int) < (TN.size : Int) := by omega
            clear hbn hTN
            go_wp2_with fail
            refine (awake7_any _).mono ?_
            rintro e w' ⟨rfl, hb⟩
            have HBE := Lib.hid (HB.out.trans (hb.mono HB.out.size))
            clear hb
            go_wp2_with fail
            go_ret
            exact ⟨rfl, HBE.out⟩
          · have d2 : ¬ (100 : Int) < (TN.size : Int) := by omega
            have HTN := Lib.hid (show (SN i).size ≤ 100 from by rw [hTN]; omega)
            clear hbn hTN
            go_wp2_with fail
            go_round
            case rel => exact ⟨i + 1, by omega, by go_num, fun j hj => by
              by_cases e : j = i
              · subst e; exact ⟨fun h => absurd h hfi, fun _ => HTN.out⟩
              · exact HALL.out j (by omega)⟩
            case measure => simp [intOf]; omega
        · have hniI : ¬ (i : Int) < (ln : Int) := by omega
          go_wp2_with fail
          go_round
          case rel => exact ⟨i + 1, by omega, by go_num, fun j hj => by
            by_cases e : j = i
            · subst e; exact ⟨fun h => absurd h hfi, fun h => absurd h hni⟩
            · exact HALL.out j (by omega)⟩
          case measure => simp [intOf]; omega
    · obtain rfl : i = 12 := by omega
      have hf := fstL_ok (n := lf) (Sx := SF) (fun j hj hk => (HALL.out j hj).1 hk)
      have hn := fstL_ok (n := ln) (Sx := SN) (fun j hj hk => (HALL.out j hj).2 hk)
      have HF2 := Lib.hid hf
      have HN2 := Lib.hid hn
      clear hf hn
      go_wp2_with fail
      refine HK2.out _ _ ?_
      refine tel_made (natL f0 l0) A0 c0 (fstL lf SF) (fstL ln SN) lf ln F Nn fc nc dr dz b0 t0 so y S sb w w1 (HS0.out HL4.out) HF.out.fst HN.out.fst HF2.out HN2.out (fstL_len _ _) (fstL_len _ _) hlf hln HRD.out.1 HRD.out.2.1 HRD.out.2.2.1 HRD.out.2.2.2 HRG.out.1 HRG.out.2.1 HRG.out.2.2.1 HRG.out.2.2.2 hy hy' HB HD H15 _ ?_
      rw [natL_len]
      exact ⟨rfl, rfl, rfl⟩
end Go.Proofs.Ytbjabncefhgefaa
