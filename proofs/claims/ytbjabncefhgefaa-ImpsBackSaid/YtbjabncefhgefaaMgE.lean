/- Images as lists of bytes: what is read where numbers were put and texts were laid behind. · law 7's images, read again: what At lays is what Parse tells. · law 8's images, read again: symbols and descriptors. · law 8's images, read again: a descriptor. · law 8's images, read again: the whole. -/
import Derived.Test.YtbjabncefhgefaaLstPut
import Derived.Test.YtbjabncefhgefaaExpI0
import Derived.Test.YtbjabncefhgefaaExpE
import Derived.Test.YtbjabncefhgefaaMgD
import Derived.Test.YtbjabncefhgefaaImpS
namespace Go.Proofs.Ytbjabncefhgefaa
open Go.ChangeShapes Go.WideShapes Go.ChangeAt Go.RowKit
set_option linter.unusedVariables false
set_option linter.unusedSimpArgs false

/-- Two rows have the same bytes from o on, n of them. -/
def Agree (b c : List Nat) (o n : Nat) : Prop := ∀ i, i < n → b[o + i]? = c[o + i]?
theorem Agree.symm {b c : List Nat} {o n : Nat} (h : Agree b c o n) : Agree c b o n := fun i hi => (h i hi).symm
theorem Agree.trans {b c d : List Nat} {o n : Nat} (h : Agree b c o n) (k : Agree c d o n) : Agree b d o n := fun i hi => (h i hi).trans (k i hi)
theorem Agree.refl (b : List Nat) (o n : Nat) : Agree b b o n := fun _ _ => rfl
theorem Agree.sub {b c : List Nat} {o n o' n' : Nat} (h : Agree b c o n) (h1 : o ≤ o') (h2 : o' + n' ≤ o + n) : Agree b c o' n' := fun i hi => by
  have := h (o' - o + i) (by omega)
  rwa [show o + (o' - o + i) = o' + i by omega] at this
theorem Agree.put {b : List Nat} {o n v p m : Nat} (h : o + n ≤ b.length) (ha : p + m ≤ o ∨ o + n ≤ p) : Agree (putL b o n v) b p m := by
  intro i hi
  have hl : (b.take o).length = o := by rw [List.length_take]; omega
  unfold putL
  rcases ha with ha | ha
  · rw [List.getElem?_append_left (by rw [hl]; omega), List.getElem?_take, if_pos (by omega)]
  · rw [List.getElem?_append_right (by rw [hl]; omega), hl, List.getElem?_append_right (by rw [bytN_len]; omega), bytN_len, List.getElem?_drop]
    congr 1
    omega
theorem Agree.app {b c : List Nat} {o n : Nat} (h : o + n ≤ b.length) : Agree (b ++ c) b o n := fun i hi => List.getElem?_append_left (by omega)

theorem numL_agree {b c : List Nat} : ∀ (n o : Nat), Agree b c o n → numL (b.drop o) n = numL (c.drop o) n
  | 0, _, _ => rfl
  | n + 1, o, h => by
    have h0 := h 0 (by omega)
    rw [Nat.add_zero] at h0
    have e1 : (b.drop o).headD 0 = (c.drop o).headD 0 := by simp only [List.headD_eq_head?_getD, List.head?_drop, h0]
    simp only [numL, e1, List.tail_drop]
    rw [numL_agree n (o + 1) (h.sub (by omega) (by omega))]
theorem numL_bytN (v : Nat) : ∀ (n : Nat) (r : List Nat), numL (bytN v n ++ r) n = v % 256 ^ n := by
  intro n
  induction n generalizing v with
  | zero => intro r; simp [numL, Nat.mod_one]
  | succ n ih =>
    intro r
    have e : bytN v (n + 1) = (v % 256) :: bytN (v / 256) n := by
      unfold bytN
      rw [List.range_succ_eq_map, List.map_cons, List.map_map]
      congr 1
      · simp
      · apply List.map_congr_left
        intro i _
        simp only [Function.comp]
        rw [Nat.div_div_eq_div_mul, show 256 * 2 ^ (8 * i) = 2 ^ (8 * (i + 1)) from by rw [show 8 * (i + 1) = 8 + 8 * i by omega, Nat.pow_add]]
    rw [e]
    simp only [numL, List.cons_append, List.headD_cons, List.tail_cons, ih]
    rw [Nat.pow_succ, Nat.mul_comm (256 ^ n) 256, Nat.mod_mul]
theorem numL_put {b : List Nat} {o n v : Nat} (h : o + n ≤ b.length) : numL ((putL b o n v).drop o) n = v % 256 ^ n := by
  have hl : (b.take o).length = o := by rw [List.length_take]; omega
  have e : (putL b o n v).drop o = bytN v n ++ b.drop (o + n) := by
    unfold putL
    rw [List.drop_append_of_le_length (by omega), List.drop_of_length_le (by omega), List.nil_append]
  rw [e, numL_bytN]
theorem numL_at {b c : List Nat} {o n v : Nat} (h : o + n ≤ b.length) (hv : v < 256 ^ n) (ha : Agree c (putL b o n v) o n) : numL (c.drop o) n = v := by
  rw [numL_agree n o ha, numL_put h, Nat.mod_eq_of_lt hv]

/-- A text is read where it was laid, whatever agrees with it there. -/
theorem textL_at {b c : List Nat} {s : List Nat} {most : Nat} (h0 : ∀ v ∈ s, v ≠ 0) (hm : s.length ≤ most) (ha : Agree c (b ++ s ++ [0]) b.length (s.length + 1)) : textL c b.length most = some s := by
  have hg : ∀ i, i < s.length → c[b.length + i]? = some (s.getD i 0) := by
    intro i hi
    rw [ha i (by omega), List.append_assoc, List.getElem?_append_right (by omega), List.getElem?_append_left (by omega)]
    simp [List.getD, hi]
  have hz : c[b.length + s.length]? = some 0 := by
    rw [ha s.length (by omega), List.getElem?_append_right (by simp), List.length_append, Nat.sub_self]
    rfl
  have hlen : b.length + s.length < c.length := by
    rcases Nat.lt_or_ge (b.length + s.length) c.length with h | h
    · exact h
    · rw [List.getElem?_eq_none h] at hz; cases hz
  have hk : ((c.drop b.length).take (most + 1)).findIdx? (· == 0) = some s.length := by
    rw [List.findIdx?_eq_some_iff_getElem]
    have hl : s.length < ((c.drop b.length).take (most + 1)).length := by rw [List.length_take, List.length_drop]; omega
    refine ⟨hl, ?_, fun j hj => ?_⟩
    · have e : ((c.drop b.length).take (most + 1))[s.length]? = some 0 := by rw [List.getElem?_take, if_pos (by omega), List.getElem?_drop, hz]
      rw [List.getElem?_eq_getElem hl] at e
      injection e with e
      rw [e]; rfl
    · have hj' : j < ((c.drop b.length).take (most + 1)).length := by omega
      have e : ((c.drop b.length).take (most + 1))[j]? = some (s.getD j 0) := by rw [List.getElem?_take, if_pos (by omega), List.getElem?_drop, hg j hj]
      rw [List.getElem?_eq_getElem hj'] at e
      injection e with e
      rw [e]
      have : s.getD j 0 = s[j] := by simp [List.getD, hj]
      rw [this]
      have := h0 s[j] (List.getElem_mem hj)
      simpa using this
  unfold textL
  rw [hk]
  simp only [Option.some.injEq]
  apply List.ext_getElem?
  intro i
  rcases Nat.lt_or_ge i s.length with hi | hi
  · rw [List.getElem?_take, if_pos hi, List.getElem?_drop, hg i hi, List.getElem?_eq_getElem hi]
    simp [List.getD, hi]
  · rw [List.getElem?_eq_none (by rw [List.length_take]; omega), List.getElem?_eq_none hi]
end Go.Proofs.Ytbjabncefhgefaa
namespace Go.Proofs.Ytbjabncefhgefaa
open Go.ChangeShapes Go.WideShapes Go.ChangeAt Go.RowKit
set_option linter.unusedVariables false
set_option linter.unusedSimpArgs false

/-- A text with a nought behind it lies at v. -/
structure TxAt (c : List Nat) (v : Nat) (s : List Nat) : Prop where
  lt : v + s.length < c.length
  ag : Agree c (List.replicate v 0 ++ s ++ [0]) v (s.length + 1)
theorem TxAt.later {c c' : List Nat} {v : Nat} {s : List Nat} (h : TxAt c v s) (ha : Agree c' c v (s.length + 1)) : TxAt c' v s := by
  refine ⟨?_, ha.trans h.ag⟩
  have h1 := ha s.length (by omega)
  rcases Nat.lt_or_ge (v + s.length) c'.length with h2 | h2
  · exact h2
  · rw [List.getElem?_eq_none h2, List.getElem?_eq_getElem h.lt] at h1
    cases h1
theorem TxAt.new (b s : List Nat) : TxAt (b ++ s ++ [0]) b.length s := by
  refine ⟨by simp only [List.length_append, List.length_singleton]; omega, fun i hi => ?_⟩
  have e : ∀ x : List Nat, x.length = b.length → (x ++ s ++ [0])[b.length + i]? = (s ++ [0])[i]? := by
    intro x hx
    rw [List.append_assoc, List.getElem?_append_right (by omega), hx]
    congr 1
    omega
  rw [e b rfl, e _ List.length_replicate]
theorem TxAt.read {c : List Nat} {v most : Nat} {s : List Nat} (h : TxAt c v s) (h0 : ∀ x ∈ s, x ≠ 0) (hm : s.length ≤ most) : textL c v most = some s := by
  have h1 := textL_at (b := List.replicate v 0) (c := c) (s := s) (most := most) h0 hm (by rw [List.length_replicate]; exact h.ag)
  rwa [List.length_replicate] at h1

/-- The i-th function's row. -/
def FnRow (c : List Nat) (Z rows i : Nat) (s : List Nat) : Prop :=
  if s.contains 46 then ∃ v, Z ≤ v ∧ numL (c.drop (rows + 4 * i)) 4 = v ∧ TxAt c v s else numL (c.drop (rows + 4 * i)) 4 = if s = [] then 0 else 64 + i
theorem FnRow.later {c c' : List Nat} {Z rows i : Nat} {s : List Nat} (h : FnRow c Z rows i s) (h1 : Agree c' c (rows + 4 * i) 4) (h2 : Agree c' c Z (c.length - Z)) : FnRow c' Z rows i s := by
  unfold FnRow at *
  rw [numL_agree 4 _ h1]
  by_cases hs : s.contains 46 = true
  · rw [if_pos hs] at h ⊢
    obtain ⟨v, hv, hn, ht⟩ := h
    exact ⟨v, hv, hn, ht.later (h2.sub hv (by have := ht.lt; omega))⟩
  · rw [if_neg hs] at h ⊢
    exact h

theorem fStep_spec {rows i Z : Nat} {b s : List Nat} (hr : rows + 4 * (i + 1) ≤ Z) (hZ : Z ≤ b.length) (hb : b.length + 100 < 4294967296) (hi : i < 1000) (hs : s.length ≤ 64) :
    b.length ≤ (fStep rows b i s).length ∧ (fStep rows b i s).length ≤ b.length + 65 ∧ (∀ p m, p + m ≤ b.length → (p + m ≤ rows + 4 * i ∨ rows + 4 * (i + 1) ≤ p) → Agree (fStep rows b i s) b p m) ∧ FnRow (fStep rows b i s) Z rows i s := by
  unfold fStep FnRow
  by_cases hc : s.contains 46 = true
  · rw [if_pos hc, if_pos hc]
    have hl : (b ++ s ++ [0]).length = b.length + s.length + 1 := by simp only [List.length_append, List.length_singleton]
    have ho : rows + 4 * i + 4 ≤ (b ++ s ++ [0]).length := by omega
    have hpl := putL_len ho b.length
    refine ⟨by omega, by omega, fun p m hp hpm => ?_, b.length, hZ, ?_, ?_⟩
    · refine (Agree.put ho (by omega)).trans ?_
      rw [List.append_assoc]
      exact Agree.app hp
    · exact numL_at ho (by have : (256 : Nat) ^ 4 = 4294967296 := rfl; omega) (Agree.refl _ _ _)
    · exact (TxAt.new b s).later (Agree.put ho (.inr (by omega)))
  · rw [if_neg hc, if_neg hc]
    have ho : rows + 4 * i + 4 ≤ b.length := by omega
    have hpl := putL_len ho (if s = [] then 0 else 64 + i)
    refine ⟨by omega, by omega, fun p m hp hpm => Agree.put ho (by omega), ?_⟩
    refine numL_at ho ?_ (Agree.refl _ _ _)
    have : (256 : Nat) ^ 4 = 4294967296 := rfl
    split <;> omega

theorem atF_spec {rows Z : Nat} : ∀ (l : List (List Nat)) (i : Nat) (b : List Nat), rows + 4 * (i + l.length) ≤ Z → Z ≤ b.length → b.length + 65 * l.length + 100 < 4294967296 → i + l.length < 1000 → (∀ s ∈ l, s.length ≤ 64) →
    b.length ≤ (atF rows l i b).length ∧ (atF rows l i b).length ≤ b.length + 65 * l.length ∧ (∀ p m, p + m ≤ b.length → (p + m ≤ rows + 4 * i ∨ rows + 4 * (i + l.length) ≤ p) → Agree (atF rows l i b) b p m) ∧ ∀ j (hj : j < l.length), FnRow (atF rows l i b) Z rows (i + j) l[j]
  | [], i, b, _, _, _, _, _ => ⟨Nat.le_refl _, by simp [atF], fun p m _ _ => Agree.refl _ _ _, fun j hj => by simp at hj⟩
  | s :: l, i, b, hr, hZ, hb, hi, hs => by
    have hlc : (s :: l).length = l.length + 1 := List.length_cons
    obtain ⟨a1, a2, a3, a4⟩ := fStep_spec (rows := rows) (i := i) (Z := Z) (b := b) (s := s) (by omega) hZ (by omega) (by omega) (hs s (by simp))
    obtain ⟨c1, c2, c3, c4⟩ := atF_spec (rows := rows) (Z := Z) l (i + 1) (fStep rows b i s) (by omega) (by omega) (by omega) (by omega) (fun x hx => hs x (by simp [hx]))
    simp only [atF]
    refine ⟨by omega, by omega, fun p m hp hpm => ?_, fun j hj => ?_⟩
    · exact (c3 p m (by omega) (by omega)).trans (a3 p m hp (by omega))
    · rcases j with _ | j
      · simp only [List.getElem_cons_zero, Nat.add_zero]
        exact a4.later (c3 _ _ (by omega) (by omega)) (c3 _ _ (by omega) (by omega))
      · have := c4 j (by simpa using hj)
        simp only [List.getElem_cons_succ]
        rwa [show i + 1 + j = i + (j + 1) by omega] at this

/-- The i-th name's row. -/
structure NmRow (c : List Nat) (r1 r2 n i : Nat) (s : List Nat) : Prop where
  tx : TxAt c (numL (c.drop (r1 + 4 * i)) 4) s
  ix : numL (c.drop (r2 + 2 * i)) 2 = i % max n 1

theorem nStep_spec {r1 r2 n i Z : Nat} {b s : List Nat} (h1 : r1 + 4 * (i + 1) ≤ r2) (h2 : r2 + 2 * (i + 1) ≤ Z) (hZ : Z ≤ b.length) (hb : b.length + 100 < 4294967296) (hi : i < 1000) (hs : s.length ≤ 64) :
    b.length ≤ (nStep r1 r2 n b i s).length ∧ (nStep r1 r2 n b i s).length ≤ b.length + 65 ∧
    (∀ p m, p + m ≤ b.length → (p + m ≤ r1 + 4 * i ∨ (r1 + 4 * (i + 1) ≤ p ∧ p + m ≤ r2 + 2 * i) ∨ r2 + 2 * (i + 1) ≤ p) → Agree (nStep r1 r2 n b i s) b p m) ∧
    NmRow (nStep r1 r2 n b i s) r1 r2 n i s ∧ b.length ≤ numL ((nStep r1 r2 n b i s).drop (r1 + 4 * i)) 4 := by
  have o1 : r1 + 4 * i + 4 ≤ b.length := by omega
  have l1 := putL_len o1 b.length
  have o2 : r2 + 2 * i + 2 ≤ (putL b (r1 + 4 * i) 4 b.length).length := by omega
  have l2 := putL_len o2 (i % max n 1)
  have hl : (nStep r1 r2 n b i s).length = b.length + s.length + 1 := by
    unfold nStep
    simp only [List.length_append, List.length_singleton, l2, l1]
  have hag : ∀ p m, p + m ≤ b.length → Agree (nStep r1 r2 n b i s) (putL (putL b (r1 + 4 * i) 4 b.length) (r2 + 2 * i) 2 (i % max n 1)) p m := fun p m hp => by
    unfold nStep
    rw [List.append_assoc]
    exact Agree.app (by rw [l2, l1]; exact hp)
  have hn : numL ((nStep r1 r2 n b i s).drop (r1 + 4 * i)) 4 = b.length :=
    numL_at o1 (by have : (256 : Nat) ^ 4 = 4294967296 := rfl; omega) ((hag _ _ o1).trans (Agree.put o2 (by omega)))
  have hx : numL ((nStep r1 r2 n b i s).drop (r2 + 2 * i)) 2 = i % max n 1 :=
    numL_at o2 (by have : (256 : Nat) ^ 2 = 65536 := rfl; have := Nat.mod_le i (max n 1); omega) (hag _ _ (by omega))
  refine ⟨by omega, by omega, fun p m hp hpm => ?_, ⟨?_, hx⟩, by omega⟩
  · exact (hag p m hp).trans ((Agree.put o2 (by omega)).trans (Agree.put o1 (by omega)))
  · rw [hn]
    have h := TxAt.new (putL (putL b (r1 + 4 * i) 4 b.length) (r2 + 2 * i) 2 (i % max n 1)) s
    rw [l2, l1] at h
    exact h

theorem atN_spec {r1 r2 n Z : Nat} : ∀ (l : List (List Nat)) (i : Nat) (b : List Nat), r1 + 4 * (i + l.length) ≤ r2 → r2 + 2 * (i + l.length) ≤ Z → Z ≤ b.length → b.length + 65 * l.length + 100 < 4294967296 → i + l.length < 1000 → (∀ s ∈ l, s.length ≤ 64) →
    (b.length ≤ (atN r1 r2 n l i b).length ∧ (atN r1 r2 n l i b).length ≤ b.length + 65 * l.length) ∧
    (∀ p m, p + m ≤ b.length → (p + m ≤ r1 + 4 * i ∨ (r1 + 4 * (i + l.length) ≤ p ∧ p + m ≤ r2 + 2 * i) ∨ r2 + 2 * (i + l.length) ≤ p) → Agree (atN r1 r2 n l i b) b p m) ∧
    ∀ j (hj : j < l.length), NmRow (atN r1 r2 n l i b) r1 r2 n (i + j) l[j]
  | [], i, b, _, _, _, _, _, _ => ⟨⟨Nat.le_refl _, by simp [atN]⟩, fun p m _ _ => Agree.refl _ _ _, fun j hj => by simp at hj⟩
  | s :: l, i, b, h1, h2, hZ, hb, hi, hs => by
    have hlc : (s :: l).length = l.length + 1 := List.length_cons
    obtain ⟨a1, a2, a3, a4, a5⟩ := nStep_spec (r1 := r1) (r2 := r2) (n := n) (i := i) (Z := Z) (b := b) (s := s) (by omega) (by omega) hZ (by omega) (by omega) (hs s (by simp))
    obtain ⟨⟨c1, c1'⟩, c2, c3⟩ := atN_spec (r1 := r1) (r2 := r2) (n := n) (Z := Z) l (i + 1) (nStep r1 r2 n b i s) (by omega) (by omega) (by omega) (by omega) (by omega) (fun x hx => hs x (by simp [hx]))
    simp only [atN]
    refine ⟨⟨by omega, by omega⟩, fun p m hp hpm => ?_, fun j hj => ?_⟩
    · exact (c2 p m (by omega) (by omega)).trans (a3 p m hp (by omega))
    · rcases j with _ | j
      · simp only [List.getElem_cons_zero, Nat.add_zero]
        have e1 := numL_agree 4 _ (c2 (r1 + 4 * i) 4 (by omega) (by omega))
        have hlt := a4.tx.lt
        refine ⟨?_, ?_⟩
        · rw [e1]
          exact a4.tx.later (c2 _ _ (by omega) (by omega))
        · rw [numL_agree 2 _ (c2 (r2 + 2 * i) 2 (by omega) (by omega))]
          exact a4.ix
      · have := c3 j (by simpa using hj)
        simp only [List.getElem_cons_succ]
        rwa [show i + 1 + j = i + (j + 1) by omega] at this
end Go.Proofs.Ytbjabncefhgefaa
namespace Go.Proofs.Ytbjabncefhgefaa
open Go.ChangeShapes Go.WideShapes Go.ChangeAt Go.RowKit
set_option linter.unusedVariables false
set_option linter.unusedSimpArgs false

/-- A symbol that may be asked for, as its parts are told. -/
def SymCan (s : SymV) : Prop := (s.2.2 = true ∧ s.1 = [] ∧ s.2.1 < 65536) ∨ (s.2.2 = false ∧ s.2.1 = 0 ∧ s.1.length ≤ 64 ∧ (∀ v ∈ s.1, v ≠ 0) ∧ okSymL s.1 = true)
/-- A symbol's row at o, whose text lies from Z on. -/
def SyRow (c : List Nat) (Z o : Nat) (s : SymV) : Prop :=
  if s.2.2 = true then numL (c.drop o) 8 = s.2.1 + 9223372036854775808 else ∃ v, Z ≤ v ∧ v ≤ 2147483647 ∧ numL (c.drop o) 8 = v ∧ TxAt c (v + 2) s.1
theorem SyRow.later {c c' : List Nat} {Z o : Nat} {s : SymV} (h : SyRow c Z o s) (h1 : Agree c' c o 8) (h2 : Agree c' c Z (c.length - Z)) : SyRow c' Z o s := by
  unfold SyRow at *
  rw [numL_agree 8 _ h1]
  by_cases hs : s.2.2 = true
  · rw [if_pos hs] at h ⊢
    exact h
  · rw [if_neg hs] at h ⊢
    obtain ⟨v, hv, hm, hn, ht⟩ := h
    exact ⟨v, hv, hm, hn, ht.later (h2.sub (by omega) (by have := ht.lt; omega))⟩
theorem SyRow.moved {c c' : List Nat} {Z o o' : Nat} {s : SymV} (h : SyRow c Z o s) (h1 : numL (c'.drop o') 8 = numL (c.drop o) 8) (h2 : Agree c' c Z (c.length - Z)) : SyRow c' Z o' s := by
  unfold SyRow at *
  rw [h1]
  by_cases hs : s.2.2 = true
  · rw [if_pos hs] at h ⊢
    exact h
  · rw [if_neg hs] at h ⊢
    obtain ⟨v, hv, hm, hn, ht⟩ := h
    exact ⟨v, hv, hm, hn, ht.later (h2.sub (by omega) (by have := ht.lt; omega))⟩
theorem SyRow.less {c : List Nat} {Z Z' o : Nat} {s : SymV} (h : SyRow c Z o s) (hz : Z' ≤ Z) : SyRow c Z' o s := by
  unfold SyRow at *
  by_cases hs : s.2.2 = true
  · rw [if_pos hs] at h ⊢
    exact h
  · rw [if_neg hs] at h ⊢
    obtain ⟨v, hv, r⟩ := h
    exact ⟨v, by omega, r⟩
theorem SyRow.tells {c : List Nat} {Z o : Nat} {s : SymV} (h : SyRow c Z o s) (hc : SymCan s) : symbolL c (numL (c.drop o) 8) = some s := by
  obtain ⟨t, n, b⟩ := s
  unfold SyRow at h
  rcases hc with ⟨h1, h2, h3⟩ | ⟨h1, h2, h3, h4, h5⟩
  · simp only at h1 h2 h3
    subst h1 h2
    simp only [if_true] at h
    rw [h]
    unfold symbolL
    rw [if_pos (by omega), if_neg (by omega), show n + 9223372036854775808 - 9223372036854775808 = n by omega]
  · simp only at h1 h2 h3 h4 h5
    subst h1 h2
    simp only [Bool.false_eq_true, if_false] at h
    obtain ⟨v, _, hm, hn, ht⟩ := h
    rw [hn]
    unfold symbolL
    rw [if_neg (by omega), if_neg (by omega), ht.read h4 h3]
    simp only [h5, if_true]
theorem SyRow.some {c : List Nat} {Z o : Nat} {s : SymV} (h : SyRow c Z o s) (hZ : 0 < Z) : numL (c.drop o) 8 ≠ 0 := by
  unfold SyRow at h
  split at h
  · omega
  · obtain ⟨v, hv, hm, hn, ht⟩ := h
    omega

theorem symStep_spec {th q Z : Nat} {b : List Nat} {s : SymV} (h1 : th + 8 * (q + 1) ≤ Z) (hZ : Z ≤ b.length) (hb : b.length ≤ 2147483647) (hs : s.1.length ≤ 100) :
    b.length ≤ (symStep th q b s).length ∧ (symStep th q b s).length ≤ b.length + 103 ∧ (∀ p m, p + m ≤ b.length → (p + m ≤ th + 8 * q ∨ th + 8 * (q + 1) ≤ p) → Agree (symStep th q b s) b p m) ∧ ((s.2.2 = true → s.2.1 < 65536) → SyRow (symStep th q b s) Z (th + 8 * q) s) := by
  have e8 : (256 : Nat) ^ 8 = 18446744073709551616 := rfl
  have ho : th + 8 * q + 8 ≤ b.length := by omega
  unfold symStep SyRow
  by_cases hc : s.2.2 = true
  · rw [if_pos hc, if_pos hc]
    have hl := putL_len ho (s.2.1 % 65536 + 9223372036854775808)
    refine ⟨by omega, by omega, fun p m hp hpm => Agree.put ho (by omega), fun hq => ?_⟩
    have := hq hc
    rw [numL_at ho (by omega) (Agree.refl _ _ _), Nat.mod_eq_of_lt (by omega)]
  · rw [if_neg hc, if_neg hc]
    have hl := putL_len ho b.length
    have hlen : (((putL b (th + 8 * q) 8 b.length ++ [0, 0]) ++ s.1) ++ [0]).length = b.length + 2 + s.1.length + 1 := by simp only [List.length_append, List.length_cons, List.length_nil, hl]
    have hag : ∀ p m, p + m ≤ b.length → Agree (((putL b (th + 8 * q) 8 b.length ++ [0, 0]) ++ s.1) ++ [0]) (putL b (th + 8 * q) 8 b.length) p m := fun p m hp => by
      rw [List.append_assoc, List.append_assoc]
      exact Agree.app (by rw [hl]; exact hp)
    refine ⟨by omega, by omega, fun p m hp hpm => (hag p m hp).trans (Agree.put ho (by omega)), fun _ => ⟨b.length, hZ, hb, ?_, ?_⟩⟩
    · exact numL_at ho (by omega) (hag _ _ ho)
    · have := TxAt.new (putL b (th + 8 * q) 8 b.length ++ [0, 0]) s.1
      have hl4 : (putL b (th + 8 * q) 8 b.length ++ [0, 0] : List Nat).length = b.length + 2 := by simp only [List.length_append, List.length_cons, List.length_nil, hl]
      rw [hl4] at this
      exact this

theorem symF_spec {th Z : Nat} : ∀ (l : List SymV) (q : Nat) (b : List Nat), th + 8 * (q + l.length) ≤ Z → Z ≤ b.length → b.length + 103 * l.length ≤ 2147483647 → (∀ s ∈ l, s.1.length ≤ 100) →
    b.length ≤ (symF th l q b).length ∧ (symF th l q b).length ≤ b.length + 103 * l.length ∧ (∀ p m, p + m ≤ b.length → (p + m ≤ th + 8 * q ∨ th + 8 * (q + l.length) ≤ p) → Agree (symF th l q b) b p m) ∧
    ((∀ s ∈ l, s.2.2 = true → s.2.1 < 65536) → ∀ j (hj : j < l.length), SyRow (symF th l q b) Z (th + 8 * (q + j)) l[j])
  | [], q, b, _, _, _, _ => ⟨Nat.le_refl _, by simp [symF], fun p m _ _ => Agree.refl _ _ _, fun _ j hj => by simp at hj⟩
  | s :: l, q, b, h1, hZ, hb, hs => by
    have hlc : (s :: l).length = l.length + 1 := List.length_cons
    obtain ⟨a1, a2, a3, a4⟩ := symStep_spec (th := th) (q := q) (Z := Z) (b := b) (s := s) (by omega) hZ (by omega) (hs s (by simp))
    obtain ⟨c1, c2, c3, c4⟩ := symF_spec (th := th) (Z := Z) l (q + 1) (symStep th q b s) (by omega) (by omega) (by omega) (fun x hx => hs x (by simp [hx]))
    simp only [symF]
    refine ⟨by omega, by omega, fun p m hp hpm => ?_, fun hq j hj => ?_⟩
    · exact (c3 p m (by omega) (by omega)).trans (a3 p m hp (by omega))
    · rcases j with _ | j
      · simp only [List.getElem_cons_zero, Nat.add_zero]
        exact (a4 (hq s (by simp))).later (c3 _ _ (by omega) (by omega)) (c3 _ _ (by omega) (by omega))
      · have := c4 (fun x hx => hq x (by simp [hx])) j (by simpa using hj)
        simp only [List.getElem_cons_succ]
        rwa [show q + 1 + j = q + (j + 1) by omega] at this

theorem cpL_agree {b : List Nat} {iat th m p n : Nat} (h1 : iat + m ≤ b.length) (h2 : th + m ≤ b.length) (ha : p + n ≤ iat ∨ iat + m ≤ p) : Agree (cpL b iat th m) b p n := by
  intro i hi
  have hl1 : (b.take iat).length = iat := by rw [List.length_take]; omega
  have hl2 : ((b.drop th).take m).length = m := by rw [List.length_take, List.length_drop]; omega
  unfold cpL
  rcases ha with ha | ha
  · rw [List.getElem?_append_left (by rw [hl1]; omega), List.getElem?_take, if_pos (by omega)]
  · rw [List.getElem?_append_right (by rw [hl1]; omega), hl1, List.getElem?_append_right (by rw [hl2]; omega), hl2, List.getElem?_drop]
    congr 1
    omega
theorem cpL_moved {b : List Nat} {iat th m o : Nat} (h1 : iat + m ≤ b.length) (h2 : th + m ≤ b.length) (ho : o + 8 ≤ m) : numL ((cpL b iat th m).drop (iat + o)) 8 = numL (b.drop (th + o)) 8 := by
  have hl1 : (b.take iat).length = iat := by rw [List.length_take]; omega
  have hl2 : ((b.drop th).take m).length = m := by rw [List.length_take, List.length_drop]; omega
  have e : ∀ (n k : Nat), (∀ i, i < n → (cpL b iat th m)[iat + k + i]? = b[th + k + i]?) → numL ((cpL b iat th m).drop (iat + k)) n = numL (b.drop (th + k)) n := by
    intro n
    induction n with
    | zero => intros; rfl
    | succ n ih =>
      intro k hk
      have h0 := hk 0 (by omega)
      rw [Nat.add_zero, Nat.add_zero] at h0
      have e1 : ((cpL b iat th m).drop (iat + k)).headD 0 = (b.drop (th + k)).headD 0 := by simp only [List.headD_eq_head?_getD, List.head?_drop, h0]
      simp only [numL, e1, List.tail_drop]
      have := ih (k + 1) (fun i hi => by
        have := hk (i + 1) (by omega)
        rw [show iat + (k + 1) + i = iat + k + (i + 1) by omega, show th + (k + 1) + i = th + k + (i + 1) by omega]
        exact this)
      rw [show iat + k + 1 = iat + (k + 1) by omega, show th + k + 1 = th + (k + 1) by omega, this]
  refine e 8 o fun i hi => ?_
  unfold cpL
  rw [List.getElem?_append_right (by rw [hl1]; omega), hl1, List.getElem?_append_left (by rw [hl2]; omega), List.getElem?_take, if_pos (by omega), List.getElem?_drop]
  congr 1
  omega
theorem numL_zero {b : List Nat} : ∀ (n o : Nat), (∀ i, i < n → b[o + i]? = some 0) → numL (b.drop o) n = 0
  | 0, _, _ => rfl
  | n + 1, o, h => by
    have h0 := h 0 (by omega)
    rw [Nat.add_zero] at h0
    have e1 : (b.drop o).headD 0 = 0 := by simp only [List.headD_eq_head?_getD, List.head?_drop, h0]; rfl
    simp only [numL, e1, List.tail_drop]
    rw [numL_zero n (o + 1) (fun i hi => by
      have := h (i + 1) (by omega)
      rwa [show o + (i + 1) = o + 1 + i by omega] at this)]
theorem noughts_num {c : List Nat} {o n j m : Nat} (h : noughtsL c o n = true) (hj : j + m ≤ n) : numL (c.drop (o + j)) m = 0 := by
  have hl : o + n ≤ c.length := by
    rcases Nat.lt_or_ge c.length (o + n) with h1 | h1
    · rw [noughtsL_out (by omega)] at h; cases h
    · exact h1
  have hz := (noughtsL_iff hl).mp h
  refine numL_zero m (o + j) fun i hi => ?_
  have := hz (j + i) (by omega)
  rw [show o + (j + i) = o + j + i by omega] at this
  have hlt : o + j + i < c.length := by omega
  unfold lF at this
  simp only [List.getD_eq_getElem?_getD, List.getElem?_eq_getElem hlt, Option.getD_some] at this
  rw [List.getElem?_eq_getElem hlt]
  congr 1
  omega
theorem noughts_of {c : List Nat} {o n : Nat} (h : ∀ i, i < n → c[o + i]? = some 0) (hl : o + n ≤ c.length) : noughtsL c o n = true := by
  refine (noughtsL_iff hl).mpr fun i hi => ?_
  unfold lF
  simp only [List.getD_eq_getElem?_getD, h i hi, Option.getD_some]
  rfl
end Go.Proofs.Ytbjabncefhgefaa
namespace Go.Proofs.Ytbjabncefhgefaa
open Go.ChangeShapes Go.WideShapes Go.ChangeAt Go.RowKit
set_option linter.unusedVariables false
set_option linter.unusedSimpArgs false

/-- A descriptor, as it is read, leads to what was asked for. -/
structure ImAt (c : List Nat) (lo : Nat) (d : Ds) (x : PIm) (T : Nat) : Prop where
  tx : TxAt c d.dll x.dll
  lod : lo ≤ d.dll
  it : lo ≤ d.iat
  isT : T = if d.thunks = 0 then d.iat else d.thunks
  loT : lo ≤ T
  rows : ∀ j (hj : j < x.syms.length), SyRow c lo (T + 8 * j) x.syms[j]
  term : numL (c.drop (T + 8 * x.syms.length)) 8 = 0
  in1 : T + 8 * x.syms.length + 8 ≤ c.length
  in2 : d.iat + 8 * x.syms.length + 8 ≤ c.length
  dl : d.delay = true → d.attrs = 1 ∧ d.handle + 8 ≤ c.length
theorem ImAt.later {c c' : List Nat} {lo T : Nat} {d : Ds} {x : PIm} (h : ImAt c lo d x T) (ha : Agree c' c lo (c.length - lo)) (hl : c.length ≤ c'.length) : ImAt c' lo d x T := by
  obtain ⟨h1, h2, h3, h4, h5, h6, h7, h8, h9, h10⟩ := h
  refine ⟨h1.later (ha.sub (by omega) (by have := h1.lt; omega)), h2, h3, h4, h5, fun j hj => (h6 j hj).later (ha.sub (by omega) (by omega)) ha, ?_, by omega, by omega, fun k => ⟨(h10 k).1, by have := (h10 k).2; omega⟩⟩
  rw [numL_agree 8 _ (ha.sub (by omega) (by omega)), h7]

/-- What is put within a window. -/
structure Puts (b' b : List Nat) (lo hi : Nat) : Prop where
  len : b'.length = b.length
  ag : ∀ p m, (p + m ≤ lo ∨ hi ≤ p) → Agree b' b p m
theorem Puts.refl (b : List Nat) (lo hi : Nat) : Puts b b lo hi := ⟨rfl, fun _ _ _ => Agree.refl _ _ _⟩
theorem Puts.put {b' b : List Nat} {lo hi o n : Nat} (h : Puts b' b lo hi) (v : Nat) (h1 : lo ≤ o) (h2 : o + n ≤ hi) (h3 : hi ≤ b.length) : Puts (putL b' o n v) b lo hi :=
  ⟨by rw [putL_len (by rw [h.len]; omega), h.len], fun p m hp => (Agree.put (by rw [h.len]; omega) (by omega)).trans (h.ag p m hp)⟩

/-- A descriptor's symbols and its name behind a row. -/
theorem behind_spec (b : List Nat) (x : PIm) (k : Nat) (hk : x.syms.length = k) (hk64 : k ≤ 70) (hb : b.length + 9000 ≤ 2147483647) (hs : ∀ s ∈ x.syms, s.1.length ≤ 100) (hd : x.dll.length ≤ 100) :
    ∃ b2, symF b.length (x.syms.take 70) 0 (b ++ List.replicate (16 * k + 16) 0) = b2 ∧ b.length + 16 * k + 16 ≤ b2.length ∧ b2.length ≤ b.length + 16 * k + 16 + 103 * k ∧
      ((b2 ++ x.dll) ++ [0]).length = b2.length + x.dll.length + 1 ∧ TxAt ((b2 ++ x.dll) ++ [0]) b2.length x.dll ∧
      (∀ p m, p + m ≤ b.length → Agree ((b2 ++ x.dll) ++ [0]) b p m) ∧
      ((∀ s ∈ x.syms, s.2.2 = true → s.2.1 < 65536) → ∀ j (hj : j < x.syms.length), SyRow ((b2 ++ x.dll) ++ [0]) (b.length + 16 * k + 16) (b.length + 8 * j) x.syms[j]) ∧
      numL (((b2 ++ x.dll) ++ [0]).drop (b.length + 8 * k)) 8 = 0 ∧ numL (((b2 ++ x.dll) ++ [0]).drop (b.length + 8 * k + 8 + 8 * k)) 8 = 0 := by
  have ht : x.syms.take 70 = x.syms := List.take_of_length_le (by omega)
  have hl0 : (b ++ List.replicate (16 * k + 16) 0).length = b.length + 16 * k + 16 := by rw [List.length_append, List.length_replicate]; omega
  obtain ⟨a1, a2, a3, a4⟩ := symF_spec (th := b.length) (Z := b.length + 16 * k + 16) x.syms 0 (b ++ List.replicate (16 * k + 16) 0) (by omega) (by omega) (by omega) hs
  refine ⟨_, by rw [ht], ?_⟩
  have hz : ∀ o, b.length ≤ o → o < b.length + 16 * k + 16 → (b ++ List.replicate (16 * k + 16) 0)[o]? = some 0 := fun o h1 h2 => by
    rw [List.getElem?_append_right h1, List.getElem?_replicate, if_pos (by omega)]
  obtain ⟨b0, hb0⟩ : ∃ q, b ++ List.replicate (16 * k + 16) 0 = q := ⟨_, rfl⟩
  have hab : ∀ p m, p + m ≤ b.length → Agree b0 b p m := fun p m hp => by rw [← hb0]; exact Agree.app hp
  rw [hb0] at hl0 a1 a2 a3 a4 hz ⊢
  clear hb0
  obtain ⟨b2, hb2⟩ : ∃ q, symF b.length x.syms 0 b0 = q := ⟨_, rfl⟩
  rw [hb2] at a1 a2 a3 a4 ⊢
  clear hb2
  have hag : ∀ p m, p + m ≤ b2.length → Agree ((b2 ++ x.dll) ++ [0]) b2 p m := fun p m hp => by
    rw [List.append_assoc]; exact Agree.app hp
  have hl3 : ((b2 ++ x.dll) ++ [0]).length = b2.length + x.dll.length + 1 := by simp only [List.length_append, List.length_cons, List.length_nil]
  refine ⟨by omega, by omega, hl3, TxAt.new b2 x.dll, fun p m hp => (hag p m (by omega)).trans ((a3 p m (by omega) (by omega)).trans (hab p m hp)), fun hq j hj => ?_, ?_, ?_⟩
  · have := a4 hq j hj
    rw [Nat.zero_add] at this
    exact this.later (hag _ _ (by omega)) (hag _ _ (by omega))
  · rw [numL_agree 8 _ (hag _ _ (by omega)), numL_agree 8 _ (a3 _ _ (by omega) (by omega))]
    exact numL_zero 8 _ fun i hi => hz _ (by omega) (by omega)
  · rw [numL_agree 8 _ (hag _ _ (by omega)), numL_agree 8 _ (a3 _ _ (by omega) (by omega))]
    exact numL_zero 8 _ fun i hi => hz _ (by omega) (by omega)


theorem late_spec (b : List Nat) (x : PIm) (at' i : Nat) (hk64 : x.syms.length ≤ 70) (hb : b.length + 9000 ≤ 2147483647) (hs : ∀ s ∈ x.syms, s.1.length ≤ 100) (hd : x.dll.length ≤ 100) (hat : at' + 32 ≤ b.length) (hi : i < 100) (hpos : 0 < b.length) (hord : ∀ s ∈ x.syms, s.2.2 = true → s.2.1 < 65536) :
    b.length ≤ (impStep true at' i b x).length ∧ (impStep true at' i b x).length ≤ b.length + 8500 ∧ (∀ p m, p + m ≤ b.length → (p + m ≤ at' ∨ at' + 32 ≤ p) → Agree (impStep true at' i b x) b p m) ∧ ∃ d T, delayD (impStep true at' i b x) at' = d ∧ ImAt (impStep true at' i b x) b.length d x T ∧ d.stamp = 9 + i ∧ T = d.thunks ∧ d.iat + 8 * x.syms.length ≤ (impStep true at' i b x).length := by
  obtain ⟨k, hk⟩ : ∃ k, x.syms.length = k := ⟨_, rfl⟩
  rw [hk] at hk64
  obtain ⟨b2, hb2, c1, c2, c3, c4, c5, c6, c7, c8⟩ := behind_spec b x k hk hk64 hb hs hd
  replace c6 := c6 hord
  have hm : min x.syms.length 70 = k := by omega
  unfold impStep
  simp only [hm, if_true]
  rw [hb2]
  clear hb2 hm
  obtain ⟨b3, hb3⟩ : ∃ q, (b2 ++ x.dll) ++ [0] = q := ⟨_, rfl⟩
  rw [hb3] at c3 c4 c5 c6 c7 c8 ⊢
  obtain ⟨n2, hn2⟩ : ∃ q, b2.length = q := ⟨_, rfl⟩
  rw [hn2] at c1 c2 c3 c4 ⊢
  clear hb3 hn2
  obtain ⟨iat, hiat⟩ : ∃ q, b.length + 8 * k + 8 = q := ⟨_, rfl⟩
  rw [hiat] at c8 ⊢
  have e4 : (256 : Nat) ^ 4 = 4294967296 := rfl
  have z0 : at' + 4 ≤ b3.length := by omega
  have y0 := putL_len z0 (1)
  obtain ⟨p0, hp0⟩ : ∃ q, putL b3 (at') 4 (1) = q := ⟨_, rfl⟩
  have v0 : numL (p0.drop (at')) 4 = 1 := by rw [← hp0]; exact numL_at z0 (by omega) (Agree.refl _ _ _)
  have t0 : ∀ p m, (p + m ≤ at' ∨ at' + 4 ≤ p) → Agree p0 b3 p m := fun p m h => by rw [← hp0]; exact Agree.put z0 h
  rw [hp0] at y0 ⊢
  clear hp0
  have z1 : at' + 4 + 4 ≤ p0.length := by omega
  have y1 := putL_len z1 (n2)
  obtain ⟨p1, hp1⟩ : ∃ q, putL p0 (at' + 4) 4 (n2) = q := ⟨_, rfl⟩
  have v1 : numL (p1.drop (at' + 4)) 4 = n2 := by rw [← hp1]; exact numL_at z1 (by omega) (Agree.refl _ _ _)
  have t1 : ∀ p m, (p + m ≤ at' + 4 ∨ at' + 4 + 4 ≤ p) → Agree p1 p0 p m := fun p m h => by rw [← hp1]; exact Agree.put z1 h
  rw [hp1] at y1 ⊢
  clear hp1
  have z2 : at' + 8 + 4 ≤ p1.length := by omega
  have y2 := putL_len z2 (8)
  obtain ⟨p2, hp2⟩ : ∃ q, putL p1 (at' + 8) 4 (8) = q := ⟨_, rfl⟩
  have v2 : numL (p2.drop (at' + 8)) 4 = 8 := by rw [← hp2]; exact numL_at z2 (by omega) (Agree.refl _ _ _)
  have t2 : ∀ p m, (p + m ≤ at' + 8 ∨ at' + 8 + 4 ≤ p) → Agree p2 p1 p m := fun p m h => by rw [← hp2]; exact Agree.put z2 h
  rw [hp2] at y2 ⊢
  clear hp2
  have z3 : at' + 12 + 4 ≤ p2.length := by omega
  have y3 := putL_len z3 (iat)
  obtain ⟨p3, hp3⟩ : ∃ q, putL p2 (at' + 12) 4 (iat) = q := ⟨_, rfl⟩
  have v3 : numL (p3.drop (at' + 12)) 4 = iat := by rw [← hp3]; exact numL_at z3 (by omega) (Agree.refl _ _ _)
  have t3 : ∀ p m, (p + m ≤ at' + 12 ∨ at' + 12 + 4 ≤ p) → Agree p3 p2 p m := fun p m h => by rw [← hp3]; exact Agree.put z3 h
  rw [hp3] at y3 ⊢
  clear hp3
  have z4 : at' + 16 + 4 ≤ p3.length := by omega
  have y4 := putL_len z4 (b.length)
  obtain ⟨p4, hp4⟩ : ∃ q, putL p3 (at' + 16) 4 (b.length) = q := ⟨_, rfl⟩
  have v4 : numL (p4.drop (at' + 16)) 4 = b.length := by rw [← hp4]; exact numL_at z4 (by omega) (Agree.refl _ _ _)
  have t4 : ∀ p m, (p + m ≤ at' + 16 ∨ at' + 16 + 4 ≤ p) → Agree p4 p3 p m := fun p m h => by rw [← hp4]; exact Agree.put z4 h
  rw [hp4] at y4 ⊢
  clear hp4
  have z5 : at' + 28 + 4 ≤ p4.length := by omega
  have y5 := putL_len z5 (9 + i)
  obtain ⟨p5, hp5⟩ : ∃ q, putL p4 (at' + 28) 4 (9 + i) = q := ⟨_, rfl⟩
  have v5 : numL (p5.drop (at' + 28)) 4 = 9 + i := by rw [← hp5]; exact numL_at z5 (by omega) (Agree.refl _ _ _)
  have t5 : ∀ p m, (p + m ≤ at' + 28 ∨ at' + 28 + 4 ≤ p) → Agree p5 p4 p m := fun p m h => by rw [← hp5]; exact Agree.put z5 h
  rw [hp5] at y5 ⊢
  clear hp5
  have tA : ∀ p m, (p + m ≤ at' ∨ at' + 32 ≤ p) → Agree p5 b3 p m := fun p m h => (t5 _ _ (by omega)).trans ((t4 _ _ (by omega)).trans ((t3 _ _ (by omega)).trans ((t2 _ _ (by omega)).trans ((t1 _ _ (by omega)).trans ((t0 _ _ (by omega)))))))
  have f0 : numL (p5.drop (at')) 4 = 1 := by rw [numL_agree 4 _ (t5 _ _ (by omega)), numL_agree 4 _ (t4 _ _ (by omega)), numL_agree 4 _ (t3 _ _ (by omega)), numL_agree 4 _ (t2 _ _ (by omega)), numL_agree 4 _ (t1 _ _ (by omega)), v0]
  have f1 : numL (p5.drop (at' + 4)) 4 = n2 := by rw [numL_agree 4 _ (t5 _ _ (by omega)), numL_agree 4 _ (t4 _ _ (by omega)), numL_agree 4 _ (t3 _ _ (by omega)), numL_agree 4 _ (t2 _ _ (by omega)), v1]
  have f2 : numL (p5.drop (at' + 8)) 4 = 8 := by rw [numL_agree 4 _ (t5 _ _ (by omega)), numL_agree 4 _ (t4 _ _ (by omega)), numL_agree 4 _ (t3 _ _ (by omega)), v2]
  have f3 : numL (p5.drop (at' + 12)) 4 = iat := by rw [numL_agree 4 _ (t5 _ _ (by omega)), numL_agree 4 _ (t4 _ _ (by omega)), v3]
  have f4 : numL (p5.drop (at' + 16)) 4 = b.length := by rw [numL_agree 4 _ (t5 _ _ (by omega)), v4]
  have f5 : numL (p5.drop (at' + 28)) 4 = 9 + i := by rw [v5]
  refine ⟨by omega, by omega, fun p m hp hpm => (tA p m (by omega)).trans (c5 p m hp), ⟨b.length, n2, iat, 9 + i, true, 1, 8⟩, b.length, ?_, ⟨?_, by show b.length ≤ n2; omega, by show b.length ≤ iat; omega, ?_, by omega, fun j hj => ?_, ?_, by omega, by show iat + _ + 8 ≤ _; omega, ?_⟩, rfl, rfl, by show iat + _ ≤ _; omega⟩
  · unfold delayD; rw [f0, f1, f2, f3, f4, f5]
  · exact c4.later (tA _ _ (by omega))
  · exact (if_neg (by show ¬ b.length = 0; omega)).symm
  · have r := c6 j hj
    rw [hk] at hj
    exact (r.later (tA _ _ (by omega)) (tA _ _ (by omega))).less (by omega)
  · rw [hk, numL_agree 8 _ (tA _ _ (by omega))]; exact c7
  · exact fun _ => ⟨rfl, by show 8 + 8 ≤ _; omega⟩

theorem even_spec (b : List Nat) (x : PIm) (at' i : Nat) (hk64 : x.syms.length ≤ 70) (hb : b.length + 9000 ≤ 2147483647) (hs : ∀ s ∈ x.syms, s.1.length ≤ 100) (hd : x.dll.length ≤ 100) (hat : at' + 20 ≤ b.length) (hi : i < 100) (hpos : 0 < b.length) (hord : ∀ s ∈ x.syms, s.2.2 = true → s.2.1 < 65536) (hodd : ¬ i % 2 = 1) :
    b.length ≤ (impStep false at' i b x).length ∧ (impStep false at' i b x).length ≤ b.length + 8500 ∧ (∀ p m, p + m ≤ b.length → (p + m ≤ at' ∨ at' + 20 ≤ p) → Agree (impStep false at' i b x) b p m) ∧ ∃ d T, importD (impStep false at' i b x) at' = d ∧ ImAt (impStep false at' i b x) b.length d x T ∧ d.stamp = i ∧ T = d.thunks ∧ d.iat + 8 * x.syms.length ≤ (impStep false at' i b x).length := by
  obtain ⟨k, hk⟩ : ∃ k, x.syms.length = k := ⟨_, rfl⟩
  rw [hk] at hk64
  obtain ⟨b2, hb2, c1, c2, c3, c4, c5, c6, c7, c8⟩ := behind_spec b x k hk hk64 hb hs hd
  replace c6 := c6 hord
  have hm : min x.syms.length 70 = k := by omega
  unfold impStep
  simp only [hm, Bool.false_eq_true, if_false]
  rw [hb2]
  rw [if_neg hodd]
  clear hb2 hm
  obtain ⟨b3, hb3⟩ : ∃ q, (b2 ++ x.dll) ++ [0] = q := ⟨_, rfl⟩
  rw [hb3] at c3 c4 c5 c6 c7 c8 ⊢
  obtain ⟨n2, hn2⟩ : ∃ q, b2.length = q := ⟨_, rfl⟩
  rw [hn2] at c1 c2 c3 c4 ⊢
  clear hb3 hn2
  obtain ⟨iat, hiat⟩ : ∃ q, b.length + 8 * k + 8 = q := ⟨_, rfl⟩
  rw [hiat] at c8 ⊢
  have e4 : (256 : Nat) ^ 4 = 4294967296 := rfl
  have z0 : at' + 4 ≤ b3.length := by omega
  have y0 := putL_len z0 (b.length)
  obtain ⟨p0, hp0⟩ : ∃ q, putL b3 (at') 4 (b.length) = q := ⟨_, rfl⟩
  have v0 : numL (p0.drop (at')) 4 = b.length := by rw [← hp0]; exact numL_at z0 (by omega) (Agree.refl _ _ _)
  have t0 : ∀ p m, (p + m ≤ at' ∨ at' + 4 ≤ p) → Agree p0 b3 p m := fun p m h => by rw [← hp0]; exact Agree.put z0 h
  rw [hp0] at y0 ⊢
  clear hp0
  have z1 : at' + 4 + 4 ≤ p0.length := by omega
  have y1 := putL_len z1 (i)
  obtain ⟨p1, hp1⟩ : ∃ q, putL p0 (at' + 4) 4 (i) = q := ⟨_, rfl⟩
  have v1 : numL (p1.drop (at' + 4)) 4 = i := by rw [← hp1]; exact numL_at z1 (by omega) (Agree.refl _ _ _)
  have t1 : ∀ p m, (p + m ≤ at' + 4 ∨ at' + 4 + 4 ≤ p) → Agree p1 p0 p m := fun p m h => by rw [← hp1]; exact Agree.put z1 h
  rw [hp1] at y1 ⊢
  clear hp1
  have z2 : at' + 12 + 4 ≤ p1.length := by omega
  have y2 := putL_len z2 (n2)
  obtain ⟨p2, hp2⟩ : ∃ q, putL p1 (at' + 12) 4 (n2) = q := ⟨_, rfl⟩
  have v2 : numL (p2.drop (at' + 12)) 4 = n2 := by rw [← hp2]; exact numL_at z2 (by omega) (Agree.refl _ _ _)
  have t2 : ∀ p m, (p + m ≤ at' + 12 ∨ at' + 12 + 4 ≤ p) → Agree p2 p1 p m := fun p m h => by rw [← hp2]; exact Agree.put z2 h
  rw [hp2] at y2 ⊢
  clear hp2
  have z3 : at' + 16 + 4 ≤ p2.length := by omega
  have y3 := putL_len z3 (iat)
  obtain ⟨p3, hp3⟩ : ∃ q, putL p2 (at' + 16) 4 (iat) = q := ⟨_, rfl⟩
  have v3 : numL (p3.drop (at' + 16)) 4 = iat := by rw [← hp3]; exact numL_at z3 (by omega) (Agree.refl _ _ _)
  have t3 : ∀ p m, (p + m ≤ at' + 16 ∨ at' + 16 + 4 ≤ p) → Agree p3 p2 p m := fun p m h => by rw [← hp3]; exact Agree.put z3 h
  rw [hp3] at y3 ⊢
  clear hp3
  have tA : ∀ p m, (p + m ≤ at' ∨ at' + 20 ≤ p) → Agree p3 b3 p m := fun p m h => (t3 _ _ (by omega)).trans ((t2 _ _ (by omega)).trans ((t1 _ _ (by omega)).trans ((t0 _ _ (by omega)))))
  have f0 : numL (p3.drop (at')) 4 = b.length := by rw [numL_agree 4 _ (t3 _ _ (by omega)), numL_agree 4 _ (t2 _ _ (by omega)), numL_agree 4 _ (t1 _ _ (by omega)), v0]
  have f1 : numL (p3.drop (at' + 4)) 4 = i := by rw [numL_agree 4 _ (t3 _ _ (by omega)), numL_agree 4 _ (t2 _ _ (by omega)), v1]
  have f2 : numL (p3.drop (at' + 12)) 4 = n2 := by rw [numL_agree 4 _ (t3 _ _ (by omega)), v2]
  have f3 : numL (p3.drop (at' + 16)) 4 = iat := by rw [v3]
  refine ⟨by omega, by omega, fun p m hp hpm => (tA p m (by omega)).trans (c5 p m hp), ⟨b.length, n2, iat, i, false, 0, 0⟩, b.length, ?_, ⟨?_, by show b.length ≤ n2; omega, by show b.length ≤ iat; omega, ?_, by omega, fun j hj => ?_, ?_, by omega, by show iat + _ + 8 ≤ _; omega, ?_⟩, rfl, rfl, by show iat + _ ≤ _; omega⟩
  · unfold importD; rw [f0, f1, f2, f3]
  · exact c4.later (tA _ _ (by omega))
  · exact (if_neg (by show ¬ b.length = 0; omega)).symm
  · have r := c6 j hj
    rw [hk] at hj
    exact (r.later (tA _ _ (by omega)) (tA _ _ (by omega))).less (by omega)
  · rw [hk, numL_agree 8 _ (tA _ _ (by omega))]; exact c7
  · intro h; cases h

theorem odd_spec (b : List Nat) (x : PIm) (at' i : Nat) (hk64 : x.syms.length ≤ 70) (hb : b.length + 9000 ≤ 2147483647) (hs : ∀ s ∈ x.syms, s.1.length ≤ 100) (hd : x.dll.length ≤ 100) (hat : at' + 20 ≤ b.length) (hi : i < 100) (hpos : 0 < b.length) (hord : ∀ s ∈ x.syms, s.2.2 = true → s.2.1 < 65536) (hodd : i % 2 = 1) :
    b.length ≤ (impStep false at' i b x).length ∧ (impStep false at' i b x).length ≤ b.length + 8500 ∧ (∀ p m, p + m ≤ b.length → (p + m ≤ at' ∨ at' + 20 ≤ p) → Agree (impStep false at' i b x) b p m) ∧ ∃ d T, importD (impStep false at' i b x) at' = d ∧ ImAt (impStep false at' i b x) b.length d x T ∧ d.stamp = i ∧ T = d.iat ∧ d.iat + 8 * x.syms.length ≤ (impStep false at' i b x).length := by
  obtain ⟨k, hk⟩ : ∃ k, x.syms.length = k := ⟨_, rfl⟩
  rw [hk] at hk64
  obtain ⟨b2, hb2, c1, c2, c3, c4, c5, c6, c7, c8⟩ := behind_spec b x k hk hk64 hb hs hd
  replace c6 := c6 hord
  have hm : min x.syms.length 70 = k := by omega
  unfold impStep
  simp only [hm, Bool.false_eq_true, if_false]
  rw [hb2]
  rw [if_pos hodd]
  clear hb2 hm
  obtain ⟨b3, hb3⟩ : ∃ q, (b2 ++ x.dll) ++ [0] = q := ⟨_, rfl⟩
  rw [hb3] at c3 c4 c5 c6 c7 c8 ⊢
  obtain ⟨n2, hn2⟩ : ∃ q, b2.length = q := ⟨_, rfl⟩
  rw [hn2] at c1 c2 c3 c4 ⊢
  clear hb3 hn2
  obtain ⟨iat, hiat⟩ : ∃ q, b.length + 8 * k + 8 = q := ⟨_, rfl⟩
  rw [hiat] at c8 ⊢
  have e4 : (256 : Nat) ^ 4 = 4294967296 := rfl
  have z0 : at' + 4 ≤ b3.length := by omega
  have y0 := putL_len z0 (b.length)
  obtain ⟨p0, hp0⟩ : ∃ q, putL b3 (at') 4 (b.length) = q := ⟨_, rfl⟩
  have v0 : numL (p0.drop (at')) 4 = b.length := by rw [← hp0]; exact numL_at z0 (by omega) (Agree.refl _ _ _)
  have t0 : ∀ p m, (p + m ≤ at' ∨ at' + 4 ≤ p) → Agree p0 b3 p m := fun p m h => by rw [← hp0]; exact Agree.put z0 h
  rw [hp0] at y0 ⊢
  clear hp0
  have z1 : at' + 4 + 4 ≤ p0.length := by omega
  have y1 := putL_len z1 (i)
  obtain ⟨p1, hp1⟩ : ∃ q, putL p0 (at' + 4) 4 (i) = q := ⟨_, rfl⟩
  have v1 : numL (p1.drop (at' + 4)) 4 = i := by rw [← hp1]; exact numL_at z1 (by omega) (Agree.refl _ _ _)
  have t1 : ∀ p m, (p + m ≤ at' + 4 ∨ at' + 4 + 4 ≤ p) → Agree p1 p0 p m := fun p m h => by rw [← hp1]; exact Agree.put z1 h
  rw [hp1] at y1 ⊢
  clear hp1
  have z2 : at' + 12 + 4 ≤ p1.length := by omega
  have y2 := putL_len z2 (n2)
  obtain ⟨p2, hp2⟩ : ∃ q, putL p1 (at' + 12) 4 (n2) = q := ⟨_, rfl⟩
  have v2 : numL (p2.drop (at' + 12)) 4 = n2 := by rw [← hp2]; exact numL_at z2 (by omega) (Agree.refl _ _ _)
  have t2 : ∀ p m, (p + m ≤ at' + 12 ∨ at' + 12 + 4 ≤ p) → Agree p2 p1 p m := fun p m h => by rw [← hp2]; exact Agree.put z2 h
  rw [hp2] at y2 ⊢
  clear hp2
  have z3 : at' + 16 + 4 ≤ p2.length := by omega
  have y3 := putL_len z3 (iat)
  obtain ⟨p3, hp3⟩ : ∃ q, putL p2 (at' + 16) 4 (iat) = q := ⟨_, rfl⟩
  have v3 : numL (p3.drop (at' + 16)) 4 = iat := by rw [← hp3]; exact numL_at z3 (by omega) (Agree.refl _ _ _)
  have t3 : ∀ p m, (p + m ≤ at' + 16 ∨ at' + 16 + 4 ≤ p) → Agree p3 p2 p m := fun p m h => by rw [← hp3]; exact Agree.put z3 h
  rw [hp3] at y3 ⊢
  clear hp3
  have l1 : iat + 8 * k ≤ p3.length := by omega
  have l2 : b.length + 8 * k ≤ p3.length := by omega
  have y8 := cpL_len l1 l2
  have hcp : p3.take iat ++ ((p3.drop b.length).take (8 * k) ++ p3.drop (iat + 8 * k)) = cpL p3 iat b.length (8 * k) := rfl
  rw [hcp]
  have t8 : ∀ p m, (p + m ≤ iat ∨ iat + 8 * k ≤ p) → Agree (cpL p3 iat b.length (8 * k)) p3 p m := fun p m h => cpL_agree l1 l2 h
  have m8 : ∀ o, o + 8 ≤ 8 * k → numL ((cpL p3 iat b.length (8 * k)).drop (iat + o)) 8 = numL (p3.drop (b.length + o)) 8 := fun o h => cpL_moved l1 l2 h
  obtain ⟨p8, hp8⟩ : ∃ q, cpL p3 iat b.length (8 * k) = q := ⟨_, rfl⟩
  rw [hp8] at y8 t8 m8 ⊢
  clear hcp hp8
  have z9 : at' + 4 ≤ p8.length := by omega
  have y9 := putL_len z9 0
  obtain ⟨p9, hp9⟩ : ∃ q, putL p8 at' 4 0 = q := ⟨_, rfl⟩
  have v9 : numL (p9.drop at') 4 = 0 := by rw [← hp9]; exact numL_at z9 (by omega) (Agree.refl _ _ _)
  have t9 : ∀ p m, (p + m ≤ at' ∨ at' + 4 ≤ p) → Agree p9 p8 p m := fun p m h => by rw [← hp9]; exact Agree.put z9 h
  rw [hp9] at y9 ⊢
  clear hp9
  have tA : ∀ p m, (p + m ≤ at' ∨ at' + 20 ≤ p) → (p + m ≤ iat ∨ iat + 8 * k ≤ p) → Agree p9 b3 p m := fun p m h h2 => (t9 _ _ (by omega)).trans ((t8 _ _ (by omega)).trans ((t3 _ _ (by omega)).trans ((t2 _ _ (by omega)).trans ((t1 _ _ (by omega)).trans ((t0 _ _ (by omega)))))))
  have f0 : numL (p9.drop at') 4 = 0 := v9
  have f1 : numL (p9.drop (at' + 4)) 4 = i := by rw [numL_agree 4 _ (t9 _ _ (by omega)), numL_agree 4 _ (t8 _ _ (by omega)), numL_agree 4 _ (t3 _ _ (by omega)), numL_agree 4 _ (t2 _ _ (by omega)), v1]
  have f2 : numL (p9.drop (at' + 12)) 4 = n2 := by rw [numL_agree 4 _ (t9 _ _ (by omega)), numL_agree 4 _ (t8 _ _ (by omega)), numL_agree 4 _ (t3 _ _ (by omega)), v2]
  have f3 : numL (p9.drop (at' + 16)) 4 = iat := by rw [numL_agree 4 _ (t9 _ _ (by omega)), numL_agree 4 _ (t8 _ _ (by omega)), v3]
  refine ⟨by omega, by omega, fun p m hp hpm => (tA p m (by omega) (by omega)).trans (c5 p m hp), ⟨0, n2, iat, i, false, 0, 0⟩, iat, ?_, ⟨?_, by show b.length ≤ n2; omega, by show b.length ≤ iat; omega, ?_, by omega, fun j hj => ?_, ?_, by omega, by show iat + _ + 8 ≤ _; omega, ?_⟩, rfl, rfl, by show iat + _ ≤ _; omega⟩
  · unfold importD; rw [f0, f1, f2, f3]
  · exact c4.later (tA _ _ (by omega) (by omega))
  · exact (if_pos rfl).symm
  · have r := c6 j hj
    rw [hk] at hj
    refine (r.moved (c' := p9) (o' := iat + 8 * j) ?_ ((tA _ _ (by omega) (by omega)))).less (by omega)
    rw [numL_agree 8 _ (t9 _ _ (by omega)), m8 (8 * j) (by omega), numL_agree 8 _ (t3 _ _ (by omega)), numL_agree 8 _ (t2 _ _ (by omega)), numL_agree 8 _ (t1 _ _ (by omega)), numL_agree 8 _ (t0 _ _ (by omega))]
  · rw [hk, numL_agree 8 _ (tA _ _ (by omega) (by omega))]; exact c8
  · intro h; cases h

end Go.Proofs.Ytbjabncefhgefaa
namespace Go.Proofs.Ytbjabncefhgefaa
open Go.ChangeShapes Go.WideShapes Go.ChangeAt Go.RowKit
set_option linter.unusedVariables false
set_option linter.unusedSimpArgs false

/-- What may be laid. -/
structure PCan (x : PIm) : Prop where
  k : x.syms.length ≤ 70
  s : ∀ s ∈ x.syms, s.1.length ≤ 100
  d : x.dll.length ≤ 100
  o : ∀ s ∈ x.syms, s.2.2 = true → s.2.1 < 65536
/-- What may be asked for. -/
structure PAsk (x : PIm) : Prop where
  dl : x.dll.length ≤ 40
  dz : ∀ v ∈ x.dll, v ≠ 0
  dn : okNm x.dll = true
  sc : ∀ s ∈ x.syms, SymCan s
theorem lenD_is (delay : Bool) : lenD delay = 20 ∨ lenD delay = 32 := by unfold lenD; split <;> omega

theorem step_spec (delay : Bool) (b : List Nat) (x : PIm) (at' i : Nat) (hx : PCan x) (hb : b.length + 9000 ≤ 2147483647) (hat : at' + lenD delay ≤ b.length) (hi : i < 100) (hpos : 0 < b.length) :
    b.length ≤ (impStep delay at' i b x).length ∧ (impStep delay at' i b x).length ≤ b.length + 8500 ∧ (∀ p m, p + m ≤ b.length → (p + m ≤ at' ∨ at' + lenD delay ≤ p) → Agree (impStep delay at' i b x) b p m) ∧
    ∃ d T, rdD delay (impStep delay at' i b x) at' = d ∧ ImAt (impStep delay at' i b x) b.length d x T ∧ (delay = false → i % 2 = 1 → T = d.iat) ∧ d.iat + 8 * x.syms.length ≤ (impStep delay at' i b x).length := by
  cases delay
  · by_cases hodd : i % 2 = 1
    · obtain ⟨a1, a2, a3, d, T, a4, a5, _, a6, a7⟩ := odd_spec b x at' i hx.k hb hx.s hx.d hat hi hpos hx.o hodd
      exact ⟨a1, a2, a3, d, T, a4, a5, fun _ _ => a6, a7⟩
    · obtain ⟨a1, a2, a3, d, T, a4, a5, _, a6, a7⟩ := even_spec b x at' i hx.k hb hx.s hx.d hat hi hpos hx.o hodd
      exact ⟨a1, a2, a3, d, T, a4, a5, fun _ h => absurd h hodd, a7⟩
  · obtain ⟨a1, a2, a3, d, T, a4, a5, _, a6, a7⟩ := late_spec b x at' i hx.k hb hx.s hx.d hat hi hpos hx.o
    exact ⟨a1, a2, a3, d, T, a4, a5, fun h => (by cases h), a7⟩

/-- Descriptors, one behind another, as they were laid. -/
def Laid (c : List Nat) (delay : Bool) (D start : Nat) : Nat → Nat → List PIm → Prop
  | _, _, [] => True
  | lo, i, x :: l => ∃ d T, rdD delay c (start + D * i) = d ∧ ImAt c lo d x T ∧ (delay = false → i % 2 = 1 → T = d.iat) ∧ ∃ lo', d.iat + 8 * x.syms.length ≤ lo' ∧ lo' ≤ c.length ∧ Laid c delay D start lo' (i + 1) l

theorem rd_agree {c c' : List Nat} (delay : Bool) {o : Nat} (h : Agree c' c o (lenD delay)) : rdD delay c' o = rdD delay c o := by
  cases delay
  · have e : lenD false = 20 := rfl
    rw [e] at h
    simp only [rdD, importD, Bool.false_eq_true, if_false]
    rw [numL_agree 4 o (h.sub (by omega) (by omega)), numL_agree 4 (o + 12) (h.sub (by omega) (by omega)), numL_agree 4 (o + 16) (h.sub (by omega) (by omega)), numL_agree 4 (o + 4) (h.sub (by omega) (by omega))]
  · have e : lenD true = 32 := rfl
    rw [e] at h
    simp only [rdD, delayD, if_true]
    rw [numL_agree 4 o (h.sub (by omega) (by omega)), numL_agree 4 (o + 12) (h.sub (by omega) (by omega)), numL_agree 4 (o + 16) (h.sub (by omega) (by omega)), numL_agree 4 (o + 4) (h.sub (by omega) (by omega)), numL_agree 4 (o + 8) (h.sub (by omega) (by omega)), numL_agree 4 (o + 28) (h.sub (by omega) (by omega))]

theorem impF_spec (delay : Bool) (start D : Nat) (hD : lenD delay = D) (hD2 : D = 20 ∨ D = 32) : ∀ (l : List PIm) (i : Nat) (b : List Nat), start + D * (i + l.length) ≤ b.length → b.length + 8500 * l.length + 9000 ≤ 2147483647 → i + l.length ≤ 99 → (∀ x ∈ l, PCan x) → 0 < b.length →
    b.length ≤ (impF delay start l i b).length ∧ (impF delay start l i b).length ≤ b.length + 8500 * l.length ∧ (∀ p m, p + m ≤ b.length → (p + m ≤ start + D * i ∨ start + D * (i + l.length) ≤ p) → Agree (impF delay start l i b) b p m) ∧ Laid (impF delay start l i b) delay D start b.length i l
  | [], i, b, _, _, _, _, _ => ⟨Nat.le_refl _, by simp [impF], fun p m _ _ => Agree.refl _ _ _, trivial⟩
  | x :: l, i, b, h1, h2, h3, h4, h5 => by
    have hlc : (x :: l).length = l.length + 1 := List.length_cons
    have hm : D * (i + (l.length + 1)) = D * (i + 1 + l.length) := by rw [show i + (l.length + 1) = i + 1 + l.length by omega]
    have hm2 : D * (i + 1) = D * i + D := by rw [Nat.mul_add, Nat.mul_one]
    have hm3 : D * (i + 1) ≤ D * (i + 1 + l.length) := Nat.mul_le_mul_left _ (by omega)
    rw [hlc, hm] at h1
    obtain ⟨a1, a2, a3, d, T, a4, a5, a6, a7⟩ := step_spec delay b x (start + D * i) i (h4 x (by simp)) (by omega) (by rw [hD]; omega) (by omega) h5
    obtain ⟨c1, c2, c3, c4⟩ := impF_spec delay start D hD hD2 l (i + 1) (impStep delay (start + D * i) i b x) (by omega) (by omega) (by omega) (fun y hy => h4 y (by simp [hy])) (by omega)
    simp only [impF]
    rw [hD] at a3 ⊢
    rw [hlc, hm]
    obtain ⟨b1, hb1⟩ : ∃ q, impStep delay (start + D * i) i b x = q := ⟨_, rfl⟩
    rw [hb1] at a1 a2 a3 a4 a5 a7 c1 c2 c3 c4 ⊢
    refine ⟨by omega, by omega, fun p m hp hpm => ?_, d, T, ?_, a5.later (c3 _ _ (by omega) (by omega)) c1, a6, b1.length, a7, c1, c4⟩
    · exact (c3 p m (by omega) (by omega)).trans (a3 p m hp (by omega))
    · rw [rd_agree delay (c3 _ _ (by rw [hD]; omega) (by rw [hD]; omega)), a4]

theorem at8_spec (delay : Bool) (start : Nat) (l : List PIm) (hl : l.length ≤ 18) (hs : 0 < start) (hs2 : start ≤ 100000) (hc : ∀ x ∈ l, PCan x) :
    start + lenD delay * (l.length + 1) ≤ (at8 start l delay).length ∧ (at8 start l delay).length ≤ 300000 ∧ noughtsL (at8 start l delay) (start + lenD delay * (0 + l.length)) (lenD delay) = true ∧ Laid (at8 start l delay) delay (lenD delay) start (start + lenD delay * (l.length + 1)) 0 l := by
  have hD2 := lenD_is delay
  have ht : l.take 18 = l := List.take_of_length_le (by omega)
  have hm : min l.length 18 = l.length := by omega
  unfold at8
  rw [ht, hm]
  have hlr : (List.replicate (start + lenD delay * (l.length + 1)) 0).length = start + lenD delay * (l.length + 1) := List.length_replicate
  have hz : ∀ o, o < start + lenD delay * (l.length + 1) → (List.replicate (start + lenD delay * (l.length + 1)) 0)[o]? = some 0 := fun o ho => by rw [List.getElem?_replicate, if_pos ho]
  obtain ⟨b, hb⟩ : ∃ q, List.replicate (start + lenD delay * (l.length + 1)) 0 = q := ⟨_, rfl⟩
  rw [hb] at hlr hz ⊢
  have hm2 : lenD delay * (l.length + 1) = lenD delay * l.length + lenD delay := by rw [Nat.mul_add, Nat.mul_one]
  have hm3 : lenD delay * l.length ≤ 32 * 18 := Nat.mul_le_mul (by omega) hl
  obtain ⟨c1, c2, c3, c4⟩ := impF_spec delay start (lenD delay) rfl hD2 l 0 b (by rw [Nat.zero_add]; omega) (by omega) (by omega) hc (by omega)
  rw [Nat.zero_add] at c3 ⊢
  rw [hlr] at c4
  refine ⟨by omega, by omega, noughts_of (fun i hi => ?_) (by omega), c4⟩
  rw [c3 (start + lenD delay * l.length) (lenD delay) (by omega) (by omega) i hi]
  exact hz _ (by omega)

/-! Read again. -/
theorem syms_told {c : List Nat} {T iat lo : Nat} (hlo : 0 < lo) : ∀ (l acc : List SymV) (n : Nat), l.length + 1 ≤ n → (∀ j (hj : j < l.length), SyRow c lo (T + 8 * (acc.length + j)) l[j]) → (∀ s ∈ l, SymCan s) → acc.length ≤ 64 → numL (c.drop (T + 8 * (acc.length + l.length))) 8 = 0 → T + 8 * (acc.length + l.length) + 8 ≤ c.length → iat + 8 * (acc.length + l.length) ≤ c.length →
    symsL c T iat n acc = if acc.length + l.length ≤ 64 then some (acc ++ l) else none := by
  intro l
  induction l with
  | nil =>
    intro acc n hn _ _ h64 hz h1 h2
    obtain ⟨n, rfl⟩ : ∃ q, n = q + 1 := ⟨n - 1, by simp at hn; omega⟩
    simp only [List.length_nil, Nat.add_zero] at hz h1 h2 ⊢
    simp only [symsL]
    rw [if_pos (by omega), if_pos hz, if_pos h64, List.append_nil]
  | cons s l ih =>
    intro acc n hn hr hc h64 hz h1 h2
    have hlc : (s :: l).length = l.length + 1 := List.length_cons
    obtain ⟨n, rfl⟩ : ∃ q, n = q + 1 := ⟨n - 1, by omega⟩
    have h0 := hr 0 (by simp)
    simp only [Nat.add_zero, List.getElem_cons_zero] at h0
    simp only [symsL]
    rw [if_pos (by omega), if_neg (h0.some hlo)]
    by_cases e : acc.length = 64
    · rw [if_neg (by omega), if_neg (by omega)]
    · rw [if_pos ⟨by omega, e⟩, h0.tells (hc s (by simp))]
      simp only
      have hla : (acc ++ [s]).length = acc.length + 1 := by simp
      have := ih (acc ++ [s]) n (by omega) (fun j hj => by
        have := hr (j + 1) (by simpa using hj)
        simp only [List.getElem_cons_succ] at this
        rw [hla]
        rwa [show acc.length + 1 + j = acc.length + (j + 1) by omega]) (fun x hx => hc x (by simp [hx])) (by omega) (by rw [hla, show acc.length + 1 + l.length = acc.length + (s :: l).length by omega]; exact hz) (by omega) (by omega)
      rw [this, hla, hlc, show acc.length + 1 + l.length = acc.length + (l.length + 1) by omega, List.append_assoc, List.singleton_append]
theorem ImAt.syms {c : List Nat} {lo T : Nat} {d : Ds} {x : PIm} (h : ImAt c lo d x T) (hlo : 0 < lo) (hk : x.syms.length ≤ 65) (ha : ∀ s ∈ x.syms, SymCan s) : symsD c d = if x.syms.length ≤ 64 then some x.syms else none := by
  unfold symsD
  rw [← h.isT]
  have := syms_told (c := c) (T := T) (iat := d.iat) hlo x.syms [] 66 (by omega) (fun j hj => by simpa using h.rows j hj) ha (by simp) (by simpa using h.term) (by have := h.in1; simp; omega) (by have := h.in2; simp; omega)
  simpa using this
theorem ImAt.one {c : List Nat} {lo T : Nat} {d : Ds} {x : PIm} (h : ImAt c lo d x T) (hlo : 0 < lo) (hk : x.syms.length ≤ 65) (ha : PAsk x) : oneL c d = if x.syms.length ≤ 64 then some ⟨x.dll, d.iat, d.stamp, d.handle, x.syms⟩ else none := by
  unfold oneL
  rw [h.tx.read ha.dz ha.dl]
  simp only
  rw [if_pos ha.dn, if_neg (by
    rintro ⟨h1, h2⟩
    have := h.dl h1
    rcases h2 with h2 | h2
    · exact h2 this.1
    · exact h2 this.2), h.syms hlo hk ha.sc]
  split
  · rename_i h1
    split at h1
    · cases h1
    · rename_i h2; rw [if_neg h2]
  · rename_i v h1
    split at h1
    · rename_i h2
      rw [if_pos h2]
      cases h1
      rfl
    · cases h1
theorem ImAt.not0 {c : List Nat} {lo T o : Nat} {delay : Bool} {d : Ds} {x : PIm} (h : ImAt c lo d x T) (hlo : 0 < lo) (hd : rdD delay c o = d) : noughtsL c o (lenD delay) = false := by
  have hd0 : d.dll ≠ 0 := by have := h.lod; omega
  rcases hn : noughtsL c o (lenD delay) with _ | _
  · rfl
  · exfalso
    apply hd0
    rw [← hd]
    cases delay
    · have e : lenD false = 20 := rfl
      rw [e] at hn
      exact noughts_num (j := 12) (m := 4) hn (by omega)
    · have e : lenD true = 32 := rfl
      rw [e] at hn
      exact noughts_num (j := 4) (m := 4) hn (by omega)

/-- What is told, against what was asked for. -/
def Told : Nat → List PIm → List ImpV → Prop
  | _, [], [] => True
  | lo, x :: l, v :: vs => v.dll = x.dll ∧ v.syms = x.syms ∧ lo ≤ v.iat ∧ Told (v.iat + 8 * x.syms.length) l vs
  | _, [], _ :: _ => False
  | _, _ :: _, [] => False
theorem Told.less : ∀ {l : List PIm} {vs : List ImpV} {lo lo' : Nat}, Told lo l vs → lo' ≤ lo → Told lo' l vs
  | [], [], _, _, _, _ => trivial
  | x :: l, v :: vs, _, _, ⟨h1, h2, h3, h4⟩, h => ⟨h1, h2, by omega, h4⟩
  | [], _ :: _, _, _, h, _ => h
  | _ :: _, [], _, _, h, _ => h
theorem Told.len : ∀ {l : List PIm} {vs : List ImpV} {lo : Nat}, Told lo l vs → vs.length = l.length
  | [], [], _, _ => rfl
  | x :: l, v :: vs, _, ⟨_, _, _, h4⟩ => by rw [List.length_cons, List.length_cons, h4.len]
  | [], _ :: _, _, h => h.elim
  | _ :: _, [], _, h => h.elim

theorem imps_told {c : List Nat} {delay : Bool} {start D : Nat} (hD : lenD delay = D) (hD2 : D = 20 ∨ D = 32) : ∀ (l : List PIm) (i lo n : Nat) (acc : List ImpV), Laid c delay D start lo i l → 0 < lo → l.length + 1 ≤ n → acc.length ≤ 16 → (∀ x ∈ l, PAsk x ∧ x.syms.length ≤ 64) → noughtsL c (start + D * (i + l.length)) D = true → start + D * (i + l.length + 1) ≤ c.length →
    if acc.length + l.length ≤ 16 then ∃ vs, impsL c D (rdD delay) n (start + D * i) acc = some (acc ++ vs) ∧ Told lo l vs else impsL c D (rdD delay) n (start + D * i) acc = none
  | [], i, lo, n, acc, _, _, hn, h16, _, hz, _ => by
    obtain ⟨n, rfl⟩ : ∃ q, n = q + 1 := ⟨n - 1, by simp at hn; omega⟩
    simp only [List.length_nil, Nat.add_zero] at hz ⊢
    rw [if_pos h16]
    refine ⟨[], ?_, trivial⟩
    simp only [impsL]
    rw [if_pos hz, List.append_nil]
  | x :: l, i, lo, n, acc, hl, hlo, hn, h16, hx, hz, hlen => by
    have hlc : (x :: l).length = l.length + 1 := List.length_cons
    obtain ⟨n, rfl⟩ : ∃ q, n = q + 1 := ⟨n - 1, by omega⟩
    obtain ⟨d, T, hd, hi, _, lo', h1, h2, h3⟩ := hl
    have hm2 : D * (i + 1) = D * i + D := by rw [Nat.mul_add, Nat.mul_one]
    have hm3 : D * (i + 1) ≤ D * (i + (x :: l).length + 1) := Nat.mul_le_mul_left _ (by omega)
    have hn0 := hi.not0 hlo hd
    rw [hD] at hn0
    have ha := hx x (by simp)
    have hone := hi.one hlo (by omega) ha.1
    rw [if_pos ha.2] at hone
    have hstep : impsL c D (rdD delay) (n + 1) (start + D * i) acc = if acc.length = 16 then none else impsL c D (rdD delay) n (start + D * (i + 1)) (acc ++ [⟨x.dll, d.iat, d.stamp, d.handle, x.syms⟩]) := by
      simp only [impsL]
      rw [hn0, if_neg (by simp)]
      by_cases e : acc.length = 16
      · rw [if_neg (by omega), if_pos e]
      · rw [if_pos ⟨by omega, e⟩, if_neg e, hd, hone]
        simp only
        rw [hm2, Nat.add_assoc]
    rw [hstep]
    by_cases e : acc.length = 16
    · rw [if_pos e, if_neg (by omega)]
    · rw [if_neg e]
      have ih := imps_told hD hD2 l (i + 1) lo' n (acc ++ [⟨x.dll, d.iat, d.stamp, d.handle, x.syms⟩]) h3 (by have := hi.it; omega) (by omega) (by simp; omega) (fun y hy => hx y (by simp [hy])) (by rw [show i + 1 + l.length = i + (x :: l).length by omega]; exact hz) (by rw [show i + 1 + l.length + 1 = i + (x :: l).length + 1 by omega]; exact hlen)
      rw [List.length_append, List.length_singleton] at ih
      by_cases e2 : acc.length + (x :: l).length ≤ 16
      · rw [if_pos e2]
        rw [if_pos (by omega)] at ih
        obtain ⟨vs, hv, ht⟩ := ih
        exact ⟨_ :: vs, by rw [hv, List.append_assoc]; rfl, rfl, rfl, hi.it, ht.less h1⟩
      · rw [if_neg e2]
        rw [if_neg (by omega)] at ih
        exact ih
/-- What At lays is what Parse tells. -/
theorem parse_at8 (delay : Bool) (l : List PIm) (hl : l.length ≤ 17) (hc : ∀ x ∈ l, PCan x) (ha : ∀ x ∈ l, PAsk x ∧ x.syms.length ≤ 64) :
    if l.length ≤ 16 then ∃ vs, parseI (at8 64 l delay) 64 (lenD delay) (rdD delay) = some vs ∧ Told 0 l vs else parseI (at8 64 l delay) 64 (lenD delay) (rdD delay) = none := by
  obtain ⟨h1, h2, h3, h4⟩ := at8_spec delay 64 l (by omega) (by omega) (by omega) hc
  have hp : parseI (at8 64 l delay) 64 (lenD delay) (rdD delay) = impsL (at8 64 l delay) (lenD delay) (rdD delay) 18 64 [] := if_neg (by omega)
  rw [hp]
  have := imps_told rfl (lenD_is delay) l 0 _ 18 [] h4 (by omega) (by omega) (by simp) ha h3 (by rw [Nat.zero_add]; exact h1)
  simp only [List.length_nil, Nat.zero_add, Nat.mul_zero, Nat.add_zero, List.nil_append] at this
  by_cases e : l.length ≤ 16
  · rw [if_pos e] at this ⊢
    obtain ⟨vs, hv, ht⟩ := this
    exact ⟨vs, hv, ht.less (by omega)⟩
  · rw [if_neg e] at this ⊢
    exact this
/-- One descriptor with more symbols than may be. -/
theorem parse_many (delay : Bool) (x : PIm) (hc : PCan x) (ha : PAsk x) (hk : x.syms.length ≤ 65) : (parseI (at8 64 [x] delay) 64 (lenD delay) (rdD delay)).map List.length = if x.syms.length ≤ 64 then some 1 else none := by
  by_cases e : x.syms.length ≤ 64
  · rw [if_pos e]
    have h := parse_at8 delay [x] (by simp) (fun y hy => by simp at hy; subst hy; exact hc) (fun y hy => by simp at hy; subst hy; exact ⟨ha, e⟩)
    rw [if_pos (by simp)] at h
    obtain ⟨vs, hv, ht⟩ := h
    rw [hv, Option.map_some, ht.len]
    rfl
  · rw [if_neg e]
    obtain ⟨h1, h2, h3, h4⟩ := at8_spec delay 64 [x] (by simp) (by omega) (by omega) (fun y hy => by simp at hy; subst hy; exact hc)
    have hp : parseI (at8 64 [x] delay) 64 (lenD delay) (rdD delay) = impsL (at8 64 [x] delay) (lenD delay) (rdD delay) 18 64 [] := if_neg (by omega)
    rw [hp]
    obtain ⟨d, T, hd, hi, _⟩ := h4
    have hn0 := hi.not0 (by omega) hd
    rw [Nat.mul_zero, Nat.add_zero] at hn0 hd
    have hone := hi.one (by omega) hk ha
    rw [if_neg e] at hone
    have key : ∀ n, impsL (at8 64 [x] delay) (lenD delay) (rdD delay) (n + 1) 64 [] = none := fun n => by
      simp only [impsL]
      rw [hn0, if_neg (by simp)]
      split
      · rw [hd, hone]
      · rfl
    rw [key 17]
    rfl
end Go.Proofs.Ytbjabncefhgefaa
