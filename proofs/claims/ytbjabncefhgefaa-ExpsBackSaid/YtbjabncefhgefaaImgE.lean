/- law 7's images, read again: what At lays is what Parse tells. -/
import Derived.Test.YtbjabncefhgefaaImgM
import Derived.Test.YtbjabncefhgefaaExpI0
import Derived.Test.YtbjabncefhgefaaExpE
namespace Go.Proofs.Ytbjabncefhgefaa
open Go.ChangeShapes Go.WideShapes Go.ChangeAt Go.RowKit
set_option linter.unusedVariables false
set_option linter.unusedSimpArgs false

/-- A text with a nought behind it lies at v. -/
structure TxAt (c : List Nat) (v : Nat) (s : List Nat) : Prop where
  lt : v + s.length < c.length
  ag : Agree c (List.replicate v 0 ++ s ++ [0]) v (s.length + 1)
theorem TxAt.later {c c' : List Nat} {v : Nat} {s : List Nat} (h : TxAt c v s) (ha : Agree c' c v (s.length + 1)) : TxAt c' v s := by
  refine ⟨?_, ha.trans h.ag⟩
  have h1 := ha s.length (by omega)
  rcases Nat.lt_or_ge (v + s.length) c'.length with h2 | h2
  · exact h2
  · rw [List.getElem?_eq_none h2, List.getElem?_eq_getElem h.lt] at h1
    cases h1
theorem TxAt.new (b s : List Nat) : TxAt (b ++ s ++ [0]) b.length s := by
  refine ⟨by simp only [List.length_append, List.length_singleton]; omega, fun i hi => ?_⟩
  have e : ∀ x : List Nat, x.length = b.length → (x ++ s ++ [0])[b.length + i]? = (s ++ [0])[i]? := by
    intro x hx
    rw [List.append_assoc, List.getElem?_append_right (by omega), hx]
    congr 1
    omega
  rw [e b rfl, e _ List.length_replicate]
theorem TxAt.read {c : List Nat} {v most : Nat} {s : List Nat} (h : TxAt c v s) (h0 : ∀ x ∈ s, x ≠ 0) (hm : s.length ≤ most) : textL c v most = some s := by
  have h1 := textL_at (b := List.replicate v 0) (c := c) (s := s) (most := most) h0 hm (by rw [List.length_replicate]; exact h.ag)
  rwa [List.length_replicate] at h1

/-- The i-th function's row. -/
def FnRow (c : List Nat) (Z rows i : Nat) (s : List Nat) : Prop :=
  if s.contains 46 then ∃ v, Z ≤ v ∧ numL (c.drop (rows + 4 * i)) 4 = v ∧ TxAt c v s else numL (c.drop (rows + 4 * i)) 4 = if s = [] then 0 else 64 + i
theorem FnRow.later {c c' : List Nat} {Z rows i : Nat} {s : List Nat} (h : FnRow c Z rows i s) (h1 : Agree c' c (rows + 4 * i) 4) (h2 : Agree c' c Z (c.length - Z)) : FnRow c' Z rows i s := by
  unfold FnRow at *
  rw [numL_agree 4 _ h1]
  by_cases hs : s.contains 46 = true
  · rw [if_pos hs] at h ⊢
    obtain ⟨v, hv, hn, ht⟩ := h
    exact ⟨v, hv, hn, ht.later (h2.sub hv (by have := ht.lt; omega))⟩
  · rw [if_neg hs] at h ⊢
    exact h

theorem fStep_spec {rows i Z : Nat} {b s : List Nat} (hr : rows + 4 * (i + 1) ≤ Z) (hZ : Z ≤ b.length) (hb : b.length + 100 < 4294967296) (hi : i < 1000) (hs : s.length ≤ 64) :
    b.length ≤ (fStep rows b i s).length ∧ (fStep rows b i s).length ≤ b.length + 65 ∧ (∀ p m, p + m ≤ b.length → (p + m ≤ rows + 4 * i ∨ rows + 4 * (i + 1) ≤ p) → Agree (fStep rows b i s) b p m) ∧ FnRow (fStep rows b i s) Z rows i s := by
  unfold fStep FnRow
  by_cases hc : s.contains 46 = true
  · rw [if_pos hc, if_pos hc]
    have hl : (b ++ s ++ [0]).length = b.length + s.length + 1 := by simp only [List.length_append, List.length_singleton]
    have ho : rows + 4 * i + 4 ≤ (b ++ s ++ [0]).length := by omega
    have hpl := putL_len ho b.length
    refine ⟨by omega, by omega, fun p m hp hpm => ?_, b.length, hZ, ?_, ?_⟩
    · refine (Agree.put ho (by omega)).trans ?_
      rw [List.append_assoc]
      exact Agree.app hp
    · exact numL_at ho (by have : (256 : Nat) ^ 4 = 4294967296 := rfl; omega) (Agree.refl _ _ _)
    · exact (TxAt.new b s).later (Agree.put ho (.inr (by omega)))
  · rw [if_neg hc, if_neg hc]
    have ho : rows + 4 * i + 4 ≤ b.length := by omega
    have hpl := putL_len ho (if s = [] then 0 else 64 + i)
    refine ⟨by omega, by omega, fun p m hp hpm => Agree.put ho (by omega), ?_⟩
    refine numL_at ho ?_ (Agree.refl _ _ _)
    have : (256 : Nat) ^ 4 = 4294967296 := rfl
    split <;> omega

theorem atF_spec {rows Z : Nat} : ∀ (l : List (List Nat)) (i : Nat) (b : List Nat), rows + 4 * (i + l.length) ≤ Z → Z ≤ b.length → b.length + 65 * l.length + 100 < 4294967296 → i + l.length < 1000 → (∀ s ∈ l, s.length ≤ 64) →
    b.length ≤ (atF rows l i b).length ∧ (atF rows l i b).length ≤ b.length + 65 * l.length ∧ (∀ p m, p + m ≤ b.length → (p + m ≤ rows + 4 * i ∨ rows + 4 * (i + l.length) ≤ p) → Agree (atF rows l i b) b p m) ∧ ∀ j (hj : j < l.length), FnRow (atF rows l i b) Z rows (i + j) l[j]
  | [], i, b, _, _, _, _, _ => ⟨Nat.le_refl _, by simp [atF], fun p m _ _ => Agree.refl _ _ _, fun j hj => by simp at hj⟩
  | s :: l, i, b, hr, hZ, hb, hi, hs => by
    have hlc : (s :: l).length = l.length + 1 := List.length_cons
    obtain ⟨a1, a2, a3, a4⟩ := fStep_spec (rows := rows) (i := i) (Z := Z) (b := b) (s := s) (by omega) hZ (by omega) (by omega) (hs s (by simp))
    obtain ⟨c1, c2, c3, c4⟩ := atF_spec (rows := rows) (Z := Z) l (i + 1) (fStep rows b i s) (by omega) (by omega) (by omega) (by omega) (fun x hx => hs x (by simp [hx]))
    simp only [atF]
    refine ⟨by omega, by omega, fun p m hp hpm => ?_, fun j hj => ?_⟩
    · exact (c3 p m (by omega) (by omega)).trans (a3 p m hp (by omega))
    · rcases j with _ | j
      · simp only [List.getElem_cons_zero, Nat.add_zero]
        exact a4.later (c3 _ _ (by omega) (by omega)) (c3 _ _ (by omega) (by omega))
      · have := c4 j (by simpa using hj)
        simp only [List.getElem_cons_succ]
        rwa [show i + 1 + j = i + (j + 1) by omega] at this

/-- The i-th name's row. -/
structure NmRow (c : List Nat) (r1 r2 n i : Nat) (s : List Nat) : Prop where
  tx : TxAt c (numL (c.drop (r1 + 4 * i)) 4) s
  ix : numL (c.drop (r2 + 2 * i)) 2 = i % max n 1

theorem nStep_spec {r1 r2 n i Z : Nat} {b s : List Nat} (h1 : r1 + 4 * (i + 1) ≤ r2) (h2 : r2 + 2 * (i + 1) ≤ Z) (hZ : Z ≤ b.length) (hb : b.length + 100 < 4294967296) (hi : i < 1000) (hs : s.length ≤ 64) :
    b.length ≤ (nStep r1 r2 n b i s).length ∧ (nStep r1 r2 n b i s).length ≤ b.length + 65 ∧
    (∀ p m, p + m ≤ b.length → (p + m ≤ r1 + 4 * i ∨ (r1 + 4 * (i + 1) ≤ p ∧ p + m ≤ r2 + 2 * i) ∨ r2 + 2 * (i + 1) ≤ p) → Agree (nStep r1 r2 n b i s) b p m) ∧
    NmRow (nStep r1 r2 n b i s) r1 r2 n i s ∧ b.length ≤ numL ((nStep r1 r2 n b i s).drop (r1 + 4 * i)) 4 := by
  have o1 : r1 + 4 * i + 4 ≤ b.length := by omega
  have l1 := putL_len o1 b.length
  have o2 : r2 + 2 * i + 2 ≤ (putL b (r1 + 4 * i) 4 b.length).length := by omega
  have l2 := putL_len o2 (i % max n 1)
  have hl : (nStep r1 r2 n b i s).length = b.length + s.length + 1 := by
    unfold nStep
    simp only [List.length_append, List.length_singleton, l2, l1]
  have hag : ∀ p m, p + m ≤ b.length → Agree (nStep r1 r2 n b i s) (putL (putL b (r1 + 4 * i) 4 b.length) (r2 + 2 * i) 2 (i % max n 1)) p m := fun p m hp => by
    unfold nStep
    rw [List.append_assoc]
    exact Agree.app (by rw [l2, l1]; exact hp)
  have hn : numL ((nStep r1 r2 n b i s).drop (r1 + 4 * i)) 4 = b.length :=
    numL_at o1 (by have : (256 : Nat) ^ 4 = 4294967296 := rfl; omega) ((hag _ _ o1).trans (Agree.put o2 (by omega)))
  have hx : numL ((nStep r1 r2 n b i s).drop (r2 + 2 * i)) 2 = i % max n 1 :=
    numL_at o2 (by have : (256 : Nat) ^ 2 = 65536 := rfl; have := Nat.mod_le i (max n 1); omega) (hag _ _ (by omega))
  refine ⟨by omega, by omega, fun p m hp hpm => ?_, ⟨?_, hx⟩, by omega⟩
  · exact (hag p m hp).trans ((Agree.put o2 (by omega)).trans (Agree.put o1 (by omega)))
  · rw [hn]
    have h := TxAt.new (putL (putL b (r1 + 4 * i) 4 b.length) (r2 + 2 * i) 2 (i % max n 1)) s
    rw [l2, l1] at h
    exact h

theorem atN_spec {r1 r2 n Z : Nat} : ∀ (l : List (List Nat)) (i : Nat) (b : List Nat), r1 + 4 * (i + l.length) ≤ r2 → r2 + 2 * (i + l.length) ≤ Z → Z ≤ b.length → b.length + 65 * l.length + 100 < 4294967296 → i + l.length < 1000 → (∀ s ∈ l, s.length ≤ 64) →
    (b.length ≤ (atN r1 r2 n l i b).length ∧ (atN r1 r2 n l i b).length ≤ b.length + 65 * l.length) ∧
    (∀ p m, p + m ≤ b.length → (p + m ≤ r1 + 4 * i ∨ (r1 + 4 * (i + l.length) ≤ p ∧ p + m ≤ r2 + 2 * i) ∨ r2 + 2 * (i + l.length) ≤ p) → Agree (atN r1 r2 n l i b) b p m) ∧
    ∀ j (hj : j < l.length), NmRow (atN r1 r2 n l i b) r1 r2 n (i + j) l[j]
  | [], i, b, _, _, _, _, _, _ => ⟨⟨Nat.le_refl _, by simp [atN]⟩, fun p m _ _ => Agree.refl _ _ _, fun j hj => by simp at hj⟩
  | s :: l, i, b, h1, h2, hZ, hb, hi, hs => by
    have hlc : (s :: l).length = l.length + 1 := List.length_cons
    obtain ⟨a1, a2, a3, a4, a5⟩ := nStep_spec (r1 := r1) (r2 := r2) (n := n) (i := i) (Z := Z) (b := b) (s := s) (by omega) (by omega) hZ (by omega) (by omega) (hs s (by simp))
    obtain ⟨⟨c1, c1'⟩, c2, c3⟩ := atN_spec (r1 := r1) (r2 := r2) (n := n) (Z := Z) l (i + 1) (nStep r1 r2 n b i s) (by omega) (by omega) (by omega) (by omega) (by omega) (fun x hx => hs x (by simp [hx]))
    simp only [atN]
    refine ⟨⟨by omega, by omega⟩, fun p m hp hpm => ?_, fun j hj => ?_⟩
    · exact (c2 p m (by omega) (by omega)).trans (a3 p m hp (by omega))
    · rcases j with _ | j
      · simp only [List.getElem_cons_zero, Nat.add_zero]
        have e1 := numL_agree 4 _ (c2 (r1 + 4 * i) 4 (by omega) (by omega))
        have hlt := a4.tx.lt
        refine ⟨?_, ?_⟩
        · rw [e1]
          exact a4.tx.later (c2 _ _ (by omega) (by omega))
        · rw [numL_agree 2 _ (c2 (r2 + 2 * i) 2 (by omega) (by omega))]
          exact a4.ix
      · have := c3 j (by simpa using hj)
        simp only [List.getElem_cons_succ]
        rwa [show i + 1 + j = i + (j + 1) by omega] at this
end Go.Proofs.Ytbjabncefhgefaa
