/- law 7's images, read again: Parse tells what was laid. -/
import Derived.Test.YtbjabncefhgefaaImgE
namespace Go.Proofs.Ytbjabncefhgefaa
open Go.ChangeShapes Go.WideShapes Go.ChangeAt Go.RowKit
set_option linter.unusedVariables false
set_option linter.unusedSimpArgs false

def fV1 (i : Nat) (s : List Nat) : FnV := if s.contains 46 then (0, s) else if s = [] then (0, []) else (64 + i, [])
def fV : Nat → List (List Nat) → List FnV
  | _, [] => []
  | i, s :: l => fV1 i s :: fV (i + 1) l
def nV : Nat → List (List Nat) → List NmV
  | _, [] => []
  | i, s :: l => (s, i) :: nV (i + 1) l
def rises : List Nat → List (List Nat) → Bool
  | _, [] => true
  | last, s :: l => !leqL s last && rises s l
def nonz (s : List Nat) : Bool := s.all fun x => x != 0
theorem nonz_iff {s : List Nat} (h : nonz s = true) : ∀ x ∈ s, x ≠ 0 := fun x hx => by
  have := List.all_eq_true.mp h x hx
  simpa using this

theorem atH_spec (start n m base : Nat) (hb : base < 4294967296) (hs : start ≤ 4096) (hn : n ≤ 12) (hm : m ≤ 12) :
    (atH start n m base).length = start + 40 + 4 * n + 6 * m ∧ numL ((atH start n m base).drop (start + 16)) 4 = base ∧ numL ((atH start n m base).drop (start + 20)) 4 = n ∧ numL ((atH start n m base).drop (start + 24)) 4 = m ∧
    numL ((atH start n m base).drop (start + 28)) 4 = start + 40 ∧ numL ((atH start n m base).drop (start + 32)) 4 = start + 40 + 4 * n ∧ numL ((atH start n m base).drop (start + 36)) 4 = start + 40 + 4 * n + 4 * m := by
  have e4 : (256 : Nat) ^ 4 = 4294967296 := rfl
  unfold atH
  obtain ⟨b0, h0⟩ : ∃ b, List.replicate (start + 40 + 4 * n + 6 * m) 0 = b := ⟨_, rfl⟩
  have l0 : b0.length = start + 40 + 4 * n + 6 * m := by rw [← h0]; exact List.length_replicate
  rw [h0]
  clear h0
  have o1 : start + 16 + 4 ≤ b0.length := by omega
  have l1 := putL_len o1 base
  have a1 := numL_put (v := base) o1
  obtain ⟨b1, g1⟩ : ∃ b, putL b0 (start + 16) 4 base = b := ⟨_, rfl⟩
  rw [g1] at l1 a1 ⊢
  have o2 : start + 20 + 4 ≤ b1.length := by omega
  have l2 := putL_len o2 n
  have a2 := numL_put (v := n) o2
  have t2 : ∀ p m', p + m' ≤ start + 20 → Agree (putL b1 (start + 20) 4 n) b1 p m' := fun p m' h => Agree.put o2 (.inl h)
  obtain ⟨b2, g2⟩ : ∃ b, putL b1 (start + 20) 4 n = b := ⟨_, rfl⟩
  rw [g2] at l2 a2 t2 ⊢
  have o3 : start + 24 + 4 ≤ b2.length := by omega
  have l3 := putL_len o3 m
  have a3 := numL_put (v := m) o3
  have t3 : ∀ p m', p + m' ≤ start + 24 → Agree (putL b2 (start + 24) 4 m) b2 p m' := fun p m' h => Agree.put o3 (.inl h)
  obtain ⟨b3, g3⟩ : ∃ b, putL b2 (start + 24) 4 m = b := ⟨_, rfl⟩
  rw [g3] at l3 a3 t3 ⊢
  have o4 : start + 28 + 4 ≤ b3.length := by omega
  have l4 := putL_len o4 (start + 40)
  have a4 := numL_put (v := start + 40) o4
  have t4 : ∀ p m', p + m' ≤ start + 28 → Agree (putL b3 (start + 28) 4 (start + 40)) b3 p m' := fun p m' h => Agree.put o4 (.inl h)
  obtain ⟨b4, g4⟩ : ∃ b, putL b3 (start + 28) 4 (start + 40) = b := ⟨_, rfl⟩
  rw [g4] at l4 a4 t4 ⊢
  have o5 : start + 32 + 4 ≤ b4.length := by omega
  have l5 := putL_len o5 (start + 40 + 4 * n)
  have a5 := numL_put (v := start + 40 + 4 * n) o5
  have t5 : ∀ p m', p + m' ≤ start + 32 → Agree (putL b4 (start + 32) 4 (start + 40 + 4 * n)) b4 p m' := fun p m' h => Agree.put o5 (.inl h)
  obtain ⟨b5, g5⟩ : ∃ b, putL b4 (start + 32) 4 (start + 40 + 4 * n) = b := ⟨_, rfl⟩
  rw [g5] at l5 a5 t5 ⊢
  have o6 : start + 36 + 4 ≤ b5.length := by omega
  have l6 := putL_len o6 (start + 40 + 4 * n + 4 * m)
  have a6 := numL_put (v := start + 40 + 4 * n + 4 * m) o6
  have t6 : ∀ p m', p + m' ≤ start + 36 → Agree (putL b5 (start + 36) 4 (start + 40 + 4 * n + 4 * m)) b5 p m' := fun p m' h => Agree.put o6 (.inl h)
  obtain ⟨b6, g6⟩ : ∃ b, putL b5 (start + 36) 4 (start + 40 + 4 * n + 4 * m) = b := ⟨_, rfl⟩
  rw [g6] at l6 a6 t6 ⊢
  clear g1 g2 g3 g4 g5 g6
  refine ⟨by omega, ?_, ?_, ?_, ?_, ?_, ?_⟩
  · rw [numL_agree 4 _ (t6 _ _ (by omega)), numL_agree 4 _ (t5 _ _ (by omega)), numL_agree 4 _ (t4 _ _ (by omega)), numL_agree 4 _ (t3 _ _ (by omega)), numL_agree 4 _ (t2 _ _ (by omega)), a1]; omega
  · rw [numL_agree 4 _ (t6 _ _ (by omega)), numL_agree 4 _ (t5 _ _ (by omega)), numL_agree 4 _ (t4 _ _ (by omega)), numL_agree 4 _ (t3 _ _ (by omega)), a2]; omega
  · rw [numL_agree 4 _ (t6 _ _ (by omega)), numL_agree 4 _ (t5 _ _ (by omega)), numL_agree 4 _ (t4 _ _ (by omega)), a3]; omega
  · rw [numL_agree 4 _ (t6 _ _ (by omega)), numL_agree 4 _ (t5 _ _ (by omega)), a4]; omega
  · rw [numL_agree 4 _ (t6 _ _ (by omega)), a5]; omega
  · rw [a6]; omega

theorem funcs_told {c : List Nat} {size rows : Nat} : ∀ (l : List (List Nat)) (i : Nat) (acc : List FnV), (∀ j (hj : j < l.length), readFn c 256 size (numL (c.drop (rows + 4 * (i + j))) 4) = some (fV1 (i + j) l[j])) →
    funcsL c 256 size rows l.length i acc = some (acc ++ fV i l)
  | [], i, acc, _ => by simp [funcsL, fV]
  | s :: l, i, acc, h => by
    have h0 := h 0 (by simp)
    simp only [Nat.add_zero, List.getElem_cons_zero] at h0
    simp only [List.length_cons, funcsL, h0, fV]
    rw [funcs_told l (i + 1) _ fun j hj => by
      have := h (j + 1) (by simpa using hj)
      simp only [List.getElem_cons_succ] at this
      rwa [show i + 1 + j = i + (j + 1) by omega]]
    simp
theorem names_told {c : List Nat} {r1 r2 n : Nat} : ∀ (l : List (List Nat)) (i : Nat) (last : List Nat) (acc : List NmV), i + l.length ≤ n → rises last l = true → (∀ s ∈ l, okSymL s = true) →
    (∀ j (hj : j < l.length), textL c (numL (c.drop (r1 + 4 * (i + j))) 4) 64 = some l[j] ∧ numL (c.drop (r2 + 2 * (i + j))) 2 = i + j) →
    namesL c r1 r2 n l.length i last acc = some (acc ++ nV i l)
  | [], i, last, acc, _, _, _, _ => by simp [namesL, nV]
  | s :: l, i, last, acc, hn, hr, hk, h => by
    have hlc : (s :: l).length = l.length + 1 := List.length_cons
    have h0 := h 0 (by simp)
    simp only [Nat.add_zero, List.getElem_cons_zero] at h0
    have hr' : leqL s last = false ∧ rises s l = true := by
      simp only [rises, Bool.and_eq_true, Bool.not_eq_true'] at hr
      exact hr
    simp only [List.length_cons, namesL, h0.1, h0.2, hk s (by simp), if_true, hr'.1, Bool.false_eq_true, if_false, nV]
    rw [if_pos (by omega), names_told l (i + 1) s _ (by omega) hr'.2 (fun x hx => hk x (by simp [hx])) fun j hj => by
      have := h (j + 1) (by simpa using hj)
      simp only [List.getElem_cons_succ] at this
      rwa [show i + 1 + j = i + (j + 1) by omega]]
    simp
end Go.Proofs.Ytbjabncefhgefaa
