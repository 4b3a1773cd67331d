/- law 7: names that rise, and what is found among them. -/
import Derived.Test.YtbjabncefhgefaaExpK
import Derived.Test.YtbjabncefhgefaaAppTs2
namespace Go.Proofs.Ytbjabncefhgefaa
open Go.ChangeShapes Go.WideShapes Go.ChangeAt Go.RowKit
set_option linter.unusedVariables false

def nm (i : Nat) : List Nat := [97 + i / 26, 97 + i % 26]
def fsL (n : Nat) : List FnV := (List.range n).map fun i => (100 + i, [])
def nsL (N n : Nat) : List NmV := (List.range n).map fun i => (nm i, N - 1 - i)
theorem fsL_len (n : Nat) : (fsL n).length = n := by simp [fsL]
theorem nsL_len (N n : Nat) : (nsL N n).length = n := by simp [nsL]
theorem fsL_succ (n : Nat) : fsL (n + 1) = fsL n ++ [(100 + n, [])] := by simp [fsL, List.range_succ]
theorem nsL_succ (N n : Nat) : nsL N (n + 1) = nsL N n ++ [(nm n, N - 1 - n)] := by simp [nsL, List.range_succ]
theorem nm_lb {i : Nat} (h : i < 200) : Lb (nm i) := by intro v hv; simp [nm] at hv; omega
theorem nm_inj {i j : Nat} (h : nm i = nm j) : i = j := by
  simp only [nm, List.cons.injEq, and_true] at h
  omega
theorem fsL_ok (n : Nat) : ∀ f ∈ fsL n, FnOk f := by
  intro f hf
  obtain ⟨i, _, rfl⟩ := List.mem_map.mp hf
  intro v hv
  simp at hv
theorem atM_fsL {n k : Nat} (h : k < n) : atM (fsL n) (k : Int) = some (100 + k, []) := by
  have e : (fsL n).getD (k : Int).toNat (0, []) = (100 + k, []) := by
    rw [Int.toNat_natCast, List.getD_eq_getElem?_getD]
    unfold fsL
    rw [List.getElem?_map, List.getElem?_range h]
    rfl
  unfold atM
  rw [fsL_len, if_pos (by omega), e, if_neg (by intro q; have := q.1; simp at this)]
/-- Is the text one of the first so many names? -/
def isK (S : ByteArray) (i : Nat) : Bool := (List.range i).any fun j => (txt (nm j)).toList == S.toList
theorem isK_succ (S : ByteArray) (i : Nat) : isK S (i + 1) = (isK S i || ((txt (nm i)).toList == S.toList)) := by
  unfold isK; rw [List.range_succ, List.any_append]; simp
theorem byName_any' (N : Nat) (S : List UInt8) : ∀ js : List Nat, (∀ j ∈ js, j < N) → (byNameM (fsL N) S (js.map fun j => (nm j, N - 1 - j))).isSome = js.any fun j => (txt (nm j)).toList == S
  | [], _ => rfl
  | j :: js, h => by
    simp only [List.map_cons, byNameM, List.any_cons]
    by_cases c : ((txt (nm j)).toList == S) = true
    · have hj := h j (by simp)
      rw [if_pos c, c, atM_fsL (show N - 1 - j < N by omega)]; rfl
    · rw [if_neg c, byName_any' N S js fun a ha => h a (by simp [ha])]
      rw [show ((txt (nm j)).toList == S) = false by simpa using c, Bool.false_or]
theorem byName_is (N : Nat) (S : ByteArray) : (byNameM (fsL N) S.toList (nsL N N)).isSome = isK S N := byName_any' N S.toList (List.range N) fun j hj => List.mem_range.mp hj
theorem byName_at (N i : Nat) (hi : i < N) (hN : N ≤ 200) : ∀ js : List Nat, (∀ j ∈ js, j < N) → i ∈ js → byNameM (fsL N) (txt (nm i)).toList (js.map fun j => (nm j, N - 1 - j)) = some (100 + (N - 1 - i), [])
  | [], _, h => by simp at h
  | j :: js, h, hm => by
    simp only [List.map_cons, byNameM]
    have hj := h j (by simp)
    have he : ((txt (nm j)).toList == (txt (nm i)).toList) = (nm j == nm i) := txt_eq (nm_lb (by omega)) (nm_lb (by omega))
    rw [he]
    by_cases c : j = i
    · subst c
      rw [if_pos (by simp), atM_fsL (show N - 1 - j < N by omega)]
    · rw [if_neg (by intro q; exact c (nm_inj (eq_of_beq q)))]
      refine byName_at N i hi hN js (fun a ha => h a (by simp [ha])) ?_
      rcases List.mem_cons.mp hm with q | q
      · exact absurd q.symm c
      · exact q
theorem byName_own {N i : Nat} (hi : i < N) (hN : N ≤ 200) : byNameM (fsL N) (txt (nm i)).toList (nsL N N) = some (100 + (N - 1 - i), []) := byName_at N i hi hN (List.range N) (fun j hj => List.mem_range.mp hj) (List.mem_range.mpr hi)
theorem byOrd_own {N i : Nat} (hi : i < N) : byOrdM (fsL N) 3 (3 + (i : Int)) = some (100 + i, []) := by
  unfold byOrdM
  rw [if_neg (by omega), show (3 : Int) + (i : Int) - 3 = (i : Int) by omega, atM_fsL hi]
theorem byOrd_low (N : Nat) : byOrdM (fsL N) 3 2 = none := by unfold byOrdM; rw [if_pos (by omega)]
theorem byOrd_high (N : Nat) : byOrdM (fsL N) 3 (3 + (N : Int)) = none := by
  unfold byOrdM atM
  rw [if_neg (by omega), fsL_len, if_neg (by omega)]
end Go.Proofs.Ytbjabncefhgefaa
