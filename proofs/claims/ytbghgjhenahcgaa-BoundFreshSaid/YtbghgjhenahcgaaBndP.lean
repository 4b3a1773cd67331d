/- Rows and modules by number: whether all is as it was bound. -/
import Derived.Test.YtbghgjhenahcgaaBndS
namespace Go.Proofs.Ytbghgjhenahcgaa
set_option linter.unusedVariables false

/-- A module's name in its rows, and among the modules. -/
def upN (i : Nat) : List Nat := 77 :: digN i
def loN (i : Nat) : List Nat := 109 :: digN i ++ [46, 100, 108, 108]
theorem keys_all : ((List.range 20).all fun i => (List.range 20).all fun j => (keyN (loN j) == keyN (upN i)) == (j == i)) = true := by decide +kernel
theorem keys_of {i j : Nat} (hi : i < 20) (hj : j < 20) : (keyN (loN j) == keyN (upN i)) = (j == i) := by
  have := List.all_eq_true.mp (List.all_eq_true.mp keys_all i (List.mem_range.mpr hi)) j (List.mem_range.mpr hj)
  exact eq_of_beq this
theorem hasM_map {i : Nat} (hi : i < 20) (v : Int) (u : Nat → Int) : ∀ js : List Nat, (∀ j ∈ js, j < 20) → hasM (upN i, v) (js.map fun j => (loN j, u j)) = (decide (i ∈ js) && (u i == v))
  | [], _ => by simp [hasM]
  | j :: js, h => by
    simp only [List.map_cons, hasM, keys_of hi (h j (by simp))]
    by_cases e : j = i
    · subst e; simp
    · have e' : (j == i) = false := by simpa using e
      simp only [e', hasM_map hi v u js fun a ha => h a (by simp [ha])]
      simp [Ne.symm e]

def upL (n : Nat) (v : Nat → Int) : List FRow := (List.range n).map fun i => (upN i, v i)
def loL (n : Nat) (v : Nat → Int) : List FRow := (List.range n).reverse.map fun j => (loN j, v j)
theorem fresh_of (n : Nat) (hn : n ≤ 20) (v u : Nat → Int) (js : List Nat) (hj : ∀ j ∈ js, j < 20) :
    freshM (upL n v) (js.map fun j => (loN j, u j)) = decide (∀ i, i < n → i ∈ js ∧ u i = v i) := by
  unfold freshM upL
  rw [List.all_map, Bool.eq_iff_iff, List.all_eq_true, decide_eq_true_iff]
  constructor
  · intro h i hi
    have := h i (List.mem_range.mpr hi)
    simp only [Function.comp] at this
    rw [hasM_map (by omega) _ _ js hj] at this
    simpa using this
  · intro h i hi
    have hi' := List.mem_range.mp hi
    simp only [Function.comp]
    rw [hasM_map (by omega) _ _ js hj]
    simpa using h i hi'
theorem fresh_same (n : Nat) (hn : n ≤ 20) (v : Nat → Int) : freshM (upL n v) (loL n v) = true := by
  unfold loL
  rw [fresh_of n hn v v _ (fun j hj => by have := List.mem_range.mp (List.mem_reverse.mp hj); omega), decide_eq_true_iff]
  intro i hi
  exact ⟨List.mem_reverse.mpr (List.mem_range.mpr hi), rfl⟩
/-- The place of the k-th of the modules. -/
theorem rev_get (n k : Nat) (hk : k < n) : (List.range n).reverse[k]? = some (n - 1 - k) := by
  rw [List.getElem?_reverse (by simpa using hk), List.length_range, List.getElem?_range (by omega)]
theorem fresh_turned (n : Nat) (hn : n ≤ 20) (v : Nat → Int) (k : Nat) (hk : k < n) (x : Int) (hx : x ≠ v (n - 1 - k)) :
    freshM (upL n v) ((loL n v).set k (loN (n - 1 - k), x)) = false := by
  have e : (loL n v).set k (loN (n - 1 - k), x) = (List.range n).reverse.map fun j => (loN j, if j = n - 1 - k then x else v j) := by
    unfold loL
    apply List.ext_getElem?
    intro i
    rw [List.getElem?_set]
    by_cases c : k = i
    · subst c
      rw [if_pos rfl, List.getElem?_map, rev_get n k hk]
      simp [hk]
    · rw [if_neg c, List.getElem?_map, List.getElem?_map]
      rcases Nat.lt_or_ge i n with hi | hi
      · rw [rev_get n i hi]
        simp only [Option.map_some]
        rw [if_neg (by omega)]
      · rw [List.getElem?_eq_none (by simpa using hi)]; rfl
  rw [e, fresh_of n hn v _ _ (fun j hj => by have := List.mem_range.mp (List.mem_reverse.mp hj); omega), decide_eq_false_iff_not]
  intro h
  have := (h (n - 1 - k) (by omega)).2
  simp only [if_true] at this
  exact hx this
theorem fresh_gone (n : Nat) (hn : n ≤ 20) (v : Nat → Int) (k : Nat) (hk : k < n) :
    freshM (upL n v) ((loL n v).take k ++ (loL n v).drop (k + 1)) = false := by
  have e : (loL n v).take k ++ (loL n v).drop (k + 1) = ((List.range n).reverse.take k ++ (List.range n).reverse.drop (k + 1)).map fun j => (loN j, v j) := by
    unfold loL; rw [List.map_append, List.map_take, List.map_drop]
  rw [e, fresh_of n hn v v _ (fun j hj => by
    rcases List.mem_append.mp hj with h | h
    · have := List.mem_range.mp (List.mem_reverse.mp (List.mem_of_mem_take h)); omega
    · have := List.mem_range.mp (List.mem_reverse.mp (List.mem_of_mem_drop h)); omega), decide_eq_false_iff_not]
  intro h
  have hm := (h (n - 1 - k) (by omega)).1
  rcases List.mem_append.mp hm with hm | hm
  · obtain ⟨i, hi, hie⟩ := List.mem_iff_getElem.mp hm
    rw [List.length_take, List.length_reverse, List.length_range] at hi
    rw [List.getElem_take] at hie
    have := rev_get n i (by omega)
    rw [List.getElem?_eq_getElem (by simp; omega), hie] at this
    injection this with this
    omega
  · obtain ⟨i, hi, hie⟩ := List.mem_iff_getElem.mp hm
    rw [List.length_drop, List.length_reverse, List.length_range] at hi
    rw [List.getElem_drop] at hie
    have := rev_get n (k + 1 + i) (by omega)
    rw [List.getElem?_eq_getElem (by simp; omega), hie] at this
    injection this with this
    omega
end Go.Proofs.Ytbghgjhenahcgaa
