/- law 23: GatesPlay: the table where threads are cleared and numbers freed. -/
import Derived.Test.YtijggmioknneoaaPlayD
namespace Go.Proofs.Ytijggmioknneoaa
open Go.ChangeShapes Go.WideShapes Go.ChangeAt Go.RowKit
set_option linter.unusedVariables false
set_option linter.unusedSimpArgs false

/-- Column x of the first k threads is nought. -/
def tabF (u : Nat → Int) (x k : Nat) (q : Nat) : Int := if q % 32 = x ∧ q / 32 < k then 0 else u q
theorem tabF_zero (u : Nat → Int) (x : Nat) : tabF u x 0 = u := by
  funext q
  exact if_neg (by omega)
theorem tabF_succ (u : Nat → Int) {x : Nat} (hx : x < 32) (k : Nat) : (fun q => if q = 32 * k + x then 0 else tabF u x k q) = tabF u x (k + 1) := by
  funext q
  unfold tabF
  by_cases c : q = 32 * k + x
  · rw [if_pos c, if_pos (by omega)]
  · rw [if_neg c]
    by_cases d : q % 32 = x ∧ q / 32 < k
    · rw [if_pos d, if_pos (by omega)]
    · rw [if_neg d, if_neg (by omega)]
theorem Agrees.free {v : Int → Nat → Int} {u : Nat → Int} (h : Agrees v u) (x : Nat) : Agrees (freeV v x) (tabF u x 4) := fun k i h1 h2 => by
  show (if (32 * k + i) % 32 = x ∧ (32 * k + i) / 32 < 4 then 0 else u (32 * k + i)) = freeV v x k i
  unfold freeV
  by_cases c : i = x
  · rw [if_pos (by omega), if_pos c]
  · rw [if_neg (by omega), if_neg c]
    exact h k i h1 h2
/-- Thread k's row is noughts. -/
def tabC (u : Nat → Int) (k : Nat) (q : Nat) : Int := if q / 32 = k then 0 else u q
theorem Agrees.clear {v : Int → Nat → Int} {u : Nat → Int} (h : Agrees v u) (k : Nat) : Agrees (clearV v k) (tabC u k) := fun k' i h1 h2 => by
  show (if (32 * k' + i) / 32 = k then 0 else u (32 * k' + i)) = clearV v k k' i
  unfold clearV
  by_cases c : k' = k
  · rw [if_pos (by omega), if_pos (by omega)]
  · rw [if_neg (by omega), if_neg (by omega)]
    exact h k' i h1 h2
/-- A thread that is none of the table's is cleared. -/
theorem Agrees.clear_no {v : Int → Nat → Int} {u : Nat → Int} (h : Agrees v u) {t : Int} (ht : t < 0 ∨ 3 < t) : Agrees (clearV v t) u := fun k i h1 h2 => by
  unfold clearV
  rw [if_neg (by omega)]
  exact h k i h1 h2
theorem SlotsAt.zero {R : Nat → Prop} {w : World} {s n : Nat} {v : Int → Nat → Int} (H : SlotsAt R w s n v) {t : Int} (ht : t ≤ 0) (i : Nat) : v t i = 0 := by
  obtain ⟨bm, m, f, S, _⟩ := H
  cases hf : f t with
  | none => exact S.nil t hf i
  | some B =>
    have := S.pos t B hf
    omega
theorem Agrees.clear_zero {R : Nat → Prop} {w : World} {s n : Nat} {v : Int → Nat → Int} {u : Nat → Int} (h : Agrees v u) (H : SlotsAt R w s n v) : Agrees (clearV v 0) u := fun k i h1 h2 => by
  unfold clearV
  by_cases c : (k : Int) = 0
  · rw [if_pos c, h k i h1 h2, c]
    exact H.zero (by omega) i
  · rw [if_neg c]
    exact h k i h1 h2
end Go.Proofs.Ytijggmioknneoaa
