/- package rel: take. -/
import Derived.Test.YtclbbekdkljepaaRel
namespace Go.Proofs.Ytclbbekdkljepaa
open Go.ChangeShapes Go.WideShapes Go.ChangeAt Go.RowKit
set_option linter.unusedVariables false

/-- Whether a site goes in, where tk tells which of n bytes are taken. -/
def takeP (n : Nat) (tk : Nat → Bool) (k r : Int) : Prop := relLen k ≠ 0 ∧ r + relLen k ≤ n ∧ ∀ j : Nat, r ≤ j → (j : Int) < r + relLen k → tk j = false

def setT (tk : Nat → Bool) (r e : Int) (j : Nat) : Bool := tk j || (decide (r ≤ j) && decide ((j : Int) < e))

/-- The row g of n marks: if b, just those of t are set. -/
def TakenTo (w : World) (g n : Nat) (b : Bool) (t : Nat → Bool) : Prop := ∃ tk', Own w g n (fun i => .bool (tk' i)) ∧ (b = true → tk' = t)

theorem grown_below {w w' : World} (h : Below w.heap.size w w') (row : Option Nat) : w.grownBy w' row := ⟨h.os, h.tape, h.output, h.size, fun k hk _ => h.block k hk⟩
theorem own_two (w : World) (x y : Value) (t : TypeId) : Own (w.alloc (.cells #[x, y] t)) w.heap.size 2 (fun i => if i = 0 then x else y) :=
  ⟨by simp, fun i hi => ⟨by rcases (by omega : i = 0 ∨ i = 1) with rfl | rfl <;> simp [go_sem], by simp [go_sem]⟩⟩

end Go.Proofs.Ytclbbekdkljepaa
