/- package rel: sites, blocks' heads. -/
import Derived.Test.YtclbbekdkljepaaRow
namespace Go.Proofs.Ytclbbekdkljepaa
open Go.ChangeShapes Go.WideShapes Go.ChangeAt Go.RowKit
set_option linter.unusedVariables false

/-- How many bytes a site of a kind has. -/
def relLen (k : Int) : Int := if k = 3 then 4 else if k = 10 then 8 else 0
theorem relLen_bd (k : Int) : 0 ≤ relLen k ∧ relLen k ≤ 8 := by unfold relLen; split <;> (try split) <;> omega

/-- A block's head at place o of a directory that ends at e: its page, and how long it is. -/
def headS (f : Nat → Int) (o e : Nat) : Option (Int × Int) :=
  if e < o + 8 then none else
  if rdF f o 4 % 4096 ≠ 0 ∨ rdF f (o + 4) 4 < 8 ∨ rdF f (o + 4) 4 % 4 ≠ 0 ∨ (e : Int) - o < rdF f (o + 4) 4 then none else
  some (rdF f o 4, rdF f (o + 4) 4)

theorem headS_some {f : Nat → Int} {o e : Nat} {p n : Int} (h : headS f o e = some (p, n)) : o + 8 ≤ e ∧ p = rdF f o 4 ∧ p % 4096 = 0 ∧ 8 ≤ n ∧ n % 4 = 0 ∧ n ≤ (e : Int) - o := by
  unfold headS at h
  by_cases c : e < o + 8
  · rw [if_pos c] at h; cases h
  · rw [if_neg c] at h
    by_cases c2 : rdF f o 4 % 4096 ≠ 0 ∨ rdF f (o + 4) 4 < 8 ∨ rdF f (o + 4) 4 % 4 ≠ 0 ∨ (e : Int) - o < rdF f (o + 4) 4
    · rw [if_pos c2] at h; cases h
    · rw [if_neg c2] at h
      injection h with h
      injection h with h1 h2
      subst h1 h2
      refine ⟨by omega, rfl, ?_, ?_, ?_, ?_⟩ <;> (have := c2; simp only [not_or, Int.not_lt] at this; omega)

end Go.Proofs.Ytclbbekdkljepaa
