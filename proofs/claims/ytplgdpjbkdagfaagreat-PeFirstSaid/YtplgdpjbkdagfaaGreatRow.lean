/- package row; slices of elements of several cells each. -/
import Derived.Test.YtplgdpjbkdagfaaGreatKeep
import Derived.Deep.QuietTactic
import Derived.BigQuiet
namespace Go.Proofs.YtplgdpjbkdagfaaGreat
set_option maxRecDepth 100000
open Go.ChangeShapes Go.WideShapes Go.ChangeAt Go.RowKit
set_option linter.unusedVariables false
set_option linter.unusedSimpArgs false

theorem belD {B : Nat} {w wr : World} (h : Below B w wr) (n : Nat) : Below B w (wr.drewN n) := ⟨h.os, h.tape, h.output, h.size, h.block⟩

theorem rowIn_any (A : Option Addr) (len cap : Nat) (a n : Int) (b : Bool) (w : World) (hl : len ≤ 9223372036854775807) (n1 : -9223372036854775808 ≤ n) (n2 : n ≤ 9223372036854775807) (hb : b = true ↔ (0 ≤ a ∧ 0 ≤ n ∧ a ≤ len - n)) :
    Calls Tryz.prog 113 #[.slice A len cap, .int .i64 a, .int .i64 n] w fun e w' => e = .returned (.bool b) ∧ w = w' := by
  by_cases c1 : 0 ≤ a
  · by_cases c2 : 0 ≤ n
    · by_cases c3 : a ≤ len - n
      · have hbt : b = true := hb.2 ⟨c1, c2, c3⟩
        subst hbt
        have c4 : decide (a ≤ (len : Int) - n) = true := decide_eq_true c3
        clear hb
        go_enter Tryz.func113, Tryz.ntmps113
        go_wp2
        go_ret
        exact ⟨rfl, rfl⟩
      · have hbt : b = false := by cases b with
          | false => rfl
          | true => exact absurd (hb.1 rfl).2.2 c3
        subst hbt
        have c4 : decide (a ≤ (len : Int) - n) = false := decide_eq_false c3
        clear hb c3
        go_enter Tryz.func113, Tryz.ntmps113
        go_wp2
        go_ret
        exact ⟨rfl, rfl⟩
    · have hbt : b = false := by cases b with
        | false => rfl
        | true => exact absurd (hb.1 rfl).2.1 c2
      subst hbt
      clear hb
      go_enter Tryz.func113, Tryz.ntmps113
      go_wp2
      go_ret
      exact ⟨rfl, rfl⟩
  · have hbt : b = false := by cases b with
      | false => rfl
      | true => exact absurd (hb.1 rfl).1 c1
    subst hbt
    clear hb
    go_enter Tryz.func113, Tryz.ntmps113
    go_wp2
    go_ret
    exact ⟨rfl, rfl⟩
end Go.Proofs.YtplgdpjbkdagfaaGreat
