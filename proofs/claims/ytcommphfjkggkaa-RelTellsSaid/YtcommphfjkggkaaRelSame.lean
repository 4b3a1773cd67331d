/- SameRels of two that are the same. -/
import Derived.Test.YtcommphfjkggkaaRelApart
namespace Go.Proofs.Ytcommphfjkggkaa
open Go.ChangeShapes Go.WideShapes Go.ChangeAt Go.RowKit
set_option linter.unusedVariables false

set_option maxRecDepth 100000 in
theorem sameRels_eq (A B : Option Addr) (l : List Site) (ca cb : Nat) (w : World) (hA : SlT relC 2 w A l) (hB : SlT relC 2 w B l) (hl : l.length ≤ 1000000) :
    Calls Try.prog 16 #[.slice A l.length ca, .slice B l.length cb] w fun e w' => e = .returned (.bool true) ∧ ∃ d, w' = w.drewN d := by
  have HA := Lib.hid hA
  have HB := Lib.hid hB
  clear hA hB
  go_enter Try.func16, Try.ntmps16
  go_wp2_with fail
  go_loopw [5] (fun v wr => ∃ i : Nat, i ≤ l.length ∧ v = .int .i64 i ∧ ∃ d, wr = w.drewN d) (fun v _ => l.length - (intOf v).toNat)
  case atStart => exact ⟨0, by omega, rfl, 0, rfl⟩
  case round =>
    obtain ⟨i, hi, rfl, hd⟩ := hrel
    have HD := Lib.hid hd
    by_cases hlt : i < l.length
    · obtain ⟨b, off, rfl, _, q0, q1⟩ := (show SlT relC 2 wr A l by obtain ⟨d, rfl⟩ := hd; exact HA.out).site hlt
      obtain ⟨b2, off2, rfl, _, s0, s1⟩ := (show SlT relC 2 wr B l by obtain ⟨d, rfl⟩ := hd; exact HB.out).site hlt
      generalize l[i] = x at *
      obtain ⟨k, r⟩ := x
      simp only at q0 q1 s0 s1
      have hz : (0 : Int) ≤ (i : Int) := by omega
      have hzl : (i : Int) < (l.length : Int) := by omega
      clear hd
      go_wp2_with fail
      go_quiet (fail)
      go_wp2_with fail
      go_roundw
      case rel => exact ⟨i + 1, by omega, by go_num, by obtain ⟨d, rfl⟩ := HD.out; exact ⟨_, by rw [World.drewN_drewN]⟩⟩
      case measure => simp [intOf]; omega
    · obtain rfl : i = l.length := by omega
      clear hd
      go_wp2_with fail
      go_ret
      exact ⟨rfl, HD.out⟩
end Go.Proofs.Ytcommphfjkggkaa
