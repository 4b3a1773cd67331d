/- package tlsdir: Parse of what is none; SameTls of two that are the same. -/
import Derived.Test.YtclbbekdkljepaaTlsB
namespace Go.Proofs.Ytclbbekdkljepaa
open Go.ChangeShapes Go.WideShapes Go.ChangeAt Go.RowKit
set_option linter.unusedVariables false

theorem SlT.int {w : World} {L : Option Addr} {l : List Int} (h : SlT intC 1 w L l) {i : Nat} (hi : i < l.length) : ∃ b off, L = some ⟨b, off, none⟩ ∧ b < w.heap.size ∧ w.cell? ⟨b, off + i, none⟩ = some (.int .i64 l[i]) := by
  rcases h with h | ⟨b, off, rfl, hlt, hc⟩
  · rw [h] at hi; simp at hi
  · exact ⟨b, off, rfl, hlt, by have := hc i hi 0 _ (by simp [intC]; rfl); simpa using this⟩

set_option maxRecDepth 100000 in
theorem sameInts_eq (A B : Option Addr) (l : List Int) (ca cb : Nat) (w : World) (hA : SlT intC 1 w A l) (hB : SlT intC 1 w B l) (hl : l.length ≤ 1000000) :
    Calls Try.prog 17 #[.slice A l.length ca, .slice B l.length cb] w fun e w' => e = .returned (.bool true) ∧ ∃ d, w' = w.drewN d := by
  have HA := Lib.hid hA
  have HB := Lib.hid hB
  clear hA hB
  go_enter Try.func17, Try.ntmps17
  go_wp2_with fail
  go_loopw [5] (fun v wr => ∃ i : Nat, i ≤ l.length ∧ v = .int .i64 i ∧ ∃ d, wr = w.drewN d) (fun v _ => l.length - (intOf v).toNat)
  case atStart => exact ⟨0, by omega, rfl, 0, rfl⟩
  case round =>
    obtain ⟨i, hi, rfl, hd⟩ := hrel
    have HD := Lib.hid hd
    by_cases hlt : i < l.length
    · obtain ⟨b, off, rfl, _, q0⟩ := (show SlT intC 1 wr A l by obtain ⟨d, rfl⟩ := hd; exact HA.out).int hlt
      obtain ⟨b2, off2, rfl, _, s0⟩ := (show SlT intC 1 wr B l by obtain ⟨d, rfl⟩ := hd; exact HB.out).int hlt
      generalize l[i] = x at *
      have hz : (0 : Int) ≤ (i : Int) := by omega
      have hzl : (i : Int) < (l.length : Int) := by omega
      clear hd
      go_wp2_with fail
      go_quiet (fail)
      go_wp2_with fail
      go_roundw
      case rel => exact ⟨i + 1, by omega, by go_num, by obtain ⟨d, rfl⟩ := HD.out; exact ⟨_, by rw [World.drewN_drewN]⟩⟩
      case measure => simp [intOf]; omega
    · obtain rfl : i = l.length := by omega
      clear hd
      go_wp2_with fail
      go_ret
      exact ⟨rfl, HD.out⟩

end Go.Proofs.Ytclbbekdkljepaa
