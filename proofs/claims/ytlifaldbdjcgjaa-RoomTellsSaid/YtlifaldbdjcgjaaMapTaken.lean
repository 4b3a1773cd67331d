/- package vmem: Map where a page lies already: nothing is mapped. -/
import Derived.Test.YtlifaldbdjcgjaaVaskA
namespace Go.Proofs.Ytlifaldbdjcgjaa
open Go.ChangeShapes Go.WideShapes Go.ChangeAt Go.RowKit
open Go.Maps (Keyed)
set_option linter.unusedVariables false
set_option linter.unusedSimpArgs false

set_option maxRecDepth 100000 in
set_option maxHeartbeats 1000000 in
theorem map_taken (R : Nat → Prop) (w : World) (M m : Nat) (most : Int) (mp : Int → Option Pg) (a p : Int) (n : Nat) (h0 : 0 ≤ a) (hr : RowOk a n) (p0 : 0 ≤ p) (p1 : p ≤ 15) (h : ∃ i : Nat, i < n ∧ mp (a + i * 4096) ≠ none) (H : MemAt R w M m most mp) :
    Calls Try.prog 13 #[.pointer (some ⟨M, 0, none⟩), .int .u64 a, .int .i64 n, .int .i64 p] w fun e w' => e = .returned (.int .i64 1) ∧ ∃ k, w' = w.drewN k := by
  obtain ⟨r1, r2, r3, r4⟩ := hr
  have HR := Lib.hid (show RowOk a n from ⟨r1, r2, r3, r4⟩)
  have HM := Lib.hid H
  have HF := Lib.hid h
  have ha : a < 140737488355328 := by omega
  clear r1 h H
  go_enter Try.func13, Try.ntmps13
  go_wp2_with (first | (go_at_call 34; refine (rowOk_yes _ _ _ h0 HR.out).mono ?_; rintro e w' ⟨rfl, rfl⟩) | (go_at_call 35; refine (protOk_yes _ _ p0 p1).mono ?_; rintro e w' ⟨rfl, rfl⟩))
  go_loopw [21] (fun o wr => ∃ i : Nat, i ≤ n ∧ o = .int .i64 i ∧ (∀ j : Nat, j < i → mp (a + j * 4096) = none) ∧ ∃ k, wr = w.drewN k) (fun o _ => n - (intOf o).toNat)
  case atStart => exact ⟨0, Nat.zero_le _, rfl, fun j hj => by omega, 0, rfl⟩
  case round =>
    obtain ⟨i, hi, rfl, hj, hk⟩ := hrel
    obtain ⟨bm, f, S, hRs⟩ : MemAt R wr M m most mp := by obtain ⟨k, rfl⟩ := hk; exact HM.out.drewN k
    have HK := Lib.hid hk
    have HJ := Lib.hid hj
    have k1 := S.c1
    clear hk hj
    by_cases hlt : i < n
    · cases hg : mp (a + i * 4096) with
      | some g =>
        obtain ⟨B, _, _, hl⟩ := look_some S hg (by omega) (by omega)
        clear hg
        go_wp2_with fail
        go_quiet ((go_at_call 36; exact Calls.quiet_of_same (place_q _ _ _ h0 ha (by omega) (by omega))))
        go_wp2
        go_ret
        exact ⟨rfl, by obtain ⟨k, rfl⟩ := HK.out; exact ⟨k + nq, by rw [World.drewN_drewN]⟩⟩
      | none =>
        have hl := look_none S hg (by omega) (by omega)
        have HG := Lib.hid hg
        clear hg
        go_wp2_with fail
        go_quiet ((go_at_call 36; exact Calls.quiet_of_same (place_q _ _ _ h0 ha (by omega) (by omega))))
        go_wp2
        go_roundw
        case rel => exact ⟨i + 1, by omega, by go_num, fun j hj => by rcases Nat.lt_or_eq_of_le (Nat.le_of_lt_succ hj) with h | h; exact HJ.out j h; rw [h, HG.out], by obtain ⟨k, rfl⟩ := HK.out; exact ⟨k + nq, by rw [World.drewN_drewN]⟩⟩
        case measure => simp [intOf]; omega
    · obtain ⟨j, hj, hm⟩ := HF.out
      exact absurd (HJ.out j (by omega)) hm
end Go.Proofs.Ytlifaldbdjcgjaa
