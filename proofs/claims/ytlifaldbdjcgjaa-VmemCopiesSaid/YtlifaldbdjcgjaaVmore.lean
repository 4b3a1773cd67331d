/- Memory of pages: what Map refuses; a memory asked for more pages than there may be. -/
import Derived.Test.YtlifaldbdjcgjaaVwrite
namespace Go.Proofs.Ytlifaldbdjcgjaa
open Go.ChangeShapes Go.WideShapes Go.ChangeAt Go.RowKit
open Go.Maps (Keyed)
set_option linter.unusedVariables false
set_option linter.unusedSimpArgs false

theorem protOk_no (p : Int) (w : World) (h : ¬ (0 ≤ p ∧ p ≤ 15)) : Calls Try.prog 35 #[.int .i64 p] w fun e w' => e = .returned (.bool false) ∧ w = w' := by
  by_cases c : 0 ≤ p
  · have c2 : ¬ p ≤ 15 := by omega
    clear h
    go_enter Try.func35, Try.ntmps35
    go_wp2
    go_ret
    exact ⟨rfl, rfl⟩
  · clear h
    go_enter Try.func35, Try.ntmps35
    go_wp2
    go_ret
    exact ⟨rfl, rfl⟩

theorem map_row (w : World) (M : Nat) (a n p : Int) (h0 : 0 ≤ a) (h1 : a < 18446744073709551616) (h : ¬ RowOk a n) :
    Calls Try.prog 13 #[.pointer (some ⟨M, 0, none⟩), .int .u64 a, .int .i64 n, .int .i64 p] w fun e w' => e = .returned (.int .i64 1) ∧ w = w' := by
  have HH := Lib.hid h
  clear h
  go_enter Try.func13, Try.ntmps13
  go_wp2_with (go_at_call 34; refine (rowOk_no _ _ _ h0 h1 HH.out).mono ?_; rintro e w' ⟨rfl, rfl⟩)
  go_ret
  exact ⟨rfl, rfl⟩

theorem map_prot (w : World) (M : Nat) (a n p : Int) (h0 : 0 ≤ a) (h : RowOk a n) (hp : ¬ (0 ≤ p ∧ p ≤ 15)) :
    Calls Try.prog 13 #[.pointer (some ⟨M, 0, none⟩), .int .u64 a, .int .i64 n, .int .i64 p] w fun e w' => e = .returned (.int .i64 1) ∧ w = w' := by
  have HH := Lib.hid h
  have HP := Lib.hid hp
  clear h hp
  go_enter Try.func13, Try.ntmps13
  go_wp2_with (first | (go_at_call 34; refine (rowOk_yes _ _ _ h0 HH.out).mono ?_; rintro e w' ⟨rfl, rfl⟩) | (go_at_call 35; refine (protOk_no _ _ HP.out).mono ?_; rintro e w' ⟨rfl, rfl⟩))
  go_ret
  exact ⟨rfl, rfl⟩

set_option maxRecDepth 100000 in
theorem map_space (R : Nat → Prop) (w : World) (M m : Nat) (most : Int) (mp : Int → Option Pg) (a p : Int) (n : Nat) (h0 : 0 ≤ a) (hr : RowOk a n) (p0 : 0 ≤ p) (p1 : p ≤ 15) (hfree : ∀ i : Nat, i < n → mp (a + i * 4096) = none) (hfit : most < (m : Int) + n) (H : MemAt R w M m most mp) :
    Calls Try.prog 13 #[.pointer (some ⟨M, 0, none⟩), .int .u64 a, .int .i64 n, .int .i64 p] w fun e w' => e = .returned (.int .i64 13) ∧ ∃ k, w' = w.drewN k := by
  obtain ⟨r1, r2, r3, r4⟩ := hr
  have HR := Lib.hid (show RowOk a n from ⟨r1, r2, r3, r4⟩)
  have HM := Lib.hid H
  have HF := Lib.hid hfree
  have hmost := (show 0 ≤ most ∧ most ≤ 1024 ∧ (m : Int) ≤ most by obtain ⟨bm, f, S, _⟩ := H; exact ⟨S.low, S.high, S.fits⟩)
  obtain ⟨hm0, hm1, hm2⟩ := hmost
  have ha : a < 140737488355328 := by omega
  clear r1 hfree
  go_enter Try.func13, Try.ntmps13
  go_wp2_with (first | (go_at_call 34; refine (rowOk_yes _ _ _ h0 HR.out).mono ?_; rintro e w' ⟨rfl, rfl⟩) | (go_at_call 35; refine (protOk_yes _ _ p0 p1).mono ?_; rintro e w' ⟨rfl, rfl⟩))
  clear H
  go_loopw [21] (fun o wr => ∃ i : Nat, i ≤ n ∧ o = .int .i64 i ∧ ∃ k, wr = w.drewN k) (fun o _ => n - (intOf o).toNat)
  case atStart => exact ⟨0, Nat.zero_le _, rfl, 0, rfl⟩
  case round =>
    obtain ⟨i, hi, rfl, hk⟩ := hrel
    obtain ⟨bm, f, S, hRs⟩ : MemAt R wr M m most mp := by obtain ⟨k, rfl⟩ := hk; exact HM.out.drewN k
    have HK := Lib.hid hk
    have k1 := S.c1
    clear hk
    by_cases hlt : i < n
    · have hfr := HF.out i hlt
      have hl := look_none S hfr (by omega) (by omega)
      clear hfr
      go_wp2_with fail
      go_quiet ((go_at_call 36; exact Calls.quiet_of_same (place_q _ _ _ h0 ha (by omega) (by omega))))
      go_wp2
      go_roundw
      case rel => exact ⟨i + 1, by omega, by go_num, by obtain ⟨k, rfl⟩ := HK.out; exact ⟨k + nq, by rw [World.drewN_drewN]⟩⟩
      case measure => simp [intOf]; omega
    · obtain rfl : i = n := by omega
      have Hr := Lib.hid (show MemAt R wr M m most mp from ⟨bm, f, S, hRs⟩)
      clear hlt hi k1
      go_wp2_with (go_at_call 22; refine (free_any R _ M m most mp Hr.out).mono ?_; rintro e w2 ⟨rfl, hk2⟩)
      go_ret
      exact ⟨rfl, by obtain ⟨k, rfl⟩ := HK.out; obtain ⟨k2, rfl⟩ := hk2; exact ⟨k + k2, by rw [World.drewN_drewN]⟩⟩

theorem newMem_big (R : Nat → Prop) (w : World) (n : Int) (hR : ∀ k, R k → k < w.heap.size) (h0 : 1024 < n) (h1 : n ≤ 9223372036854775807) : Calls Try.prog 12 #[.int .i64 n] w fun e w' => ∃ M, e = .returned (.pointer (some ⟨M, 0, none⟩)) ∧ MemAt R w' M 0 1024 (fun _ => none) ∧ Kept R w w' := by
  have hmm := @run_makeMap Try.prog
  have e1 : min n 1024 = 1024 := by omega
  have e2 : max n 0 = n := by omega
  go_enter Try.func12, Try.ntmps12
  go_wp2
  go_ret
  refine ⟨w.heap.size + 1, rfl, ⟨w.heap.size, fun _ => none, ⟨by simp [go_sem], by simp [go_sem], by simp, (PM.made w _ _ _).kept (World.grownBy_alloc _ _ none) (by simp), fun _ => rfl, fun _ _ _ h => by (cases h), fun _ _ _ h => by (cases h), fun _ _ h => by (cases h), by omega, by omega, by simp⟩, fun h => by (have := hR _ h; omega), fun h => by (have := hR _ h; omega), fun _ _ h => by (cases h), fun k h => by (have := hR _ h; simp; omega)⟩, ((Kept.refl R w).alloc hR _).alloc hR _⟩
end Go.Proofs.Ytlifaldbdjcgjaa
