/- Where there is room (package room). -/
import Derived.Test.YtlifaldbdjcgjaaVmap
namespace Go.Proofs.Ytlifaldbdjcgjaa
open Go.ChangeShapes Go.WideShapes Go.ChangeAt Go.RowKit
open Go.Maps (Keyed)
set_option linter.unusedVariables false
set_option linter.unusedSimpArgs false

theorem ret_u64 {a b : Int} (h : a = b) : Value.int .u64 a = .int .u64 b := by rw [h]

/-- There is room for n pages at a. -/
def RoomOk (mp : Int → Option Pg) (a n : Int) : Prop := a % 65536 = 0 ∧ 65536 ≤ a ∧ 1 ≤ n ∧ n ≤ 1024 ∧ a + n * 4096 ≤ 140737488355328 ∧ ∀ i : Nat, (i : Int) < n → mp (a + i * 4096) = none

theorem page_self {a : Int} (h : a % 65536 = 0) (i : Nat) : a + i * 4096 - (a + i * 4096) % 4096 = a + i * 4096 := by omega

theorem is_yes (R : Nat → Prop) (w : World) (M m : Nat) (most : Int) (mp : Int → Option Pg) (a : Int) (n : Nat) (h : RoomOk mp a n) (H : MemAt R w M m most mp) :
    Calls Try.prog 15 #[.pointer (some ⟨M, 0, none⟩), .int .u64 a, .int .i64 n] w fun e w' => e = .returned (.bool true) ∧ ∃ k, w' = w.drewN k := by
  obtain ⟨h1, h2, h3, h4, h5, h6⟩ := h
  have e1 : (a % 65536 != 0) = false := by rw [bne_eq_false_iff_eq]; exact h1
  have h7 : a < 140737488355328 := by omega
  have e2 : decide (140737488355328 - a < n * 4096) = false := decide_eq_false (by omega)
  have H6 := Lib.hid h6
  have H1 := Lib.hid h1
  have HM := Lib.hid H
  clear h6 h1 H
  go_enter Try.func15, Try.ntmps15
  go_wp2_with fail
  go_loopw [36] (fun o wr => ∃ i : Nat, i ≤ n ∧ o = .int .i64 i ∧ ∃ k, wr = w.drewN k) (fun o _ => n - (intOf o).toNat)
  case atStart => exact ⟨0, Nat.zero_le _, rfl, 0, rfl⟩
  case round =>
    obtain ⟨i, hi, rfl, hk⟩ := hrel
    have Hr : Hid (MemAt R wr M m most mp) := by obtain ⟨k, rfl⟩ := hk; exact HM.out.drewN k
    have HK := Lib.hid hk
    clear hk
    by_cases hlt : i < n
    · have hfr := Lib.hid (H6.out i (by omega))
      have hps := Lib.hid (page_self H1.out i)
      go_wp2_with (go_at_call 33; refine (prot_no R _ M m most mp _ (by omega) (by omega) Hr.out (by rw [hps.out]; exact hfr.out)).mono ?_; rintro e w2 ⟨rfl, hk2⟩; have HK2 := Lib.hid hk2; clear hk2)
      go_roundw
      case rel => exact ⟨i + 1, by omega, by go_num, by obtain ⟨k, rfl⟩ := HK.out; obtain ⟨k2, rfl⟩ := HK2.out; exact ⟨k + k2, by rw [World.drewN_drewN]⟩⟩
      case measure => simp [intOf]; omega
    · obtain rfl : i = n := by omega
      clear hlt
      go_wp2
      go_ret
      exact ⟨rfl, HK.out⟩

theorem is_full (R : Nat → Prop) (w : World) (M m : Nat) (most : Int) (mp : Int → Option Pg) (a : Int) (n : Nat) (h1 : a % 65536 = 0) (h2 : 65536 ≤ a) (h3 : 1 ≤ n) (h4 : n ≤ 1024) (h5 : a + n * 4096 ≤ 140737488355328) (h6 : ∃ i : Nat, i < n ∧ mp (a + i * 4096) ≠ none) (H : MemAt R w M m most mp) :
    Calls Try.prog 15 #[.pointer (some ⟨M, 0, none⟩), .int .u64 a, .int .i64 n] w fun e w' => e = .returned (.bool false) ∧ ∃ k, w' = w.drewN k := by
  have e1 : (a % 65536 != 0) = false := by rw [bne_eq_false_iff_eq]; exact h1
  have h7 : a < 140737488355328 := by omega
  have e2 : decide (140737488355328 - a < n * 4096) = false := decide_eq_false (by omega)
  have H6 := Lib.hid h6
  have H1 := Lib.hid h1
  have HM := Lib.hid H
  clear h6 h1 H
  go_enter Try.func15, Try.ntmps15
  go_wp2_with fail
  go_loopw [36] (fun o wr => ∃ i : Nat, i ≤ n ∧ o = .int .i64 i ∧ (∀ j : Nat, j < i → mp (a + j * 4096) = none) ∧ ∃ k, wr = w.drewN k) (fun o _ => n - (intOf o).toNat)
  case atStart => exact ⟨0, Nat.zero_le _, rfl, fun j hj => by omega, 0, rfl⟩
  case round =>
    obtain ⟨i, hi, rfl, hj, hk⟩ := hrel
    have Hr : Hid (MemAt R wr M m most mp) := by obtain ⟨k, rfl⟩ := hk; exact HM.out.drewN k
    have HK := Lib.hid hk
    have HJ := Lib.hid hj
    clear hk hj
    by_cases hlt : i < n
    · have hps := Lib.hid (page_self H1.out i)
      cases hg : mp (a + i * 4096) with
      | none =>
        have HG := Lib.hid hg
        clear hg
        go_wp2_with (go_at_call 33; refine (prot_no R _ M m most mp _ (by omega) (by omega) Hr.out (by rw [hps.out]; exact HG.out)).mono ?_; rintro e w2 ⟨rfl, hk2⟩; have HK2 := Lib.hid hk2; clear hk2)
        go_roundw
        case rel => exact ⟨i + 1, by omega, by go_num, fun j hj => by rcases Nat.lt_or_eq_of_le (Nat.le_of_lt_succ hj) with h | h; exact HJ.out j h; rw [h]; exact HG.out, by obtain ⟨k, rfl⟩ := HK.out; obtain ⟨k2, rfl⟩ := HK2.out; exact ⟨k + k2, by rw [World.drewN_drewN]⟩⟩
        case measure => simp [intOf]; omega
      | some g =>
        have HG := Lib.hid hg
        clear hg
        go_wp2_with (go_at_call 33; refine (prot_yes R _ M m most mp _ g (by omega) (by omega) Hr.out (by rw [hps.out]; exact HG.out)).mono ?_; rintro e w2 ⟨rfl, hk2⟩; have HK2 := Lib.hid hk2; clear hk2)
        go_ret
        exact ⟨rfl, by obtain ⟨k, rfl⟩ := HK.out; obtain ⟨k2, rfl⟩ := HK2.out; exact ⟨k + k2, by rw [World.drewN_drewN]⟩⟩
    · obtain ⟨j, hj, hne⟩ := H6.out
      exact absurd (HJ.out j (by omega)) hne

theorem is_bad (w : World) (M : Nat) (a n : Int) (h0 : 0 ≤ a) (hb : a < 18446744073709551616) (h : ¬ (a % 65536 = 0 ∧ 65536 ≤ a ∧ 1 ≤ n ∧ n ≤ 1024 ∧ a + n * 4096 ≤ 140737488355328)) :
    Calls Try.prog 15 #[.pointer (some ⟨M, 0, none⟩), .int .u64 a, .int .i64 n] w fun e w' => e = .returned (.bool false) ∧ w = w' := by
  by_cases c1 : a % 65536 = 0
  · have e1 : (a % 65536 != 0) = false := by rw [bne_eq_false_iff_eq]; exact c1
    by_cases c2 : a < 65536
    · clear h
      go_enter Try.func15, Try.ntmps15
      go_wp2
      go_ret
      exact ⟨rfl, rfl⟩
    · by_cases c3 : 140737488355328 ≤ a
      · clear h
        go_enter Try.func15, Try.ntmps15
        go_wp2
        go_ret
        exact ⟨rfl, rfl⟩
      · by_cases c4 : n < 1
        · clear h
          go_enter Try.func15, Try.ntmps15
          go_wp2
          go_ret
          exact ⟨rfl, rfl⟩
        · by_cases c5 : 1024 < n
          · clear h
            go_enter Try.func15, Try.ntmps15
            go_wp2
            go_ret
            exact ⟨rfl, rfl⟩
          · have e3 : a < 140737488355328 := by omega
            have e2 : decide (140737488355328 - a < n * 4096) = true := decide_eq_true (by omega)
            have e4 : 1 ≤ n := by omega
            have e5 : n ≤ 1024 := by omega
            have e6 : 65536 ≤ a := by omega
            clear h c2 c3 c4 c5 c1
            go_enter Try.func15, Try.ntmps15
            go_wp2
            go_ret
            exact ⟨rfl, rfl⟩
  · have e1 : (a % 65536 != 0) = true := by rw [bne_iff_ne]; exact c1
    clear h c1
    go_enter Try.func15, Try.ntmps15
    go_wp2
    go_ret
    exact ⟨rfl, rfl⟩

/-- Is there room, whatever is asked. -/
theorem is_no (R : Nat → Prop) (w : World) (M m : Nat) (most : Int) (mp : Int → Option Pg) (a : Int) (n : Int) (h0 : 0 ≤ a) (hb : a < 18446744073709551616) (h : ¬ RoomOk mp a n) (H : MemAt R w M m most mp) :
    Calls Try.prog 15 #[.pointer (some ⟨M, 0, none⟩), .int .u64 a, .int .i64 n] w fun e w' => e = .returned (.bool false) ∧ ∃ k, w' = w.drewN k := by
  by_cases c : a % 65536 = 0 ∧ 65536 ≤ a ∧ 1 ≤ n ∧ n ≤ 1024 ∧ a + n * 4096 ≤ 140737488355328
  · obtain ⟨h1, h2, h3, h4, h5⟩ := c
    obtain ⟨N, rfl⟩ := Int.eq_ofNat_of_zero_le (show 0 ≤ n by omega)
    refine is_full R w M m most mp a N h1 h2 (by omega) (by omega) h5 ?_ H
    refine Classical.byContradiction fun hc => h ⟨h1, h2, h3, h4, h5, fun i hi => ?_⟩
    refine Classical.byContradiction fun hn => hc ⟨i, by omega, hn⟩
  · exact (is_bad w M a n h0 hb c).mono fun e w' ⟨he, hw⟩ => ⟨he, 0, hw.symm⟩

set_option maxRecDepth 100000 in
theorem find_yes (R : Nat → Prop) (w : World) (M m : Nat) (most : Int) (mp : Int → Option Pg) (n X : Nat) (h1 : 1 ≤ n) (h2 : n ≤ 1024) (hX : RoomOk mp (65536 * ((X : Int) + 1)) n) (hlow : 65536 * (X + 1) + n * 4096 ≤ 16777216) (hfirst : ∀ q : Nat, q < X → ¬ RoomOk mp (65536 * ((q : Int) + 1)) n) (H : MemAt R w M m most mp) :
    Calls Try.prog 14 #[.pointer (some ⟨M, 0, none⟩), .int .i64 n] w fun e w' => e = .returned (.tuple #[.int .u64 (65536 * ((X : Int) + 1)), .bool true]) ∧ ∃ k, w' = w.drewN k := by
  have HX := Lib.hid hX
  have HF := Lib.hid hfirst
  have HM := Lib.hid H
  clear hX hfirst H
  go_enter Try.func14, Try.ntmps14
  go_wp2_with fail
  go_loopw [6] (fun o wr => ∃ q : Nat, q ≤ X ∧ o = .int .u64 (65536 * ((q : Int) + 1)) ∧ ∃ k, wr = w.drewN k) (fun o _ => 65536 * (X + 1) - (intOf o).toNat)
  case atStart => exact ⟨0, Nat.zero_le _, rfl, 0, rfl⟩
  case round =>
    obtain ⟨q, hq, rfl, hk⟩ := hrel
    have Hr : Hid (MemAt R wr M m most mp) := by obtain ⟨k, rfl⟩ := hk; exact HM.out.drewN k
    have HK := Lib.hid hk
    clear hk
    have hle : decide (65536 * ((q : Int) + 1) + n * 4096 ≤ 16777216) = true := decide_eq_true (by omega)
    by_cases hlt : q < X
    · have hno := Lib.hid (HF.out q hlt)
      go_wp2_with fail
      refine (is_no R wr M m most mp _ n (by omega) (by omega) hno.out Hr.out).mono ?_
      rintro e w2 ⟨rfl, hk2⟩
      have HK2 := Lib.hid hk2
      clear hk2
      go_wp2
      go_roundw
      case rel => exact ⟨q + 1, by omega, ret_u64 (by omega), by obtain ⟨k, rfl⟩ := HK.out; obtain ⟨k2, rfl⟩ := HK2.out; exact ⟨k + k2, by rw [World.drewN_drewN]⟩⟩
      case measure => simp [intOf]; omega
    · obtain rfl : q = X := by omega
      go_wp2_with fail
      refine (is_yes R wr M m most mp _ n HX.out Hr.out).mono ?_
      rintro e w2 ⟨rfl, hk2⟩
      have HK2 := Lib.hid hk2
      clear hk2
      go_wp2
      go_ret2
      exact ⟨rfl, by obtain ⟨k, rfl⟩ := HK.out; obtain ⟨k2, rfl⟩ := HK2.out; exact ⟨k + k2, by rw [World.drewN_drewN]⟩⟩

set_option maxRecDepth 100000 in
theorem find_no (R : Nat → Prop) (w : World) (M m : Nat) (most : Int) (mp : Int → Option Pg) (n : Nat) (h1 : 1 ≤ n) (h2 : n ≤ 1024) (hfirst : ∀ q : Nat, 65536 * (q + 1) + n * 4096 ≤ 16777216 → ¬ RoomOk mp (65536 * ((q : Int) + 1)) n) (H : MemAt R w M m most mp) :
    Calls Try.prog 14 #[.pointer (some ⟨M, 0, none⟩), .int .i64 n] w fun e w' => e = .returned (.tuple #[.int .u64 0, .bool false]) ∧ ∃ k, w' = w.drewN k := by
  have HF := Lib.hid hfirst
  have HM := Lib.hid H
  clear hfirst H
  go_enter Try.func14, Try.ntmps14
  go_wp2_with fail
  go_loopw [6] (fun o wr => ∃ q : Nat, 65536 * q + n * 4096 ≤ 16777216 ∧ o = .int .u64 (65536 * ((q : Int) + 1)) ∧ ∃ k, wr = w.drewN k) (fun o _ => 16777216 + 65536 - (intOf o).toNat)
  case atStart => exact ⟨0, by omega, rfl, 0, rfl⟩
  case round =>
    obtain ⟨q, hq, rfl, hk⟩ := hrel
    have Hr : Hid (MemAt R wr M m most mp) := by obtain ⟨k, rfl⟩ := hk; exact HM.out.drewN k
    have HK := Lib.hid hk
    clear hk
    by_cases hlt : 65536 * (q + 1) + n * 4096 ≤ 16777216
    · have hle : decide (65536 * ((q : Int) + 1) + n * 4096 ≤ 16777216) = true := decide_eq_true (by omega)
      have hno := Lib.hid (HF.out q hlt)
      go_wp2_with fail
      refine (is_no R wr M m most mp _ n (by omega) (by omega) hno.out Hr.out).mono ?_
      rintro e w2 ⟨rfl, hk2⟩
      have HK2 := Lib.hid hk2
      clear hk2
      go_wp2
      go_roundw
      case rel => exact ⟨q + 1, by omega, ret_u64 (by omega), by obtain ⟨k, rfl⟩ := HK.out; obtain ⟨k2, rfl⟩ := HK2.out; exact ⟨k + k2, by rw [World.drewN_drewN]⟩⟩
      case measure => simp [intOf]; omega
    · have hle : decide (65536 * ((q : Int) + 1) + n * 4096 ≤ 16777216) = false := decide_eq_false (by omega)
      go_wp2
      go_ret2
      exact ⟨rfl, HK.out⟩

theorem find_bad (w : World) (M : Nat) (n : Int) (h : n < 1 ∨ 1024 < n) :
    Calls Try.prog 14 #[.pointer (some ⟨M, 0, none⟩), .int .i64 n] w fun e w' => e = .returned (.tuple #[.int .u64 0, .bool false]) ∧ w = w' := by
  by_cases c : n < 1
  · clear h
    go_enter Try.func14, Try.ntmps14
    go_wp2
    go_ret2
    exact ⟨rfl, rfl⟩
  · have c2 : 1024 < n := by omega
    have c3 : 1 ≤ n := by omega
    clear h c
    go_enter Try.func14, Try.ntmps14
    go_wp2
    go_ret2
    exact ⟨rfl, rfl⟩
end Go.Proofs.Ytlifaldbdjcgjaa
