/- Memory of pages: has, rest. -/
import Derived.Test.YtlifaldbdjcgjaaVaskB
import Derived.Test.YtlifaldbdjcgjaaCopy
namespace Go.Proofs.Ytlifaldbdjcgjaa
open Go.ChangeShapes Go.WideShapes Go.ChangeAt Go.RowKit
open Go.Maps (Keyed)
set_option linter.unusedVariables false
set_option linter.unusedSimpArgs false

/-- All n bytes from a on are mapped. -/
def InM (mp : Int → Option Pg) (a n : Int) : Prop := ∀ i : Int, 0 ≤ i → i < n → mp (a + i - (a + i) % 4096) ≠ none

theorem InM.step {mp : Int → Option Pg} {a n : Int} (h : mp (a - a % 4096) ≠ none) (h0 : 0 ≤ a) {s : Int} (hs : s = min n (4096 - a % 4096)) : InM mp a n ↔ InM mp (a + s) (n - s) := by
  constructor
  · intro H i h1 h2
    have := H (s + i) (by omega) (by omega)
    rw [show a + s + i = a + (s + i) by omega]
    exact this
  · intro H i h1 h2
    by_cases hi : i < s
    · rw [show a + i - (a + i) % 4096 = a - a % 4096 by omega]; exact h
    · have := H (i - s) (by omega) (by omega)
      rw [show a + s + (i - s) = a + i by omega] at this
      exact this

theorem has_any (R : Nat → Prop) (w : World) (M m : Nat) (most : Int) (mp : Int → Option Pg) (a n : Int) (b : Bool) (hb : b = true ↔ InM mp a n) (h0 : 0 ≤ a) (h1 : a + n ≤ 9223372036854775807) (hn : n ≤ 65536) (hn0 : 0 ≤ n) (H : MemAt R w M m most mp) :
    Calls Try.prog 44 #[.pointer (some ⟨M, 0, none⟩), .int .u64 a, .int .i64 n] w fun e w' => e = .returned (.bool b) ∧ ∃ k, w' = w.drewN k := by
  have HM := Lib.hid H
  have HB := Lib.hid hb
  clear hb H
  go_enter Try.func44, Try.ntmps44
  go_wp2_with fail
  go_loopw [1, 2] (fun p q wr => ∃ (a' n' : Int), p = .int .u64 a' ∧ q = .int .i64 n' ∧ 0 ≤ a' ∧ 0 ≤ n' ∧ n' ≤ 65536 ∧ a' + n' ≤ 9223372036854775807 ∧ (b = true ↔ InM mp a' n') ∧ ∃ d, wr = w.drewN d) (fun _ q _ => (intOf q).toNat)
  case atStart => exact ⟨a, n, rfl, rfl, h0, hn0, hn, h1, HB.out, 0, rfl⟩
  case round =>
    obtain ⟨a', n', rfl, rfl, b0, b1, b2, b3, hb, hd⟩ := hrel
    obtain ⟨bm, f, S, hRs⟩ : MemAt R wr M m most mp := by obtain ⟨k, rfl⟩ := hd; exact HM.out.drewN k
    have k1 := S.c1
    have HD := Lib.hid hd
    have HB' := Lib.hid hb
    clear hd hb h0 h1 hn hn0
    by_cases hlt : 0 < n'
    · cases hg : mp (a' - a' % 4096) with
      | none =>
        have hl := look_none S hg (by omega) (by omega)
        have hbf : b = false := by
          cases b with
          | false => rfl
          | true => exact absurd hg (by have := (HB'.out.1 rfl) 0 (by omega) hlt; simpa using this)
        subst hbf
        clear hg
        go_wp2_with fail
        go_quiet ((go_at_call 47; exact Calls.quiet_of_same (pageOf_q _ _ b0 (by omega))))
        go_wp2
        go_ret
        exact ⟨rfl, by obtain ⟨k, rfl⟩ := HD.out; exact ⟨k + nq, by rw [World.drewN_drewN]⟩⟩
      | some g =>
        obtain ⟨B, hf, ho, hl⟩ := look_some S hg (by omega) (by omega)
        have hst := (InM.step (mp := mp) (a := a') (n := n') (by rw [hg]; simp) b0 rfl)
        have HB2 := Lib.hid (HB'.out.trans hst)
        clear hg hf ho hst HB'
        go_wp2_with fail
        go_quiet ((go_at_call 47; exact Calls.quiet_of_same (pageOf_q _ _ b0 (by omega))))
        go_wp2_with (go_at_call 48; refine (piece_any a' n' _ b0 (by omega) b1 (by omega)).mono ?_; rintro e w3 ⟨rfl, rfl⟩)
        have hs : Hid (0 < min n' (4096 - a' % 4096) ∧ min n' (4096 - a' % 4096) ≤ n') := ⟨by omega, by omega⟩
        generalize min n' (4096 - a' % 4096) = s at *
        obtain ⟨s0, s1⟩ := hs.out
        go_wp2
        go_roundw
        case rel => exact ⟨a' + s, n' - s, rfl, rfl, by omega, by omega, by omega, by omega, HB2.out, by obtain ⟨d, rfl⟩ := HD.out; exact ⟨d + nq, by rw [World.drewN_drewN]⟩⟩
        case measure => simp [intOf]; omega
    · have hbt : b = true := HB'.out.2 (fun i h1 h2 => by omega)
      subst hbt
      go_wp2
      go_ret
      exact ⟨rfl, HD.out⟩

theorem slice_page (w : World) (B : Nat) (l : Int) (h0 : 0 ≤ l) (h1 : l < 4096) (n : Nat) :
    (Instr.sliceAt 68 (.pointer (some ⟨B, 1, none⟩)) (some (.int .u64 l)) none none).run Try.prog (w.drewN n) = .ok (.slice (some ⟨B, 1 + l.toNat, none⟩) (4096 - l.toNat) (4096 - l.toNat)) (w.drewN n) := by
  have h2 : ¬ 4096 = l.toNat := by omega
  have hA : Try.prog.arrayLen 68 = 4096 := by kernel_rfl
  have hs : ∀ W, (sizeOf (Try.prog.elem 68)).run Try.prog W = .ok 1 W := fun W => by kernel_rfl
  rw [run_sliceAt_array_l (P := Try.prog) (w.drewN n) 68 ⟨B, 1, none⟩ (by kernel_rfl) .u64 l h0 (by rw [hA]; omega), hs, hA]
  simp [slicedAt, h2, Addr.add]

/-- A page's bytes from a on. -/
theorem rest_any (w : World) (M bm m : Nat) (most : Int) (f : Int → Option Nat) (mp : Int → Option Pg) (a : Int) (B : Nat) (g : Pg) (h0 : 0 ≤ a) (h1 : a < 18446744073709551616) (S : MemIn w M bm m most f mp) (hg : mp (a - a % 4096) = some g) (hf : f (a - a % 4096) = some B) :
    Calls Try.prog 49 #[.pointer (some ⟨M, 0, none⟩), .int .u64 a] w fun e w' => e = .returned (.slice (some ⟨B, 1 + (a % 4096).toNat, none⟩) (4096 - (a % 4096).toNat) (4096 - (a % 4096).toNat)) ∧ ∃ k, w' = w.drewN k := by
  obtain ⟨B', hf', ho, hl⟩ := look_some S hg (by omega) (by omega)
  obtain rfl : B' = B := by rw [hf] at hf'; injection hf' with h; exact h.symm
  have k1 := S.c1
  have hpc := ho.cell (i := 0) (by omega)
  have hpz := ho.frozen (i := 0) (by omega)
  simp only [pgF, if_pos] at hpc
  have e1 : 0 ≤ a % 4096 := by omega
  have e2 : a % 4096 < 4096 := by omega
  have hsl := slice_page w B' (a % 4096) e1 e2
  clear hg hf hf' ho
  go_enter Try.func49, Try.ntmps49
  go_wp2_with fail
  go_quiet ((go_at_call 47; exact Calls.quiet_of_same (pageOf_q _ _ h0 (by omega))))
  go_wp2
  go_ret
  exact ⟨rfl, nq, rfl⟩
end Go.Proofs.Ytlifaldbdjcgjaa
