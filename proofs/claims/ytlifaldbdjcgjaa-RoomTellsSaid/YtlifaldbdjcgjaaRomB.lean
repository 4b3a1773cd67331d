/- The document's memory of pages (slipwayref3): what it is asked for. -/
import Derived.Test.YtlifaldbdjcgjaaRomA
import Derived.BigQuiet
import Derived.Deep.QuietTactic
namespace Go.Proofs.Ytlifaldbdjcgjaa
open Go.ChangeShapes Go.WideShapes Go.ChangeAt Go.RowKit
set_option linter.unusedVariables false
set_option linter.unusedSimpArgs false

theorem rnew_any (w : World) : Calls Try.prog 18 #[.int .i64 1024] w fun e w' => ∃ B, e = .returned (.pointer (some ⟨B, 0, none⟩)) ∧ RefM w' B [] ∧ w'.heap[B]? = some (.cells #[.slice none 0 0, .int .i64 1024] 73 (0, 0)) ∧ w.heap.size ≤ B ∧ B < w'.heap.size ∧ Below w.heap.size w w' := by
  have hr := heap_alloc_new w (.cells #[.slice none 0 0, .int .i64 1024] 73)
  have HR := Lib.hid hr
  have HB := Lib.hid ((Below.refl w.heap.size w).alloc (Nat.le_refl _) (.cells #[.slice none 0 0, .int .i64 1024] 73))
  have HS := Lib.hid (show w.heap.size < (w.alloc (.cells #[.slice none 0 0, .int .i64 1024] 73)).heap.size by simp)
  clear hr
  go_enter Try.func18, Try.ntmps18
  go_wp2_with fail
  go_ret
  exact ⟨w.heap.size, rfl, ⟨none, 0, HR.out, .inl rfl, by simp, by simp, by unfold maxLen; omega, .inl ⟨rfl, rfl⟩⟩, HR.out, Nat.le_refl _, HS.out, HB.out⟩

set_option maxHeartbeats 1000000 in
theorem rfind_any (w : World) (B : Nat) (L : List RPg) (a : Nat) (h : RefM w B L) (hr : RiseP L) :
    Calls Try.prog 40 #[.pointer (some ⟨B, 0, none⟩), .int .u64 a] w fun e w' => e = .returned (.tuple #[.int .i64 (fidx L a), .bool (hasP L a)]) ∧ ∃ k, w' = w.drewN k := by
  obtain ⟨A, c, hrow, hsl, hlen, _⟩ := h
  have c0 : w.cell? ⟨B, 0, none⟩ = some (.slice A L.length c) := by rw [cell_of_row _ _ _ _ _ _ hrow]; rfl
  have HSL := Lib.hid hsl
  have HF := Lib.hid (fidx_has (a := a) hr)
  have HLOW := Lib.hid (fidx_low L a)
  have HAT := Lib.hid (fidx_at L a)
  have hle := fidx_le L a
  obtain ⟨k, hk⟩ : ∃ k, fidx L a = k := ⟨_, rfl⟩
  obtain ⟨n, hn⟩ : ∃ n, L.length = n := ⟨_, rfl⟩
  rw [hk] at hle
  rw [hn] at hle hlen c0
  have HKN := Lib.hid (And.intro hk hn)
  rw [hk]
  obtain ⟨rr, hrr⟩ : ∃ q, hasP L a = q := ⟨_, rfl⟩
  rw [hrr]
  clear hrow hsl hk hn
  go_enter Try.func40, Try.ntmps40
  go_wp2_with fail
  go_loop [6] (fun v6 => ∃ i : Nat, i ≤ k ∧ v6 = .int .i64 i) (fun v6 => k - (intOf v6).toNat)
  case atStart => exact ⟨0, Nat.zero_le _, rfl⟩
  case round =>
    obtain ⟨i, hi, rfl⟩ := hrel
    by_cases hlt : i < k
    · have hin : (i : Int) < (n : Int) := by omega
      have hil : i < L.length := by rw [HKN.out.2]; omega
      rcases HSL.out with h0 | ⟨b, off, rfl, hb, hc⟩
      · rw [h0] at hil; simp at hil
      have q0 := hc i hil 0 (.int .u64 L[i].at') rfl
      have hlow := HLOW.out i hil (by rw [HKN.out.1]; exact hlt)
      obtain ⟨z, hz⟩ : ∃ z, L[i].at' = z := ⟨_, rfl⟩
      rw [hz] at q0 hlow
      rw [Nat.add_zero] at q0
      have hza : (z : Int) < (a : Int) := by omega
      clear hc hz hlow hil hb
      have HLT := Lib.hid hlt
      clear hlt hi
      go_wp2_with fail
      go_round
      case rel => exact ⟨i + 1, by have := HLT.out; omega, by simp⟩
      case measure =>
        have := HLT.out
        simp [intOf]
        omega
    · obtain rfl : i = k := by omega
      by_cases hkn : i < n
      · have hin : (i : Int) < (n : Int) := by omega
        have hil : i < L.length := by rw [HKN.out.2]; omega
        rcases HSL.out with h0 | ⟨b, off, rfl, hb, hc⟩
        · rw [h0] at hil; simp at hil
        have q0 := hc i hil 0 (.int .u64 L[i].at') rfl
        have e1 : ∀ (j : Nat) (hj : j < L.length) (hj' : i < L.length), j = i → L[j].at' = L[i].at' := fun j hj hj' e => by subst e; rfl
        have hat := HAT.out (by rw [HKN.out.1]; exact hil)
        rw [e1 _ _ hil HKN.out.1] at hat
        have hhas : hasP L a = decide (L[i].at' = a) := by
          by_cases e : L[i].at' = a
          · rw [decide_eq_true e]
            exact HF.out.mpr ⟨by rw [HKN.out.1]; exact hil, by rw [e1 _ _ hil HKN.out.1]; exact e⟩
          · rw [decide_eq_false e]
            rcases hh : hasP L a with _ | _
            · rfl
            · obtain ⟨h1, h2⟩ := HF.out.mp hh
              rw [e1 _ _ hil HKN.out.1] at h2
              exact absurd h2 e
        rw [hrr] at hhas
        obtain ⟨z, hz⟩ : ∃ z, L[i].at' = z := ⟨_, rfl⟩
        rw [hz] at q0 hat hhas
        rw [Nat.add_zero] at q0
        have hza : ¬ (z : Int) < (a : Int) := by omega
        clear hc hz hat hil hb e1 HF hrr
        by_cases e : z = a
        · have hq : ((z : Int) == (a : Int)) = true := by rw [beq_iff_eq]; omega
          rw [decide_eq_true e] at hhas
          subst hhas
          have HE := Lib.hid e
          clear e
          go_wp2_with fail
          go_quiet (fail)
          go_wp2_with fail
          go_ret2
          exact ⟨rfl, nq, rfl⟩
        · have hq : ((z : Int) == (a : Int)) = false := beq_eq_false_iff_ne.mpr (by omega)
          rw [decide_eq_false e] at hhas
          subst hhas
          have HE := Lib.hid e
          clear e
          go_wp2_with fail
          go_quiet (fail)
          go_wp2_with fail
          go_ret2
          exact ⟨rfl, nq, rfl⟩
      · have hin : ¬ (i : Int) < (n : Int) := by omega
        have hhas : hasP L a = false := by
          rcases hh : hasP L a with _ | _
          · rfl
          · obtain ⟨h1, h2⟩ := HF.out.mp hh
            rw [HKN.out.1, HKN.out.2] at h1
            omega
        rw [hrr] at hhas
        subst hhas
        clear HF hrr
        go_wp2_with fail
        go_quiet (fail)
        go_wp2_with fail
        go_ret2
        exact ⟨rfl, nq, rfl⟩
end Go.Proofs.Ytlifaldbdjcgjaa
