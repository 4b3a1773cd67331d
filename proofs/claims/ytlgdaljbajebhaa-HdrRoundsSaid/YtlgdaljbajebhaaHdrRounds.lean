/- HdrRounds. -/
import Derived.Test.YtlgdaljbajebhaaAwake5
import Derived.Test.YtlgdaljbajebhaaMask
namespace Go.Proofs.Ytlgdaljbajebhaa
open Go.ChangeShapes Go.WideShapes Go.ChangeAt Go.RowKit
set_option linter.unusedVariables false

theorem and_fffff (n : Int) : bits .and .i64 n 1048575 = n % 1048576 := i64_mask n 20 (by omega)

theorem roundS_law (n t : Int) (h0 : 0 ≤ n) (h1 : n ≤ 1048575) : roundS n t % max t 1 = 0 ∧ n ≤ roundS n t ∧ roundS n t - n < max t 1 := by
  obtain ⟨m, hm⟩ : ∃ m, max t 1 = m := ⟨_, rfl⟩
  have hm1 : 1 ≤ m := by omega
  unfold roundS
  rw [hm]
  by_cases c : n < 1
  · rw [if_pos c]
    simp
    omega
  · rw [if_neg c, show min n 1099511627776 = n by omega]
    have e := Int.mul_ediv_add_emod (n - 1) m
    have m0 := Int.emod_nonneg (n - 1) (show m ≠ 0 by omega)
    have m1 := Int.emod_lt_of_pos (n - 1) (show 0 < m by omega)
    have e2 : ((n - 1) / m + 1) * m = m * ((n - 1) / m) + m := by rw [Int.add_mul, Int.one_mul, Int.mul_comm]
    refine ⟨Int.mul_emod_left _ _, ?_, ?_⟩ <;> rw [e2] <;> omega

set_option maxRecDepth 100000 in
theorem rounds_walk (n t : Int) (w : World) (h0 : -9223372036854775808 ≤ n) (h1 : n ≤ 9223372036854775807) (t0 : -9223372036854775808 ≤ t) (t1 : t ≤ 9223372036854775807) :
    Calls Try.prog 7 #[.int .i64 n, .int .i64 t] w fun e w' => e = .returned (.bool true) ∧ Below w.heap.size w w' := by
  have HBW := Lib.hid (Below.refl w.heap.size w)
  go_enter Try.func7, Try.ntmps7
  go_wp2_with fail
  go_loopw [0, 1, 5] (fun o0 o1 o5 wr => ∃ (k : Nat) (n' t' : Int), k ≤ 2 ∧ o5 = .int .i64 k ∧ o0 = .int .i64 n' ∧ o1 = .int .i64 t' ∧ wr = w ∧ -9223372036854775808 ≤ n' ∧ n' ≤ 9223372036854775807 ∧ -9223372036854775808 ≤ t' ∧ t' ≤ 9223372036854775807 ∧ (1 ≤ k → 0 ≤ n' ∧ n' ≤ 1048575 ∧ 0 ≤ t' ∧ t' ≤ 65535)) (fun _ _ o5 _ => 2 - (intOf o5).toNat)
  case atStart => exact ⟨0, n, t, by omega, rfl, rfl, rfl, rfl, h0, h1, t0, t1, fun h => by omega⟩
  case round =>
    obtain ⟨k, n', t', hk, rfl, rfl, rfl, rfl, a0, a1, b0, b1, hkk⟩ := hrel
    clear h0 h1 t0 t1
    have HR := Lib.hid (fun W => round_any n' t' W a0 a1 b0 b1)
    have HRR := Lib.hid (fun W => rround_any n' t' W a0 a1 b0 b1)
    have hrb := roundS_bd n' t' b1
    by_cases hlt : k < 2
    · have hlt' : (k : Int) < 2 := by omega
      have m1 := and_fffff n'
      have m2 := and_ffff t'
      clear hkk
      generalize roundS n' t' = r at *
      go_wp2_with (first | (go_fit (HR.out _); rintro e w' ⟨rfl, rfl⟩) | (go_fit (HRR.out _); rintro e w' ⟨rfl, rfl⟩))
      go_roundw
      case rel => exact ⟨k + 1, n' % 1048576, t' % 65536, by omega, by go_num, rfl, rfl, by simp, by omega, by omega, by omega, by omega, fun _ => by omega⟩
      case measure => simp [intOf]; omega
    · obtain rfl : k = 2 := by omega
      obtain ⟨n0, n1, s0, s1⟩ := hkk (by omega)
      obtain ⟨r0, r1, r2⟩ := roundS_law n' t' n0 n1
      have HA := Lib.hid (awake5_any wr)
      generalize roundS n' t' = r at *
      have hm1 : 1 ≤ max t' 1 := by omega
      have hm2 : max t' 1 ≤ 65535 := by omega
      generalize hmx : max t' 1 = m at *
      go_wp2_with (first | (go_fit (HR.out _); rintro e w' ⟨rfl, rfl⟩) | (go_fit HA.out; rintro e w' ⟨rfl, hb⟩))
      go_ret
      exact ⟨rfl, hb⟩
end Go.Proofs.Ytlgdaljbajebhaa
