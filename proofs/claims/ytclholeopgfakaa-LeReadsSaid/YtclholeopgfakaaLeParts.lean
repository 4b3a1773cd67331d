/- The walk of the law LeParts. -/
import Derived.Test.YtclholeopgfakaaSl
namespace Go.Proofs.Ytclholeopgfakaa
open Go.ChangeShapes Go.WideShapes Go.ChangeAt Go.RowKit

theorem rdF_add (f : Nat → Int) (m n : Nat) : ∀ o, rdF f o (m + n) = rdF f o m + 256 ^ m * rdF f (o + m) n := by
  induction m with
  | zero => intro o; simp [rdF]
  | succ m ih =>
    intro o
    rw [show m + 1 + n = (m + n) + 1 from by omega]
    simp only [rdF]
    rw [ih, show o + 1 + m = o + (m + 1) from by omega, Int.pow_succ]
    rw [show (256 : Int) ^ m * 256 = 256 * 256 ^ m from Int.mul_comm _ _, Int.mul_add, Int.mul_assoc, Int.add_assoc]

theorem or_shl32 {a d : Int} (a0 : 0 ≤ a) (a1 : a < 4294967296) (d0 : 0 ≤ d) (d1 : d < 4294967296) : bits BinOp.or IntKind.u64 a (d * 4294967296) = a + 4294967296 * d := by
  rw [u64_or _ _ (by omega) (by omega) (by omega) (by omega)]
  obtain ⟨x, rfl⟩ := Int.eq_ofNat_of_zero_le a0
  obtain ⟨y, rfl⟩ := Int.eq_ofNat_of_zero_le d0
  have e1 : ((y : Int) * 4294967296).toNat = 2 ^ 32 * y := by omega
  have e2 : ((x : Int)).toNat = x := by omega
  rw [e1, e2, Nat.or_comm, ← Nat.two_pow_add_eq_or_of_lt (show x < 2 ^ 32 by omega)]
  omega

theorem leParts_walk (A : Option Addr) (len cap : Nat) (f : Nat → Int) (at' : Int) (w : World) (hl : len ≤ cap) (hm : cap ≤ 9223372036854775807) (hb : Bytes255 f) (hs : SlB w A len f) :
    Calls Try.prog 3 #[.slice A len cap, .int .i64 at'] w fun e w' => e = .returned (.bool true) ∧ Below w.heap.size w w' := by
  have m1 := and_ffff at'
  by_cases h8 : len < 8
  · have h8' : (len : Int) < 8 := by omega
    go_enter Try.func3, Try.ntmps3
    go_wp2_with (go_at_call 11; refine (awake1 _).mono ?_; rintro e w' ⟨rfl, hbel⟩)
    go_ret
    exact ⟨rfl, hbel⟩
  · by_cases h300 : 300 < len
    · have h8' : ¬ (len : Int) < 8 := by omega
      have h300' : (300 : Int) < len := by omega
      go_enter Try.func3, Try.ntmps3
      go_wp2_with (go_at_call 11; refine (awake1 _).mono ?_; rintro e w' ⟨rfl, hbel⟩)
      go_ret
      exact ⟨rfl, hbel⟩
    · rcases hs with hs | ⟨b, off, rfl, hlt, hr⟩
      · omega
      · have h8' : ¬ (len : Int) < 8 := by omega
        have h300' : ¬ (300 : Int) < len := by omega
        obtain ⟨o, ho, hole⟩ : ∃ o : Nat, at' % 65536 % ((len : Int) - 7) = o ∧ o + 8 ≤ len := by
          have a1 := Int.emod_nonneg (at' % 65536) (show ((len : Int) - 7) ≠ 0 by omega)
          have a2 := Int.emod_lt_of_pos (at' % 65536) (show 0 < ((len : Int) - 7) by omega)
          exact ⟨(at' % 65536 % ((len : Int) - 7)).toNat, by omega, by omega⟩
        go_enter Try.func3, Try.ntmps3
        go_wp2_with fail
        refine (u64_yes _ _ _ _ f o _ (by omega) (by omega) hb hr).mono ?_
        rintro e w' ⟨rfl, rfl⟩
        go_wp2_with fail
        refine (u32_yes _ _ _ _ f o _ (by omega) (by omega) hb hr).mono ?_
        rintro e w' ⟨rfl, rfl⟩
        go_wp2_with fail
        refine (u32_yes _ _ _ _ f (o + 4) _ (by omega) (by omega) hb hr).mono ?_
        rintro e w' ⟨rfl, rfl⟩
        go_wp2_with fail
        refine (u16_yes _ _ _ _ f (o + 6) _ (by omega) (by omega) hb hr).mono ?_
        rintro e w' ⟨rfl, rfl⟩
        have b1 := rdF_bd f hb 4 o
        have b2 := rdF_bd f hb 4 (o + 4)
        have b3 := rdF_bd f hb 2 (o + 4)
        have e8 : rdF f o 8 = _ := rdF_add f 4 4 o
        have e4 : rdF f (o + 4) 4 = _ := rdF_add f 2 2 (o + 4)
        have E1 : (rdF f o 8 == bits BinOp.or IntKind.u64 (rdF f o 4) (rdF f (o + 4) 4 * 4294967296)) = true := by
          rw [or_shl32 b1.1 (by omega) b2.1 (by omega), beq_iff_eq]; omega
        have E2 : (rdF f (o + 6) 2 == rdF f (o + 4) 4 / 65536) = true := by
          rw [beq_iff_eq]; have e6 : o + 4 + 2 = o + 6 := by omega
          rw [e6] at e4; omega
        clear e8 e4
        go_wp2_with (go_at_call 11; refine (awake1 _).mono ?_; rintro e w' ⟨rfl, hbel⟩)
        go_ret
        exact ⟨rfl, hbel⟩
end Go.Proofs.Ytclholeopgfakaa
