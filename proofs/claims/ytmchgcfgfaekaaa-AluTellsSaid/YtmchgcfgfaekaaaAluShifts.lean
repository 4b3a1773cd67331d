/- AluShifts. -/
import Derived.Test.YtmchgcfgfaekaaaAluOps
namespace Go.Proofs.Ytmchgcfgfaekaaa
open Go.ChangeShapes Go.WideShapes Go.ChangeAt Go.RowKit
set_option linter.unusedVariables false

/-- What is doubled so many times. -/
def shX (a : Int) (j : Nat) : Int := (a * 2 ^ j) % 18446744073709551616
/-- What is halved so many times. -/
def shY (a : Int) (j : Nat) : Int := a / 2 ^ j
def shC (a : Int) (c : Bool) : Nat → Bool
  | 0 => c
  | j + 1 => shX a j / 9223372036854775808 == 1
def shD (a : Int) (c : Bool) : Nat → Bool
  | 0 => c
  | j + 1 => shY a j % 2 == 1

theorem shX_word (a : Int) (j : Nat) : Word (shX a j) := by unfold shX; exact ⟨by omega, by omega⟩
theorem shY_word {a : Int} (ha : Word a) (j : Nat) : Word (shY a j) := word_div ha j
theorem shX_zero {a : Int} (ha : Word a) : shX a 0 = a := by
  have h0 := ha.low
  have h1 := ha.high
  unfold shX
  simp only [Int.pow_zero, Int.mul_one]
  omega
theorem shY_zero (a : Int) : shY a 0 = a := by unfold shY; simp
theorem shX_succ (a : Int) (j : Nat) : IntKind.u64.wrap (shX a j + shX a j) = shX a (j + 1) := by
  rw [IntKind.wrap_u64]
  unfold shX
  rw [Int.pow_succ, ← Int.mul_assoc]
  generalize a * 2 ^ j = t
  omega
theorem shY_succ (a : Int) (j : Nat) : shY a j / 2 = shY a (j + 1) := by
  unfold shY
  rw [Int.pow_succ, Int.ediv_ediv_of_nonneg (Int.pow_nonneg (by omega))]
theorem shS (v : Int) (h : Word v) : (v / 9223372036854775808 == 1) = hiB v := by
  have h0 := h.low
  have h1 := h.high
  unfold hiB
  rw [Bool.eq_iff_iff, beq_iff_eq, decide_eq_true_iff]
  omega

set_option maxRecDepth 100000 in
set_option maxHeartbeats 4000000 in
theorem shifts_core (a n l r : Int) (k : Nat) (z s c o gz gs gc go hz hs hc ho : Bool) (w : World) (ha : Word a) (hk : k < 64)
    (E1 : ∀ w, Calls Try.prog 8 #[.int .i64 9, .int .u64 a, .int .u64 n, .agg #[.bool z, .bool s, .bool c, .bool o]] w fun e w' => e = .returned (.tuple #[.int .u64 l, .agg #[.bool gz, .bool gs, .bool gc, .bool go]]) ∧ Below w.heap.size w w')
    (E2 : ∀ w, Calls Try.prog 8 #[.int .i64 10, .int .u64 a, .int .u64 n, .agg #[.bool z, .bool s, .bool c, .bool o]] w fun e w' => e = .returned (.tuple #[.int .u64 r, .agg #[.bool hz, .bool hs, .bool hc, .bool ho]]) ∧ Below w.heap.size w w')
    (N : bits .and .u64 n 63 = (k : Int))
    (Z0 : k = 0 → l = a ∧ r = a ∧ gz = z ∧ gs = s ∧ gc = c ∧ go = o ∧ hz = z ∧ hs = s ∧ hc = c ∧ ho = o)
    (P0 : 0 < k → l = shX a k ∧ r = shY a k ∧ gz = (shX a k == 0) ∧ gs = (shX a k / 9223372036854775808 == 1) ∧ gc = shC a c k ∧ go = false ∧ hz = (shY a k == 0) ∧ hs = (shY a k / 9223372036854775808 == 1) ∧ hc = shD a c k ∧ ho = false) :
    Calls Try.prog 3 #[.int .u64 a, .int .u64 n, .agg #[.bool z, .bool s, .bool c, .bool o]] w fun e w' => e = .returned (.bool true) ∧ Below w.heap.size w w' := by
  have H1 := Lib.hid E1
  have H2 := Lib.hid E2
  have HZ := Lib.hid Z0
  have HP := Lib.hid P0
  clear E1 E2 Z0 P0
  go_enter Try.func3, Try.ntmps3
  go_wp2_with fail
  have F := Lib.hid (Fits.new (w := w) (w1 := w) (z := z) (s := s) (c := c) (o := o) (t := 24) (Below.refl _ _))
  refine (H1.out _).mono ?_
  rintro e w1 ⟨rfl, hb⟩
  have F1 := Lib.hid (F.out.below hb)
  clear F hb H1
  have f0 := fun X => (F1.out.ahead (X := X)).blk.c0
  have f1 := fun X => (F1.out.ahead (X := X)).blk.c1
  have f2 := fun X => (F1.out.ahead (X := X)).blk.c2
  have f3 := fun X => (F1.out.ahead (X := X)).blk.c3
  go_wp2_with fail
  have G := Lib.hid (Fits.new (w := w) (w1 := w1) (z := gz) (s := gs) (c := gc) (o := go) (t := 24) F1.out.bel)
  refine (H2.out _).mono ?_
  rintro e w2 ⟨rfl, hb⟩
  have F2 := Lib.hid (F1.out.ahead.below hb)
  have G2 := Lib.hid (G.out.below hb)
  clear f0 f1 f2 f3 hb F1 G H2
  go_wp2_with fail
  have I3 := Lib.hid (Fits.new (w := w) (w1 := w2) (z := hz) (s := hs) (c := hc) (o := ho) (t := 24) F2.out.bel)
  have F3 := Lib.hid (F2.out.ahead (X := Obj.cells #[.bool hz, .bool hs, .bool hc, .bool ho] 24))
  have G3 := Lib.hid (G2.out.ahead (X := Obj.cells #[.bool hz, .bool hs, .bool hc, .bool ho] 24))
  clear F2 G2
  generalize w1.heap.size = B1 at *
  generalize w2.heap.size = B2 at *
  generalize w2.alloc (Obj.cells #[.bool hz, .bool hs, .bool hc, .bool ho] 24) = W at *
  have f2 := F3.out.blk.c2
  go_region
  go_wp2_with fail
  have F4 := Lib.hid F3.out.drew
  have G4 := Lib.hid G3.out.drew
  have I4 := Lib.hid I3.out.drew
  clear f2 F3 G3 I3
  generalize W.drew = V at *
  have ha0 := ha.low
  have ha1 := ha.high
  go_loop [11, 12, 13, 14, 15] (fun x y p q i => ∃ j : Nat, j ≤ k ∧ x = .int .u64 (shX a j) ∧ y = .int .u64 (shY a j) ∧ p = .bool (shC a c j) ∧ q = .bool (shD a c j) ∧ i = .int .u64 j) (fun _ _ _ _ i => k - (intOf i).toNat)
  case atStart => exact ⟨0, Nat.zero_le _, by rw [shX_zero ha], by rw [shY_zero], rfl, rfl, rfl⟩
  case round =>
    obtain ⟨j, hj, rfl, rfl, rfl, rfl, rfl⟩ := hrel
    have x0 := (shX_word a j).low
    have x1 := (shX_word a j).high
    have y0 := (shY_word ha j).low
    have y1 := (shY_word ha j).high
    by_cases hlt : j < k
    · have hxs := shX_succ a j
      have hys := shY_succ a j
      have hya := and_one (shY a j) (shY_word ha j)
      go_wp2
      go_round
      case rel => exact ⟨j + 1, by omega, rfl, by rw [← hys], rfl, rfl, by go_num⟩
      case measure => simp [intOf]; omega
    · obtain rfl : j = k := by omega
      clear hlt hj
      rcases Nat.eq_zero_or_pos j with rfl | hpos
      · obtain ⟨rfl, rfl, rfl, rfl, rfl, rfl, rfl, rfl, rfl, rfl⟩ := HZ.out rfl
        clear HZ HP
        have N0 : bits .and .u64 n 63 = 0 := by simpa using N
        clear N
        obtain ⟨f0, f1, f2, f3, _, _, _, _⟩ := F4.out.blk
        obtain ⟨g0, g1, g2, g3, _, _, _, _⟩ := G4.out.blk
        obtain ⟨i0, i1, i2, i3, _, _, _, _⟩ := I4.out.blk
        go_wp2_with fail
        refine (awake_any _).mono ?_
        rintro e v ⟨rfl, hb⟩
        have hb9 := (F4.out.below hb).bel
        clear f0 f1 f2 f3 g0 g1 g2 g3 i0 i1 i2 i3 hb F4 G4 I4
        go_wp2
        go_ret
        exact ⟨rfl, by go_grown⟩
      · obtain ⟨rfl, rfl, rfl, rfl, rfl, rfl, rfl, rfl, rfl, rfl⟩ := HP.out hpos
        clear HZ HP
        have hne : ((j : Int) == 0) = false := by rw [beq_eq_false_iff_ne]; omega
        obtain ⟨f0, f1, f2, f3, _, _, _, _⟩ := F4.out.blk
        obtain ⟨g0, g1, g2, g3, _, _, _, _⟩ := G4.out.blk
        obtain ⟨i0, i1, i2, i3, _, _, _, _⟩ := I4.out.blk
        go_wp2_with fail
        refine (awake_any _).mono ?_
        rintro e v ⟨rfl, hb⟩
        have hb9 := (F4.out.below hb).bel
        clear f0 f1 f2 f3 g0 g1 g2 g3 i0 i1 i2 i3 hb F4 G4 I4
        go_wp2
        go_ret
        exact ⟨rfl, by go_grown⟩

/-- The bit that goes out last to the left. -/
theorem shC_bit {a : Int} (ha : Word a) (c : Bool) (k : Nat) (h0 : 0 < k) (h1 : k < 64) : (a / 2 ^ (64 - (k : Int)).toNat % 2 != 0) = shC a c k := by
  obtain ⟨j, rfl⟩ : ∃ j, k = j + 1 := ⟨k - 1, by omega⟩
  obtain ⟨A, rfl⟩ := Int.eq_ofNat_of_zero_le ha.low
  have hA := ha.high
  have e1 : (64 - ((j + 1 : Nat) : Int)).toNat = 63 - j := by omega
  rw [e1]
  show _ = ((A : Int) * 2 ^ j % 18446744073709551616 / 9223372036854775808 == 1)
  have e2 : ((A : Int) / 2 ^ (63 - j) % 2) = ((A / 2 ^ (63 - j) % 2 : Nat) : Int) := by rw [Int.natCast_emod, Int.natCast_ediv, Int.natCast_pow]; rfl
  have e3 : ((A : Int) * 2 ^ j % 18446744073709551616 / 9223372036854775808) = ((A * 2 ^ j % 18446744073709551616 / 9223372036854775808 : Nat) : Int) := by rw [Int.natCast_ediv, Int.natCast_emod, Int.natCast_mul, Int.natCast_pow]; rfl
  have e4 : A * 2 ^ j % 18446744073709551616 / 9223372036854775808 = A / 2 ^ (63 - j) % 2 := by
    have h2 : (18446744073709551616 : Nat) = 9223372036854775808 * 2 := by omega
    have h3 : (9223372036854775808 : Nat) = 2 ^ j * 2 ^ (63 - j) := by rw [← Nat.pow_add]; rw [show j + (63 - j) = 63 by omega]
    rw [h2, Nat.mod_mul_right_div_self, h3, Nat.mul_comm A, Nat.mul_div_mul_left _ _ (Nat.two_pow_pos j)]
  rw [e2, e3, e4]
  rcases Nat.mod_two_eq_zero_or_one (A / 2 ^ (63 - j)) with h | h <;> rw [h] <;> rfl

/-- The bit that goes out last to the right. -/
theorem shD_bit (a : Int) (c : Bool) (k : Nat) (h0 : 0 < k) : (a / 2 ^ ((k : Int).toNat - 1) % 2 != 0) = shD a c k := by
  obtain ⟨j, rfl⟩ : ∃ j, k = j + 1 := ⟨k - 1, by omega⟩
  have e1 : ((j + 1 : Nat) : Int).toNat - 1 = j := by omega
  rw [e1]
  show _ = (a / 2 ^ j % 2 == 1)
  generalize a / 2 ^ j = t
  rw [Bool.eq_iff_iff, bne_iff_ne, beq_iff_eq]
  omega

set_option maxHeartbeats 1000000 in
theorem shifts_law (a n : Int) (z s c o : Bool) (w : World) (ha : Word a) (hn : Word n) : Calls Try.prog 3 #[.int .u64 a, .int .u64 n, .agg #[.bool z, .bool s, .bool c, .bool o]] w fun e w' => e = .returned (.bool true) ∧ Below w.heap.size w w' := by
  have n0 := hn.low
  have n1 := hn.high
  obtain ⟨k, hk⟩ : ∃ k : Nat, n % 64 = k := ⟨(n % 64).toNat, by omega⟩
  have hk64 : k < 64 := by omega
  have N : bits .and .u64 n 63 = (k : Int) := by rw [and_63 n hn, hk]
  by_cases h0 : k = 0
  · subst h0
    exact shifts_core a n a a 0 z s c o z s c o z s c o w ha (by omega)
      (fun w => do_shl a n 0 a _ _ _ _ _ _ _ _ w hn (by omega) (by omega) (Lib.hid hk) (Lib.hid fun w => shift_z 9 a _ _ _ _ w))
      (fun w => do_shr a n 0 a _ _ _ _ _ _ _ _ w hn (by omega) (by omega) (Lib.hid hk) (Lib.hid fun w => shift_z 10 a _ _ _ _ w))
      N (fun _ => ⟨rfl, rfl, rfl, rfl, rfl, rfl, rfl, rfl, rfl, rfl⟩) (fun h => by omega)
  · have hnz : ((k : Int) == 0) = false := by rw [beq_eq_false_iff_ne]; omega
    have hv : IntKind.u64.wrap (a * 2 ^ (k : Int).toNat) = shX a k := by rw [IntKind.wrap_u64, Int.toNat_natCast]; rfl
    have hr : a / 2 ^ (k : Int).toNat = shY a k := by rw [Int.toNat_natCast]; rfl
    exact shifts_core a n (shX a k) (shY a k) k z s c o _ _ _ _ _ _ _ _ w ha hk64
      (fun w => do_shl a n k (shX a k) _ _ _ _ _ _ _ _ w hn (by omega) (by omega) (Lib.hid hk) (Lib.hid fun w => shift_l a k (shX a k) _ _ _ _ _ w ha (shX_word a k) (word_div ha _) (by omega) (by omega) hnz (Lib.hid hv) (Lib.hid rfl)))
      (fun w => do_shr a n k (shY a k) _ _ _ _ _ _ _ _ w hn (by omega) (by omega) (Lib.hid hk) (Lib.hid fun w => shift_r a k (shY a k) _ _ _ _ _ w ha (shY_word ha k) (word_div ha _) (by omega) (by omega) hnz (Lib.hid hr) (Lib.hid rfl)))
      N (fun h => absurd h h0) (fun h => ⟨rfl, rfl, rfl, (shS _ (shX_word a k)).symm, shC_bit ha c k h hk64, rfl, rfl, (shS _ (shY_word ha k)).symm, shD_bit a c k h, rfl⟩)
end Go.Proofs.Ytmchgcfgfaekaaa
