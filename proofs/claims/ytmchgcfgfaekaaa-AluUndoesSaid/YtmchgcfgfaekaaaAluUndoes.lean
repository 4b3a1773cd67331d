/- AluUndoes. -/
import Derived.Test.YtmchgcfgfaekaaaAluOps
namespace Go.Proofs.Ytmchgcfgfaekaaa
open Go.ChangeShapes Go.WideShapes Go.ChangeAt Go.RowKit
set_option linter.unusedVariables false

set_option maxRecDepth 100000 in
set_option maxHeartbeats 4000000 in
theorem undoes_core (a b s0 x0 i0 : Int) (z s c o z1 s1 c1 o1 z2 s2 c2 o2 z3 s3 c3 o3 z4 s4 c4 o4 z5 s5 c5 o5 z6 s6 c6 o6 z8 s8 c8 o8 z9 s9 o9 : Bool) (w : World)
    (E1 : ∀ w, Calls Try.prog 8 #[.int .i64 0, .int .u64 a, .int .u64 b, .agg #[.bool z, .bool s, .bool c, .bool o]] w fun e w' => e = .returned (.tuple #[.int .u64 s0, .agg #[.bool z1, .bool s1, .bool c1, .bool o1]]) ∧ Below w.heap.size w w')
    (E2 : ∀ w, Calls Try.prog 8 #[.int .i64 1, .int .u64 s0, .int .u64 b, .agg #[.bool z, .bool s, .bool c, .bool o]] w fun e w' => e = .returned (.tuple #[.int .u64 a, .agg #[.bool z2, .bool s2, .bool c2, .bool o2]]) ∧ Below w.heap.size w w')
    (E3 : ∀ w, Calls Try.prog 8 #[.int .i64 4, .int .u64 a, .int .u64 b, .agg #[.bool z, .bool s, .bool c, .bool o]] w fun e w' => e = .returned (.tuple #[.int .u64 x0, .agg #[.bool z3, .bool s3, .bool c3, .bool o3]]) ∧ Below w.heap.size w w')
    (E4 : ∀ w, Calls Try.prog 8 #[.int .i64 4, .int .u64 x0, .int .u64 b, .agg #[.bool z, .bool s, .bool c, .bool o]] w fun e w' => e = .returned (.tuple #[.int .u64 a, .agg #[.bool z4, .bool s4, .bool c4, .bool o4]]) ∧ Below w.heap.size w w')
    (E5 : ∀ w, Calls Try.prog 8 #[.int .i64 7, .int .u64 a, .int .u64 b, .agg #[.bool z, .bool s, .bool c, .bool o]] w fun e w' => e = .returned (.tuple #[.int .u64 a, .agg #[.bool z5, .bool s5, .bool c5, .bool o5]]) ∧ Below w.heap.size w w')
    (E6 : ∀ w, Calls Try.prog 8 #[.int .i64 8, .int .u64 a, .int .u64 b, .agg #[.bool z, .bool s, .bool c, .bool o]] w fun e w' => e = .returned (.tuple #[.int .u64 a, .agg #[.bool z6, .bool s6, .bool c6, .bool o6]]) ∧ Below w.heap.size w w')
    (E7 : ∀ w, Calls Try.prog 8 #[.int .i64 9, .int .u64 a, .int .u64 64, .agg #[.bool z, .bool s, .bool c, .bool o]] w fun e w' => e = .returned (.tuple #[.int .u64 a, .agg #[.bool z, .bool s, .bool c, .bool o]]) ∧ Below w.heap.size w w')
    (E8 : ∀ w, Calls Try.prog 8 #[.int .i64 5, .int .u64 a, .int .u64 0, .agg #[.bool z, .bool s, .bool c, .bool o]] w fun e w' => e = .returned (.tuple #[.int .u64 i0, .agg #[.bool z8, .bool s8, .bool c8, .bool o8]]) ∧ Below w.heap.size w w')
    (E9 : ∀ w, Calls Try.prog 8 #[.int .i64 6, .int .u64 i0, .int .u64 0, .agg #[.bool z, .bool s, .bool c, .bool o]] w fun e w' => e = .returned (.tuple #[.int .u64 a, .agg #[.bool z9, .bool s9, .bool c, .bool o9]]) ∧ Below w.heap.size w w')
    : Calls Try.prog 5 #[.int .u64 a, .int .u64 b, .agg #[.bool z, .bool s, .bool c, .bool o]] w fun e w' => e = .returned (.bool true) ∧ Below w.heap.size w w' := by
  have H1 := Lib.hid E1
  have H2 := Lib.hid E2
  have H3 := Lib.hid E3
  have H4 := Lib.hid E4
  have H5 := Lib.hid E5
  have H6 := Lib.hid E6
  have H7 := Lib.hid E7
  have H8 := Lib.hid E8
  have H9 := Lib.hid E9
  clear E1 E2 E3 E4 E5 E6 E7 E8 E9
  go_enter Try.func5, Try.ntmps5
  go_wp2_with fail
  have F := Lib.hid (Fits.new (w := w) (w1 := w) (z := z) (s := s) (c := c) (o := o) (t := 24) (Below.refl _ _))
  refine (H1.out _).mono ?_
  rintro e w1 ⟨rfl, hb⟩
  have F1 := Lib.hid (F.out.below hb)
  clear F hb H1
  have f0 := fun X => (F1.out.ahead (X := X)).blk.c0
  have f1 := fun X => (F1.out.ahead (X := X)).blk.c1
  have f2 := fun X => (F1.out.ahead (X := X)).blk.c2
  have f3 := fun X => (F1.out.ahead (X := X)).blk.c3
  go_wp2_with fail
  refine (H2.out _).mono ?_
  rintro e w2 ⟨rfl, hb⟩
  have F2 := Lib.hid (F1.out.ahead.below hb)
  clear f0 f1 f2 f3 hb F1 H2
  have f0 := fun X => (F2.out.ahead (X := X)).blk.c0
  have f1 := fun X => (F2.out.ahead (X := X)).blk.c1
  have f2 := fun X => (F2.out.ahead (X := X)).blk.c2
  have f3 := fun X => (F2.out.ahead (X := X)).blk.c3
  go_wp2_with fail
  refine (H3.out _).mono ?_
  rintro e w3 ⟨rfl, hb⟩
  have F3 := Lib.hid (F2.out.ahead.below hb)
  clear f0 f1 f2 f3 hb F2 H3
  have f0 := fun X => (F3.out.ahead (X := X)).blk.c0
  have f1 := fun X => (F3.out.ahead (X := X)).blk.c1
  have f2 := fun X => (F3.out.ahead (X := X)).blk.c2
  have f3 := fun X => (F3.out.ahead (X := X)).blk.c3
  go_wp2_with fail
  refine (H4.out _).mono ?_
  rintro e w4 ⟨rfl, hb⟩
  have F4 := Lib.hid (F3.out.ahead.below hb)
  clear f0 f1 f2 f3 hb F3 H4
  have f0 := fun X => (F4.out.ahead (X := X)).blk.c0
  have f1 := fun X => (F4.out.ahead (X := X)).blk.c1
  have f2 := fun X => (F4.out.ahead (X := X)).blk.c2
  have f3 := fun X => (F4.out.ahead (X := X)).blk.c3
  go_wp2_with fail
  refine (H5.out _).mono ?_
  rintro e w5 ⟨rfl, hb⟩
  have F5 := Lib.hid (F4.out.ahead.below hb)
  clear f0 f1 f2 f3 hb F4 H5
  have f0 := fun X => (F5.out.ahead (X := X)).blk.c0
  have f1 := fun X => (F5.out.ahead (X := X)).blk.c1
  have f2 := fun X => (F5.out.ahead (X := X)).blk.c2
  have f3 := fun X => (F5.out.ahead (X := X)).blk.c3
  go_wp2_with fail
  refine (H6.out _).mono ?_
  rintro e w6 ⟨rfl, hb⟩
  have F6 := Lib.hid (F5.out.ahead.below hb)
  clear f0 f1 f2 f3 hb F5 H6
  have f0 := fun X => (F6.out.ahead (X := X)).blk.c0
  have f1 := fun X => (F6.out.ahead (X := X)).blk.c1
  have f2 := fun X => (F6.out.ahead (X := X)).blk.c2
  have f3 := fun X => (F6.out.ahead (X := X)).blk.c3
  go_wp2_with fail
  refine (H7.out _).mono ?_
  rintro e w7 ⟨rfl, hb⟩
  have F7 := Lib.hid (F6.out.ahead.below hb)
  clear f0 f1 f2 f3 hb F6 H7
  have f0 := fun X => (F7.out.ahead (X := X)).blk.c0
  have f1 := fun X => (F7.out.ahead (X := X)).blk.c1
  have f2 := fun X => (F7.out.ahead (X := X)).blk.c2
  have f3 := fun X => (F7.out.ahead (X := X)).blk.c3
  go_wp2_with fail
  have G := Lib.hid (Fits.new (w := w) (w1 := w7) (z := z) (s := s) (c := c) (o := o) (t := 24) F7.out.bel)
  refine (H8.out _).mono ?_
  rintro e w8 ⟨rfl, hb⟩
  have F8 := Lib.hid (F7.out.ahead.below hb)
  have G8 := Lib.hid (G.out.below hb)
  clear G
  clear f0 f1 f2 f3 hb F7 H8
  have f0 := fun X => (F8.out.ahead (X := X)).blk.c0
  have f1 := fun X => (F8.out.ahead (X := X)).blk.c1
  have f2 := fun X => (F8.out.ahead (X := X)).blk.c2
  have f3 := fun X => (F8.out.ahead (X := X)).blk.c3
  go_wp2_with fail
  refine (H9.out _).mono ?_
  rintro e w9 ⟨rfl, hb⟩
  have F9 := Lib.hid (F8.out.ahead.below hb)
  have G9 := Lib.hid (G8.out.ahead.below hb)
  clear G8
  clear f0 f1 f2 f3 hb F8 H9
  have f0 := fun X => (F9.out.ahead (X := X)).blk.c0
  have f1 := fun X => (F9.out.ahead (X := X)).blk.c1
  have f2 := fun X => (F9.out.ahead (X := X)).blk.c2
  have f3 := fun X => (F9.out.ahead (X := X)).blk.c3
  have g0 := fun X => (G9.out.ahead (X := X)).blk.c0
  have g1 := fun X => (G9.out.ahead (X := X)).blk.c1
  have g2 := fun X => (G9.out.ahead (X := X)).blk.c2
  have g3 := fun X => (G9.out.ahead (X := X)).blk.c3
  go_wp2_with fail
  refine (awake_any _).mono ?_
  rintro e v ⟨rfl, hb⟩
  have hb9 := (F9.out.ahead.below hb).bel
  clear f0 f1 f2 f3 g0 g1 g2 g3 hb F9 G9
  go_wp2
  go_ret
  exact ⟨rfl, by go_grown⟩

theorem xor_xor (a b : Int) (ha : Word a) (hb : Word b) : bits .xor .u64 (bits .xor .u64 a b) b = a := by
  obtain ⟨A, rfl⟩ := Int.eq_ofNat_of_zero_le ha.low
  obtain ⟨B, rfl⟩ := Int.eq_ofNat_of_zero_le hb.low
  have h1 := ha.high
  have h2 := hb.high
  have hx : A ^^^ B < 2 ^ 64 := Nat.xor_lt_two_pow (by omega) (by omega)
  rw [u64_xor_nat A B (by omega) (by omega), u64_xor_nat _ B (by omega) (by omega), Nat.xor_assoc, Nat.xor_self, Nat.xor_zero]

set_option maxHeartbeats 1000000 in
theorem undoes_law (a b : Int) (z s c o : Bool) (w : World) (ha : Word a) (hb : Word b) : Calls Try.prog 5 #[.int .u64 a, .int .u64 b, .agg #[.bool z, .bool s, .bool c, .bool o]] w fun e w' => e = .returned (.bool true) ∧ Below w.heap.size w w' := by
  have a0 := ha.low
  have a1 := ha.high
  have b0 := hb.low
  have b1 := hb.high
  obtain ⟨s0, hs0⟩ : ∃ v, (a + b) % 18446744073709551616 = v := ⟨_, rfl⟩
  obtain ⟨i0, hi0⟩ : ∃ v, (a + 1) % 18446744073709551616 = v := ⟨_, rfl⟩
  obtain ⟨x0, hx0⟩ : ∃ v, bits .xor .u64 a b = v := ⟨_, rfl⟩
  obtain ⟨n0, hn0⟩ : ∃ v, bits .and .u64 a b = v := ⟨_, rfl⟩
  obtain ⟨d0, hd0⟩ : ∃ v, IntKind.u64.wrap (a - b) = v := ⟨_, rfl⟩
  have ws : Word s0 := ⟨by omega, by omega⟩
  have wi : Word i0 := ⟨by omega, by omega⟩
  have wx : Word x0 := by rw [← hx0]; exact word_xor ha hb
  have wn : Word n0 := by rw [← hn0]; exact word_and ha hb
  have wd : Word d0 := by rw [← hd0]; exact word_wrap _
  have e2 : IntKind.u64.wrap (s0 - b) = a := by rw [IntKind.wrap_u64]; omega
  have e9 : IntKind.u64.wrap (i0 - 1) = a := by rw [IntKind.wrap_u64]; omega
  have e4 : bits .xor .u64 x0 b = a := by rw [← hx0]; exact xor_xor a b ha hb
  have w64 : Word 64 := ⟨by omega, by omega⟩
  exact undoes_core a b s0 x0 i0 z s c o _ _ _ _ _ _ _ _ _ _ false false _ _ false false _ _ _ _ _ _ false false _ _ _ _ _ _ _ w
    (fun w => do_add a b s0 _ _ _ _ _ _ _ _ w ha hb ws hs0 rfl)
    (fun w => do_sub s0 b a _ _ _ _ _ _ _ _ w ws hb ha e2 rfl)
    (fun w => do_xor a b x0 _ _ _ _ _ _ w ha hb wx (Lib.hid hx0) rfl rfl)
    (fun w => do_xor x0 b a _ _ _ _ _ _ w wx hb ha (Lib.hid e4) rfl rfl)
    (fun w => do_cmp a b d0 _ _ _ _ _ _ _ _ w ha hb wd hd0 rfl)
    (fun w => do_test a b n0 _ _ _ _ _ _ w ha hb wn (Lib.hid hn0) rfl rfl)
    (fun w => do_shl a 64 0 a _ _ _ _ _ _ _ _ w w64 (by omega) (by omega) (Lib.hid (by omega)) (Lib.hid fun w => shift_z 9 a _ _ _ _ w))
    (fun w => do_inc a 0 i0 _ _ _ _ _ _ _ _ w ha word_1 wi hi0 rfl)
    (fun w => do_dec i0 0 a _ _ _ _ _ _ _ _ w wi word_1 ha e9 rfl)
end Go.Proofs.Ytmchgcfgfaekaaa
