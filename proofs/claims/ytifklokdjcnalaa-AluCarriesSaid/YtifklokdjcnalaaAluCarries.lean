/- AluCarries. -/
import Derived.Test.YtifklokdjcnalaaAluFits
namespace Go.Proofs.Ytifklokdjcnalaa
open Go.ChangeShapes Go.WideShapes Go.ChangeAt Go.RowKit
set_option linter.unusedVariables false

set_option maxHeartbeats 4000000 in
theorem carries_false (a b c d low h0 h1 y0 : Int) (z1 s1 o1 z2 s2 o2 z3 s3 c3 o3 z4 s4 o4 z5 s5 c5 o5 z6 s6 o6 : Bool) (w : World)
    (E1 : (∀ w, Calls Try.prog 9 #[.int .i64 0, .int .u64 a, .int .u64 c, .agg #[.bool false, .bool false, .bool false, .bool false]] w fun e w' => e = .returned (.tuple #[.int .u64 low, .agg #[.bool z1, .bool s1, .bool false, .bool o1]]) ∧ Below w.heap.size w w'))
    (E2 : (∀ w, Calls Try.prog 9 #[.int .i64 0, .int .u64 b, .int .u64 d, .agg #[.bool z1, .bool s1, .bool false, .bool o1]] w fun e w' => e = .returned (.tuple #[.int .u64 h0, .agg #[.bool z3, .bool s3, .bool c3, .bool o3]]) ∧ Below w.heap.size w w'))
    (E4 : (∀ w, Calls Try.prog 9 #[.int .i64 1, .int .u64 low, .int .u64 c, .agg #[.bool false, .bool false, .bool false, .bool false]] w fun e w' => e = .returned (.tuple #[.int .u64 a, .agg #[.bool z2, .bool s2, .bool false, .bool o2]]) ∧ Below w.heap.size w w'))
    (E5 : (∀ w, Calls Try.prog 9 #[.int .i64 1, .int .u64 h0, .int .u64 d, .agg #[.bool z2, .bool s2, .bool false, .bool o2]] w fun e w' => e = .returned (.tuple #[.int .u64 b, .agg #[.bool z5, .bool s5, .bool c5, .bool o5]]) ∧ Below w.heap.size w w'))
    (L : decide (low < a) = false) (G : decide (low < c) = false) :
    Calls Try.prog 4 #[.int .u64 a, .int .u64 b, .int .u64 c, .int .u64 d] w fun e w' => e = .returned (.bool true) ∧ Below w.heap.size w w' := by
  go_enter Try.func4, Try.ntmps4
  go_wp2_with fail
  refine (E1 _).mono ?_
  rintro e w1 ⟨rfl, hb1⟩
  go_wp2_with fail
  have F : Fits w w1.heap.size z1 s1 false o1 (w1.alloc (Obj.cells #[.bool z1, .bool s1, .bool false, .bool o1] 24)) := Fits.new hb1
  have HF := Lib.hid F
  generalize w1.heap.size = B1 at *
  generalize w1.alloc (Obj.cells #[.bool z1, .bool s1, .bool false, .bool o1] 24) = W1 at *
  clear F hb1 E1
  refine (E2 _).mono ?_
  rintro e w2 ⟨rfl, hb2⟩
  have HF2 := Lib.hid (HF.out.below hb2)
  have f0 := fun X => (HF2.out.ahead (X := X)).blk.c0
  have f1 := fun X => (HF2.out.ahead (X := X)).blk.c1
  have f2 := fun X => (HF2.out.ahead (X := X)).blk.c2
  have f3 := fun X => (HF2.out.ahead (X := X)).blk.c3
  clear hb2 HF E2
  go_wp2_with fail
  refine (E4 _).mono ?_
  rintro e w4 ⟨rfl, hb4⟩
  have HF4 := Lib.hid (HF2.out.ahead.below hb4)
  clear f0 f1 f2 f3 hb4 HF2 E4
  go_wp2_with fail
  have K : Fits w w4.heap.size z2 s2 false o2 (w4.alloc (Obj.cells #[.bool z2, .bool s2, .bool false, .bool o2] 24)) := Fits.new HF4.out.bel
  have HK := Lib.hid K
  have HF5 := Lib.hid (HF4.out.ahead (X := Obj.cells #[.bool z2, .bool s2, .bool false, .bool o2] 24))
  generalize w4.heap.size = B2 at *
  generalize w4.alloc (Obj.cells #[.bool z2, .bool s2, .bool false, .bool o2] 24) = W4 at *
  clear K HF4
  refine (E5 _).mono ?_
  rintro e w5 ⟨rfl, hb5⟩
  have HF6 := Lib.hid (HF5.out.below hb5)
  have HK6 := Lib.hid (HK.out.below hb5)
  clear hb5 HF5 HK E5
  have f0 := fun X => (HF6.out.ahead (X := X)).blk.c0
  have f1 := fun X => (HF6.out.ahead (X := X)).blk.c1
  have f2 := fun X => (HF6.out.ahead (X := X)).blk.c2
  have f3 := fun X => (HF6.out.ahead (X := X)).blk.c3
  have k0 := fun X => (HK6.out.ahead (X := X)).blk.c0
  have k1 := fun X => (HK6.out.ahead (X := X)).blk.c1
  have k2 := fun X => (HK6.out.ahead (X := X)).blk.c2
  have k3 := fun X => (HK6.out.ahead (X := X)).blk.c3
  go_wp2_with fail
  refine (awake_any _).mono ?_
  rintro e w8 ⟨rfl, hb8⟩
  have hb9 := (HF6.out.ahead.below hb8).bel
  clear f0 f1 f2 f3 k0 k1 k2 k3 hb8 HF6 HK6
  go_wp2
  go_ret
  exact ⟨rfl, by go_grown⟩

set_option maxHeartbeats 4000000 in
theorem carries_true (a b c d low h0 h1 y0 : Int) (z1 s1 o1 z2 s2 o2 z3 s3 c3 o3 z4 s4 o4 z5 s5 c5 o5 z6 s6 o6 : Bool) (w : World)
    (E1 : (∀ w, Calls Try.prog 9 #[.int .i64 0, .int .u64 a, .int .u64 c, .agg #[.bool false, .bool false, .bool false, .bool false]] w fun e w' => e = .returned (.tuple #[.int .u64 low, .agg #[.bool z1, .bool s1, .bool true, .bool o1]]) ∧ Below w.heap.size w w'))
    (E2 : (∀ w, Calls Try.prog 9 #[.int .i64 0, .int .u64 b, .int .u64 d, .agg #[.bool z1, .bool s1, .bool true, .bool o1]] w fun e w' => e = .returned (.tuple #[.int .u64 h0, .agg #[.bool z3, .bool s3, .bool c3, .bool o3]]) ∧ Below w.heap.size w w'))
    (E3 : (∀ w, Calls Try.prog 9 #[.int .i64 5, .int .u64 h0, .int .u64 0, .agg #[.bool z1, .bool s1, .bool true, .bool o1]] w fun e w' => e = .returned (.tuple #[.int .u64 h1, .agg #[.bool z4, .bool s4, .bool true, .bool o4]]) ∧ Below w.heap.size w w'))
    (E4 : (∀ w, Calls Try.prog 9 #[.int .i64 1, .int .u64 low, .int .u64 c, .agg #[.bool false, .bool false, .bool false, .bool false]] w fun e w' => e = .returned (.tuple #[.int .u64 a, .agg #[.bool z2, .bool s2, .bool true, .bool o2]]) ∧ Below w.heap.size w w'))
    (E5 : (∀ w, Calls Try.prog 9 #[.int .i64 1, .int .u64 h1, .int .u64 d, .agg #[.bool z2, .bool s2, .bool true, .bool o2]] w fun e w' => e = .returned (.tuple #[.int .u64 y0, .agg #[.bool z5, .bool s5, .bool c5, .bool o5]]) ∧ Below w.heap.size w w'))
    (E6 : (∀ w, Calls Try.prog 9 #[.int .i64 6, .int .u64 y0, .int .u64 0, .agg #[.bool z2, .bool s2, .bool true, .bool o2]] w fun e w' => e = .returned (.tuple #[.int .u64 b, .agg #[.bool z6, .bool s6, .bool true, .bool o6]]) ∧ Below w.heap.size w w'))
    (L : decide (low < a) = true) (G : decide (low < c) = true) :
    Calls Try.prog 4 #[.int .u64 a, .int .u64 b, .int .u64 c, .int .u64 d] w fun e w' => e = .returned (.bool true) ∧ Below w.heap.size w w' := by
  go_enter Try.func4, Try.ntmps4
  go_wp2_with fail
  refine (E1 _).mono ?_
  rintro e w1 ⟨rfl, hb1⟩
  go_wp2_with fail
  have F : Fits w w1.heap.size z1 s1 true o1 (w1.alloc (Obj.cells #[.bool z1, .bool s1, .bool true, .bool o1] 24)) := Fits.new hb1
  have HF := Lib.hid F
  generalize w1.heap.size = B1 at *
  generalize w1.alloc (Obj.cells #[.bool z1, .bool s1, .bool true, .bool o1] 24) = W1 at *
  clear F hb1 E1
  refine (E2 _).mono ?_
  rintro e w2 ⟨rfl, hb2⟩
  have HF2 := Lib.hid (HF.out.below hb2)
  have f0 := fun X => (HF2.out.ahead (X := X)).blk.c0
  have f1 := fun X => (HF2.out.ahead (X := X)).blk.c1
  have f2 := fun X => (HF2.out.ahead (X := X)).blk.c2
  have f3 := fun X => (HF2.out.ahead (X := X)).blk.c3
  clear hb2 HF E2
  go_wp2_with fail
  refine (E3 _).mono ?_
  rintro e w3 ⟨rfl, hb3⟩
  have HF3 := Lib.hid (HF2.out.ahead.below hb3)
  clear f0 f1 f2 f3 hb3 HF2 E3
  have f0 := HF3.out.blk.c0
  have f1 := HF3.out.blk.c1
  have f2 := HF3.out.blk.c2
  have f3 := HF3.out.blk.c3
  go_wp2_with fail
  refine (E4 _).mono ?_
  rintro e w4 ⟨rfl, hb4⟩
  have HF4 := Lib.hid (HF3.out.below hb4)
  clear f0 f1 f2 f3 hb4 HF3 E4
  go_wp2_with fail
  have K : Fits w w4.heap.size z2 s2 true o2 (w4.alloc (Obj.cells #[.bool z2, .bool s2, .bool true, .bool o2] 24)) := Fits.new HF4.out.bel
  have HK := Lib.hid K
  have HF5 := Lib.hid (HF4.out.ahead (X := Obj.cells #[.bool z2, .bool s2, .bool true, .bool o2] 24))
  generalize w4.heap.size = B2 at *
  generalize w4.alloc (Obj.cells #[.bool z2, .bool s2, .bool true, .bool o2] 24) = W4 at *
  clear K HF4
  refine (E5 _).mono ?_
  rintro e w5 ⟨rfl, hb5⟩
  have HF6 := Lib.hid (HF5.out.below hb5)
  have HK6 := Lib.hid (HK.out.below hb5)
  clear hb5 HF5 HK E5
  have f0 := fun X => (HF6.out.ahead (X := X)).blk.c0
  have f1 := fun X => (HF6.out.ahead (X := X)).blk.c1
  have f2 := fun X => (HF6.out.ahead (X := X)).blk.c2
  have f3 := fun X => (HF6.out.ahead (X := X)).blk.c3
  have k0 := fun X => (HK6.out.ahead (X := X)).blk.c0
  have k1 := fun X => (HK6.out.ahead (X := X)).blk.c1
  have k2 := fun X => (HK6.out.ahead (X := X)).blk.c2
  have k3 := fun X => (HK6.out.ahead (X := X)).blk.c3
  go_wp2_with fail
  refine (E6 _).mono ?_
  rintro e w6 ⟨rfl, hb6⟩
  have HF7 := Lib.hid (HF6.out.ahead.below hb6)
  have HK7 := Lib.hid (HK6.out.ahead.below hb6)
  clear f0 f1 f2 f3 k0 k1 k2 k3 hb6 HF6 HK6 E6
  have f0 := HF7.out.blk.c0
  have f1 := HF7.out.blk.c1
  have f2 := HF7.out.blk.c2
  have f3 := HF7.out.blk.c3
  have k0 := HK7.out.blk.c0
  have k1 := HK7.out.blk.c1
  have k2 := HK7.out.blk.c2
  have k3 := HK7.out.blk.c3
  go_wp2_with fail
  refine (awake_any _).mono ?_
  rintro e w8 ⟨rfl, hb8⟩
  have hb9 := (HF7.out.below hb8).bel
  clear f0 f1 f2 f3 k0 k1 k2 k3 hb8 HF7 HK7
  go_wp2
  go_ret
  exact ⟨rfl, by go_grown⟩

theorem addF_eq (a b v : Int) : addF a b v = .agg #[.bool (v == 0), .bool (hiB v), .bool ((a + b) / 18446744073709551616 != 0), .bool ((hiB a != hiB v) && (hiB b != hiB v))] := rfl
theorem subF_eq (a b v : Int) : subF a b v = .agg #[.bool (v == 0), .bool (hiB v), .bool (decide (a < b)), .bool ((hiB a != hiB b) && (hiB a != hiB v))] := rfl

set_option maxHeartbeats 4000000 in
theorem carries_law (a b c d : Int) (w : World) (ha : Word a) (hb : Word b) (hc : Word c) (hd : Word d) : Calls Try.prog 4 #[.int .u64 a, .int .u64 b, .int .u64 c, .int .u64 d] w fun e w' => e = .returned (.bool true) ∧ Below w.heap.size w w' := by
  have a0 := ha.low
  have a1 := ha.high
  have b0 := hb.low
  have b1 := hb.high
  have c0 := hc.low
  have c1 := hc.high
  have d0 := hd.low
  have d1 := hd.high
  obtain ⟨low, hlow⟩ : ∃ v, (a + c) % 18446744073709551616 = v := ⟨_, rfl⟩
  obtain ⟨h0, hh0⟩ : ∃ v, (b + d) % 18446744073709551616 = v := ⟨_, rfl⟩
  have wl : Word low := ⟨by omega, by omega⟩
  have wh : Word h0 := ⟨by omega, by omega⟩
  have ea : IntKind.u64.wrap (low - c) = a := by rw [IntKind.wrap_u64]; omega
  by_cases h : 18446744073709551616 ≤ a + c
  · obtain ⟨h1, hh1⟩ : ∃ v, (h0 + 1) % 18446744073709551616 = v := ⟨_, rfl⟩
    obtain ⟨y0, hy0⟩ : ∃ v, IntKind.u64.wrap (h1 - d) = v := ⟨_, rfl⟩
    have w1 : Word h1 := ⟨by omega, by omega⟩
    have wy : Word y0 := by rw [← hy0]; exact word_wrap _
    have hy := hy0
    rw [IntKind.wrap_u64] at hy
    have eb : IntKind.u64.wrap (y0 - 1) = b := by rw [IntKind.wrap_u64]; omega
    have ec : ((a + c) / 18446744073709551616 != 0) = true := by rw [bne_iff_ne]; omega
    have eg : decide (low < c) = true := by rw [decide_eq_true_iff]; omega
    have el : decide (low < a) = true := by rw [decide_eq_true_iff]; omega
    have f1 : addF a c low = .agg #[.bool (low == 0), .bool (hiB low), .bool true, .bool ((hiB a != hiB low) && (hiB c != hiB low))] := by rw [← ec]; rfl
    have f2 : subF low c a = .agg #[.bool (a == 0), .bool (hiB a), .bool true, .bool ((hiB low != hiB c) && (hiB low != hiB a))] := by rw [← eg]; rfl
    exact carries_true a b c d low h0 h1 y0 _ _ _ _ _ _ _ _ _ _ _ _ _ _ _ _ _ _ _ _ w
      (fun w => do_add a c low _ _ _ _ _ _ _ _ w ha hc wl hlow f1) (fun w => do_add b d h0 _ _ _ _ _ _ _ _ w hb hd wh hh0 (addF_eq b d h0)) (fun w => do_inc h0 0 h1 _ _ _ _ _ _ _ _ w wh word_1 w1 hh1 (addF_eq h0 1 h1))
      (fun w => do_sub low c a _ _ _ _ _ _ _ _ w wl hc ha ea f2) (fun w => do_sub h1 d y0 _ _ _ _ _ _ _ _ w w1 hd wy hy0 (subF_eq h1 d y0)) (fun w => do_dec y0 0 b _ _ _ _ _ _ _ _ w wy word_1 hb eb (subF_eq y0 1 b)) el eg
  · have eb : IntKind.u64.wrap (h0 - d) = b := by rw [IntKind.wrap_u64]; omega
    have ec : ((a + c) / 18446744073709551616 != 0) = false := by rw [bne_eq_false_iff_eq]; omega
    have eg : decide (low < c) = false := by rw [decide_eq_false_iff_not]; omega
    have el : decide (low < a) = false := by rw [decide_eq_false_iff_not]; omega
    have f1 : addF a c low = .agg #[.bool (low == 0), .bool (hiB low), .bool false, .bool ((hiB a != hiB low) && (hiB c != hiB low))] := by rw [← ec]; rfl
    have f2 : subF low c a = .agg #[.bool (a == 0), .bool (hiB a), .bool false, .bool ((hiB low != hiB c) && (hiB low != hiB a))] := by rw [← eg]; rfl
    exact carries_false a b c d low h0 0 0 _ _ _ _ _ _ _ _ _ _ false false false _ _ _ _ false false false w
      (fun w => do_add a c low _ _ _ _ _ _ _ _ w ha hc wl hlow f1) (fun w => do_add b d h0 _ _ _ _ _ _ _ _ w hb hd wh hh0 (addF_eq b d h0))
      (fun w => do_sub low c a _ _ _ _ _ _ _ _ w wl hc ha ea f2) (fun w => do_sub h0 d b _ _ _ _ _ _ _ _ w wh hd hb eb (subF_eq h0 d b)) el eg
end Go.Proofs.Ytifklokdjcnalaa
