/- AluTells. -/
import Derived.Test.YtmchgcfgfaekaaaRefAlu2
import Derived.Test.YtmchgcfgfaekaaaAluShifts
import Derived.BigRegion
import Derived.Deep.Cut
import Derived.ChangeAlike
import Derived.Deep.RegionHeld3
namespace Go.Proofs.Ytmchgcfgfaekaaa
open Go.ChangeShapes Go.WideShapes Go.ChangeAt Go.RowKit
set_option linter.unusedVariables false

theorem rcond_b (z s c o : Bool) (w : World) : Calls Try.prog 12 #[.int .i64 2, .agg #[.bool z, .bool s, .bool c, .bool o]] w fun e w' => e = .returned (.bool (c)) ∧ Below w.heap.size w w' := by
  go_enter Try.func12, Try.ntmps12
  go_wp2
  go_ret
  exact ⟨rfl, by go_grown⟩

theorem rcond_nb (z s c o : Bool) (w : World) : Calls Try.prog 12 #[.int .i64 3, .agg #[.bool z, .bool s, .bool c, .bool o]] w fun e w' => e = .returned (.bool (!c)) ∧ Below w.heap.size w w' := by
  go_enter Try.func12, Try.ntmps12
  go_wp2
  go_ret
  exact ⟨rfl, by go_grown⟩

theorem rcond_e (z s c o : Bool) (w : World) : Calls Try.prog 12 #[.int .i64 4, .agg #[.bool z, .bool s, .bool c, .bool o]] w fun e w' => e = .returned (.bool (z)) ∧ Below w.heap.size w w' := by
  go_enter Try.func12, Try.ntmps12
  go_wp2
  go_ret
  exact ⟨rfl, by go_grown⟩

theorem rcond_ne (z s c o : Bool) (w : World) : Calls Try.prog 12 #[.int .i64 5, .agg #[.bool z, .bool s, .bool c, .bool o]] w fun e w' => e = .returned (.bool (!z)) ∧ Below w.heap.size w w' := by
  go_enter Try.func12, Try.ntmps12
  go_wp2
  go_ret
  exact ⟨rfl, by go_grown⟩

theorem rcond_s (z s c o : Bool) (w : World) : Calls Try.prog 12 #[.int .i64 8, .agg #[.bool z, .bool s, .bool c, .bool o]] w fun e w' => e = .returned (.bool (s)) ∧ Below w.heap.size w w' := by
  go_enter Try.func12, Try.ntmps12
  go_wp2
  go_ret
  exact ⟨rfl, by go_grown⟩

theorem rcond_ns (z s c o : Bool) (w : World) : Calls Try.prog 12 #[.int .i64 9, .agg #[.bool z, .bool s, .bool c, .bool o]] w fun e w' => e = .returned (.bool (!s)) ∧ Below w.heap.size w w' := by
  go_enter Try.func12, Try.ntmps12
  go_wp2
  go_ret
  exact ⟨rfl, by go_grown⟩

theorem rcond_l (z s c o : Bool) (w : World) : Calls Try.prog 12 #[.int .i64 12, .agg #[.bool z, .bool s, .bool c, .bool o]] w fun e w' => e = .returned (.bool (s != o)) ∧ Below w.heap.size w w' := by
  go_enter Try.func12, Try.ntmps12
  go_wp2
  go_ret
  exact ⟨rfl, by go_grown⟩

theorem rcond_nl (z s c o : Bool) (w : World) : Calls Try.prog 12 #[.int .i64 13, .agg #[.bool z, .bool s, .bool c, .bool o]] w fun e w' => e = .returned (.bool (s == o)) ∧ Below w.heap.size w w' := by
  go_enter Try.func12, Try.ntmps12
  go_wp2
  go_ret
  exact ⟨rfl, by go_grown⟩

theorem rcond_none (cc : Int) (z s c o : Bool) (w : World) (n0 : (cc == 2) = false) (n1 : (cc == 3) = false) (n2 : (cc == 4) = false) (n3 : (cc == 5) = false) (n4 : (cc == 8) = false) (n5 : (cc == 9) = false) (n6 : (cc == 12) = false) (n7 : (cc == 13) = false) :
    Calls Try.prog 12 #[.int .i64 cc, .agg #[.bool z, .bool s, .bool c, .bool o]] w fun e w' => e = .returned (.bool false) ∧ Below w.heap.size w w' := by
  go_enter Try.func12, Try.ntmps12
  go_wp2
  go_ret
  exact ⟨rfl, by go_grown⟩

theorem cond_none (cc : Int) (z s c o : Bool) (w : World) (n0 : (cc == 2) = false) (n1 : (cc == 3) = false) (n2 : (cc == 4) = false) (n3 : (cc == 5) = false) (n4 : (cc == 8) = false) (n5 : (cc == 9) = false) (n6 : (cc == 12) = false) (n7 : (cc == 13) = false) :
    Calls Try.prog 11 #[.int .i64 cc, .agg #[.bool z, .bool s, .bool c, .bool o]] w fun e w' => e = .returned (.bool false) ∧ Below w.heap.size w w' := by
  go_enter Try.func11, Try.ntmps11
  go_wp2
  go_ret
  exact ⟨rfl, by go_grown⟩

/-- Both packages tell the same of a condition. -/
theorem cond_same (cc : Int) (z s c o : Bool) : ∃ r : Bool,
    (∀ w, Calls Try.prog 11 #[.int .i64 cc, .agg #[.bool z, .bool s, .bool c, .bool o]] w fun e w' => e = .returned (.bool r) ∧ Below w.heap.size w w') ∧
    (∀ w, Calls Try.prog 12 #[.int .i64 cc, .agg #[.bool z, .bool s, .bool c, .bool o]] w fun e w' => e = .returned (.bool r) ∧ Below w.heap.size w w') := by
  by_cases h2 : cc = 2
  · subst h2
    exact ⟨_, fun w => cond_b z s c o w, fun w => rcond_b z s c o w⟩
  by_cases h3 : cc = 3
  · subst h3
    exact ⟨_, fun w => cond_nb z s c o w, fun w => rcond_nb z s c o w⟩
  by_cases h4 : cc = 4
  · subst h4
    exact ⟨_, fun w => cond_e z s c o w, fun w => rcond_e z s c o w⟩
  by_cases h5 : cc = 5
  · subst h5
    exact ⟨_, fun w => cond_ne z s c o w, fun w => rcond_ne z s c o w⟩
  by_cases h8 : cc = 8
  · subst h8
    exact ⟨_, fun w => cond_s z s c o w, fun w => rcond_s z s c o w⟩
  by_cases h9 : cc = 9
  · subst h9
    exact ⟨_, fun w => cond_ns z s c o w, fun w => rcond_ns z s c o w⟩
  by_cases h12 : cc = 12
  · subst h12
    exact ⟨_, fun w => cond_l z s c o w, fun w => rcond_l z s c o w⟩
  by_cases h13 : cc = 13
  · subst h13
    exact ⟨_, fun w => cond_nl z s c o w, fun w => rcond_nl z s c o w⟩
  have f := fun (k : Int) (h : ¬ cc = k) => beq_eq_false_iff_ne.2 h
  exact ⟨_, fun w => cond_none cc z s c o w (f _ h2) (f _ h3) (f _ h4) (f _ h5) (f _ h8) (f _ h9) (f _ h12) (f _ h13), fun w => rcond_none cc z s c o w (f _ h2) (f _ h3) (f _ h4) (f _ h5) (f _ h8) (f _ h9) (f _ h12) (f _ h13)⟩

theorem radd_word {a b v : Int} (ha : Word a) (hb : Word b) (he : (a + b) % 18446744073709551616 = v) : decide (v < a) = ((a + b) / 18446744073709551616 != 0) := by
  have a0 := ha.low
  have a1 := ha.high
  have b0 := hb.low
  have b1 := hb.high
  rw [Bool.eq_iff_iff, decide_eq_true_iff, bne_iff_ne]
  omega
theorem wrap_add {a b v : Int} (he : (a + b) % 18446744073709551616 = v) : IntKind.u64.wrap (a + b) = v := by rw [IntKind.wrap_u64]; exact he
theorem top_and {x y : Int} (hx : Word x) (hy : Word y) : (bits .and .u64 x y / 9223372036854775808 == 1) = (hiB x && hiB y) := by
  rw [shS _ (word_and hx hy), hi_and hx hy]

/-- The document's sum has the flags of the program's. -/
theorem radd_add_any {a b v : Int} (w : World) (ha : Word a) (hb : Word b) (hv : Word v) (he : (a + b) % 18446744073709551616 = v) :
    Calls Try.prog 30 #[.int .u64 a, .int .u64 b] w fun e w' => e = .returned (.agg #[.int .u64 v, .bool (v == 0), .bool (hiB v), .bool ((a + b) / 18446744073709551616 != 0), .bool ((hiB a != hiB v) && (hiB b != hiB v))]) ∧ Below w.heap.size w w' :=
  radd_add a b v _ _ w ha hb hv (wrap_add he) (radd_word ha hb he) (by rw [top_and (word_xor ha hv) (word_xor hb hv), hi_xor ha hv, hi_xor hb hv])
theorem radd_sub_any {a b v : Int} (w : World) (ha : Word a) (hb : Word b) (hv : Word v) (he : IntKind.u64.wrap (a - b) = v) :
    Calls Try.prog 31 #[.int .u64 a, .int .u64 b] w fun e w' => e = .returned (.agg #[.int .u64 v, .bool (v == 0), .bool (hiB v), .bool (decide (a < b)), .bool ((hiB a != hiB b) && (hiB a != hiB v))]) ∧ Below w.heap.size w w' :=
  radd_sub a b v _ _ w ha hb hv he rfl (by rw [top_and (word_xor ha hb) (word_xor ha hv), hi_xor ha hb, hi_xor ha hv])
theorem bit_one {x : Int} (h : Word x) : (bits .and .u64 x 1 == 1) = (x % 2 != 0) := by
  rw [and_one x h, Bool.eq_iff_iff, beq_iff_eq, bne_iff_ne]
  omega

set_option maxHeartbeats 1000000 in
/-- Both packages reckon the same. -/
theorem alu_same (op a b : Int) (z s c o : Bool) (ha : Word a) (hb : Word b) : ∃ (v : Int) (z1 s1 c1 o1 : Bool),
    (∀ w, Calls Try.prog 8 #[.int .i64 op, .int .u64 a, .int .u64 b, .agg #[.bool z, .bool s, .bool c, .bool o]] w fun e w' => e = .returned (.tuple #[.int .u64 v, .agg #[.bool z1, .bool s1, .bool c1, .bool o1]]) ∧ Below w.heap.size w w') ∧
    (∀ w, Calls Try.prog 10 #[.int .i64 op, .int .u64 a, .int .u64 b, .agg #[.bool z, .bool s, .bool c, .bool o]] w fun e w' => e = .returned (.agg #[.int .u64 v, .bool z1, .bool s1, .bool c1, .bool o1]) ∧ Below w.heap.size w w') := by
  have a0 := ha.low
  have a1 := ha.high
  have b0 := hb.low
  have b1 := hb.high
  obtain ⟨s0, hs0⟩ : ∃ v, (a + b) % 18446744073709551616 = v := ⟨_, rfl⟩
  obtain ⟨i0, hi0⟩ : ∃ v, (a + 1) % 18446744073709551616 = v := ⟨_, rfl⟩
  obtain ⟨d0, hd0⟩ : ∃ v, IntKind.u64.wrap (a - b) = v := ⟨_, rfl⟩
  obtain ⟨e0, he0⟩ : ∃ v, IntKind.u64.wrap (a - 1) = v := ⟨_, rfl⟩
  have ws : Word s0 := ⟨by omega, by omega⟩
  have wi : Word i0 := ⟨by omega, by omega⟩
  have wd : Word d0 := by rw [← hd0]; exact word_wrap _
  have we : Word e0 := by rw [← he0]; exact word_wrap _
  have wa := word_and ha hb
  have wo := word_or ha hb
  have wx := word_xor ha hb
  by_cases h0 : op = 0
  · subst h0
    exact ⟨s0, _, _, _, _, fun w => do_add a b s0 _ _ _ _ _ _ _ _ w ha hb ws hs0 rfl, fun w => ralu_add a b s0 _ _ _ _ _ _ _ _ w hb (Lib.hid fun w => radd_add_any w ha hb ws hs0)⟩
  by_cases h1 : op = 1
  · subst h1
    exact ⟨d0, _, _, _, _, fun w => do_sub a b d0 _ _ _ _ _ _ _ _ w ha hb wd hd0 rfl, fun w => ralu_sub a b d0 _ _ _ _ _ _ _ _ w hb (Lib.hid fun w => radd_sub_any w ha hb wd hd0)⟩
  by_cases h2 : op = 2
  · subst h2
    exact ⟨_, _, _, _, _, fun w => do_and a b _ _ _ _ _ _ _ w ha hb wa (Lib.hid rfl) rfl rfl, fun w => ralu_and a b _ _ _ _ _ _ _ _ _ w hb _ (Lib.hid rfl) (Lib.hid fun w => told_any _ _ _ w wa)⟩
  by_cases h3 : op = 3
  · subst h3
    exact ⟨_, _, _, _, _, fun w => do_or a b _ _ _ _ _ _ _ w ha hb wo (Lib.hid rfl) rfl rfl, fun w => ralu_or a b _ _ _ _ _ _ _ _ _ w hb _ (Lib.hid rfl) (Lib.hid fun w => told_any _ _ _ w wo)⟩
  by_cases h4 : op = 4
  · subst h4
    exact ⟨_, _, _, _, _, fun w => do_xor a b _ _ _ _ _ _ _ w ha hb wx (Lib.hid rfl) rfl rfl, fun w => ralu_xor a b _ _ _ _ _ _ _ _ _ w hb _ (Lib.hid rfl) (Lib.hid fun w => told_any _ _ _ w wx)⟩
  by_cases h5 : op = 5
  · subst h5
    exact ⟨i0, _, _, _, _, fun w => do_inc a b i0 _ _ _ _ _ _ _ _ w ha word_1 wi hi0 rfl, fun w => ralu_inc a b i0 _ _ _ _ _ _ _ _ w hb (Lib.hid fun w => radd_add_any w ha word_1 wi hi0)⟩
  by_cases h6 : op = 6
  · subst h6
    exact ⟨e0, _, _, _, _, fun w => do_dec a b e0 _ _ _ _ _ _ _ _ w ha word_1 we he0 rfl, fun w => ralu_dec a b e0 _ _ _ _ _ _ _ _ w hb (Lib.hid fun w => radd_sub_any w ha word_1 we he0)⟩
  by_cases h7 : op = 7
  · subst h7
    exact ⟨a, _, _, _, _, fun w => do_cmp a b d0 _ _ _ _ _ _ _ _ w ha hb wd hd0 rfl, fun w => ralu_cmp a b d0 _ _ _ _ _ _ _ _ w hb (Lib.hid fun w => radd_sub_any w ha hb wd hd0)⟩
  by_cases h8 : op = 8
  · subst h8
    exact ⟨a, _, _, _, _, fun w => do_test a b _ _ _ _ _ _ _ w ha hb wa (Lib.hid rfl) rfl rfl, fun w => ralu_test a b _ _ _ _ _ _ _ _ _ w hb _ (Lib.hid rfl) (Lib.hid fun w => told_any _ _ _ w wa)⟩
  obtain ⟨n, hn⟩ : ∃ n : Int, b % 64 = n := ⟨_, rfl⟩
  by_cases hz : n = 0
  · subst hz
    by_cases h9 : op = 9
    · subst h9
      exact ⟨a, z, s, c, o, fun w => do_shl a b 0 a _ _ _ _ _ _ _ _ w hb (by omega) (by omega) (Lib.hid hn) (Lib.hid fun w => shift_z 9 a _ _ _ _ w), fun w => ralu_shlz a b _ _ _ _ w hb hn⟩
    by_cases h10 : op = 10
    · subst h10
      exact ⟨a, z, s, c, o, fun w => do_shr a b 0 a _ _ _ _ _ _ _ _ w hb (by omega) (by omega) (Lib.hid hn) (Lib.hid fun w => shift_z 10 a _ _ _ _ w), fun w => ralu_shrz a b _ _ _ _ w hb hn⟩
    have f := fun (k : Int) (h : ¬ op = k) => beq_eq_false_iff_ne.2 h
    exact ⟨a, z, s, c, o, fun w => do_none op a b z s c o w (f _ h0) (f _ h1) (f _ h2) (f _ h3) (f _ h4) (f _ h5) (f _ h6) (f _ h7) (f _ h8) (f _ h9) (f _ h10), fun w => ralu_none op a b z s c o w hb (f _ h0) (f _ h1) (f _ h2) (f _ h3) (f _ h4) (f _ h5) (f _ h6) (f _ h7) (f _ h8) (f _ h9) (f _ h10)⟩
  · have hnz : (n == 0) = false := beq_eq_false_iff_ne.2 hz
    by_cases h9 : op = 9
    · subst h9
      have wv := word_wrap (a * 2 ^ n.toNat)
      have wq := word_div ha (64 - n).toNat
      exact ⟨_, _, _, _, _, fun w => do_shl a b n _ _ _ _ _ _ _ _ _ w hb (by omega) (by omega) (Lib.hid hn) (Lib.hid fun w => shift_l a n _ _ _ _ _ _ w ha wv wq (by omega) (by omega) hnz (Lib.hid rfl) (Lib.hid rfl)),
        fun w => ralu_shl a b n _ _ _ _ _ _ _ _ _ w hb (by omega) (by omega) (Lib.hid hn) rfl (bit_one wq) (Lib.hid fun w => told_any _ _ _ w wv)⟩
    by_cases h10 : op = 10
    · subst h10
      have wv := word_div ha n.toNat
      have wq := word_div ha (n.toNat - 1)
      exact ⟨_, _, _, _, _, fun w => do_shr a b n _ _ _ _ _ _ _ _ _ w hb (by omega) (by omega) (Lib.hid hn) (Lib.hid fun w => shift_r a n _ _ _ _ _ _ w ha wv wq (by omega) (by omega) hnz (Lib.hid rfl) (Lib.hid rfl)),
        fun w => ralu_shr a b n _ _ _ _ _ _ _ _ _ w hb (by omega) (by omega) (Lib.hid hn) rfl (bit_one wq) (Lib.hid fun w => told_any _ _ _ w wv)⟩
    have f := fun (k : Int) (h : ¬ op = k) => beq_eq_false_iff_ne.2 h
    exact ⟨a, z, s, c, o, fun w => do_none op a b z s c o w (f _ h0) (f _ h1) (f _ h2) (f _ h3) (f _ h4) (f _ h5) (f _ h6) (f _ h7) (f _ h8) (f _ h9) (f _ h10), fun w => ralu_none op a b z s c o w hb (f _ h0) (f _ h1) (f _ h2) (f _ h3) (f _ h4) (f _ h5) (f _ h6) (f _ h7) (f _ h8) (f _ h9) (f _ h10)⟩
end Go.Proofs.Ytmchgcfgfaekaaa
