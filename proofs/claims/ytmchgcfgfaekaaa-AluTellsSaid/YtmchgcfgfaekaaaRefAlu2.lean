/- The document's own answer for numbers and flags: one more, one less, shifts, and what is none. -/
import Derived.Test.YtmchgcfgfaekaaaRefAlu
namespace Go.Proofs.Ytmchgcfgfaekaaa
open Go.ChangeShapes Go.WideShapes Go.ChangeAt Go.RowKit
set_option linter.unusedVariables false

theorem Blk5.one {w : World} {B C : Nat} {v : Int} {z s c o : Bool} {k : Nat} {x : Value} (h : Blk5 w C v z s c o) (hn : B ≠ C) : Blk5 (w.setCell ⟨B, k, none⟩ x) C v z s c o := by
  obtain ⟨h0, h1, h2, h3, h4, g0, g1, g2, g3, g4⟩ := h
  constructor <;> simp [go_sem, *]
theorem Blk5.third {w : World} {C : Nat} {v : Int} {z s c o : Bool} (h : Blk5 w C v z s c o) (d : Bool) : Blk5 (w.setCell ⟨C, 3, none⟩ (.bool d)) C v z s d o := by
  obtain ⟨h0, h1, h2, h3, h4, g0, g1, g2, g3, g4⟩ := h
  constructor <;> simp [go_sem, *]

theorem ralu_inc (a b v : Int) (z s c o z1 s1 c1 o1 : Bool) (w : World) (hb : Word b)
    (hc : Hid (∀ w, Calls Try.prog 30 #[.int .u64 a, .int .u64 1] w fun e w' => e = .returned (.agg #[.int .u64 v, .bool z1, .bool s1, .bool c1, .bool o1]) ∧ Below w.heap.size w w')) :
    Calls Try.prog 10 #[.int .i64 5, .int .u64 a, .int .u64 b, .agg #[.bool z, .bool s, .bool c, .bool o]] w fun e w' => e = .returned (.agg #[.int .u64 v, .bool z1, .bool s1, .bool c, .bool o1]) ∧ Below w.heap.size w w' := by
  have H63 := and_63 b hb
  go_enter Try.func10, Try.ntmps10
  go_wp2_with fail
  refine (hc.out _).mono ?_
  rintro e w1 ⟨rfl, hb1⟩
  obtain ⟨K0, K1, K2, hb2, hs⟩ := Blk.three hb1
  have HK1 := Lib.hid K1
  have HK2 := Lib.hid K2
  have HB := Lib.hid hb2
  have n0 : w.heap.size + 2 ≠ w.heap.size := by omega
  have n1 : w.heap.size + 2 ≠ w.heap.size + 1 := by omega
  obtain ⟨k0, k1, k2, k3, _, _, _, _⟩ := K0
  obtain ⟨m0, m1, m2, m3, m4, l0, l1, l2, l3, l4⟩ := K2
  clear hb1 hb2
  go_upto_region 30 with (fail)
  obtain ⟨W, hW⟩ : ∃ W, W = ((((((w1.setCell ⟨w.heap.size + 2, 0, none⟩ (.int .u64 v)).setCell ⟨w.heap.size + 2, 1, none⟩ (.bool z1)).setCell ⟨w.heap.size + 2, 2, none⟩ (.bool s1)).setCell ⟨w.heap.size + 2, 3, none⟩ (.bool c1)).setCell ⟨w.heap.size + 2, 4, none⟩ (.bool o1))).setCell ⟨w.heap.size + 2, 3, none⟩ (.bool c) := ⟨_, rfl⟩
  rw [show w.heap.size + 1 + 1 = w.heap.size + 2 from rfl, ← hW]
  have Q1 := HK1.out.far (B := w.heap.size + 2) (by omega) v z1 s1 c1 o1
  have Q2 := HK2.out.put v z1 s1 c1 o1
  have R1 : Blk5 W (w.heap.size + 1) 0 false false false false := by rw [hW]; exact Q1.one (by omega)
  have R2 : Blk5 W (w.heap.size + 2) v z1 s1 c o1 := by rw [hW]; exact Q2.third c
  have hb3 : Below w.heap.size w W := by
    rw [hW]
    exact (((((HB.out.setCell (by simp) _).setCell (by simp) _).setCell (by simp) _).setCell (by simp) _).setCell (by simp) _).setCell (by simp) _
  clear hW Q1 Q2 HK1 HK2 HB k0 k1 k2 k3 m0 m1 m2 m3 m4 l0 l1 l2 l3 l4
  obtain ⟨h0, h1, h2, h3, h4, g0, g1, g2, g3, g4⟩ := R1
  obtain ⟨m0, m1, m2, m3, m4, l0, l1, l2, l3, l4⟩ := R2
  go_wp2
  exact bodyPost_ret (v := .agg #[.int .u64 v, .bool z1, .bool s1, .bool c, .bool o1]) (by simp [results, Try.results10, go_sem, h0, h1, h2, h3, h4]) rfl ⟨rfl, by go_grown⟩

theorem ralu_dec (a b v : Int) (z s c o z1 s1 c1 o1 : Bool) (w : World) (hb : Word b)
    (hc : Hid (∀ w, Calls Try.prog 31 #[.int .u64 a, .int .u64 1] w fun e w' => e = .returned (.agg #[.int .u64 v, .bool z1, .bool s1, .bool c1, .bool o1]) ∧ Below w.heap.size w w')) :
    Calls Try.prog 10 #[.int .i64 6, .int .u64 a, .int .u64 b, .agg #[.bool z, .bool s, .bool c, .bool o]] w fun e w' => e = .returned (.agg #[.int .u64 v, .bool z1, .bool s1, .bool c, .bool o1]) ∧ Below w.heap.size w w' := by
  have H63 := and_63 b hb
  go_enter Try.func10, Try.ntmps10
  go_wp2_with fail
  refine (hc.out _).mono ?_
  rintro e w1 ⟨rfl, hb1⟩
  obtain ⟨K0, K1, K2, hb2, hs⟩ := Blk.three hb1
  have HK1 := Lib.hid K1
  have HK2 := Lib.hid K2
  have HB := Lib.hid hb2
  have n0 : w.heap.size + 2 ≠ w.heap.size := by omega
  have n1 : w.heap.size + 2 ≠ w.heap.size + 1 := by omega
  obtain ⟨k0, k1, k2, k3, _, _, _, _⟩ := K0
  obtain ⟨m0, m1, m2, m3, m4, l0, l1, l2, l3, l4⟩ := K2
  clear hb1 hb2
  go_upto_region 30 with (fail)
  obtain ⟨W, hW⟩ : ∃ W, W = ((((((w1.setCell ⟨w.heap.size + 2, 0, none⟩ (.int .u64 v)).setCell ⟨w.heap.size + 2, 1, none⟩ (.bool z1)).setCell ⟨w.heap.size + 2, 2, none⟩ (.bool s1)).setCell ⟨w.heap.size + 2, 3, none⟩ (.bool c1)).setCell ⟨w.heap.size + 2, 4, none⟩ (.bool o1))).setCell ⟨w.heap.size + 2, 3, none⟩ (.bool c) := ⟨_, rfl⟩
  rw [show w.heap.size + 1 + 1 = w.heap.size + 2 from rfl, ← hW]
  have Q1 := HK1.out.far (B := w.heap.size + 2) (by omega) v z1 s1 c1 o1
  have Q2 := HK2.out.put v z1 s1 c1 o1
  have R1 : Blk5 W (w.heap.size + 1) 0 false false false false := by rw [hW]; exact Q1.one (by omega)
  have R2 : Blk5 W (w.heap.size + 2) v z1 s1 c o1 := by rw [hW]; exact Q2.third c
  have hb3 : Below w.heap.size w W := by
    rw [hW]
    exact (((((HB.out.setCell (by simp) _).setCell (by simp) _).setCell (by simp) _).setCell (by simp) _).setCell (by simp) _).setCell (by simp) _
  clear hW Q1 Q2 HK1 HK2 HB k0 k1 k2 k3 m0 m1 m2 m3 m4 l0 l1 l2 l3 l4
  obtain ⟨h0, h1, h2, h3, h4, g0, g1, g2, g3, g4⟩ := R1
  obtain ⟨m0, m1, m2, m3, m4, l0, l1, l2, l3, l4⟩ := R2
  go_wp2
  exact bodyPost_ret (v := .agg #[.int .u64 v, .bool z1, .bool s1, .bool c, .bool o1]) (by simp [results, Try.results10, go_sem, h0, h1, h2, h3, h4]) rfl ⟨rfl, by go_grown⟩

theorem ralu_shl (a b n v : Int) (z s c o z1 s1 c1 o1 : Bool) (w : World) (hb : Word b) (h0 : 1 ≤ n) (h1 : n ≤ 63) (hn : Hid (b % 64 = n)) (HV : IntKind.u64.wrap (a * 2 ^ n.toNat) = v) (HX : (bits .and .u64 (a / 2 ^ (64 - n).toNat) 1 == 1) = c1)
    (hc : Hid (∀ w, Calls Try.prog 32 #[.int .u64 v, .bool c1, .bool false] w fun e w' => e = .returned (.agg #[.int .u64 v, .bool z1, .bool s1, .bool c1, .bool o1]) ∧ Below w.heap.size w w')) :
    Calls Try.prog 10 #[.int .i64 9, .int .u64 a, .int .u64 b, .agg #[.bool z, .bool s, .bool c, .bool o]] w fun e w' => e = .returned (.agg #[.int .u64 v, .bool z1, .bool s1, .bool c1, .bool o1]) ∧ Below w.heap.size w w' := by
  have H63 := and_63 b hb
  rw [hn.out] at H63
  have hp : decide (0 < n) = true := by rw [decide_eq_true_iff]; omega
  go_enter Try.func10, Try.ntmps10
  go_wp2_with fail
  clear H63 HV HX
  refine (hc.out _).mono ?_
  rintro e w1 ⟨rfl, hb1⟩
  obtain ⟨_, ⟨h0, h1, h2, h3, h4, g0, g1, g2, g3, g4⟩, _, hb2, hs⟩ := Blk.three hb1
  clear hb1
  go_wp2
  exact bodyPost_ret (v := .agg #[.int .u64 v, .bool z1, .bool s1, .bool c1, .bool o1]) (by simp [results, Try.results10, go_sem, h0, h1, h2, h3, h4]) rfl ⟨rfl, by go_grown⟩

theorem ralu_shlz (a b : Int) (z s c o : Bool) (w : World) (hb : Word b) (hn : b % 64 = 0) :
    Calls Try.prog 10 #[.int .i64 9, .int .u64 a, .int .u64 b, .agg #[.bool z, .bool s, .bool c, .bool o]] w fun e w' => e = .returned (.agg #[.int .u64 a, .bool z, .bool s, .bool c, .bool o]) ∧ Below w.heap.size w w' := by
  have H63 := and_63 b hb
  rw [hn] at H63
  clear hn
  go_enter Try.func10, Try.ntmps10
  go_wp2
  exact bodyPost_ret (v := .agg #[.int .u64 a, .bool z, .bool s, .bool c, .bool o]) (by simp [results, Try.results10, go_sem]) rfl ⟨rfl, by go_grown⟩

theorem ralu_shr (a b n v : Int) (z s c o z1 s1 c1 o1 : Bool) (w : World) (hb : Word b) (h0 : 1 ≤ n) (h1 : n ≤ 63) (hn : Hid (b % 64 = n)) (HV : a / 2 ^ n.toNat = v) (HX : (bits .and .u64 (a / 2 ^ (n.toNat - 1)) 1 == 1) = c1)
    (hc : Hid (∀ w, Calls Try.prog 32 #[.int .u64 v, .bool c1, .bool false] w fun e w' => e = .returned (.agg #[.int .u64 v, .bool z1, .bool s1, .bool c1, .bool o1]) ∧ Below w.heap.size w w')) :
    Calls Try.prog 10 #[.int .i64 10, .int .u64 a, .int .u64 b, .agg #[.bool z, .bool s, .bool c, .bool o]] w fun e w' => e = .returned (.agg #[.int .u64 v, .bool z1, .bool s1, .bool c1, .bool o1]) ∧ Below w.heap.size w w' := by
  have H63 := and_63 b hb
  rw [hn.out] at H63
  have hp : decide (0 < n) = true := by rw [decide_eq_true_iff]; omega
  go_enter Try.func10, Try.ntmps10
  go_wp2_with fail
  clear H63 HV HX
  refine (hc.out _).mono ?_
  rintro e w1 ⟨rfl, hb1⟩
  obtain ⟨_, ⟨h0, h1, h2, h3, h4, g0, g1, g2, g3, g4⟩, _, hb2, hs⟩ := Blk.three hb1
  clear hb1
  go_wp2
  exact bodyPost_ret (v := .agg #[.int .u64 v, .bool z1, .bool s1, .bool c1, .bool o1]) (by simp [results, Try.results10, go_sem, h0, h1, h2, h3, h4]) rfl ⟨rfl, by go_grown⟩

theorem ralu_shrz (a b : Int) (z s c o : Bool) (w : World) (hb : Word b) (hn : b % 64 = 0) :
    Calls Try.prog 10 #[.int .i64 10, .int .u64 a, .int .u64 b, .agg #[.bool z, .bool s, .bool c, .bool o]] w fun e w' => e = .returned (.agg #[.int .u64 a, .bool z, .bool s, .bool c, .bool o]) ∧ Below w.heap.size w w' := by
  have H63 := and_63 b hb
  rw [hn] at H63
  clear hn
  go_enter Try.func10, Try.ntmps10
  go_wp2
  exact bodyPost_ret (v := .agg #[.int .u64 a, .bool z, .bool s, .bool c, .bool o]) (by simp [results, Try.results10, go_sem]) rfl ⟨rfl, by go_grown⟩

theorem ralu_none (op a b : Int) (z s c o : Bool) (w : World) (hb : Word b) (n0 : (op == 0) = false) (n1 : (op == 1) = false) (n2 : (op == 2) = false) (n3 : (op == 3) = false) (n4 : (op == 4) = false) (n5 : (op == 5) = false) (n6 : (op == 6) = false) (n7 : (op == 7) = false) (n8 : (op == 8) = false) (n9 : (op == 9) = false) (n10 : (op == 10) = false) :
    Calls Try.prog 10 #[.int .i64 op, .int .u64 a, .int .u64 b, .agg #[.bool z, .bool s, .bool c, .bool o]] w fun e w' => e = .returned (.agg #[.int .u64 a, .bool z, .bool s, .bool c, .bool o]) ∧ Below w.heap.size w w' := by
  have H63 := and_63 b hb
  go_enter Try.func10, Try.ntmps10
  go_wp2
  exact bodyPost_ret (v := .agg #[.int .u64 a, .bool z, .bool s, .bool c, .bool o]) (by simp [results, Try.results10, go_sem]) rfl ⟨rfl, by go_grown⟩

end Go.Proofs.Ytmchgcfgfaekaaa
