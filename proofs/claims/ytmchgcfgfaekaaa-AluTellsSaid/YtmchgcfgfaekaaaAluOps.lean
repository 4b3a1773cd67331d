/- The contracts of alu.Do: and, or, xor, test, shifts, and what is none of them. -/
import Derived.Test.YtmchgcfgfaekaaaAluShift
namespace Go.Proofs.Ytmchgcfgfaekaaa
open Go.ChangeShapes Go.WideShapes Go.ChangeAt Go.RowKit
set_option linter.unusedVariables false

theorem word_or {a b : Int} (ha : Word a) (hb : Word b) : Word (bits .or .u64 a b) := by
  obtain ⟨A, rfl⟩ := Int.eq_ofNat_of_zero_le ha.low
  obtain ⟨B, rfl⟩ := Int.eq_ofNat_of_zero_le hb.low
  have h1 := ha.high
  have h2 := hb.high
  rw [u64_or_nat A B (by omega) (by omega)]
  have hx : A ||| B < 2 ^ 64 := Nat.or_lt_two_pow (by omega) (by omega)
  exact ⟨by omega, by omega⟩

theorem and_63 (x : Int) (h : Word x) : bits .and .u64 x 63 = x % 64 := by
  obtain ⟨A, rfl⟩ := Int.eq_ofNat_of_zero_le h.low
  have h1 := h.high
  rw [show (63 : Int) = ((63 : Nat) : Int) from rfl, u64_and_nat A 63 (by omega) (by omega), show 63 = 2 ^ 6 - 1 from rfl, Nat.and_two_pow_sub_one_eq_mod]
  omega

def logF (v : Int) : Value := .agg #[.bool (v == 0), .bool (hiB v), .bool false, .bool false]

theorem Blk.far4 {w : World} {B C : Nat} {z s c o : Bool} (h : Blk w C z s c o) (hn : B ≠ C) (z' s' c' o' : Bool) :
    Blk ((((w.setCell ⟨B, 0, none⟩ (.bool z')).setCell ⟨B, 1, none⟩ (.bool s')).setCell ⟨B, 2, none⟩ (.bool c')).setCell ⟨B, 3, none⟩ (.bool o')) C z s c o := by
  obtain ⟨h0, h1, h2, h3, g0, g1, g2, g3⟩ := h
  constructor <;> simp [go_sem, *]

theorem do_and (a b v : Int) (z s c o z1 s1 : Bool) (w : World) (ha : Word a) (hb : Word b) (hv : Word v) (he : Hid (bits .and .u64 a b = v)) (hz : (v == 0) = z1) (hs : hiB v = s1) :
    Calls Try.prog 8 #[.int .i64 2, .int .u64 a, .int .u64 b, .agg #[.bool z, .bool s, .bool c, .bool o]] w fun e w' => e = .returned (.tuple #[.int .u64 v, .agg #[.bool z1, .bool s1, .bool false, .bool false]]) ∧ Below w.heap.size w w' := by
  have HZ := Lib.hid hz
  have HS := Lib.hid hs
  clear hz hs
  go_enter Try.func8, Try.ntmps8
  go_wp2_with fail
  rw [he.out]
  refine (logic_any v _ hv).mono ?_
  rintro e w1 ⟨rfl, hb1⟩
  rw [HZ.out, HS.out]
  obtain ⟨⟨h0, h1, h2, h3, g0, g1, g2, g3⟩, ⟨k0, k1, k2, k3, l0, l1, l2, l3⟩, hb2, hs⟩ := Blk.two hb1
  clear hb1
  go_wp2
  exact bodyPost_ret (v := .tuple #[.int .u64 v, .agg #[.bool z1, .bool s1, .bool false, .bool false]]) (by simp [results, Try.results8, go_sem, h0, h1, h2, h3, k0, k1, k2, k3]) rfl ⟨rfl, by go_grown⟩

theorem do_or (a b v : Int) (z s c o z1 s1 : Bool) (w : World) (ha : Word a) (hb : Word b) (hv : Word v) (he : Hid (bits .or .u64 a b = v)) (hz : (v == 0) = z1) (hs : hiB v = s1) :
    Calls Try.prog 8 #[.int .i64 3, .int .u64 a, .int .u64 b, .agg #[.bool z, .bool s, .bool c, .bool o]] w fun e w' => e = .returned (.tuple #[.int .u64 v, .agg #[.bool z1, .bool s1, .bool false, .bool false]]) ∧ Below w.heap.size w w' := by
  have HZ := Lib.hid hz
  have HS := Lib.hid hs
  clear hz hs
  go_enter Try.func8, Try.ntmps8
  go_wp2_with fail
  rw [he.out]
  refine (logic_any v _ hv).mono ?_
  rintro e w1 ⟨rfl, hb1⟩
  rw [HZ.out, HS.out]
  obtain ⟨⟨h0, h1, h2, h3, g0, g1, g2, g3⟩, ⟨k0, k1, k2, k3, l0, l1, l2, l3⟩, hb2, hs⟩ := Blk.two hb1
  clear hb1
  go_wp2
  exact bodyPost_ret (v := .tuple #[.int .u64 v, .agg #[.bool z1, .bool s1, .bool false, .bool false]]) (by simp [results, Try.results8, go_sem, h0, h1, h2, h3, k0, k1, k2, k3]) rfl ⟨rfl, by go_grown⟩

theorem do_xor (a b v : Int) (z s c o z1 s1 : Bool) (w : World) (ha : Word a) (hb : Word b) (hv : Word v) (he : Hid (bits .xor .u64 a b = v)) (hz : (v == 0) = z1) (hs : hiB v = s1) :
    Calls Try.prog 8 #[.int .i64 4, .int .u64 a, .int .u64 b, .agg #[.bool z, .bool s, .bool c, .bool o]] w fun e w' => e = .returned (.tuple #[.int .u64 v, .agg #[.bool z1, .bool s1, .bool false, .bool false]]) ∧ Below w.heap.size w w' := by
  have HZ := Lib.hid hz
  have HS := Lib.hid hs
  clear hz hs
  go_enter Try.func8, Try.ntmps8
  go_wp2_with fail
  rw [he.out]
  refine (logic_any v _ hv).mono ?_
  rintro e w1 ⟨rfl, hb1⟩
  rw [HZ.out, HS.out]
  obtain ⟨⟨h0, h1, h2, h3, g0, g1, g2, g3⟩, ⟨k0, k1, k2, k3, l0, l1, l2, l3⟩, hb2, hs⟩ := Blk.two hb1
  clear hb1
  go_wp2
  exact bodyPost_ret (v := .tuple #[.int .u64 v, .agg #[.bool z1, .bool s1, .bool false, .bool false]]) (by simp [results, Try.results8, go_sem, h0, h1, h2, h3, k0, k1, k2, k3]) rfl ⟨rfl, by go_grown⟩

theorem do_test (a b v : Int) (z s c o z1 s1 : Bool) (w : World) (ha : Word a) (hb : Word b) (hv : Word v) (he : Hid (bits .and .u64 a b = v)) (hz : (v == 0) = z1) (hs : hiB v = s1) :
    Calls Try.prog 8 #[.int .i64 8, .int .u64 a, .int .u64 b, .agg #[.bool z, .bool s, .bool c, .bool o]] w fun e w' => e = .returned (.tuple #[.int .u64 a, .agg #[.bool z1, .bool s1, .bool false, .bool false]]) ∧ Below w.heap.size w w' := by
  have HZ := Lib.hid hz
  have HS := Lib.hid hs
  clear hz hs
  go_enter Try.func8, Try.ntmps8
  go_wp2_with fail
  rw [he.out]
  refine (logic_any v _ hv).mono ?_
  rintro e w1 ⟨rfl, hb1⟩
  rw [HZ.out, HS.out]
  obtain ⟨K1, K2, hb2, hs⟩ := Blk.two hb1
  have HK1 := Lib.hid K1
  have HK2 := Lib.hid K2
  have HB := Lib.hid hb2
  obtain ⟨h0, h1, h2, h3, g0, g1, g2, g3⟩ := K1
  obtain ⟨k0, k1, k2, k3, l0, l1, l2, l3⟩ := K2
  clear hb1 hb2
  go_wp2_with fail
  obtain ⟨W, hW⟩ : ∃ W, W = (((w1.setCell ⟨w.heap.size, 0, none⟩ (.bool z1)).setCell ⟨w.heap.size, 1, none⟩ (.bool s1)).setCell ⟨w.heap.size, 2, none⟩ (.bool false)).setCell ⟨w.heap.size, 3, none⟩ (.bool false) := ⟨_, rfl⟩
  rw [← hW]
  have Q1 := HK1.out.set z1 s1 false false
  have Q2 := HK2.out.far4 (B := w.heap.size) (by omega) z1 s1 false false
  rw [← hW] at Q1 Q2
  have hb3 : Below w.heap.size w W := by
    rw [hW]
    exact (((HB.out.setCell (p := ⟨w.heap.size, 0, none⟩) (Nat.le_refl _) _).setCell (p := ⟨w.heap.size, 1, none⟩) (Nat.le_refl _) _).setCell (p := ⟨w.heap.size, 2, none⟩) (Nat.le_refl _) _).setCell (p := ⟨w.heap.size, 3, none⟩) (Nat.le_refl _) _
  clear hW h0 h1 h2 h3 g0 g1 g2 g3 k0 k1 k2 k3 l0 l1 l2 l3 HK1 HK2 HB
  obtain ⟨h0, h1, h2, h3, g0, g1, g2, g3⟩ := Q1
  obtain ⟨M0, M1, M2, M3, N0, N1, N2, N3⟩ := Q2
  go_region
  go_wp2
  exact bodyPost_ret (v := .tuple #[.int .u64 a, .agg #[.bool z1, .bool s1, .bool false, .bool false]]) (by simp [results, Try.results8, go_sem, h0, h1, h2, h3, M0, M1, M2, M3]) rfl ⟨rfl, by go_grown⟩

theorem do_shl (a b n v : Int) (z s c o z1 s1 c1 o1 : Bool) (w : World) (hb : Word b) (h0 : 0 ≤ n) (h1 : n ≤ 63) (hn : Hid (b % 64 = n))
    (hc : Hid (∀ w, Calls Try.prog 29 #[.int .i64 9, .int .u64 a, .int .i64 n, .agg #[.bool z, .bool s, .bool c, .bool o]] w fun e w' => e = .returned (.tuple #[.int .u64 v, .agg #[.bool z1, .bool s1, .bool c1, .bool o1]]) ∧ Below w.heap.size w w')) :
    Calls Try.prog 8 #[.int .i64 9, .int .u64 a, .int .u64 b, .agg #[.bool z, .bool s, .bool c, .bool o]] w fun e w' => e = .returned (.tuple #[.int .u64 v, .agg #[.bool z1, .bool s1, .bool c1, .bool o1]]) ∧ Below w.heap.size w w' := by
  have H63 := and_63 b hb
  rw [hn.out] at H63
  have hw : wrap64 n = n := by unfold wrap64; omega
  go_enter Try.func8, Try.ntmps8
  go_wp2_with fail
  clear H63 hw
  refine (hc.out _).mono ?_
  rintro e w1 ⟨rfl, hb1⟩
  obtain ⟨⟨h0, h1, h2, h3, g0, g1, g2, g3⟩, ⟨k0, k1, k2, k3, l0, l1, l2, l3⟩, hb2, hs⟩ := Blk.two hb1
  clear hb1
  go_wp2
  exact bodyPost_ret (v := .tuple #[.int .u64 v, .agg #[.bool z1, .bool s1, .bool c1, .bool o1]]) (by simp [results, Try.results8, go_sem, h0, h1, h2, h3, k0, k1, k2, k3]) rfl ⟨rfl, by go_grown⟩

theorem do_shr (a b n v : Int) (z s c o z1 s1 c1 o1 : Bool) (w : World) (hb : Word b) (h0 : 0 ≤ n) (h1 : n ≤ 63) (hn : Hid (b % 64 = n))
    (hc : Hid (∀ w, Calls Try.prog 29 #[.int .i64 10, .int .u64 a, .int .i64 n, .agg #[.bool z, .bool s, .bool c, .bool o]] w fun e w' => e = .returned (.tuple #[.int .u64 v, .agg #[.bool z1, .bool s1, .bool c1, .bool o1]]) ∧ Below w.heap.size w w')) :
    Calls Try.prog 8 #[.int .i64 10, .int .u64 a, .int .u64 b, .agg #[.bool z, .bool s, .bool c, .bool o]] w fun e w' => e = .returned (.tuple #[.int .u64 v, .agg #[.bool z1, .bool s1, .bool c1, .bool o1]]) ∧ Below w.heap.size w w' := by
  have H63 := and_63 b hb
  rw [hn.out] at H63
  have hw : wrap64 n = n := by unfold wrap64; omega
  go_enter Try.func8, Try.ntmps8
  go_wp2_with fail
  clear H63 hw
  refine (hc.out _).mono ?_
  rintro e w1 ⟨rfl, hb1⟩
  obtain ⟨⟨h0, h1, h2, h3, g0, g1, g2, g3⟩, ⟨k0, k1, k2, k3, l0, l1, l2, l3⟩, hb2, hs⟩ := Blk.two hb1
  clear hb1
  go_wp2
  exact bodyPost_ret (v := .tuple #[.int .u64 v, .agg #[.bool z1, .bool s1, .bool c1, .bool o1]]) (by simp [results, Try.results8, go_sem, h0, h1, h2, h3, k0, k1, k2, k3]) rfl ⟨rfl, by go_grown⟩

theorem do_none (op a b : Int) (z s c o : Bool) (w : World) (n0 : (op == 0) = false) (n1 : (op == 1) = false) (n2 : (op == 2) = false) (n3 : (op == 3) = false) (n4 : (op == 4) = false) (n5 : (op == 5) = false) (n6 : (op == 6) = false) (n7 : (op == 7) = false) (n8 : (op == 8) = false) (n9 : (op == 9) = false) (n10 : (op == 10) = false) :
    Calls Try.prog 8 #[.int .i64 op, .int .u64 a, .int .u64 b, .agg #[.bool z, .bool s, .bool c, .bool o]] w fun e w' => e = .returned (.tuple #[.int .u64 a, .agg #[.bool z, .bool s, .bool c, .bool o]]) ∧ Below w.heap.size w w' := by
  go_enter Try.func8, Try.ntmps8
  go_wp2_with fail
  go_region
  go_wp2
  exact bodyPost_ret (v := .tuple #[.int .u64 a, .agg #[.bool z, .bool s, .bool c, .bool o]]) (by simp [results, Try.results8, go_sem]) rfl ⟨rfl, by go_grown⟩

end Go.Proofs.Ytmchgcfgfaekaaa
