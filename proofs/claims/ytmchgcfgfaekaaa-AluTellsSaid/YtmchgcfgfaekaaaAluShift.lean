/- The contracts of package alu's shift. -/
import Derived.Test.YtmchgcfgfaekaaaAluFits
namespace Go.Proofs.Ytmchgcfgfaekaaa
open Go.ChangeShapes Go.WideShapes Go.ChangeAt Go.RowKit
set_option linter.unusedVariables false

theorem and_one (x : Int) (h : Word x) : bits .and .u64 x 1 = x % 2 := by
  obtain ⟨A, rfl⟩ := Int.eq_ofNat_of_zero_le h.low
  have h1 := h.high
  rw [show (1 : Int) = ((1 : Nat) : Int) from rfl, u64_and_nat A 1 (by omega) (by omega), Nat.and_one_is_mod]
  omega

theorem word_div {a : Int} (ha : Word a) (k : Nat) : Word (a / 2 ^ k) := by
  have h0 := ha.low
  have h1 := ha.high
  have hp : (0 : Int) < 2 ^ k := Int.pow_pos (by omega)
  refine ⟨Int.ediv_nonneg h0 (by omega), ?_⟩
  have := Int.ediv_le_self (2 ^ k) h0
  omega

theorem Blk.put {w : World} {B : Nat} {z s c o : Bool} (h : Blk w B z s c o) (z' s' c' o' d : Bool) :
    Blk (((((w.setCell ⟨B, 0, none⟩ (.bool z')).setCell ⟨B, 1, none⟩ (.bool s')).setCell ⟨B, 2, none⟩ (.bool c')).setCell ⟨B, 3, none⟩ (.bool o')).setCell ⟨B, 2, none⟩ (.bool d)) B z' s' d o' := by
  obtain ⟨h0, h1, h2, h3, g0, g1, g2, g3⟩ := h.set z' s' c' o'
  constructor <;> simp [go_sem, *]

/-- What is written into one block leaves another one as it was. -/
theorem Blk.far {w : World} {B C : Nat} {z s c o : Bool} (h : Blk w C z s c o) (hn : B ≠ C) (z' s' c' o' d : Bool) :
    Blk (((((w.setCell ⟨B, 0, none⟩ (.bool z')).setCell ⟨B, 1, none⟩ (.bool s')).setCell ⟨B, 2, none⟩ (.bool c')).setCell ⟨B, 3, none⟩ (.bool o')).setCell ⟨B, 2, none⟩ (.bool d)) C z s c o := by
  obtain ⟨h0, h1, h2, h3, g0, g1, g2, g3⟩ := h
  constructor <;> simp [go_sem, *]

theorem shift_l (a n v x : Int) (z s c o : Bool) (w : World) (ha : Word a) (hv : Word v) (wx : Word x) (h0 : 1 ≤ n) (h1 : n ≤ 63) (hn : (n == 0) = false) (HV : Hid (IntKind.u64.wrap (a * 2 ^ n.toNat) = v)) (HX : Hid (a / 2 ^ (64 - n).toNat = x)) :
    Calls Try.prog 29 #[.int .i64 9, .int .u64 a, .int .i64 n, .agg #[.bool z, .bool s, .bool c, .bool o]] w fun e w' => e = .returned (.tuple #[.int .u64 v, .agg #[.bool (v == 0), .bool (hiB v), .bool (x % 2 != 0), .bool false]]) ∧ Below w.heap.size w w' := by
  have hx := Lib.hid (and_one x wx)
  go_enter Try.func29, Try.ntmps29
  go_wp2_with fail
  go_region
  go_wp2_with fail
  skip
  skip
  rw [HV.out]
  refine (like_any v _ hv).mono ?_
  rintro e w1 ⟨rfl, hb1⟩
  obtain ⟨K1, K2, hb2, hs⟩ := Blk.two ((Below.refl _ _).drew.trans hb1)
  have HK1 := Lib.hid K1
  have HK2 := Lib.hid K2
  have HB := Lib.hid hb2
  obtain ⟨h0, h1, h2, h3, g0, g1, g2, g3⟩ := K1
  clear hb1 K2 hb2
  go_wp2_with fail
  rw [HX.out, hx.out]
  obtain ⟨W, hW⟩ : ∃ W, W = ((((w1.setCell ⟨w.heap.size, 0, none⟩ (.bool (v == 0))).setCell ⟨w.heap.size, 1, none⟩ (.bool (hiB v))).setCell ⟨w.heap.size, 2, none⟩ (.bool false)).setCell ⟨w.heap.size, 3, none⟩ (.bool false)).setCell ⟨w.heap.size, 2, none⟩ (.bool (x % 2 != 0)) := ⟨_, rfl⟩
  rw [← hW]
  have Q1 := HK1.out.put (v == 0) (hiB v) false false (x % 2 != 0)
  have Q2 := HK2.out.far (B := w.heap.size) (by omega) (v == 0) (hiB v) false false (x % 2 != 0)
  rw [← hW] at Q1 Q2
  have hb3 : Below w.heap.size w W := by
    rw [hW]
    exact ((((HB.out.setCell (p := ⟨w.heap.size, 0, none⟩) (Nat.le_refl _) _).setCell (p := ⟨w.heap.size, 1, none⟩) (Nat.le_refl _) _).setCell (p := ⟨w.heap.size, 2, none⟩) (Nat.le_refl _) _).setCell (p := ⟨w.heap.size, 3, none⟩) (Nat.le_refl _) _).setCell (p := ⟨w.heap.size, 2, none⟩) (Nat.le_refl _) _
  clear hW h0 h1 h2 h3 g0 g1 g2 g3 HK1 HK2 HB
  obtain ⟨h0, h1, h2, h3, g0, g1, g2, g3⟩ := Q1
  obtain ⟨M0, M1, M2, M3, N0, N1, N2, N3⟩ := Q2
  go_region
  go_wp2
  exact bodyPost_ret (v := .tuple #[.int .u64 v, .agg #[.bool (v == 0), .bool (hiB v), .bool (x % 2 != 0), .bool false]]) (by simp [results, Try.results29, go_sem, h0, h1, h2, h3, M0, M1, M2, M3]) rfl ⟨rfl, by go_grown⟩

theorem shift_r (a n v x : Int) (z s c o : Bool) (w : World) (ha : Word a) (hv : Word v) (wx : Word x) (h0 : 1 ≤ n) (h1 : n ≤ 63) (hn : (n == 0) = false) (HV : Hid (a / 2 ^ n.toNat = v)) (HX : Hid (a / 2 ^ (n.toNat - 1) = x)) :
    Calls Try.prog 29 #[.int .i64 10, .int .u64 a, .int .i64 n, .agg #[.bool z, .bool s, .bool c, .bool o]] w fun e w' => e = .returned (.tuple #[.int .u64 v, .agg #[.bool (v == 0), .bool (hiB v), .bool (x % 2 != 0), .bool false]]) ∧ Below w.heap.size w w' := by
  have hx := Lib.hid (and_one x wx)
  go_enter Try.func29, Try.ntmps29
  go_wp2_with fail
  go_region
  go_wp2_with fail
  go_region
  go_wp2_with fail
  rw [HV.out]
  refine (like_any v _ hv).mono ?_
  rintro e w1 ⟨rfl, hb1⟩
  obtain ⟨K1, K2, hb2, hs⟩ := Blk.two ((Below.refl _ _).drew.drew.trans hb1)
  have HK1 := Lib.hid K1
  have HK2 := Lib.hid K2
  have HB := Lib.hid hb2
  obtain ⟨h0, h1, h2, h3, g0, g1, g2, g3⟩ := K1
  clear hb1 K2 hb2
  go_wp2_with fail
  rw [HX.out, hx.out]
  obtain ⟨W, hW⟩ : ∃ W, W = ((((w1.setCell ⟨w.heap.size, 0, none⟩ (.bool (v == 0))).setCell ⟨w.heap.size, 1, none⟩ (.bool (hiB v))).setCell ⟨w.heap.size, 2, none⟩ (.bool false)).setCell ⟨w.heap.size, 3, none⟩ (.bool false)).setCell ⟨w.heap.size, 2, none⟩ (.bool (x % 2 != 0)) := ⟨_, rfl⟩
  rw [← hW]
  have Q1 := HK1.out.put (v == 0) (hiB v) false false (x % 2 != 0)
  have Q2 := HK2.out.far (B := w.heap.size) (by omega) (v == 0) (hiB v) false false (x % 2 != 0)
  rw [← hW] at Q1 Q2
  have hb3 : Below w.heap.size w W := by
    rw [hW]
    exact ((((HB.out.setCell (p := ⟨w.heap.size, 0, none⟩) (Nat.le_refl _) _).setCell (p := ⟨w.heap.size, 1, none⟩) (Nat.le_refl _) _).setCell (p := ⟨w.heap.size, 2, none⟩) (Nat.le_refl _) _).setCell (p := ⟨w.heap.size, 3, none⟩) (Nat.le_refl _) _).setCell (p := ⟨w.heap.size, 2, none⟩) (Nat.le_refl _) _
  clear hW h0 h1 h2 h3 g0 g1 g2 g3 HK1 HK2 HB
  obtain ⟨h0, h1, h2, h3, g0, g1, g2, g3⟩ := Q1
  obtain ⟨M0, M1, M2, M3, N0, N1, N2, N3⟩ := Q2
  go_region
  go_wp2
  exact bodyPost_ret (v := .tuple #[.int .u64 v, .agg #[.bool (v == 0), .bool (hiB v), .bool (x % 2 != 0), .bool false]]) (by simp [results, Try.results29, go_sem, h0, h1, h2, h3, M0, M1, M2, M3]) rfl ⟨rfl, by go_grown⟩

theorem shift_z (op a : Int) (z s c o : Bool) (w : World) :
    Calls Try.prog 29 #[.int .i64 op, .int .u64 a, .int .i64 0, .agg #[.bool z, .bool s, .bool c, .bool o]] w fun e w' => e = .returned (.tuple #[.int .u64 a, .agg #[.bool z, .bool s, .bool c, .bool o]]) ∧ Below w.heap.size w w' := by
  go_enter Try.func29, Try.ntmps29
  go_wp2_with fail
  go_region
  go_wp2
  exact bodyPost_ret (v := .tuple #[.int .u64 a, .agg #[.bool z, .bool s, .bool c, .bool o]]) (by simp [results, Try.results29, go_sem]) rfl ⟨rfl, by go_grown⟩
end Go.Proofs.Ytmchgcfgfaekaaa
