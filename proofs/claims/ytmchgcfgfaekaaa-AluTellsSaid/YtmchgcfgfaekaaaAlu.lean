/- The contracts of package alu: sums, differences and what the flags tell of them. -/
import Derived.Test.YtmchgcfgfaekaaaRows
import Derived.WalkKit
import Derived.ProofKit
import Derived.OpenShut
import Derived.ShutString
import Derived.ChangeOld
import Derived.Below
import Derived.Lib.Hide
import Derived.Outline
import Derived.IntWalk
import Derived.Handy
import Derived.Laws.BitsAllLaws
import Derived.Laws.Externs
namespace Go.Proofs.Ytmchgcfgfaekaaa
open Go.ChangeShapes Go.WideShapes Go.ChangeAt Go.RowKit
set_option linter.unusedVariables false

/-- The highest bit of a word. -/
def hiB (x : Int) : Bool := decide (9223372036854775808 ≤ x)

/-- A word of 64 bits. -/
structure Word (x : Int) : Prop where
  low : 0 ≤ x
  high : x < 18446744073709551616

theorem hi_bit (n : Nat) (h : n < 18446744073709551616) : hiB n = n.testBit 63 := by
  rw [Nat.testBit_eq_decide_div_mod_eq]
  unfold hiB
  by_cases c : 9223372036854775808 ≤ n
  · rw [decide_eq_true (by omega), decide_eq_true (by omega)]
  · rw [decide_eq_false (by omega), decide_eq_false (by omega)]

theorem word_xor {a b : Int} (ha : Word a) (hb : Word b) : Word (bits .xor .u64 a b) := by
  obtain ⟨A, rfl⟩ := Int.eq_ofNat_of_zero_le ha.low
  obtain ⟨B, rfl⟩ := Int.eq_ofNat_of_zero_le hb.low
  have h1 := ha.high
  have h2 := hb.high
  rw [u64_xor_nat A B (by omega) (by omega)]
  have hx : A ^^^ B < 2 ^ 64 := Nat.xor_lt_two_pow (by omega) (by omega)
  exact ⟨by omega, by omega⟩

theorem hi_xor {a b : Int} (ha : Word a) (hb : Word b) : hiB (bits .xor .u64 a b) = (hiB a != hiB b) := by
  obtain ⟨A, rfl⟩ := Int.eq_ofNat_of_zero_le ha.low
  obtain ⟨B, rfl⟩ := Int.eq_ofNat_of_zero_le hb.low
  have h1 := ha.high
  have h2 := hb.high
  have hx : A ^^^ B < 2 ^ 64 := Nat.xor_lt_two_pow (by omega) (by omega)
  rw [u64_xor_nat A B (by omega) (by omega), hi_bit _ (by omega), hi_bit _ (by omega), hi_bit _ (by omega), Nat.testBit_xor]

theorem word_and {a b : Int} (ha : Word a) (hb : Word b) : Word (bits .and .u64 a b) := by
  obtain ⟨A, rfl⟩ := Int.eq_ofNat_of_zero_le ha.low
  obtain ⟨B, rfl⟩ := Int.eq_ofNat_of_zero_le hb.low
  have h1 := ha.high
  have h2 := hb.high
  rw [u64_and_nat A B (by omega) (by omega)]
  have hx : A &&& B < 2 ^ 64 := Nat.and_lt_two_pow _ (by omega)
  exact ⟨by omega, by omega⟩

theorem hi_and {a b : Int} (ha : Word a) (hb : Word b) : hiB (bits .and .u64 a b) = (hiB a && hiB b) := by
  obtain ⟨A, rfl⟩ := Int.eq_ofNat_of_zero_le ha.low
  obtain ⟨B, rfl⟩ := Int.eq_ofNat_of_zero_le hb.low
  have h1 := ha.high
  have h2 := hb.high
  have hx : A &&& B < 2 ^ 64 := Nat.and_lt_two_pow _ (by omega)
  rw [u64_and_nat A B (by omega) (by omega), hi_bit _ (by omega), hi_bit _ (by omega), hi_bit _ (by omega), Nat.testBit_and]

theorem word_wrap (x : Int) : Word (IntKind.u64.wrap x) := by
  rw [IntKind.wrap_u64]
  exact ⟨by omega, by omega⟩

theorem ret_bool {a b : Bool} (h : a = b) : Ending.returned (.bool a) = .returned (.bool b) := by rw [h]

theorem negative_any (v : Int) (w : World) (h : Word v) : Calls Try.prog 38 #[.int .u64 v] w fun e w' => e = .returned (.bool (hiB v)) ∧ w = w' := by
  have h0 := h.low
  have h1 := h.high
  have e : (v / 9223372036854775808 != 0) = hiB v := by
    unfold hiB
    by_cases c : 9223372036854775808 ≤ v
    · rw [decide_eq_true c]; simp; omega
    · rw [decide_eq_false c]; simp; omega
  go_enter Try.func38, Try.ntmps38
  go_wp2
  go_ret
  exact ⟨rfl, rfl⟩

theorem like_any (v : Int) (w : World) (h : Word v) : Calls Try.prog 37 #[.int .u64 v] w fun e w' => e = .returned (.agg #[.bool (v == 0), .bool (hiB v), .bool false, .bool false]) ∧ Below w.heap.size w w' := by
  go_enter Try.func37, Try.ntmps37
  go_wp2_with (go_at_call 38; refine (negative_any _ _ h).mono ?_; rintro e w' ⟨rfl, rfl⟩)
  exact bodyPost_ret (v := .agg #[.bool (v == 0), .bool (hiB v), .bool false, .bool false]) (by simp [results, Try.results37, go_sem]) rfl ⟨rfl, by go_grown⟩

theorem add64_run (x y : Int) (w : World) (hx : Word x) (hy : Word y) : (callFunc 36 #[.int .u64 x, .int .u64 y, .int .u64 0]).run Try.prog w = .ok (.value (.tuple #[.int .u64 ((x + y + 0) % 18446744073709551616), .int .u64 ((x + y + 0) / 18446744073709551616)])) w := by
  rw [run_callFunc_extern (Try.func36) (by kernel_rfl) (by kernel_rfl) (by kernel_rfl) (e := add64Entry) (by kernel_rfl), run_add64 x y 0 hx.low hy.low (by omega) (by omega)]
  rfl

/-- The flags of a difference. -/
def subF (a b v : Int) : Value := .agg #[.bool (v == 0), .bool (hiB v), .bool (decide (a < b)), .bool ((hiB a != hiB b) && (hiB a != hiB v))]

theorem sub_any (a b v : Int) (w : World) (ha : Word a) (hb : Word b) (hv : Word v) (he : IntKind.u64.wrap (a - b) = v) : Calls Try.prog 27 #[.int .u64 a, .int .u64 b] w fun e w' => e = .returned (.tuple #[.int .u64 v, subF a b v]) ∧ Below w.heap.size w w' := by
  go_enter Try.func27, Try.ntmps27
  go_wp2_with fail
  clear he
  refine (like_any v _ hv).mono ?_
  rintro e w1 ⟨rfl, hb1⟩
  have HB := Lib.hid hb1
  have hc0 := hb1.cell (p := ⟨w.heap.size, 0, none⟩) (by simp)
  have hc1 := hb1.cell (p := ⟨w.heap.size, 1, none⟩) (by simp)
  have hc2 := hb1.cell (p := ⟨w.heap.size, 2, none⟩) (by simp)
  have hc3 := hb1.cell (p := ⟨w.heap.size, 3, none⟩) (by simp)
  have hf0 := hb1.frozen (p := ⟨w.heap.size, 0, none⟩) (by simp)
  have hf1 := hb1.frozen (p := ⟨w.heap.size, 1, none⟩) (by simp)
  have hf2 := hb1.frozen (p := ⟨w.heap.size, 2, none⟩) (by simp)
  have hf3 := hb1.frozen (p := ⟨w.heap.size, 3, none⟩) (by simp)
  simp at hc0 hc1 hc2 hc3 hf0 hf1 hf2 hf3
  clear hb1
  go_wp2_with (go_at_call 38; refine (negative_any _ _ (word_and (word_xor ha hb) (word_xor ha hv))).mono ?_; rintro e w' ⟨rfl, rfl⟩)
  have hO : hiB (bits .and .u64 (bits .xor .u64 a b) (bits .xor .u64 a v)) = ((hiB a != hiB b) && (hiB a != hiB v)) := by rw [hi_and (word_xor ha hb) (word_xor ha hv), hi_xor ha hb, hi_xor ha hv]
  obtain ⟨W, hW⟩ : ∃ W, W = w1.alloc (Obj.cells #[.bool (v == 0), .bool (hiB v), .bool (decide (a < b)), .bool (hiB (bits .and .u64 (bits .xor .u64 a b) (bits .xor .u64 a v)))] 24) := ⟨_, rfl⟩
  rw [← hW]
  have hb3 : Below w.heap.size w W := by
    rw [hW]
    exact ((((Below.refl w.heap.size w).alloc (Nat.le_refl _) _).trans (HB.out.mono (by simp))).alloc (by have := HB.out.size; simp at this; omega) _)
  have hsz : w.heap.size < w1.heap.size := by have := HB.out.size; simp at this; omega
  have hne : w.heap.size ≠ w1.heap.size := by omega
  have k0 : W.cell? ⟨w1.heap.size, 0, none⟩ = some (.bool (v == 0)) := by rw [hW]; simp [go_sem]
  have k1 : W.cell? ⟨w1.heap.size, 1, none⟩ = some (.bool (hiB v)) := by rw [hW]; simp [go_sem]
  have k2 : W.cell? ⟨w1.heap.size, 2, none⟩ = some (.bool (decide (a < b))) := by rw [hW]; simp [go_sem]
  have k3 : W.cell? ⟨w1.heap.size, 3, none⟩ = some (.bool ((hiB a != hiB b) && (hiB a != hiB v))) := by rw [hW, hO]; simp [go_sem]
  have r0 : W.cell? ⟨w.heap.size, 0, none⟩ = some (.bool false) := by rw [hW]; simp [hc0, hsz, go_sem]
  have r1 : W.cell? ⟨w.heap.size, 1, none⟩ = some (.bool false) := by rw [hW]; simp [hc1, hsz, go_sem]
  have r2 : W.cell? ⟨w.heap.size, 2, none⟩ = some (.bool false) := by rw [hW]; simp [hc2, hsz, go_sem]
  have r3 : W.cell? ⟨w.heap.size, 3, none⟩ = some (.bool false) := by rw [hW]; simp [hc3, hsz, go_sem]
  have g0 : W.frozen? ⟨w.heap.size, 0, none⟩ = false := by rw [hW]; simp [hf0, hsz, go_sem]
  have g1 : W.frozen? ⟨w.heap.size, 1, none⟩ = false := by rw [hW]; simp [hf1, hsz, go_sem]
  have g2 : W.frozen? ⟨w.heap.size, 2, none⟩ = false := by rw [hW]; simp [hf2, hsz, go_sem]
  have g3 : W.frozen? ⟨w.heap.size, 3, none⟩ = false := by rw [hW]; simp [hf3, hsz, go_sem]
  clear hc0 hc1 hc2 hc3 hf0 hf1 hf2 hf3 HB hW
  go_region
  go_wp2
  exact bodyPost_ret (v := .tuple #[.int .u64 v, subF a b v]) (by simp [subF, results, Try.results27, go_sem, r0, r1, r2, r3, hne, hne.symm]) rfl ⟨rfl, by go_grown⟩

/-- The flags of a sum. -/
def addF (a b v : Int) : Value := .agg #[.bool (v == 0), .bool (hiB v), .bool ((a + b) / 18446744073709551616 != 0), .bool ((hiB a != hiB v) && (hiB b != hiB v))]

theorem add_any (a b v : Int) (w : World) (ha : Word a) (hb : Word b) (hv : Word v) (he : (a + b) % 18446744073709551616 = v) : Calls Try.prog 26 #[.int .u64 a, .int .u64 b] w fun e w' => e = .returned (.tuple #[.int .u64 v, addF a b v]) ∧ Below w.heap.size w w' := by
  go_enter Try.func26, Try.ntmps26
  go_wp2_with (simp only [add64_run a b _ ha hb])
  refine (like_any v _ hv).mono ?_
  rintro e w1 ⟨rfl, hb1⟩
  have HB := Lib.hid hb1
  have hc0 := hb1.cell (p := ⟨w.heap.size, 0, none⟩) (by simp)
  have hc1 := hb1.cell (p := ⟨w.heap.size, 1, none⟩) (by simp)
  have hc2 := hb1.cell (p := ⟨w.heap.size, 2, none⟩) (by simp)
  have hc3 := hb1.cell (p := ⟨w.heap.size, 3, none⟩) (by simp)
  have hf0 := hb1.frozen (p := ⟨w.heap.size, 0, none⟩) (by simp)
  have hf1 := hb1.frozen (p := ⟨w.heap.size, 1, none⟩) (by simp)
  have hf2 := hb1.frozen (p := ⟨w.heap.size, 2, none⟩) (by simp)
  have hf3 := hb1.frozen (p := ⟨w.heap.size, 3, none⟩) (by simp)
  simp at hc0 hc1 hc2 hc3 hf0 hf1 hf2 hf3
  clear hb1
  go_wp2_with (go_at_call 38; refine (negative_any _ _ (word_and (word_xor ha hv) (word_xor hb hv))).mono ?_; rintro e w' ⟨rfl, rfl⟩)
  have hO : hiB (bits .and .u64 (bits .xor .u64 a v) (bits .xor .u64 b v)) = ((hiB a != hiB v) && (hiB b != hiB v)) := by rw [hi_and (word_xor ha hv) (word_xor hb hv), hi_xor ha hv, hi_xor hb hv]
  obtain ⟨W, hW⟩ : ∃ W, W = w1.alloc (Obj.cells #[.bool (v == 0), .bool (hiB v), .bool ((a + b) / 18446744073709551616 != 0), .bool (hiB (bits .and .u64 (bits .xor .u64 a v) (bits .xor .u64 b v)))] 24) := ⟨_, rfl⟩
  rw [← hW]
  have hb3 : Below w.heap.size w W := by
    rw [hW]
    exact ((((Below.refl w.heap.size w).alloc (Nat.le_refl _) _).trans (HB.out.mono (by simp))).alloc (by have := HB.out.size; simp at this; omega) _)
  have hsz : w.heap.size < w1.heap.size := by have := HB.out.size; simp at this; omega
  have hne : w.heap.size ≠ w1.heap.size := by omega
  have k0 : W.cell? ⟨w1.heap.size, 0, none⟩ = some (.bool (v == 0)) := by rw [hW]; simp [go_sem]
  have k1 : W.cell? ⟨w1.heap.size, 1, none⟩ = some (.bool (hiB v)) := by rw [hW]; simp [go_sem]
  have k2 : W.cell? ⟨w1.heap.size, 2, none⟩ = some (.bool ((a + b) / 18446744073709551616 != 0)) := by rw [hW]; simp [go_sem]
  have k3 : W.cell? ⟨w1.heap.size, 3, none⟩ = some (.bool ((hiB a != hiB v) && (hiB b != hiB v))) := by rw [hW, hO]; simp [go_sem]
  have r0 : W.cell? ⟨w.heap.size, 0, none⟩ = some (.bool false) := by rw [hW]; simp [hc0, hsz, hne, go_sem]
  have r1 : W.cell? ⟨w.heap.size, 1, none⟩ = some (.bool false) := by rw [hW]; simp [hc1, hsz, hne, go_sem]
  have r2 : W.cell? ⟨w.heap.size, 2, none⟩ = some (.bool false) := by rw [hW]; simp [hc2, hsz, hne, go_sem]
  have r3 : W.cell? ⟨w.heap.size, 3, none⟩ = some (.bool false) := by rw [hW]; simp [hc3, hsz, hne, go_sem]
  have g0 : W.frozen? ⟨w.heap.size, 0, none⟩ = false := by rw [hW]; simp [hf0, hsz, hne, go_sem]
  have g1 : W.frozen? ⟨w.heap.size, 1, none⟩ = false := by rw [hW]; simp [hf1, hsz, hne, go_sem]
  have g2 : W.frozen? ⟨w.heap.size, 2, none⟩ = false := by rw [hW]; simp [hf2, hsz, hne, go_sem]
  have g3 : W.frozen? ⟨w.heap.size, 3, none⟩ = false := by rw [hW]; simp [hf3, hsz, hne, go_sem]
  clear hc0 hc1 hc2 hc3 hf0 hf1 hf2 hf3 HB hW
  go_region
  go_wp2
  exact bodyPost_ret (v := .tuple #[.int .u64 v, addF a b v]) (by simp [addF, results, Try.results26, go_sem, r0, r1, r2, r3, k0, k1, k2, k3, hne, hne.symm]) rfl ⟨rfl, by go_grown⟩

end Go.Proofs.Ytmchgcfgfaekaaa
