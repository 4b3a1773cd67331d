/- The contracts of package alu: sums, differences and what the flags tell of them. · The contracts of alu.Do, op by op. · The contracts of alu.Do: one more, one less. · The contracts of alu.Cond, and of what the document fixes of package alu. · Worlds that keep a block of flags. · The contracts of package alu's shift. · The contracts of alu.Do: and, or, xor, test, shifts, and what is none of them. -/
import Derived.Test.YthbgmlmcjnlopaaRows
import Derived.WalkKit
import Derived.ProofKit
import Derived.OpenShut
import Derived.ShutString
import Derived.ChangeOld
import Derived.Below
import Derived.Lib.Hide
import Derived.Outline
import Derived.IntWalk
import Derived.Handy
import Derived.Laws.BitsAllLaws
import Derived.Laws.Externs
namespace Go.Proofs.Ythbgmlmcjnlopaa
open Go.ChangeShapes Go.WideShapes Go.ChangeAt Go.RowKit
set_option linter.unusedVariables false
set_option linter.unusedSimpArgs false

/-- The highest bit of a word. -/
def hiB (x : Int) : Bool := decide (9223372036854775808 ≤ x)

/-- A word of 64 bits. -/
structure Word (x : Int) : Prop where
  low : 0 ≤ x
  high : x < 18446744073709551616

theorem hi_bit (n : Nat) (h : n < 18446744073709551616) : hiB n = n.testBit 63 := by
  rw [Nat.testBit_eq_decide_div_mod_eq]
  unfold hiB
  by_cases c : 9223372036854775808 ≤ n
  · rw [decide_eq_true (by omega), decide_eq_true (by omega)]
  · rw [decide_eq_false (by omega), decide_eq_false (by omega)]

theorem word_xor {a b : Int} (ha : Word a) (hb : Word b) : Word (bits .xor .u64 a b) := by
  obtain ⟨A, rfl⟩ := Int.eq_ofNat_of_zero_le ha.low
  obtain ⟨B, rfl⟩ := Int.eq_ofNat_of_zero_le hb.low
  have h1 := ha.high
  have h2 := hb.high
  rw [u64_xor_nat A B (by omega) (by omega)]
  have hx : A ^^^ B < 2 ^ 64 := Nat.xor_lt_two_pow (by omega) (by omega)
  exact ⟨by omega, by omega⟩

theorem hi_xor {a b : Int} (ha : Word a) (hb : Word b) : hiB (bits .xor .u64 a b) = (hiB a != hiB b) := by
  obtain ⟨A, rfl⟩ := Int.eq_ofNat_of_zero_le ha.low
  obtain ⟨B, rfl⟩ := Int.eq_ofNat_of_zero_le hb.low
  have h1 := ha.high
  have h2 := hb.high
  have hx : A ^^^ B < 2 ^ 64 := Nat.xor_lt_two_pow (by omega) (by omega)
  rw [u64_xor_nat A B (by omega) (by omega), hi_bit _ (by omega), hi_bit _ (by omega), hi_bit _ (by omega), Nat.testBit_xor]

theorem word_and {a b : Int} (ha : Word a) (hb : Word b) : Word (bits .and .u64 a b) := by
  obtain ⟨A, rfl⟩ := Int.eq_ofNat_of_zero_le ha.low
  obtain ⟨B, rfl⟩ := Int.eq_ofNat_of_zero_le hb.low
  have h1 := ha.high
  have h2 := hb.high
  rw [u64_and_nat A B (by omega) (by omega)]
  have hx : A &&& B < 2 ^ 64 := Nat.and_lt_two_pow _ (by omega)
  exact ⟨by omega, by omega⟩

theorem hi_and {a b : Int} (ha : Word a) (hb : Word b) : hiB (bits .and .u64 a b) = (hiB a && hiB b) := by
  obtain ⟨A, rfl⟩ := Int.eq_ofNat_of_zero_le ha.low
  obtain ⟨B, rfl⟩ := Int.eq_ofNat_of_zero_le hb.low
  have h1 := ha.high
  have h2 := hb.high
  have hx : A &&& B < 2 ^ 64 := Nat.and_lt_two_pow _ (by omega)
  rw [u64_and_nat A B (by omega) (by omega), hi_bit _ (by omega), hi_bit _ (by omega), hi_bit _ (by omega), Nat.testBit_and]

theorem word_wrap (x : Int) : Word (IntKind.u64.wrap x) := by
  rw [IntKind.wrap_u64]
  exact ⟨by omega, by omega⟩

theorem ret_bool {a b : Bool} (h : a = b) : Ending.returned (.bool a) = .returned (.bool b) := by rw [h]

theorem negative_any (v : Int) (w : World) (h : Word v) : Calls Try.prog 101 #[.int .u64 v] w fun e w' => e = .returned (.bool (hiB v)) ∧ w = w' := by
  have h0 := h.low
  have h1 := h.high
  have e : (v / 9223372036854775808 != 0) = hiB v := by
    unfold hiB
    by_cases c : 9223372036854775808 ≤ v
    · rw [decide_eq_true c]; simp; omega
    · rw [decide_eq_false c]; simp; omega
  go_enter Try.func101, Try.ntmps101
  go_wp2
  go_ret
  exact ⟨rfl, rfl⟩

theorem like_any (v : Int) (w : World) (h : Word v) : Calls Try.prog 100 #[.int .u64 v] w fun e w' => e = .returned (.agg #[.bool (v == 0), .bool (hiB v), .bool false, .bool false]) ∧ Below w.heap.size w w' := by
  go_enter Try.func100, Try.ntmps100
  go_wp2_with (go_at_call 101; refine (negative_any _ _ h).mono ?_; rintro e w' ⟨rfl, rfl⟩)
  exact bodyPost_ret (v := .agg #[.bool (v == 0), .bool (hiB v), .bool false, .bool false]) (by simp [results, Try.results100, go_sem]) rfl ⟨rfl, by go_grown⟩

theorem add64_run (x y : Int) (w : World) (hx : Word x) (hy : Word y) : (callFunc 99 #[.int .u64 x, .int .u64 y, .int .u64 0]).run Try.prog w = .ok (.value (.tuple #[.int .u64 ((x + y + 0) % 18446744073709551616), .int .u64 ((x + y + 0) / 18446744073709551616)])) w := by
  rw [run_callFunc_extern (Try.func99) (by kernel_rfl) (by kernel_rfl) (by kernel_rfl) (e := add64Entry) (by kernel_rfl), run_add64 x y 0 hx.low hy.low (by omega) (by omega)]
  rfl

/-- The flags of a difference. -/
def subF (a b v : Int) : Value := .agg #[.bool (v == 0), .bool (hiB v), .bool (decide (a < b)), .bool ((hiB a != hiB b) && (hiB a != hiB v))]

theorem sub_any (a b v : Int) (w : World) (ha : Word a) (hb : Word b) (hv : Word v) (he : IntKind.u64.wrap (a - b) = v) : Calls Try.prog 92 #[.int .u64 a, .int .u64 b] w fun e w' => e = .returned (.tuple #[.int .u64 v, subF a b v]) ∧ Below w.heap.size w w' := by
  go_enter Try.func92, Try.ntmps92
  go_wp2_with fail
  clear he
  refine (like_any v _ hv).mono ?_
  rintro e w1 ⟨rfl, hb1⟩
  have HB := Lib.hid hb1
  have hc0 := hb1.cell (p := ⟨w.heap.size, 0, none⟩) (by simp)
  have hc1 := hb1.cell (p := ⟨w.heap.size, 1, none⟩) (by simp)
  have hc2 := hb1.cell (p := ⟨w.heap.size, 2, none⟩) (by simp)
  have hc3 := hb1.cell (p := ⟨w.heap.size, 3, none⟩) (by simp)
  have hf0 := hb1.frozen (p := ⟨w.heap.size, 0, none⟩) (by simp)
  have hf1 := hb1.frozen (p := ⟨w.heap.size, 1, none⟩) (by simp)
  have hf2 := hb1.frozen (p := ⟨w.heap.size, 2, none⟩) (by simp)
  have hf3 := hb1.frozen (p := ⟨w.heap.size, 3, none⟩) (by simp)
  simp at hc0 hc1 hc2 hc3 hf0 hf1 hf2 hf3
  clear hb1
  go_wp2_with (go_at_call 101; refine (negative_any _ _ (word_and (word_xor ha hb) (word_xor ha hv))).mono ?_; rintro e w' ⟨rfl, rfl⟩)
  have hO : hiB (bits .and .u64 (bits .xor .u64 a b) (bits .xor .u64 a v)) = ((hiB a != hiB b) && (hiB a != hiB v)) := by rw [hi_and (word_xor ha hb) (word_xor ha hv), hi_xor ha hb, hi_xor ha hv]
  obtain ⟨W, hW⟩ : ∃ W, W = w1.alloc (Obj.cells #[.bool (v == 0), .bool (hiB v), .bool (decide (a < b)), .bool (hiB (bits .and .u64 (bits .xor .u64 a b) (bits .xor .u64 a v)))] 43) := ⟨_, rfl⟩
  rw [← hW]
  have hb3 : Below w.heap.size w W := by
    rw [hW]
    exact ((((Below.refl w.heap.size w).alloc (Nat.le_refl _) _).trans (HB.out.mono (by simp))).alloc (by have := HB.out.size; simp at this; omega) _)
  have hsz : w.heap.size < w1.heap.size := by have := HB.out.size; simp at this; omega
  have hne : w.heap.size ≠ w1.heap.size := by omega
  have k0 : W.cell? ⟨w1.heap.size, 0, none⟩ = some (.bool (v == 0)) := by rw [hW]; simp [go_sem]
  have k1 : W.cell? ⟨w1.heap.size, 1, none⟩ = some (.bool (hiB v)) := by rw [hW]; simp [go_sem]
  have k2 : W.cell? ⟨w1.heap.size, 2, none⟩ = some (.bool (decide (a < b))) := by rw [hW]; simp [go_sem]
  have k3 : W.cell? ⟨w1.heap.size, 3, none⟩ = some (.bool ((hiB a != hiB b) && (hiB a != hiB v))) := by rw [hW, hO]; simp [go_sem]
  have r0 : W.cell? ⟨w.heap.size, 0, none⟩ = some (.bool false) := by rw [hW]; simp [hc0, hsz, go_sem]
  have r1 : W.cell? ⟨w.heap.size, 1, none⟩ = some (.bool false) := by rw [hW]; simp [hc1, hsz, go_sem]
  have r2 : W.cell? ⟨w.heap.size, 2, none⟩ = some (.bool false) := by rw [hW]; simp [hc2, hsz, go_sem]
  have r3 : W.cell? ⟨w.heap.size, 3, none⟩ = some (.bool false) := by rw [hW]; simp [hc3, hsz, go_sem]
  have g0 : W.frozen? ⟨w.heap.size, 0, none⟩ = false := by rw [hW]; simp [hf0, hsz, go_sem]
  have g1 : W.frozen? ⟨w.heap.size, 1, none⟩ = false := by rw [hW]; simp [hf1, hsz, go_sem]
  have g2 : W.frozen? ⟨w.heap.size, 2, none⟩ = false := by rw [hW]; simp [hf2, hsz, go_sem]
  have g3 : W.frozen? ⟨w.heap.size, 3, none⟩ = false := by rw [hW]; simp [hf3, hsz, go_sem]
  clear hc0 hc1 hc2 hc3 hf0 hf1 hf2 hf3 HB hW
  go_region
  go_wp2
  exact bodyPost_ret (v := .tuple #[.int .u64 v, subF a b v]) (by simp [subF, results, Try.results92, go_sem, r0, r1, r2, r3, hne, hne.symm]) rfl ⟨rfl, by go_grown⟩

/-- The flags of a sum. -/
def addF (a b v : Int) : Value := .agg #[.bool (v == 0), .bool (hiB v), .bool ((a + b) / 18446744073709551616 != 0), .bool ((hiB a != hiB v) && (hiB b != hiB v))]

theorem add_any (a b v : Int) (w : World) (ha : Word a) (hb : Word b) (hv : Word v) (he : (a + b) % 18446744073709551616 = v) : Calls Try.prog 91 #[.int .u64 a, .int .u64 b] w fun e w' => e = .returned (.tuple #[.int .u64 v, addF a b v]) ∧ Below w.heap.size w w' := by
  go_enter Try.func91, Try.ntmps91
  go_wp2_with (simp only [add64_run a b _ ha hb])
  refine (like_any v _ hv).mono ?_
  rintro e w1 ⟨rfl, hb1⟩
  have HB := Lib.hid hb1
  have hc0 := hb1.cell (p := ⟨w.heap.size, 0, none⟩) (by simp)
  have hc1 := hb1.cell (p := ⟨w.heap.size, 1, none⟩) (by simp)
  have hc2 := hb1.cell (p := ⟨w.heap.size, 2, none⟩) (by simp)
  have hc3 := hb1.cell (p := ⟨w.heap.size, 3, none⟩) (by simp)
  have hf0 := hb1.frozen (p := ⟨w.heap.size, 0, none⟩) (by simp)
  have hf1 := hb1.frozen (p := ⟨w.heap.size, 1, none⟩) (by simp)
  have hf2 := hb1.frozen (p := ⟨w.heap.size, 2, none⟩) (by simp)
  have hf3 := hb1.frozen (p := ⟨w.heap.size, 3, none⟩) (by simp)
  simp at hc0 hc1 hc2 hc3 hf0 hf1 hf2 hf3
  clear hb1
  go_wp2_with (go_at_call 101; refine (negative_any _ _ (word_and (word_xor ha hv) (word_xor hb hv))).mono ?_; rintro e w' ⟨rfl, rfl⟩)
  have hO : hiB (bits .and .u64 (bits .xor .u64 a v) (bits .xor .u64 b v)) = ((hiB a != hiB v) && (hiB b != hiB v)) := by rw [hi_and (word_xor ha hv) (word_xor hb hv), hi_xor ha hv, hi_xor hb hv]
  obtain ⟨W, hW⟩ : ∃ W, W = w1.alloc (Obj.cells #[.bool (v == 0), .bool (hiB v), .bool ((a + b) / 18446744073709551616 != 0), .bool (hiB (bits .and .u64 (bits .xor .u64 a v) (bits .xor .u64 b v)))] 43) := ⟨_, rfl⟩
  rw [← hW]
  have hb3 : Below w.heap.size w W := by
    rw [hW]
    exact ((((Below.refl w.heap.size w).alloc (Nat.le_refl _) _).trans (HB.out.mono (by simp))).alloc (by have := HB.out.size; simp at this; omega) _)
  have hsz : w.heap.size < w1.heap.size := by have := HB.out.size; simp at this; omega
  have hne : w.heap.size ≠ w1.heap.size := by omega
  have k0 : W.cell? ⟨w1.heap.size, 0, none⟩ = some (.bool (v == 0)) := by rw [hW]; simp [go_sem]
  have k1 : W.cell? ⟨w1.heap.size, 1, none⟩ = some (.bool (hiB v)) := by rw [hW]; simp [go_sem]
  have k2 : W.cell? ⟨w1.heap.size, 2, none⟩ = some (.bool ((a + b) / 18446744073709551616 != 0)) := by rw [hW]; simp [go_sem]
  have k3 : W.cell? ⟨w1.heap.size, 3, none⟩ = some (.bool ((hiB a != hiB v) && (hiB b != hiB v))) := by rw [hW, hO]; simp [go_sem]
  have r0 : W.cell? ⟨w.heap.size, 0, none⟩ = some (.bool false) := by rw [hW]; simp [hc0, hsz, hne, go_sem]
  have r1 : W.cell? ⟨w.heap.size, 1, none⟩ = some (.bool false) := by rw [hW]; simp [hc1, hsz, hne, go_sem]
  have r2 : W.cell? ⟨w.heap.size, 2, none⟩ = some (.bool false) := by rw [hW]; simp [hc2, hsz, hne, go_sem]
  have r3 : W.cell? ⟨w.heap.size, 3, none⟩ = some (.bool false) := by rw [hW]; simp [hc3, hsz, hne, go_sem]
  have g0 : W.frozen? ⟨w.heap.size, 0, none⟩ = false := by rw [hW]; simp [hf0, hsz, hne, go_sem]
  have g1 : W.frozen? ⟨w.heap.size, 1, none⟩ = false := by rw [hW]; simp [hf1, hsz, hne, go_sem]
  have g2 : W.frozen? ⟨w.heap.size, 2, none⟩ = false := by rw [hW]; simp [hf2, hsz, hne, go_sem]
  have g3 : W.frozen? ⟨w.heap.size, 3, none⟩ = false := by rw [hW]; simp [hf3, hsz, hne, go_sem]
  clear hc0 hc1 hc2 hc3 hf0 hf1 hf2 hf3 HB hW
  go_region
  go_wp2
  exact bodyPost_ret (v := .tuple #[.int .u64 v, addF a b v]) (by simp [addF, results, Try.results91, go_sem, r0, r1, r2, r3, k0, k1, k2, k3, hne, hne.symm]) rfl ⟨rfl, by go_grown⟩

end Go.Proofs.Ythbgmlmcjnlopaa
namespace Go.Proofs.Ythbgmlmcjnlopaa
open Go.ChangeShapes Go.WideShapes Go.ChangeAt Go.RowKit
set_option linter.unusedVariables false
set_option linter.unusedSimpArgs false

/-- A block of four flags. -/
structure Blk (W : World) (B : Nat) (z s c o : Bool) : Prop where
  c0 : W.cell? ⟨B, 0, none⟩ = some (.bool z)
  c1 : W.cell? ⟨B, 1, none⟩ = some (.bool s)
  c2 : W.cell? ⟨B, 2, none⟩ = some (.bool c)
  c3 : W.cell? ⟨B, 3, none⟩ = some (.bool o)
  f0 : W.frozen? ⟨B, 0, none⟩ = false
  f1 : W.frozen? ⟨B, 1, none⟩ = false
  f2 : W.frozen? ⟨B, 2, none⟩ = false
  f3 : W.frozen? ⟨B, 3, none⟩ = false

theorem Blk.new (w : World) (z s c o : Bool) (t : TypeId) : Blk (w.alloc (Obj.cells #[.bool z, .bool s, .bool c, .bool o] t)) w.heap.size z s c o := by
  constructor <;> simp [go_sem]

theorem Blk.below {w w' : World} {n B : Nat} {z s c o : Bool} (h : Blk w B z s c o) (hb : Below n w w') (hn : B < n) : Blk w' B z s c o :=
  ⟨(hb.cell (p := ⟨B, 0, none⟩) hn).trans h.c0, (hb.cell (p := ⟨B, 1, none⟩) hn).trans h.c1, (hb.cell (p := ⟨B, 2, none⟩) hn).trans h.c2, (hb.cell (p := ⟨B, 3, none⟩) hn).trans h.c3,
   (hb.frozen (p := ⟨B, 0, none⟩) hn).trans h.f0, (hb.frozen (p := ⟨B, 1, none⟩) hn).trans h.f1, (hb.frozen (p := ⟨B, 2, none⟩) hn).trans h.f2, (hb.frozen (p := ⟨B, 3, none⟩) hn).trans h.f3⟩

theorem Blk.set {w : World} {B : Nat} {z s c o : Bool} (h : Blk w B z s c o) (z' s' c' o' : Bool) :
    Blk ((((w.setCell ⟨B, 0, none⟩ (.bool z')).setCell ⟨B, 1, none⟩ (.bool s')).setCell ⟨B, 2, none⟩ (.bool c')).setCell ⟨B, 3, none⟩ (.bool o')) B z' s' c' o' := by
  obtain ⟨h0, h1, h2, h3, g0, g1, g2, g3⟩ := h
  constructor <;> simp [go_sem, *]

theorem logic_any (v : Int) (w : World) (h : Word v) : Calls Try.prog 93 #[.int .u64 v] w fun e w' => e = .returned (.tuple #[.int .u64 v, .agg #[.bool (v == 0), .bool (hiB v), .bool false, .bool false]]) ∧ Below w.heap.size w w' := by
  go_enter Try.func93, Try.ntmps93
  go_wp2_with fail
  refine (like_any v _ h).mono ?_
  rintro e w1 ⟨rfl, hb1⟩
  obtain ⟨h0, h1, h2, h3, g0, g1, g2, g3⟩ := (Blk.new w false false false false 43).below hb1 (by simp)
  have hb2 : Below w.heap.size w w1 := ((Below.refl w.heap.size w).alloc (Nat.le_refl _) _).trans (hb1.mono (by simp))
  clear hb1
  go_wp2
  exact bodyPost_ret (v := .tuple #[.int .u64 v, .agg #[.bool (v == 0), .bool (hiB v), .bool false, .bool false]]) (by simp [results, Try.results93, go_sem, h0, h1, h2, h3]) rfl ⟨rfl, by go_grown⟩

theorem Blk.two {w w1 : World} {z s c o : Bool} {t : TypeId}
    (hb : Below ((w.alloc (Obj.cells #[.bool z, .bool s, .bool c, .bool o] t)).alloc (Obj.cells #[.bool false, .bool false, .bool false, .bool false] t)).heap.size
      ((w.alloc (Obj.cells #[.bool z, .bool s, .bool c, .bool o] t)).alloc (Obj.cells #[.bool false, .bool false, .bool false, .bool false] t)) w1) :
    Blk w1 w.heap.size z s c o ∧ Blk w1 (w.heap.size + 1) false false false false ∧ Below w.heap.size w w1 ∧ w.heap.size + 1 < w1.heap.size := by
  have e : (w.alloc (Obj.cells #[.bool z, .bool s, .bool c, .bool o] t)).heap.size = w.heap.size + 1 := by simp
  have hs := hb.size
  have h1 := Blk.new (w.alloc (Obj.cells #[.bool z, .bool s, .bool c, .bool o] t)) false false false false t
  rw [e] at h1
  have h0 := (Blk.new w z s c o t).below ((Below.refl (w.heap.size + 1) _).alloc (by simp) (Obj.cells #[.bool false, .bool false, .bool false, .bool false] t)) (by omega)
  refine ⟨h0.below hb (by simp; omega), h1.below hb (by simp), (((Below.refl w.heap.size w).alloc (Nat.le_refl _) _).alloc (by simp) _).trans (hb.mono (by simp; omega)), by simp at hs; omega⟩

theorem do_add (a b v : Int) (z s c o z1 s1 c1 o1 : Bool) (w : World) (ha : Word a) (hb : Word b) (hv : Word v) (he : (a + b) % 18446744073709551616 = v) (hF : addF a b v = .agg #[.bool z1, .bool s1, .bool c1, .bool o1]) :
    Calls Try.prog 84 #[.int .i64 0, .int .u64 a, .int .u64 b, .agg #[.bool z, .bool s, .bool c, .bool o]] w fun e w' => e = .returned (.tuple #[.int .u64 v, .agg #[.bool z1, .bool s1, .bool c1, .bool o1]]) ∧ Below w.heap.size w w' := by
  go_enter Try.func84, Try.ntmps84
  go_wp2_with fail
  refine (add_any a b v _ ha hb hv he).mono ?_
  rintro e w1 ⟨rfl, hb1⟩
  rw [hF]
  obtain ⟨⟨h0, h1, h2, h3, g0, g1, g2, g3⟩, ⟨k0, k1, k2, k3, l0, l1, l2, l3⟩, hb2, hs⟩ := Blk.two hb1
  clear hb1 hF
  go_wp2
  exact bodyPost_ret (v := .tuple #[.int .u64 v, .agg #[.bool z1, .bool s1, .bool c1, .bool o1]]) (by simp [results, Try.results84, go_sem, h0, h1, h2, h3, k0, k1, k2, k3]) rfl ⟨rfl, by go_grown⟩

theorem do_sub (a b v : Int) (z s c o z1 s1 c1 o1 : Bool) (w : World) (ha : Word a) (hb : Word b) (hv : Word v) (he : IntKind.u64.wrap (a - b) = v) (hF : subF a b v = .agg #[.bool z1, .bool s1, .bool c1, .bool o1]) :
    Calls Try.prog 84 #[.int .i64 1, .int .u64 a, .int .u64 b, .agg #[.bool z, .bool s, .bool c, .bool o]] w fun e w' => e = .returned (.tuple #[.int .u64 v, .agg #[.bool z1, .bool s1, .bool c1, .bool o1]]) ∧ Below w.heap.size w w' := by
  go_enter Try.func84, Try.ntmps84
  go_wp2_with fail
  refine (sub_any a b v _ ha hb hv he).mono ?_
  rintro e w1 ⟨rfl, hb1⟩
  rw [hF]
  obtain ⟨⟨h0, h1, h2, h3, g0, g1, g2, g3⟩, ⟨k0, k1, k2, k3, l0, l1, l2, l3⟩, hb2, hs⟩ := Blk.two hb1
  clear hb1 hF
  go_wp2
  exact bodyPost_ret (v := .tuple #[.int .u64 v, .agg #[.bool z1, .bool s1, .bool c1, .bool o1]]) (by simp [results, Try.results84, go_sem, h0, h1, h2, h3, k0, k1, k2, k3]) rfl ⟨rfl, by go_grown⟩

theorem do_cmp (a b v : Int) (z s c o z1 s1 c1 o1 : Bool) (w : World) (ha : Word a) (hb : Word b) (hv : Word v) (he : IntKind.u64.wrap (a - b) = v) (hF : subF a b v = .agg #[.bool z1, .bool s1, .bool c1, .bool o1]) :
    Calls Try.prog 84 #[.int .i64 7, .int .u64 a, .int .u64 b, .agg #[.bool z, .bool s, .bool c, .bool o]] w fun e w' => e = .returned (.tuple #[.int .u64 a, .agg #[.bool z1, .bool s1, .bool c1, .bool o1]]) ∧ Below w.heap.size w w' := by
  go_enter Try.func84, Try.ntmps84
  go_wp2_with fail
  refine (sub_any a b v _ ha hb hv he).mono ?_
  rintro e w1 ⟨rfl, hb1⟩
  rw [hF]
  obtain ⟨K0, ⟨k0, k1, k2, k3, l0, l1, l2, l3⟩, hb2, hs⟩ := Blk.two hb1
  have K := Lib.hid K0
  obtain ⟨h0, h1, h2, h3, g0, g1, g2, g3⟩ := K0
  clear hb1 hF
  go_wp2
  obtain ⟨W, hW⟩ : ∃ W, W = (((w1.setCell ⟨w.heap.size, 0, none⟩ (.bool z1)).setCell ⟨w.heap.size, 1, none⟩ (.bool s1)).setCell ⟨w.heap.size, 2, none⟩ (.bool c1)).setCell ⟨w.heap.size, 3, none⟩ (.bool o1) := ⟨_, rfl⟩
  rw [← hW]
  have hb3 : Below w.heap.size w W := by
    rw [hW]
    exact (((hb2.setCell (p := ⟨w.heap.size, 0, none⟩) (Nat.le_refl _) _).setCell (p := ⟨w.heap.size, 1, none⟩) (Nat.le_refl _) _).setCell (p := ⟨w.heap.size, 2, none⟩) (Nat.le_refl _) _).setCell (p := ⟨w.heap.size, 3, none⟩) (Nat.le_refl _) _
  have M0 : W.cell? ⟨w.heap.size + 1, 0, none⟩ = some (.bool false) := by rw [hW]; simp [k0, go_sem]
  have M1 : W.cell? ⟨w.heap.size + 1, 1, none⟩ = some (.bool false) := by rw [hW]; simp [k1, go_sem]
  have M2 : W.cell? ⟨w.heap.size + 1, 2, none⟩ = some (.bool false) := by rw [hW]; simp [k2, go_sem]
  have M3 : W.cell? ⟨w.heap.size + 1, 3, none⟩ = some (.bool false) := by rw [hW]; simp [k3, go_sem]
  have N0 : W.frozen? ⟨w.heap.size + 1, 0, none⟩ = false := by rw [hW]; simp [l0, go_sem]
  have N1 : W.frozen? ⟨w.heap.size + 1, 1, none⟩ = false := by rw [hW]; simp [l1, go_sem]
  have N2 : W.frozen? ⟨w.heap.size + 1, 2, none⟩ = false := by rw [hW]; simp [l2, go_sem]
  have N3 : W.frozen? ⟨w.heap.size + 1, 3, none⟩ = false := by rw [hW]; simp [l3, go_sem]
  have Q := K.out.set z1 s1 c1 o1
  rw [← hW] at Q
  clear hW h0 h1 h2 h3 g0 g1 g2 g3 k0 k1 k2 k3 l0 l1 l2 l3
  obtain ⟨h0, h1, h2, h3, g0, g1, g2, g3⟩ := Q
  go_region
  go_wp2
  exact bodyPost_ret (v := .tuple #[.int .u64 a, .agg #[.bool z1, .bool s1, .bool c1, .bool o1]]) (by simp [results, Try.results84, go_sem, h0, h1, h2, h3, M0, M1, M2, M3]) rfl ⟨rfl, by go_grown⟩

end Go.Proofs.Ythbgmlmcjnlopaa
namespace Go.Proofs.Ythbgmlmcjnlopaa
open Go.ChangeShapes Go.WideShapes Go.ChangeAt Go.RowKit
set_option linter.unusedVariables false
set_option linter.unusedSimpArgs false

theorem do_inc (a b v : Int) (z s c o z1 s1 c1 o1 : Bool) (w : World) (ha : Word a) (h1w : Word 1) (hv : Word v) (he : (a + 1) % 18446744073709551616 = v) (hF : addF a 1 v = .agg #[.bool z1, .bool s1, .bool c1, .bool o1]) :
    Calls Try.prog 84 #[.int .i64 5, .int .u64 a, .int .u64 b, .agg #[.bool z, .bool s, .bool c, .bool o]] w fun e w' => e = .returned (.tuple #[.int .u64 v, .agg #[.bool z1, .bool s1, .bool c, .bool o1]]) ∧ Below w.heap.size w w' := by
  go_enter Try.func84, Try.ntmps84
  go_wp2_with fail
  refine (add_any a 1 v _ ha h1w hv he).mono ?_
  rintro e w1 ⟨rfl, hb1⟩
  rw [hF]
  obtain ⟨⟨h0, h1, h2, h3, g0, g1, g2, g3⟩, ⟨k0, k1, k2, k3, l0, l1, l2, l3⟩, hb2, hs⟩ := Blk.two hb1
  have s0 : w.heap.size < w1.heap.size := by omega
  have n0 : w.heap.size ≠ w1.heap.size := by omega
  have n1 : w.heap.size + 1 ≠ w1.heap.size := by omega
  have C2 : ∀ x, (w1.alloc x).cell? ⟨w.heap.size, 2, none⟩ = some (.bool c) := fun x => by simp [h2, s0, n0, go_sem]
  clear hb1 hF
  go_wp2
  obtain ⟨W, hW⟩ : ∃ W, W = w1.alloc (Obj.cells #[.bool z1, .bool s1, .bool c, .bool o1] 43) := ⟨_, rfl⟩
  rw [← hW]
  have hb3 : Below w.heap.size w W := by
    rw [hW]
    exact hb2.alloc (by omega) _
  have M0 : W.cell? ⟨w.heap.size + 1, 0, none⟩ = some (.bool false) := by rw [hW]; simp [k0, hs, n1, go_sem]
  have M1 : W.cell? ⟨w.heap.size + 1, 1, none⟩ = some (.bool false) := by rw [hW]; simp [k1, hs, n1, go_sem]
  have M2 : W.cell? ⟨w.heap.size + 1, 2, none⟩ = some (.bool false) := by rw [hW]; simp [k2, hs, n1, go_sem]
  have M3 : W.cell? ⟨w.heap.size + 1, 3, none⟩ = some (.bool false) := by rw [hW]; simp [k3, hs, n1, go_sem]
  have N0 : W.frozen? ⟨w.heap.size + 1, 0, none⟩ = false := by rw [hW]; simp [l0, hs, n1, go_sem]
  have N1 : W.frozen? ⟨w.heap.size + 1, 1, none⟩ = false := by rw [hW]; simp [l1, hs, n1, go_sem]
  have N2 : W.frozen? ⟨w.heap.size + 1, 2, none⟩ = false := by rw [hW]; simp [l2, hs, n1, go_sem]
  have N3 : W.frozen? ⟨w.heap.size + 1, 3, none⟩ = false := by rw [hW]; simp [l3, hs, n1, go_sem]
  have P0 : W.cell? ⟨w1.heap.size, 0, none⟩ = some (.bool z1) := by rw [hW]; simp [go_sem]
  have P1 : W.cell? ⟨w1.heap.size, 1, none⟩ = some (.bool s1) := by rw [hW]; simp [go_sem]
  have P2 : W.cell? ⟨w1.heap.size, 2, none⟩ = some (.bool c) := by rw [hW]; simp [go_sem]
  have P3 : W.cell? ⟨w1.heap.size, 3, none⟩ = some (.bool o1) := by rw [hW]; simp [go_sem]
  clear hW h0 h1 h2 h3 g0 g1 g2 g3 k0 k1 k2 k3 l0 l1 l2 l3 C2
  go_region
  go_wp2
  exact bodyPost_ret (v := .tuple #[.int .u64 v, .agg #[.bool z1, .bool s1, .bool c, .bool o1]]) (by simp [results, Try.results84, go_sem, M0, M1, M2, M3, P0, P1, P2, P3, n1, n1.symm]) rfl ⟨rfl, by go_grown⟩

theorem do_dec (a b v : Int) (z s c o z1 s1 c1 o1 : Bool) (w : World) (ha : Word a) (h1w : Word 1) (hv : Word v) (he : IntKind.u64.wrap (a - 1) = v) (hF : subF a 1 v = .agg #[.bool z1, .bool s1, .bool c1, .bool o1]) :
    Calls Try.prog 84 #[.int .i64 6, .int .u64 a, .int .u64 b, .agg #[.bool z, .bool s, .bool c, .bool o]] w fun e w' => e = .returned (.tuple #[.int .u64 v, .agg #[.bool z1, .bool s1, .bool c, .bool o1]]) ∧ Below w.heap.size w w' := by
  go_enter Try.func84, Try.ntmps84
  go_wp2_with fail
  refine (sub_any a 1 v _ ha h1w hv he).mono ?_
  rintro e w1 ⟨rfl, hb1⟩
  rw [hF]
  obtain ⟨⟨h0, h1, h2, h3, g0, g1, g2, g3⟩, ⟨k0, k1, k2, k3, l0, l1, l2, l3⟩, hb2, hs⟩ := Blk.two hb1
  have s0 : w.heap.size < w1.heap.size := by omega
  have n0 : w.heap.size ≠ w1.heap.size := by omega
  have n1 : w.heap.size + 1 ≠ w1.heap.size := by omega
  have C2 : ∀ x, (w1.alloc x).cell? ⟨w.heap.size, 2, none⟩ = some (.bool c) := fun x => by simp [h2, s0, n0, go_sem]
  clear hb1 hF
  go_wp2
  obtain ⟨W, hW⟩ : ∃ W, W = w1.alloc (Obj.cells #[.bool z1, .bool s1, .bool c, .bool o1] 43) := ⟨_, rfl⟩
  rw [← hW]
  have hb3 : Below w.heap.size w W := by
    rw [hW]
    exact hb2.alloc (by omega) _
  have M0 : W.cell? ⟨w.heap.size + 1, 0, none⟩ = some (.bool false) := by rw [hW]; simp [k0, hs, n1, go_sem]
  have M1 : W.cell? ⟨w.heap.size + 1, 1, none⟩ = some (.bool false) := by rw [hW]; simp [k1, hs, n1, go_sem]
  have M2 : W.cell? ⟨w.heap.size + 1, 2, none⟩ = some (.bool false) := by rw [hW]; simp [k2, hs, n1, go_sem]
  have M3 : W.cell? ⟨w.heap.size + 1, 3, none⟩ = some (.bool false) := by rw [hW]; simp [k3, hs, n1, go_sem]
  have N0 : W.frozen? ⟨w.heap.size + 1, 0, none⟩ = false := by rw [hW]; simp [l0, hs, n1, go_sem]
  have N1 : W.frozen? ⟨w.heap.size + 1, 1, none⟩ = false := by rw [hW]; simp [l1, hs, n1, go_sem]
  have N2 : W.frozen? ⟨w.heap.size + 1, 2, none⟩ = false := by rw [hW]; simp [l2, hs, n1, go_sem]
  have N3 : W.frozen? ⟨w.heap.size + 1, 3, none⟩ = false := by rw [hW]; simp [l3, hs, n1, go_sem]
  have P0 : W.cell? ⟨w1.heap.size, 0, none⟩ = some (.bool z1) := by rw [hW]; simp [go_sem]
  have P1 : W.cell? ⟨w1.heap.size, 1, none⟩ = some (.bool s1) := by rw [hW]; simp [go_sem]
  have P2 : W.cell? ⟨w1.heap.size, 2, none⟩ = some (.bool c) := by rw [hW]; simp [go_sem]
  have P3 : W.cell? ⟨w1.heap.size, 3, none⟩ = some (.bool o1) := by rw [hW]; simp [go_sem]
  clear hW h0 h1 h2 h3 g0 g1 g2 g3 k0 k1 k2 k3 l0 l1 l2 l3 C2
  go_region
  go_wp2
  exact bodyPost_ret (v := .tuple #[.int .u64 v, .agg #[.bool z1, .bool s1, .bool c, .bool o1]]) (by simp [results, Try.results84, go_sem, M0, M1, M2, M3, P0, P1, P2, P3, n1, n1.symm]) rfl ⟨rfl, by go_grown⟩

theorem cond_b (z s c o : Bool) (w : World) : Calls Try.prog 68 #[.int .i64 2, .agg #[.bool z, .bool s, .bool c, .bool o]] w fun e w' => e = .returned (.bool c) ∧ Below w.heap.size w w' := by
  go_enter Try.func68, Try.ntmps68
  go_wp2
  go_ret
  exact ⟨rfl, by go_grown⟩
theorem cond_l (z s c o : Bool) (w : World) : Calls Try.prog 68 #[.int .i64 12, .agg #[.bool z, .bool s, .bool c, .bool o]] w fun e w' => e = .returned (.bool (s != o)) ∧ Below w.heap.size w w' := by
  go_enter Try.func68, Try.ntmps68
  go_wp2
  go_ret
  exact ⟨rfl, by go_grown⟩
end Go.Proofs.Ythbgmlmcjnlopaa
namespace Go.Proofs.Ythbgmlmcjnlopaa
open Go.ChangeShapes Go.WideShapes Go.ChangeAt Go.RowKit
set_option linter.unusedVariables false
set_option linter.unusedSimpArgs false

theorem cond_nb (z s c o : Bool) (w : World) : Calls Try.prog 68 #[.int .i64 3, .agg #[.bool z, .bool s, .bool c, .bool o]] w fun e w' => e = .returned (.bool (!c)) ∧ Below w.heap.size w w' := by
  go_enter Try.func68, Try.ntmps68
  go_wp2
  go_ret
  exact ⟨rfl, by go_grown⟩

theorem cond_e (z s c o : Bool) (w : World) : Calls Try.prog 68 #[.int .i64 4, .agg #[.bool z, .bool s, .bool c, .bool o]] w fun e w' => e = .returned (.bool (z)) ∧ Below w.heap.size w w' := by
  go_enter Try.func68, Try.ntmps68
  go_wp2
  go_ret
  exact ⟨rfl, by go_grown⟩

theorem cond_ne (z s c o : Bool) (w : World) : Calls Try.prog 68 #[.int .i64 5, .agg #[.bool z, .bool s, .bool c, .bool o]] w fun e w' => e = .returned (.bool (!z)) ∧ Below w.heap.size w w' := by
  go_enter Try.func68, Try.ntmps68
  go_wp2
  go_ret
  exact ⟨rfl, by go_grown⟩

theorem cond_s (z s c o : Bool) (w : World) : Calls Try.prog 68 #[.int .i64 8, .agg #[.bool z, .bool s, .bool c, .bool o]] w fun e w' => e = .returned (.bool (s)) ∧ Below w.heap.size w w' := by
  go_enter Try.func68, Try.ntmps68
  go_wp2
  go_ret
  exact ⟨rfl, by go_grown⟩

theorem cond_ns (z s c o : Bool) (w : World) : Calls Try.prog 68 #[.int .i64 9, .agg #[.bool z, .bool s, .bool c, .bool o]] w fun e w' => e = .returned (.bool (!s)) ∧ Below w.heap.size w w' := by
  go_enter Try.func68, Try.ntmps68
  go_wp2
  go_ret
  exact ⟨rfl, by go_grown⟩

theorem cond_nl (z s c o : Bool) (w : World) : Calls Try.prog 68 #[.int .i64 13, .agg #[.bool z, .bool s, .bool c, .bool o]] w fun e w' => e = .returned (.bool (s == o)) ∧ Below w.heap.size w w' := by
  go_enter Try.func68, Try.ntmps68
  go_wp2
  go_ret
  exact ⟨rfl, by go_grown⟩

theorem cond_one (z s c o : Bool) (w : World) : Calls Try.prog 68 #[.int .i64 1, .agg #[.bool z, .bool s, .bool c, .bool o]] w fun e w' => e = .returned (.bool (false)) ∧ Below w.heap.size w w' := by
  go_enter Try.func68, Try.ntmps68
  go_wp2
  go_ret
  exact ⟨rfl, by go_grown⟩

/-- A world with a block of flags, and one more block behind it. -/
theorem Blk.ahead {w : World} {B : Nat} {z s c o : Bool} (h : Blk w B z s c o) (hB : B < w.heap.size) (X : Obj) : Blk (w.alloc X) B z s c o :=
  h.below ((Below.refl (B + 1) w).alloc hB X) (Nat.lt_succ_self B)

theorem word_max : Word 18446744073709551615 := ⟨by omega, by omega⟩
theorem word_0 : Word 0 := ⟨by omega, by omega⟩
theorem word_1 : Word 1 := ⟨by omega, by omega⟩

theorem wrap64_neg (a : Int) (ha : Word a) : decide (wrap64 a < 0) = hiB a := by
  have h1 := ha.low
  have h2 := ha.high
  unfold wrap64 hiB
  rw [decide_eq_decide]
  omega

theorem word_of {a : Int} (h : (Lit.int .u64 a).wf = true) : Word a := by
  simp [Lit.wf, IntKind.min, IntKind.max, IntKind.bits, IntKind.signed] at h
  exact ⟨by omega, by omega⟩

theorem subZ (a b : Int) (ha : Word a) (hb : Word b) : (IntKind.u64.wrap (a - b) == 0) = (a == b) := by
  have h1 := ha.low
  have h2 := ha.high
  have h3 := hb.low
  have h4 := hb.high
  rw [IntKind.wrap_u64, Bool.eq_iff_iff, beq_iff_eq, beq_iff_eq]
  omega

end Go.Proofs.Ythbgmlmcjnlopaa
namespace Go.Proofs.Ythbgmlmcjnlopaa
open Go.ChangeShapes Go.WideShapes Go.ChangeAt Go.RowKit

/-- A world with the flags in block B, and at most new blocks beside those of w. -/
structure Fits (w : World) (B : Nat) (z s c o : Bool) (W : World) : Prop where
  blk : Blk W B z s c o
  bel : Below w.heap.size w W
  lt : B < W.heap.size

theorem Fits.drew {w : World} {B : Nat} {z s c o : Bool} {W : World} (h : Fits w B z s c o W) : Fits w B z s c o W.drew :=
  ⟨h.blk.below (n := W.heap.size) (Below.refl _ _).drew h.lt, h.bel.drew, by have := h.lt; simpa using this⟩
theorem Fits.below {w : World} {B : Nat} {z s c o : Bool} {W W' : World} (h : Fits w B z s c o W) (hb : Below W.heap.size W W') : Fits w B z s c o W' :=
  ⟨h.blk.below hb h.lt, h.bel.trans (hb.mono h.bel.size), Nat.lt_of_lt_of_le h.lt hb.size⟩

theorem Fits.new {w w1 : World} {z s c o : Bool} {t : TypeId} (hb : Below w.heap.size w w1) : Fits w w1.heap.size z s c o (w1.alloc (Obj.cells #[.bool z, .bool s, .bool c, .bool o] t)) :=
  ⟨Blk.new _ _ _ _ _ _, hb.alloc hb.size _, by simp⟩
theorem Fits.ahead {w w1 : World} {B : Nat} {z s c o : Bool} {X : Obj} (h : Fits w B z s c o w1) : Fits w B z s c o (w1.alloc X) :=
  h.below ((Below.refl _ _).alloc (Nat.le_refl _) X)
end Go.Proofs.Ythbgmlmcjnlopaa
namespace Go.Proofs.Ythbgmlmcjnlopaa
open Go.ChangeShapes Go.WideShapes Go.ChangeAt Go.RowKit
set_option linter.unusedVariables false
set_option linter.unusedSimpArgs false

theorem and_one (x : Int) (h : Word x) : bits .and .u64 x 1 = x % 2 := by
  obtain ⟨A, rfl⟩ := Int.eq_ofNat_of_zero_le h.low
  have h1 := h.high
  rw [show (1 : Int) = ((1 : Nat) : Int) from rfl, u64_and_nat A 1 (by omega) (by omega), Nat.and_one_is_mod]
  omega

theorem word_div {a : Int} (ha : Word a) (k : Nat) : Word (a / 2 ^ k) := by
  have h0 := ha.low
  have h1 := ha.high
  have hp : (0 : Int) < 2 ^ k := Int.pow_pos (by omega)
  refine ⟨Int.ediv_nonneg h0 (by omega), ?_⟩
  have := Int.ediv_le_self (2 ^ k) h0
  omega

theorem Blk.put {w : World} {B : Nat} {z s c o : Bool} (h : Blk w B z s c o) (z' s' c' o' d : Bool) :
    Blk (((((w.setCell ⟨B, 0, none⟩ (.bool z')).setCell ⟨B, 1, none⟩ (.bool s')).setCell ⟨B, 2, none⟩ (.bool c')).setCell ⟨B, 3, none⟩ (.bool o')).setCell ⟨B, 2, none⟩ (.bool d)) B z' s' d o' := by
  obtain ⟨h0, h1, h2, h3, g0, g1, g2, g3⟩ := h.set z' s' c' o'
  constructor <;> simp [go_sem, *]

/-- What is written into one block leaves another one as it was. -/
theorem Blk.far {w : World} {B C : Nat} {z s c o : Bool} (h : Blk w C z s c o) (hn : B ≠ C) (z' s' c' o' d : Bool) :
    Blk (((((w.setCell ⟨B, 0, none⟩ (.bool z')).setCell ⟨B, 1, none⟩ (.bool s')).setCell ⟨B, 2, none⟩ (.bool c')).setCell ⟨B, 3, none⟩ (.bool o')).setCell ⟨B, 2, none⟩ (.bool d)) C z s c o := by
  obtain ⟨h0, h1, h2, h3, g0, g1, g2, g3⟩ := h
  constructor <;> simp [go_sem, *]

theorem shift_l (a n v x : Int) (z s c o : Bool) (w : World) (ha : Word a) (hv : Word v) (wx : Word x) (h0 : 1 ≤ n) (h1 : n ≤ 63) (hn : (n == 0) = false) (HV : Hid (IntKind.u64.wrap (a * 2 ^ n.toNat) = v)) (HX : Hid (a / 2 ^ (64 - n).toNat = x)) :
    Calls Try.prog 94 #[.int .i64 9, .int .u64 a, .int .i64 n, .agg #[.bool z, .bool s, .bool c, .bool o]] w fun e w' => e = .returned (.tuple #[.int .u64 v, .agg #[.bool (v == 0), .bool (hiB v), .bool (x % 2 != 0), .bool false]]) ∧ Below w.heap.size w w' := by
  have hx := Lib.hid (and_one x wx)
  go_enter Try.func94, Try.ntmps94
  go_wp2_with fail
  go_region
  go_wp2_with fail
  skip
  skip
  rw [HV.out]
  refine (like_any v _ hv).mono ?_
  rintro e w1 ⟨rfl, hb1⟩
  obtain ⟨K1, K2, hb2, hs⟩ := Blk.two ((Below.refl _ _).drew.trans hb1)
  have HK1 := Lib.hid K1
  have HK2 := Lib.hid K2
  have HB := Lib.hid hb2
  obtain ⟨h0, h1, h2, h3, g0, g1, g2, g3⟩ := K1
  clear hb1 K2 hb2
  go_wp2_with fail
  rw [HX.out, hx.out]
  obtain ⟨W, hW⟩ : ∃ W, W = ((((w1.setCell ⟨w.heap.size, 0, none⟩ (.bool (v == 0))).setCell ⟨w.heap.size, 1, none⟩ (.bool (hiB v))).setCell ⟨w.heap.size, 2, none⟩ (.bool false)).setCell ⟨w.heap.size, 3, none⟩ (.bool false)).setCell ⟨w.heap.size, 2, none⟩ (.bool (x % 2 != 0)) := ⟨_, rfl⟩
  rw [← hW]
  have Q1 := HK1.out.put (v == 0) (hiB v) false false (x % 2 != 0)
  have Q2 := HK2.out.far (B := w.heap.size) (by omega) (v == 0) (hiB v) false false (x % 2 != 0)
  rw [← hW] at Q1 Q2
  have hb3 : Below w.heap.size w W := by
    rw [hW]
    exact ((((HB.out.setCell (p := ⟨w.heap.size, 0, none⟩) (Nat.le_refl _) _).setCell (p := ⟨w.heap.size, 1, none⟩) (Nat.le_refl _) _).setCell (p := ⟨w.heap.size, 2, none⟩) (Nat.le_refl _) _).setCell (p := ⟨w.heap.size, 3, none⟩) (Nat.le_refl _) _).setCell (p := ⟨w.heap.size, 2, none⟩) (Nat.le_refl _) _
  clear hW h0 h1 h2 h3 g0 g1 g2 g3 HK1 HK2 HB
  obtain ⟨h0, h1, h2, h3, g0, g1, g2, g3⟩ := Q1
  obtain ⟨M0, M1, M2, M3, N0, N1, N2, N3⟩ := Q2
  go_region
  go_wp2
  exact bodyPost_ret (v := .tuple #[.int .u64 v, .agg #[.bool (v == 0), .bool (hiB v), .bool (x % 2 != 0), .bool false]]) (by simp [results, Try.results94, go_sem, h0, h1, h2, h3, M0, M1, M2, M3]) rfl ⟨rfl, by go_grown⟩

theorem shift_r (a n v x : Int) (z s c o : Bool) (w : World) (ha : Word a) (hv : Word v) (wx : Word x) (h0 : 1 ≤ n) (h1 : n ≤ 63) (hn : (n == 0) = false) (HV : Hid (a / 2 ^ n.toNat = v)) (HX : Hid (a / 2 ^ (n.toNat - 1) = x)) :
    Calls Try.prog 94 #[.int .i64 10, .int .u64 a, .int .i64 n, .agg #[.bool z, .bool s, .bool c, .bool o]] w fun e w' => e = .returned (.tuple #[.int .u64 v, .agg #[.bool (v == 0), .bool (hiB v), .bool (x % 2 != 0), .bool false]]) ∧ Below w.heap.size w w' := by
  have hx := Lib.hid (and_one x wx)
  go_enter Try.func94, Try.ntmps94
  go_wp2_with fail
  go_region
  go_wp2_with fail
  go_region
  go_wp2_with fail
  rw [HV.out]
  refine (like_any v _ hv).mono ?_
  rintro e w1 ⟨rfl, hb1⟩
  obtain ⟨K1, K2, hb2, hs⟩ := Blk.two ((Below.refl _ _).drew.drew.trans hb1)
  have HK1 := Lib.hid K1
  have HK2 := Lib.hid K2
  have HB := Lib.hid hb2
  obtain ⟨h0, h1, h2, h3, g0, g1, g2, g3⟩ := K1
  clear hb1 K2 hb2
  go_wp2_with fail
  rw [HX.out, hx.out]
  obtain ⟨W, hW⟩ : ∃ W, W = ((((w1.setCell ⟨w.heap.size, 0, none⟩ (.bool (v == 0))).setCell ⟨w.heap.size, 1, none⟩ (.bool (hiB v))).setCell ⟨w.heap.size, 2, none⟩ (.bool false)).setCell ⟨w.heap.size, 3, none⟩ (.bool false)).setCell ⟨w.heap.size, 2, none⟩ (.bool (x % 2 != 0)) := ⟨_, rfl⟩
  rw [← hW]
  have Q1 := HK1.out.put (v == 0) (hiB v) false false (x % 2 != 0)
  have Q2 := HK2.out.far (B := w.heap.size) (by omega) (v == 0) (hiB v) false false (x % 2 != 0)
  rw [← hW] at Q1 Q2
  have hb3 : Below w.heap.size w W := by
    rw [hW]
    exact ((((HB.out.setCell (p := ⟨w.heap.size, 0, none⟩) (Nat.le_refl _) _).setCell (p := ⟨w.heap.size, 1, none⟩) (Nat.le_refl _) _).setCell (p := ⟨w.heap.size, 2, none⟩) (Nat.le_refl _) _).setCell (p := ⟨w.heap.size, 3, none⟩) (Nat.le_refl _) _).setCell (p := ⟨w.heap.size, 2, none⟩) (Nat.le_refl _) _
  clear hW h0 h1 h2 h3 g0 g1 g2 g3 HK1 HK2 HB
  obtain ⟨h0, h1, h2, h3, g0, g1, g2, g3⟩ := Q1
  obtain ⟨M0, M1, M2, M3, N0, N1, N2, N3⟩ := Q2
  go_region
  go_wp2
  exact bodyPost_ret (v := .tuple #[.int .u64 v, .agg #[.bool (v == 0), .bool (hiB v), .bool (x % 2 != 0), .bool false]]) (by simp [results, Try.results94, go_sem, h0, h1, h2, h3, M0, M1, M2, M3]) rfl ⟨rfl, by go_grown⟩

theorem shift_z (op a : Int) (z s c o : Bool) (w : World) :
    Calls Try.prog 94 #[.int .i64 op, .int .u64 a, .int .i64 0, .agg #[.bool z, .bool s, .bool c, .bool o]] w fun e w' => e = .returned (.tuple #[.int .u64 a, .agg #[.bool z, .bool s, .bool c, .bool o]]) ∧ Below w.heap.size w w' := by
  go_enter Try.func94, Try.ntmps94
  go_wp2_with fail
  go_region
  go_wp2
  exact bodyPost_ret (v := .tuple #[.int .u64 a, .agg #[.bool z, .bool s, .bool c, .bool o]]) (by simp [results, Try.results94, go_sem]) rfl ⟨rfl, by go_grown⟩
end Go.Proofs.Ythbgmlmcjnlopaa
namespace Go.Proofs.Ythbgmlmcjnlopaa
open Go.ChangeShapes Go.WideShapes Go.ChangeAt Go.RowKit
set_option linter.unusedVariables false
set_option linter.unusedSimpArgs false

theorem word_or {a b : Int} (ha : Word a) (hb : Word b) : Word (bits .or .u64 a b) := by
  obtain ⟨A, rfl⟩ := Int.eq_ofNat_of_zero_le ha.low
  obtain ⟨B, rfl⟩ := Int.eq_ofNat_of_zero_le hb.low
  have h1 := ha.high
  have h2 := hb.high
  rw [u64_or_nat A B (by omega) (by omega)]
  have hx : A ||| B < 2 ^ 64 := Nat.or_lt_two_pow (by omega) (by omega)
  exact ⟨by omega, by omega⟩

theorem and_63u (x : Int) (h : Word x) : bits .and .u64 x 63 = x % 64 := by
  obtain ⟨A, rfl⟩ := Int.eq_ofNat_of_zero_le h.low
  have h1 := h.high
  rw [show (63 : Int) = ((63 : Nat) : Int) from rfl, u64_and_nat A 63 (by omega) (by omega), show 63 = 2 ^ 6 - 1 from rfl, Nat.and_two_pow_sub_one_eq_mod]
  omega

def logF (v : Int) : Value := .agg #[.bool (v == 0), .bool (hiB v), .bool false, .bool false]

theorem Blk.far4 {w : World} {B C : Nat} {z s c o : Bool} (h : Blk w C z s c o) (hn : B ≠ C) (z' s' c' o' : Bool) :
    Blk ((((w.setCell ⟨B, 0, none⟩ (.bool z')).setCell ⟨B, 1, none⟩ (.bool s')).setCell ⟨B, 2, none⟩ (.bool c')).setCell ⟨B, 3, none⟩ (.bool o')) C z s c o := by
  obtain ⟨h0, h1, h2, h3, g0, g1, g2, g3⟩ := h
  constructor <;> simp [go_sem, *]

theorem do_and (a b v : Int) (z s c o z1 s1 : Bool) (w : World) (ha : Word a) (hb : Word b) (hv : Word v) (he : Hid (bits .and .u64 a b = v)) (hz : (v == 0) = z1) (hs : hiB v = s1) :
    Calls Try.prog 84 #[.int .i64 2, .int .u64 a, .int .u64 b, .agg #[.bool z, .bool s, .bool c, .bool o]] w fun e w' => e = .returned (.tuple #[.int .u64 v, .agg #[.bool z1, .bool s1, .bool false, .bool false]]) ∧ Below w.heap.size w w' := by
  have HZ := Lib.hid hz
  have HS := Lib.hid hs
  clear hz hs
  go_enter Try.func84, Try.ntmps84
  go_wp2_with fail
  rw [he.out]
  refine (logic_any v _ hv).mono ?_
  rintro e w1 ⟨rfl, hb1⟩
  rw [HZ.out, HS.out]
  obtain ⟨⟨h0, h1, h2, h3, g0, g1, g2, g3⟩, ⟨k0, k1, k2, k3, l0, l1, l2, l3⟩, hb2, hs⟩ := Blk.two hb1
  clear hb1
  go_wp2
  exact bodyPost_ret (v := .tuple #[.int .u64 v, .agg #[.bool z1, .bool s1, .bool false, .bool false]]) (by simp [results, Try.results84, go_sem, h0, h1, h2, h3, k0, k1, k2, k3]) rfl ⟨rfl, by go_grown⟩

theorem do_or (a b v : Int) (z s c o z1 s1 : Bool) (w : World) (ha : Word a) (hb : Word b) (hv : Word v) (he : Hid (bits .or .u64 a b = v)) (hz : (v == 0) = z1) (hs : hiB v = s1) :
    Calls Try.prog 84 #[.int .i64 3, .int .u64 a, .int .u64 b, .agg #[.bool z, .bool s, .bool c, .bool o]] w fun e w' => e = .returned (.tuple #[.int .u64 v, .agg #[.bool z1, .bool s1, .bool false, .bool false]]) ∧ Below w.heap.size w w' := by
  have HZ := Lib.hid hz
  have HS := Lib.hid hs
  clear hz hs
  go_enter Try.func84, Try.ntmps84
  go_wp2_with fail
  rw [he.out]
  refine (logic_any v _ hv).mono ?_
  rintro e w1 ⟨rfl, hb1⟩
  rw [HZ.out, HS.out]
  obtain ⟨⟨h0, h1, h2, h3, g0, g1, g2, g3⟩, ⟨k0, k1, k2, k3, l0, l1, l2, l3⟩, hb2, hs⟩ := Blk.two hb1
  clear hb1
  go_wp2
  exact bodyPost_ret (v := .tuple #[.int .u64 v, .agg #[.bool z1, .bool s1, .bool false, .bool false]]) (by simp [results, Try.results84, go_sem, h0, h1, h2, h3, k0, k1, k2, k3]) rfl ⟨rfl, by go_grown⟩

theorem do_xor (a b v : Int) (z s c o z1 s1 : Bool) (w : World) (ha : Word a) (hb : Word b) (hv : Word v) (he : Hid (bits .xor .u64 a b = v)) (hz : (v == 0) = z1) (hs : hiB v = s1) :
    Calls Try.prog 84 #[.int .i64 4, .int .u64 a, .int .u64 b, .agg #[.bool z, .bool s, .bool c, .bool o]] w fun e w' => e = .returned (.tuple #[.int .u64 v, .agg #[.bool z1, .bool s1, .bool false, .bool false]]) ∧ Below w.heap.size w w' := by
  have HZ := Lib.hid hz
  have HS := Lib.hid hs
  clear hz hs
  go_enter Try.func84, Try.ntmps84
  go_wp2_with fail
  rw [he.out]
  refine (logic_any v _ hv).mono ?_
  rintro e w1 ⟨rfl, hb1⟩
  rw [HZ.out, HS.out]
  obtain ⟨⟨h0, h1, h2, h3, g0, g1, g2, g3⟩, ⟨k0, k1, k2, k3, l0, l1, l2, l3⟩, hb2, hs⟩ := Blk.two hb1
  clear hb1
  go_wp2
  exact bodyPost_ret (v := .tuple #[.int .u64 v, .agg #[.bool z1, .bool s1, .bool false, .bool false]]) (by simp [results, Try.results84, go_sem, h0, h1, h2, h3, k0, k1, k2, k3]) rfl ⟨rfl, by go_grown⟩

theorem do_test (a b v : Int) (z s c o z1 s1 : Bool) (w : World) (ha : Word a) (hb : Word b) (hv : Word v) (he : Hid (bits .and .u64 a b = v)) (hz : (v == 0) = z1) (hs : hiB v = s1) :
    Calls Try.prog 84 #[.int .i64 8, .int .u64 a, .int .u64 b, .agg #[.bool z, .bool s, .bool c, .bool o]] w fun e w' => e = .returned (.tuple #[.int .u64 a, .agg #[.bool z1, .bool s1, .bool false, .bool false]]) ∧ Below w.heap.size w w' := by
  have HZ := Lib.hid hz
  have HS := Lib.hid hs
  clear hz hs
  go_enter Try.func84, Try.ntmps84
  go_wp2_with fail
  rw [he.out]
  refine (logic_any v _ hv).mono ?_
  rintro e w1 ⟨rfl, hb1⟩
  rw [HZ.out, HS.out]
  obtain ⟨K1, K2, hb2, hs⟩ := Blk.two hb1
  have HK1 := Lib.hid K1
  have HK2 := Lib.hid K2
  have HB := Lib.hid hb2
  obtain ⟨h0, h1, h2, h3, g0, g1, g2, g3⟩ := K1
  obtain ⟨k0, k1, k2, k3, l0, l1, l2, l3⟩ := K2
  clear hb1 hb2
  go_wp2_with fail
  obtain ⟨W, hW⟩ : ∃ W, W = (((w1.setCell ⟨w.heap.size, 0, none⟩ (.bool z1)).setCell ⟨w.heap.size, 1, none⟩ (.bool s1)).setCell ⟨w.heap.size, 2, none⟩ (.bool false)).setCell ⟨w.heap.size, 3, none⟩ (.bool false) := ⟨_, rfl⟩
  rw [← hW]
  have Q1 := HK1.out.set z1 s1 false false
  have Q2 := HK2.out.far4 (B := w.heap.size) (by omega) z1 s1 false false
  rw [← hW] at Q1 Q2
  have hb3 : Below w.heap.size w W := by
    rw [hW]
    exact (((HB.out.setCell (p := ⟨w.heap.size, 0, none⟩) (Nat.le_refl _) _).setCell (p := ⟨w.heap.size, 1, none⟩) (Nat.le_refl _) _).setCell (p := ⟨w.heap.size, 2, none⟩) (Nat.le_refl _) _).setCell (p := ⟨w.heap.size, 3, none⟩) (Nat.le_refl _) _
  clear hW h0 h1 h2 h3 g0 g1 g2 g3 k0 k1 k2 k3 l0 l1 l2 l3 HK1 HK2 HB
  obtain ⟨h0, h1, h2, h3, g0, g1, g2, g3⟩ := Q1
  obtain ⟨M0, M1, M2, M3, N0, N1, N2, N3⟩ := Q2
  go_region
  go_wp2
  exact bodyPost_ret (v := .tuple #[.int .u64 a, .agg #[.bool z1, .bool s1, .bool false, .bool false]]) (by simp [results, Try.results84, go_sem, h0, h1, h2, h3, M0, M1, M2, M3]) rfl ⟨rfl, by go_grown⟩

theorem do_shl (a b n v : Int) (z s c o z1 s1 c1 o1 : Bool) (w : World) (hb : Word b) (h0 : 0 ≤ n) (h1 : n ≤ 63) (hn : Hid (b % 64 = n))
    (hc : Hid (∀ w, Calls Try.prog 94 #[.int .i64 9, .int .u64 a, .int .i64 n, .agg #[.bool z, .bool s, .bool c, .bool o]] w fun e w' => e = .returned (.tuple #[.int .u64 v, .agg #[.bool z1, .bool s1, .bool c1, .bool o1]]) ∧ Below w.heap.size w w')) :
    Calls Try.prog 84 #[.int .i64 9, .int .u64 a, .int .u64 b, .agg #[.bool z, .bool s, .bool c, .bool o]] w fun e w' => e = .returned (.tuple #[.int .u64 v, .agg #[.bool z1, .bool s1, .bool c1, .bool o1]]) ∧ Below w.heap.size w w' := by
  have H63 := and_63u b hb
  rw [hn.out] at H63
  have hw : wrap64 n = n := by unfold wrap64; omega
  go_enter Try.func84, Try.ntmps84
  go_wp2_with fail
  clear H63 hw
  refine (hc.out _).mono ?_
  rintro e w1 ⟨rfl, hb1⟩
  obtain ⟨⟨h0, h1, h2, h3, g0, g1, g2, g3⟩, ⟨k0, k1, k2, k3, l0, l1, l2, l3⟩, hb2, hs⟩ := Blk.two hb1
  clear hb1
  go_wp2
  exact bodyPost_ret (v := .tuple #[.int .u64 v, .agg #[.bool z1, .bool s1, .bool c1, .bool o1]]) (by simp [results, Try.results84, go_sem, h0, h1, h2, h3, k0, k1, k2, k3]) rfl ⟨rfl, by go_grown⟩

theorem do_shr (a b n v : Int) (z s c o z1 s1 c1 o1 : Bool) (w : World) (hb : Word b) (h0 : 0 ≤ n) (h1 : n ≤ 63) (hn : Hid (b % 64 = n))
    (hc : Hid (∀ w, Calls Try.prog 94 #[.int .i64 10, .int .u64 a, .int .i64 n, .agg #[.bool z, .bool s, .bool c, .bool o]] w fun e w' => e = .returned (.tuple #[.int .u64 v, .agg #[.bool z1, .bool s1, .bool c1, .bool o1]]) ∧ Below w.heap.size w w')) :
    Calls Try.prog 84 #[.int .i64 10, .int .u64 a, .int .u64 b, .agg #[.bool z, .bool s, .bool c, .bool o]] w fun e w' => e = .returned (.tuple #[.int .u64 v, .agg #[.bool z1, .bool s1, .bool c1, .bool o1]]) ∧ Below w.heap.size w w' := by
  have H63 := and_63u b hb
  rw [hn.out] at H63
  have hw : wrap64 n = n := by unfold wrap64; omega
  go_enter Try.func84, Try.ntmps84
  go_wp2_with fail
  clear H63 hw
  refine (hc.out _).mono ?_
  rintro e w1 ⟨rfl, hb1⟩
  obtain ⟨⟨h0, h1, h2, h3, g0, g1, g2, g3⟩, ⟨k0, k1, k2, k3, l0, l1, l2, l3⟩, hb2, hs⟩ := Blk.two hb1
  clear hb1
  go_wp2
  exact bodyPost_ret (v := .tuple #[.int .u64 v, .agg #[.bool z1, .bool s1, .bool c1, .bool o1]]) (by simp [results, Try.results84, go_sem, h0, h1, h2, h3, k0, k1, k2, k3]) rfl ⟨rfl, by go_grown⟩

theorem do_none (op a b : Int) (z s c o : Bool) (w : World) (n0 : (op == 0) = false) (n1 : (op == 1) = false) (n2 : (op == 2) = false) (n3 : (op == 3) = false) (n4 : (op == 4) = false) (n5 : (op == 5) = false) (n6 : (op == 6) = false) (n7 : (op == 7) = false) (n8 : (op == 8) = false) (n9 : (op == 9) = false) (n10 : (op == 10) = false) :
    Calls Try.prog 84 #[.int .i64 op, .int .u64 a, .int .u64 b, .agg #[.bool z, .bool s, .bool c, .bool o]] w fun e w' => e = .returned (.tuple #[.int .u64 a, .agg #[.bool z, .bool s, .bool c, .bool o]]) ∧ Below w.heap.size w w' := by
  go_enter Try.func84, Try.ntmps84
  go_wp2_with fail
  go_region
  go_wp2
  exact bodyPost_ret (v := .tuple #[.int .u64 a, .agg #[.bool z, .bool s, .bool c, .bool o]]) (by simp [results, Try.results84, go_sem]) rfl ⟨rfl, by go_grown⟩

end Go.Proofs.Ythbgmlmcjnlopaa
