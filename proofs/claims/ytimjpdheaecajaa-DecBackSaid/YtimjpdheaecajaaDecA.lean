/- package dec: a form in memory; what it tells of itself. -/
import Derived.Test.YtimjpdheaecajaaDecM
import Derived.Test.YtimjpdheaecajaaAppB
namespace Go.Proofs.Ytimjpdheaecajaa
open Go.ChangeShapes Go.WideShapes Go.ChangeAt Go.RowKit
set_option linter.unusedVariables false

/-- A form lies in block g from o on. -/
structure FormAt (w : World) (g o : Nat) (F : Form) : Prop where
  lt : g < w.heap.size
  c0 : w.cell? ⟨g, o, none⟩ = some (.int .i64 F.op)
  c1 : w.cell? ⟨g, o + 1, none⟩ = some (.int .i64 F.alu)
  c2 : w.cell? ⟨g, o + 2, none⟩ = some (.int .i64 F.cc)
  c3 : w.cell? ⟨g, o + 3, none⟩ = some (.int .i64 F.pre)
  c4 : w.cell? ⟨g, o + 4, none⟩ = some (.int .u8 F.code)
  c5 : w.cell? ⟨g, o + 5, none⟩ = some (.int .i64 F.regs)
  c6 : w.cell? ⟨g, o + 6, none⟩ = some (.int .u8 F.ext)
  c7 : w.cell? ⟨g, o + 7, none⟩ = some (.int .i64 F.tail)

theorem FormAt.of_block {w w' : World} {g o : Nat} {F : Form} (h : FormAt w g o F) (e : w'.heap[g]? = w.heap[g]?) (hs : w.heap.size ≤ w'.heap.size) : FormAt w' g o F :=
  ⟨Nat.lt_of_lt_of_le h.lt hs, (World.cell?_of_block (a := ⟨g, o, none⟩) e).trans h.c0, (World.cell?_of_block (a := ⟨g, o + 1, none⟩) e).trans h.c1,
   (World.cell?_of_block (a := ⟨g, o + 2, none⟩) e).trans h.c2, (World.cell?_of_block (a := ⟨g, o + 3, none⟩) e).trans h.c3, (World.cell?_of_block (a := ⟨g, o + 4, none⟩) e).trans h.c4,
   (World.cell?_of_block (a := ⟨g, o + 5, none⟩) e).trans h.c5, (World.cell?_of_block (a := ⟨g, o + 6, none⟩) e).trans h.c6, (World.cell?_of_block (a := ⟨g, o + 7, none⟩) e).trans h.c7⟩
theorem FormAt.below {w w' : World} {g o : Nat} {F : Form} {B : Nat} (h : FormAt w g o F) (hb : Below B w w') (hg : g < B) : FormAt w' g o F := h.of_block (hb.block g hg) hb.size
theorem FormAt.grown {w w' : World} {g o : Nat} {F : Form} {row : Option Nat} (h : FormAt w g o F) (hb : w.grownBy w' row) (hg : some g ≠ row) : FormAt w' g o F := h.of_block (hb.block g h.lt hg) hb.size
theorem FormAt.alloc {w : World} {g o : Nat} {F : Form} (h : FormAt w g o F) (b : Obj) : FormAt (w.alloc b) g o F := h.of_block (Below.heap_alloc w b g h.lt) (by simp)

theorem prefix_any (g o : Nat) (F : Form) (w : World) (hF : F.Ok) (hf : FormAt w g o F) :
    Calls Try.prog 12 #[.pointer (some ⟨g, o, none⟩)] w fun e w' =>
      e = .returned (.agg #[.int .u8 (preF F.pre).base, .int .u8 (preF F.pre).bitA, .int .u8 (preF F.pre).bitB, .bool (preF F.pre).spare]) ∧ Below w.heap.size w w' := by
  have h3 := hf.c3
  have hlt := hf.lt
  have hp := hF.pre
  rcases (by omega : F.pre = 0 ∨ F.pre = 1 ∨ F.pre = 2 ∨ F.pre = 3 ∨ F.pre = 4 ∨ F.pre = 5) with e | e | e | e | e | e
  · replace h3 : w.cell? ⟨g, o + 3, none⟩ = some (.int .i64 0) := by rw [e] at h3; exact h3
    rw [e]
    clear hf e hp hF
    go_enter Try.func12, Try.ntmps12
    go_wp2
    exact bodyPost_ret (v := .agg #[.int .u8 0, .int .u8 0, .int .u8 0, .bool false]) (by simp [results, Try.results12, go_sem]) rfl ⟨rfl, by go_grown⟩
  · replace h3 : w.cell? ⟨g, o + 3, none⟩ = some (.int .i64 1) := by rw [e] at h3; exact h3
    rw [e]
    clear hf e hp hF
    go_enter Try.func12, Try.ntmps12
    go_wp2
    exact bodyPost_ret (v := .agg #[.int .u8 64, .int .u8 1, .int .u8 0, .bool true]) (by simp [results, Try.results12, go_sem]) rfl ⟨rfl, by go_grown⟩
  · replace h3 : w.cell? ⟨g, o + 3, none⟩ = some (.int .i64 2) := by rw [e] at h3; exact h3
    rw [e]
    clear hf e hp hF
    go_enter Try.func12, Try.ntmps12
    go_wp2
    exact bodyPost_ret (v := .agg #[.int .u8 72, .int .u8 4, .int .u8 1, .bool false]) (by simp [results, Try.results12, go_sem]) rfl ⟨rfl, by go_grown⟩
  · replace h3 : w.cell? ⟨g, o + 3, none⟩ = some (.int .i64 3) := by rw [e] at h3; exact h3
    rw [e]
    clear hf e hp hF
    go_enter Try.func12, Try.ntmps12
    go_wp2
    exact bodyPost_ret (v := .agg #[.int .u8 72, .int .u8 4, .int .u8 0, .bool false]) (by simp [results, Try.results12, go_sem]) rfl ⟨rfl, by go_grown⟩
  · replace h3 : w.cell? ⟨g, o + 3, none⟩ = some (.int .i64 4) := by rw [e] at h3; exact h3
    rw [e]
    clear hf e hp hF
    go_enter Try.func12, Try.ntmps12
    go_wp2
    exact bodyPost_ret (v := .agg #[.int .u8 72, .int .u8 1, .int .u8 0, .bool false]) (by simp [results, Try.results12, go_sem]) rfl ⟨rfl, by go_grown⟩
  · replace h3 : w.cell? ⟨g, o + 3, none⟩ = some (.int .i64 5) := by rw [e] at h3; exact h3
    rw [e]
    clear hf e hp hF
    go_enter Try.func12, Try.ntmps12
    go_wp2
    exact bodyPost_ret (v := .agg #[.int .u8 72, .int .u8 0, .int .u8 1, .bool false]) (by simp [results, Try.results12, go_sem]) rfl ⟨rfl, by go_grown⟩

theorem hasA_any (g o : Nat) (F : Form) (w : World) (hF : F.Ok) (hf : FormAt w g o F) :
    Calls Try.prog 23 #[.pointer (some ⟨g, o, none⟩)] w fun e w' => e = .returned (.bool (hasA F.regs)) ∧ w = w' := by
  have h5 := hf.c5
  have hp := hF.regs
  rcases (by omega : F.regs = 0 ∨ F.regs = 1 ∨ F.regs = 2 ∨ F.regs = 3 ∨ F.regs = 4 ∨ F.regs = 5 ∨ F.regs = 6) with e | e | e | e | e | e | e
  all_goals
    rw [e] at h5 ⊢
    clear hf e hp hF
    go_enter Try.func23, Try.ntmps23
    go_wp2
    go_ret
    exact ⟨rfl, rfl⟩

theorem hasB_any (g o : Nat) (F : Form) (w : World) (hF : F.Ok) (hf : FormAt w g o F) :
    Calls Try.prog 24 #[.pointer (some ⟨g, o, none⟩)] w fun e w' => e = .returned (.bool (hasB F.regs)) ∧ w = w' := by
  have h5 := hf.c5
  have hp := hF.regs
  rcases (by omega : F.regs = 0 ∨ F.regs = 1 ∨ F.regs = 2 ∨ F.regs = 3 ∨ F.regs = 4 ∨ F.regs = 5 ∨ F.regs = 6) with e | e | e | e | e | e | e
  all_goals
    rw [e] at h5 ⊢
    clear hf e hp hF
    go_enter Try.func24, Try.ntmps24
    go_wp2
    go_ret
    exact ⟨rfl, rfl⟩

theorem tailLen_any (g o : Nat) (F : Form) (w : World) (hF : F.Ok) (hf : FormAt w g o F) :
    Calls Try.prog 16 #[.pointer (some ⟨g, o, none⟩)] w fun e w' => e = .returned (.int .i64 (tailLen F.tail)) ∧ w = w' := by
  have h7 := hf.c7
  have hp := hF.tail
  rcases (by omega : F.tail = 0 ∨ F.tail = 1 ∨ F.tail = 2 ∨ F.tail = 3 ∨ F.tail = 4 ∨ F.tail = 5 ∨ F.tail = 6) with e | e | e | e | e | e | e
  all_goals
    rw [e] at h7 ⊢
    clear hf e hp hF
    go_enter Try.func16, Try.ntmps16
    go_wp2
    go_ret
    exact ⟨rfl, rfl⟩

theorem wrap_i8 (n : Int) : IntKind.i8.wrap n = if n % 256 ≥ 128 then n % 256 - 256 else n % 256 := by
  unfold IntKind.wrap
  simp [IntKind.bits, IntKind.signed]

theorem signed_any (b : Nat) (w : World) (hb : b ≤ 255) :
    Calls Try.prog 29 #[.int .u8 b] w fun e w' => e = .returned (.int .u64 (sgn8 b)) ∧ w = w' := by
  by_cases h : b < 128
  · have q1 : IntKind.i8.wrap (b : Int) = b := by rw [wrap_i8]; omega
    have q2 : IntKind.i64.wrap (b : Int) = b := by rw [IntKind.wrap_i64]; omega
    have q3 : IntKind.u64.wrap (b : Int) = b := by rw [IntKind.wrap_u64]; omega
    have e : sgn8 b = b := by unfold sgn8; rw [if_pos h]
    rw [e]
    go_enter Try.func29, Try.ntmps29
    go_wp2
    go_ret
    exact ⟨rfl, rfl⟩
  · have q1 : IntKind.i8.wrap (b : Int) = (b : Int) - 256 := by rw [wrap_i8]; omega
    have q2 : IntKind.i64.wrap ((b : Int) - 256) = (b : Int) - 256 := by rw [IntKind.wrap_i64]; omega
    have q3 : IntKind.u64.wrap ((b : Int) - 256) = ((b + 18446744073709551360 : Nat) : Int) := by rw [IntKind.wrap_u64]; omega
    have e : sgn8 b = b + 18446744073709551360 := by unfold sgn8; rw [if_neg h]
    rw [e]
    go_enter Try.func29, Try.ntmps29
    go_wp2
    go_ret
    exact ⟨by simp, rfl⟩
end Go.Proofs.Ytimjpdheaecajaa
