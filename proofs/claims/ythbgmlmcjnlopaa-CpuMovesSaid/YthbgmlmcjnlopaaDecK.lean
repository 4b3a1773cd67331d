/- package dec: the form of an instruction is found. -/
import Derived.Test.YthbgmlmcjnlopaaDecJ
import Derived.Test.YthbgmlmcjnlopaaDecG
namespace Go.Proofs.Ythbgmlmcjnlopaa
open Go.ChangeShapes Go.WideShapes Go.ChangeAt Go.RowKit
set_option linter.unusedVariables false
set_option linter.unusedSimpArgs false

def findM : List Form → InsV → Option Form
  | [], _ => none
  | F :: l, x => if F.op = x.op ∧ F.alu = x.alu ∧ F.cc = x.cc ∧ fitsM F x = true then some F else findM l x

/-- A form as a value. -/
def formV (F : Form) : Value := .agg #[.int .i64 F.op, .int .i64 F.alu, .int .i64 F.cc, .int .i64 F.pre, .int .u8 F.code, .int .i64 F.regs, .int .u8 F.ext, .int .i64 F.tail]
def formF (F : Form) : Nat → Value
  | 0 => .int .i64 F.op
  | 1 => .int .i64 F.alu
  | 2 => .int .i64 F.cc
  | 3 => .int .i64 F.pre
  | 4 => .int .u8 F.code
  | 5 => .int .i64 F.regs
  | 6 => .int .u8 F.ext
  | _ => .int .i64 F.tail

theorem formF_cells {w : World} {s : Nat} {F : Form} (h : Own w s 8 (formF F)) : w.cell? ⟨s, 0, none⟩ = some (.int .i64 F.op) ∧ w.cell? ⟨s, 1, none⟩ = some (.int .i64 F.alu) ∧ w.cell? ⟨s, 2, none⟩ = some (.int .i64 F.cc) ∧ w.cell? ⟨s, 3, none⟩ = some (.int .i64 F.pre) ∧
    w.cell? ⟨s, 4, none⟩ = some (.int .u8 F.code) ∧ w.cell? ⟨s, 5, none⟩ = some (.int .i64 F.regs) ∧ w.cell? ⟨s, 6, none⟩ = some (.int .u8 F.ext) ∧ w.cell? ⟨s, 7, none⟩ = some (.int .i64 F.tail) :=
  ⟨h.cell (i := 0) (by omega), h.cell (i := 1) (by omega), h.cell (i := 2) (by omega), h.cell (i := 3) (by omega), h.cell (i := 4) (by omega), h.cell (i := 5) (by omega), h.cell (i := 6) (by omega), h.cell (i := 7) (by omega)⟩
theorem formF_frozen {w : World} {s : Nat} {F : Form} (h : Own w s 8 (formF F)) : w.frozen? ⟨s, 0, none⟩ = false ∧ w.frozen? ⟨s, 1, none⟩ = false ∧ w.frozen? ⟨s, 2, none⟩ = false ∧ w.frozen? ⟨s, 3, none⟩ = false ∧
    w.frozen? ⟨s, 4, none⟩ = false ∧ w.frozen? ⟨s, 5, none⟩ = false ∧ w.frozen? ⟨s, 6, none⟩ = false ∧ w.frozen? ⟨s, 7, none⟩ = false :=
  ⟨h.frozen (i := 0) (by omega), h.frozen (i := 1) (by omega), h.frozen (i := 2) (by omega), h.frozen (i := 3) (by omega), h.frozen (i := 4) (by omega), h.frozen (i := 5) (by omega), h.frozen (i := 6) (by omega), h.frozen (i := 7) (by omega)⟩

/-- What stands while a form is looked for. -/
structure FSt (w : World) (s g : Nat) (x : InsV) (W : World) : Prop where
  bel : Below s w W
  frm : W.heap[g]? = some (.cells formsC 130 (0, 0))
  box : W.heap[s]? = some (.cells #[.int .i64 x.op, .int .i64 x.a, .int .i64 x.b, .int .i64 x.alu, .int .i64 x.cc, .int .u64 x.imm, .int .i64 x.disp] 27 (0, 0))
  res : Own W (s + 1) 8 (formF form0)
  gs : g < s

theorem FSt.below {w : World} {s g : Nat} {x : InsV} {W W' : World} (h : FSt w s g x W) (hb : Below W.heap.size W W') : FSt w s g x W' := by
  have h1 := h.res.1
  have h2 := h.gs
  exact ⟨h.bel.trans (hb.mono (by omega)), (hb.block g (by omega)).trans h.frm, (hb.block s (by omega)).trans h.box, h.res.below hb h1, h.gs⟩

theorem FSt.start {w : World} {g : Nat} (x : InsV) (hg : w.heap[g]? = some (.cells formsC 130 (0, 0))) (hlt : g < w.heap.size) :
    FSt w w.heap.size g x ((w.alloc (.cells #[.int .i64 x.op, .int .i64 x.a, .int .i64 x.b, .int .i64 x.alu, .int .i64 x.cc, .int .u64 x.imm, .int .i64 x.disp] 27)).alloc (.cells #[.int .i64 0, .int .i64 0, .int .i64 0, .int .i64 0, .int .u8 0, .int .i64 0, .int .u8 0, .int .i64 0] 129)) := by
  have h0 : Below w.heap.size w (w.alloc (.cells #[.int .i64 x.op, .int .i64 x.a, .int .i64 x.b, .int .i64 x.alu, .int .i64 x.cc, .int .u64 x.imm, .int .i64 x.disp] 27)) := (Below.refl _ _).alloc (Nat.le_refl _) _
  have h1 := h0.alloc (by simp) (.cells #[.int .i64 0, .int .i64 0, .int .i64 0, .int .i64 0, .int .u8 0, .int .i64 0, .int .u8 0, .int .i64 0] 129)
  refine ⟨h1, (h1.block g hlt).trans hg, ?_, ?_, hlt⟩
  · exact (Below.heap_alloc _ _ w.heap.size (by simp)).trans (heap_alloc_new _ _)
  · refine ⟨by simp, fun i hi => ?_⟩
    rcases (by omega : i = 0 ∨ i = 1 ∨ i = 2 ∨ i = 3 ∨ i = 4 ∨ i = 5 ∨ i = 6 ∨ i = 7) with rfl | rfl | rfl | rfl | rfl | rfl | rfl | rfl <;> constructor <;> simp [go_sem, formF, form0]

theorem FSt.cells {w : World} {s g : Nat} {x : InsV} {W : World} (h : FSt w s g x W) : W.cell? ⟨s, 0, none⟩ = some (.int .i64 x.op) ∧ W.cell? ⟨s, 3, none⟩ = some (.int .i64 x.alu) ∧ W.cell? ⟨s, 4, none⟩ = some (.int .i64 x.cc) :=
  ⟨by rw [cell_of_row _ _ _ _ _ _ h.box]; rfl, by rw [cell_of_row _ _ _ _ _ _ h.box]; rfl, by rw [cell_of_row _ _ _ _ _ _ h.box]; rfl⟩

theorem forms_len : forms.length = 40 := by decide +kernel

theorem find_step {i : Nat} {F : Form} (h : forms[i]? = some F) (x : InsV) :
    findM (forms.drop i) x = if F.op = x.op ∧ F.alu = x.alu ∧ F.cc = x.cc ∧ fitsM F x = true then some F else findM (forms.drop (i + 1)) x := by
  have hi : i < forms.length := by
    rcases Nat.lt_or_ge i forms.length with h' | h'
    · exact h'
    · simp [List.getElem?_eq_none h'] at h
  rw [List.drop_eq_getElem_cons hi]
  have : forms[i] = F := by rw [List.getElem?_eq_getElem hi] at h; exact Option.some.inj h
  rw [this]
  rfl

end Go.Proofs.Ythbgmlmcjnlopaa
