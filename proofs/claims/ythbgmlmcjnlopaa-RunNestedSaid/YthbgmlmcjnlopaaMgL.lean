/- package dec: which instructions a form can tell. · package dec: does an instruction fit a form. · package dec: the form of an instruction is found. · package dec: the bytes of an instruction, piece by piece. -/
import Derived.Test.YthbgmlmcjnlopaaDecF
import Derived.Deep.RegionWith
import Derived.Test.YthbgmlmcjnlopaaRegK
import Derived.Deep.Cut
import Derived.Test.YthbgmlmcjnlopaaDecG
import Derived.Test.YthbgmlmcjnlopaaBl
namespace Go.Proofs.Ythbgmlmcjnlopaa
open Go.ChangeShapes Go.WideShapes Go.ChangeAt Go.RowKit
set_option linter.unusedVariables false
set_option linter.unusedSimpArgs false

def regOkM (r : Nat) (named : Bool) : Bool := r == 0 || (named && decide (r ≤ 15))
def immOk (t imm : Nat) : Bool :=
  match t with
  | 1 => true
  | 2 => decide (imm ≤ 4294967295)
  | 3 => decide (imm ≤ 255)
  | 4 => imm == sgn8 (imm % 256)
  | _ => imm == 0
def dispOk (t : Nat) (d : Int) : Bool :=
  match t with
  | 5 => decide (d ≥ -2147483648) && decide (d ≤ 2147483647)
  | 6 => decide (d ≥ -128) && decide (d ≤ 127)
  | _ => d == 0
def fitsM (F : Form) (x : InsV) : Bool :=
  regOkM x.a (hasA F.regs) && regOkM x.b (hasB F.regs) && !(F.regs == 4 && (x.b &&& 7) == 4) && (immOk F.tail x.imm && dispOk F.tail x.disp)

/-- What an instruction's numbers are, at most. -/
structure InsV.Ok (x : InsV) : Prop where
  op : x.op < 9223372036854775808
  a : x.a ≤ 15
  b : x.b ≤ 15
  alu : x.alu < 9223372036854775808
  cc : x.cc < 9223372036854775808
  imm : x.imm < 18446744073709551616
  d0 : -9223372036854775808 ≤ x.disp
  d1 : x.disp < 9223372036854775808

end Go.Proofs.Ythbgmlmcjnlopaa
namespace Go.Proofs.Ythbgmlmcjnlopaa
open Go.ChangeShapes Go.WideShapes Go.ChangeAt Go.RowKit
set_option linter.unusedVariables false
set_option linter.unusedSimpArgs false

theorem ins_alloc (w : World) (x : InsV) (T : TypeId) : Own (w.alloc (.cells #[.int .i64 x.op, .int .i64 x.a, .int .i64 x.b, .int .i64 x.alu, .int .i64 x.cc, .int .u64 x.imm, .int .i64 x.disp] T)) w.heap.size 7 (insF x) := by
  refine ⟨by simp, fun i hi => ?_⟩
  rcases (by omega : i = 0 ∨ i = 1 ∨ i = 2 ∨ i = 3 ∨ i = 4 ∨ i = 5 ∨ i = 6) with rfl | rfl | rfl | rfl | rfl | rfl | rfl <;> constructor <;> simp [go_sem, insF]

end Go.Proofs.Ythbgmlmcjnlopaa
namespace Go.Proofs.Ythbgmlmcjnlopaa
open Go.ChangeShapes Go.WideShapes Go.ChangeAt Go.RowKit
set_option linter.unusedVariables false
set_option linter.unusedSimpArgs false

def findM : List Form → InsV → Option Form
  | [], _ => none
  | F :: l, x => if F.op = x.op ∧ F.alu = x.alu ∧ F.cc = x.cc ∧ fitsM F x = true then some F else findM l x

/-- A form as a value. -/
def formV (F : Form) : Value := .agg #[.int .i64 F.op, .int .i64 F.alu, .int .i64 F.cc, .int .i64 F.pre, .int .u8 F.code, .int .i64 F.regs, .int .u8 F.ext, .int .i64 F.tail]
def formF (F : Form) : Nat → Value
  | 0 => .int .i64 F.op
  | 1 => .int .i64 F.alu
  | 2 => .int .i64 F.cc
  | 3 => .int .i64 F.pre
  | 4 => .int .u8 F.code
  | 5 => .int .i64 F.regs
  | 6 => .int .u8 F.ext
  | _ => .int .i64 F.tail

theorem formF_cells {w : World} {s : Nat} {F : Form} (h : Own w s 8 (formF F)) : w.cell? ⟨s, 0, none⟩ = some (.int .i64 F.op) ∧ w.cell? ⟨s, 1, none⟩ = some (.int .i64 F.alu) ∧ w.cell? ⟨s, 2, none⟩ = some (.int .i64 F.cc) ∧ w.cell? ⟨s, 3, none⟩ = some (.int .i64 F.pre) ∧
    w.cell? ⟨s, 4, none⟩ = some (.int .u8 F.code) ∧ w.cell? ⟨s, 5, none⟩ = some (.int .i64 F.regs) ∧ w.cell? ⟨s, 6, none⟩ = some (.int .u8 F.ext) ∧ w.cell? ⟨s, 7, none⟩ = some (.int .i64 F.tail) :=
  ⟨h.cell (i := 0) (by omega), h.cell (i := 1) (by omega), h.cell (i := 2) (by omega), h.cell (i := 3) (by omega), h.cell (i := 4) (by omega), h.cell (i := 5) (by omega), h.cell (i := 6) (by omega), h.cell (i := 7) (by omega)⟩
theorem formF_frozen {w : World} {s : Nat} {F : Form} (h : Own w s 8 (formF F)) : w.frozen? ⟨s, 0, none⟩ = false ∧ w.frozen? ⟨s, 1, none⟩ = false ∧ w.frozen? ⟨s, 2, none⟩ = false ∧ w.frozen? ⟨s, 3, none⟩ = false ∧
    w.frozen? ⟨s, 4, none⟩ = false ∧ w.frozen? ⟨s, 5, none⟩ = false ∧ w.frozen? ⟨s, 6, none⟩ = false ∧ w.frozen? ⟨s, 7, none⟩ = false :=
  ⟨h.frozen (i := 0) (by omega), h.frozen (i := 1) (by omega), h.frozen (i := 2) (by omega), h.frozen (i := 3) (by omega), h.frozen (i := 4) (by omega), h.frozen (i := 5) (by omega), h.frozen (i := 6) (by omega), h.frozen (i := 7) (by omega)⟩

/-- What stands while a form is looked for. -/
structure FSt (w : World) (s g : Nat) (x : InsV) (W : World) : Prop where
  bel : Below s w W
  frm : W.heap[g]? = some (.cells formsC 130 (0, 0))
  box : W.heap[s]? = some (.cells #[.int .i64 x.op, .int .i64 x.a, .int .i64 x.b, .int .i64 x.alu, .int .i64 x.cc, .int .u64 x.imm, .int .i64 x.disp] 27 (0, 0))
  res : Own W (s + 1) 8 (formF form0)
  gs : g < s

theorem FSt.below {w : World} {s g : Nat} {x : InsV} {W W' : World} (h : FSt w s g x W) (hb : Below W.heap.size W W') : FSt w s g x W' := by
  have h1 := h.res.1
  have h2 := h.gs
  exact ⟨h.bel.trans (hb.mono (by omega)), (hb.block g (by omega)).trans h.frm, (hb.block s (by omega)).trans h.box, h.res.below hb h1, h.gs⟩

theorem FSt.start {w : World} {g : Nat} (x : InsV) (hg : w.heap[g]? = some (.cells formsC 130 (0, 0))) (hlt : g < w.heap.size) :
    FSt w w.heap.size g x ((w.alloc (.cells #[.int .i64 x.op, .int .i64 x.a, .int .i64 x.b, .int .i64 x.alu, .int .i64 x.cc, .int .u64 x.imm, .int .i64 x.disp] 27)).alloc (.cells #[.int .i64 0, .int .i64 0, .int .i64 0, .int .i64 0, .int .u8 0, .int .i64 0, .int .u8 0, .int .i64 0] 129)) := by
  have h0 : Below w.heap.size w (w.alloc (.cells #[.int .i64 x.op, .int .i64 x.a, .int .i64 x.b, .int .i64 x.alu, .int .i64 x.cc, .int .u64 x.imm, .int .i64 x.disp] 27)) := (Below.refl _ _).alloc (Nat.le_refl _) _
  have h1 := h0.alloc (by simp) (.cells #[.int .i64 0, .int .i64 0, .int .i64 0, .int .i64 0, .int .u8 0, .int .i64 0, .int .u8 0, .int .i64 0] 129)
  refine ⟨h1, (h1.block g hlt).trans hg, ?_, ?_, hlt⟩
  · exact (Below.heap_alloc _ _ w.heap.size (by simp)).trans (heap_alloc_new _ _)
  · refine ⟨by simp, fun i hi => ?_⟩
    rcases (by omega : i = 0 ∨ i = 1 ∨ i = 2 ∨ i = 3 ∨ i = 4 ∨ i = 5 ∨ i = 6 ∨ i = 7) with rfl | rfl | rfl | rfl | rfl | rfl | rfl | rfl <;> constructor <;> simp [go_sem, formF, form0]

theorem FSt.cells {w : World} {s g : Nat} {x : InsV} {W : World} (h : FSt w s g x W) : W.cell? ⟨s, 0, none⟩ = some (.int .i64 x.op) ∧ W.cell? ⟨s, 3, none⟩ = some (.int .i64 x.alu) ∧ W.cell? ⟨s, 4, none⟩ = some (.int .i64 x.cc) :=
  ⟨by rw [cell_of_row _ _ _ _ _ _ h.box]; rfl, by rw [cell_of_row _ _ _ _ _ _ h.box]; rfl, by rw [cell_of_row _ _ _ _ _ _ h.box]; rfl⟩

theorem forms_len : forms.length = 40 := by decide +kernel

theorem find_step {i : Nat} {F : Form} (h : forms[i]? = some F) (x : InsV) :
    findM (forms.drop i) x = if F.op = x.op ∧ F.alu = x.alu ∧ F.cc = x.cc ∧ fitsM F x = true then some F else findM (forms.drop (i + 1)) x := by
  have hi : i < forms.length := by
    rcases Nat.lt_or_ge i forms.length with h' | h'
    · exact h'
    · simp [List.getElem?_eq_none h'] at h
  rw [List.drop_eq_getElem_cons hi]
  have : forms[i] = F := by rw [List.getElem?_eq_getElem hi] at h; exact Option.some.inj h
  rw [this]
  rfl

end Go.Proofs.Ythbgmlmcjnlopaa
namespace Go.Proofs.Ythbgmlmcjnlopaa
open Go.ChangeShapes Go.WideShapes Go.ChangeAt Go.RowKit
set_option linter.unusedVariables false
set_option linter.unusedSimpArgs false

def zL (bs : List Nat) : List Int := bs.map fun (n : Nat) => (n : Int)
theorem zL_len (bs : List Nat) : (zL bs).length = bs.length := by simp [zL]
theorem zL_app (bs cs : List Nat) : zL (bs ++ cs) = zL bs ++ zL cs := by simp [zL]
theorem litF_zL (bs : List Nat) (i : Nat) : litF (zL bs) i = bF bs i := by
  unfold litF bF zL
  rcases Nat.lt_or_ge i bs.length with h | h
  · simp [List.getD, h]
  · simp [List.getD, h]

def preVal (p : Pre) (a b : Nat) : Nat := (p.base ||| (if 7 < a then p.bitA else 0)) ||| (if 7 < b then p.bitB else 0)
def preBytes (p : Pre) (a b : Nat) : List Nat := if p.spare = true ∧ preVal p a b = p.base then [] else if preVal p a b = 0 then [] else [preVal p a b]
def codeBytes (F : Form) (x : InsV) : List Nat :=
  if F.regs = 0 then [F.code] else if F.regs = 1 then [(F.code + x.a % 8) % 256] else [F.code, (F.ext + x.a % 8 * 8 + x.b % 8) % 256]
def leBytes (v n : Nat) : List Nat := (List.range n).map fun i => v / 2 ^ (8 * i) % 256
def tailVal (F : Form) (x : InsV) : Nat := if F.tail = 5 ∨ F.tail = 6 then (x.disp % 18446744073709551616).toNat else x.imm
def encM (F : Form) (x : InsV) : List Nat := preBytes (preF F.pre) x.a x.b ++ codeBytes F x ++ leBytes (tailVal F x) (tailLen F.tail)

/-- What byteOf tells. -/
def preTold (p : Pre) (a b : Nat) : Nat × Bool := if p.spare = true ∧ preVal p a b = p.base then (0, false) else (preVal p a b, decide (preVal p a b ≠ 0))
theorem preTold_bytes (p : Pre) (a b : Nat) : preBytes p a b = if (preTold p a b).2 = true then [(preTold p a b).1] else [] := by
  unfold preBytes preTold
  split
  · simp
  · by_cases h : preVal p a b = 0 <;> simp [h]

/-- A fresh slice of bytes. -/
def NewB (w w' : World) (e : Ending) (bs : List Nat) : Prop := ∃ g c, e = .returned (.slice (some ⟨g, 0, none⟩) bs.length c) ∧ SlB w' (some ⟨g, 0, none⟩) bs.length (bF bs) ∧ Below w.heap.size w w'

theorem slB_new (w : World) (bs : List Nat) (T : TypeId) : SlB (w.alloc (.cells (bs.map fun (n : Nat) => Value.int .u8 (n : Int)).toArray T)) (some ⟨w.heap.size, 0, none⟩) bs.length (bF bs) := by
  refine .inr ⟨w.heap.size, 0, rfl, by simp, fun i hi => ?_⟩
  rw [Nat.zero_add, cell_of_row _ _ _ _ _ _ (heap_alloc_new _ _)]
  simp [bF, List.getD, hi]

theorem newB_box (w : World) (o : Obj) (bs : List Nat) (c : Nat) (T : TypeId) : NewB w ((w.alloc o).alloc (.cells (bs.map fun (n : Nat) => Value.int .u8 (n : Int)).toArray T)).drew (.returned (.slice (some ⟨w.heap.size + 1, 0, none⟩) bs.length c)) bs := by
  refine ⟨w.heap.size + 1, c, rfl, ?_, (((Below.refl w.heap.size w).alloc (Nat.le_refl _) o).alloc (by simp) _).drew⟩
  have h := slB_new (w.alloc o) bs T
  rw [show (w.alloc o).heap.size = w.heap.size + 1 by simp] at h
  exact h
theorem newB_box2 (w : World) (o : Obj) (bs : List Nat) (c : Nat) (T : TypeId) : NewB w ((w.alloc o).alloc (.cells (bs.map fun (n : Nat) => Value.int .u8 (n : Int)).toArray T)).drew.drew (.returned (.slice (some ⟨w.heap.size + 1, 0, none⟩) bs.length c)) bs := by
  obtain ⟨g, c', h1, h2, h3⟩ := newB_box w o bs c T
  exact ⟨g, c', h1, h2, h3.drew⟩

end Go.Proofs.Ythbgmlmcjnlopaa
