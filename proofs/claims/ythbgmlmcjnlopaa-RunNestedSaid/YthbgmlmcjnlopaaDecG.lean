/- package dec: the forms are laid. -/
import Derived.Test.YthbgmlmcjnlopaaDecF
import Derived.Great.BuildSlice
import Derived.Deep.Cut
import Derived.Deep.DeepFit
import Derived.Laws.Rows
import Derived.Laws.Tables
import Derived.Laws.CopyOwn
namespace Go.Proofs.Ythbgmlmcjnlopaa
open Go.ChangeShapes Go.WideShapes Go.ChangeAt Go.RowKit
set_option linter.unusedVariables false
set_option linter.unusedSimpArgs false

def formCells (F : Form) : List Value := [.int .i64 F.op, .int .i64 F.alu, .int .i64 F.cc, .int .i64 F.pre, .int .u8 F.code, .int .i64 F.regs, .int .u8 F.ext, .int .i64 F.tail]
def formsL : List Form → List Value
  | [] => []
  | F :: l => formCells F ++ formsL l
def formsC : Array Value := (formsL forms).toArray

theorem formsC_size : formsC.size = 320 := by decide +kernel
theorem formsC_one : formsC.all (·.oneCell') = true := by kernel_rfl

theorem formsL_len : ∀ l : List Form, (formsL l).length = 8 * l.length
  | [] => rfl
  | F :: l => by simp only [formsL, List.length_append, formsL_len l, List.length_cons]; simp [formCells]; omega
theorem formsL_get : ∀ (l : List Form) (i : Nat) (F : Form) (j : Nat), l[i]? = some F → j < 8 → (formsL l)[8 * i + j]? = (formCells F)[j]?
  | [], i, F, j, h, _ => by simp at h
  | G :: l, 0, F, j, h, hj => by
    simp at h; subst h
    simp only [formsL, Nat.mul_zero, Nat.zero_add]
    rw [List.getElem?_append_left (by simp [formCells]; omega)]
  | G :: l, i + 1, F, j, h, hj => by
    simp only [formsL]
    rw [List.getElem?_append_right (by simp [formCells]; omega), show 8 * (i + 1) + j - (formCells G).length = 8 * i + j by simp [formCells]; omega]
    exact formsL_get l i F j (by simpa using h) hj

theorem form_at {w : World} {g : Nat} {t : TypeId} {fr : Nat × Nat} (h : w.heap[g]? = some (.cells formsC t fr)) {i : Nat} {F : Form} (hF : forms[i]? = some F) : FormAt w g (8 * i) F := by
  have hlt : g < w.heap.size := by
    rcases Nat.lt_or_ge g w.heap.size with h' | h'
    · exact h'
    · simp [Array.getElem?_eq_none h'] at h
  have k : ∀ j, j < 8 → w.cell? ⟨g, 8 * i + j, none⟩ = (formCells F)[j]? := fun j hj => by
    rw [← formsL_get forms i F j hF hj]
    simp [World.cell?, h, formsC]
  exact ⟨hlt, k 0 (by omega), k 1 (by omega), k 2 (by omega), k 3 (by omega), k 4 (by omega), k 5 (by omega), k 6 (by omega), k 7 (by omega)⟩

theorem wpList_built {P : Program} {Q : Exit → Act → World → Prop} {ops : Array Oper} {rest : List Oper} {o : Oper} {a : Act} {w : World} (hg : o.guard = none) (t : TypeId) (parts : Array (Nat × Operand)) (ho : o.op = .build t parts) (l : List (Nat × Value)) (cells : Array Value)
    (hl : (parts.map fun (i, x) => (i, a.eval x)).toList = l) (hf : P.built t l = some cells)
    (h : wpList P ops Q rest (a.put o.dst (.agg cells)) w) : wpList P ops Q (o :: rest) a w := by
  refine wpList_build hg t parts ho (by rw [hl, hf]; rfl) ?_
  rw [hl, hf]
  exact h

def form0 : Form := ⟨0, 0, 0, 0, 0, 0, 0, 0⟩
noncomputable abbrev zForms : Array Value := Try.zeroCells130 --@Z
theorem zForms_size : zForms.size = 320 := Try.zeroCells130_size --@Z

set_option maxRecDepth 100000 in
set_option maxHeartbeats 2000000 in
theorem makeForms_any (w : World) : Calls Try.prog 77 #[] w fun e w' => e = .returned (.agg formsC) ∧ Below w.heap.size w w' := by
  go_enter Try.func77, Try.ntmps77
  go_upto_region 1 with (fail)
  have hz := zForms_size
  go_wp2_with (first
    | (refine wpList_built rfl 130 _ rfl _ formsC rfl (by kernel_rfl) ?_)
    | (refine wpList_store_row rfl 130 _ _ rfl w.heap.size formsC rfl rfl 130 zForms (heap_alloc_new _ _) (by rw [formsC_size]; rfl) (by rw [formsC_size, hz]) formsC_one ?_))
  exact bodyPost_ret (v := .agg formsC) (results_cell_row rfl _ _ w.heap.size 130 formsC (0, 0) _ rfl (setRow_heap _ _ _ _ _ _ (heap_alloc_new _ _)) rfl rfl (by rw [formsC_size]; rfl)) rfl ⟨rfl, below_setRow ((Below.refl _ _).alloc (Nat.le_refl _) _) (Nat.le_refl _) _⟩
end Go.Proofs.Ythbgmlmcjnlopaa
