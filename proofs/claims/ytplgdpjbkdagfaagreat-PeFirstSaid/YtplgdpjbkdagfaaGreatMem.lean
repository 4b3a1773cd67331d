/- Plain lemmas on memory: rows of the call's own, what else stays. -/
import Derived.Test.YtplgdpjbkdagfaaGreatRows
import Derived.WalkKit
import Derived.ProofKit
import Derived.OpenShut
import Derived.ShutString
import Derived.ChangeOld
import Derived.Below
import Derived.Lib.Hide
import Derived.Outline
import Derived.IntWalk
import Derived.Handy
import Derived.Deep.OwnRows
import Derived.Laws.BitsAllLaws
import Derived.Maps.AppendAt
import Derived.Deep.AppendLies
namespace Go.Proofs.YtplgdpjbkdagfaaGreat
set_option maxRecDepth 100000
open Go.ChangeShapes Go.WideShapes Go.ChangeAt Go.RowKit
open Go.ChangeMaps (open_string shut_string)
set_option linter.unusedVariables false
set_option linter.unusedSimpArgs false

/-- Block g holds n cells f, none of them frozen. -/
def Own (w : World) (g n : Nat) (f : Nat → Value) : Prop := g < w.heap.size ∧ ∀ i, i < n → w.cell? ⟨g, i, none⟩ = some (f i) ∧ w.frozen? ⟨g, i, none⟩ = false

namespace Own
variable {w w' : World} {g n : Nat} {f f' : Nat → Value}
theorem cell (h : Own w g n f) {i : Nat} (hi : i < n) : w.cell? ⟨g, i, none⟩ = some (f i) := (h.2 i hi).1
theorem frozen (h : Own w g n f) {i : Nat} (hi : i < n) : w.frozen? ⟨g, i, none⟩ = false := (h.2 i hi).2
theorem congr (h : Own w g n f) (e : ∀ i, i < n → f i = f' i) : Own w g n f' := ⟨h.1, fun i hi => by rw [← e i hi]; exact h.2 i hi⟩
theorem of_block (h : Own w g n f) (e : w'.heap[g]? = w.heap[g]?) (hs : w.heap.size ≤ w'.heap.size) : Own w' g n f :=
  ⟨Nat.lt_of_lt_of_le h.1 hs, fun i hi => ⟨(World.cell?_of_block (a := ⟨g, i, none⟩) e).trans (h.2 i hi).1, (World.frozen?_of_block (a := ⟨g, i, none⟩) e).trans (h.2 i hi).2⟩⟩
theorem below {B : Nat} (h : Own w g n f) (hb : Below B w w') (hg : g < B) : Own w' g n f := h.of_block (hb.block g hg) hb.size
theorem grown {row : Option Nat} (h : Own w g n f) (hb : w.grownBy w' row) (hg : some g ≠ row) : Own w' g n f := h.of_block (hb.block g h.1 hg) hb.size
theorem of_row {t : TypeId} (h : w.rowIs g t n f) : Own w g n f := ⟨h.lt, fun i hi => ⟨h.cell hi, h.frozen i⟩⟩
theorem less {m : Nat} (h : Own w g n f) (hm : m ≤ n) : Own w g m f := ⟨h.1, fun i hi => h.2 i (by omega)⟩
theorem alloc (h : Own w g n f) (o : Obj) : Own (w.alloc o) g n f := h.of_block (Below.heap_alloc w o g h.1) (by simp)
theorem drew (h : Own w g n f) : Own w.drew g n f := h
theorem set (h : Own w g n f) {i : Nat} (hi : i < n) (v : Value) : Own (w.setCell ⟨g, i, none⟩ v) g n (fun j => if j = i then v else f j) := by
  refine ⟨by simpa [World.setCell] using h.1, fun j hj => ⟨?_, ?_⟩⟩
  · by_cases e : j = i
    · subst e
      show _ = some (if j = j then v else f j)
      rw [if_pos rfl]
      exact World.cell?_setCell_same w _ v (h.cell hj)
    · show _ = some (if j = i then v else f j)
      rw [if_neg e]
      rw [World.cell?_setCell_other w _ _ v (fun e' => e (by injection e' with _ e'; exact e'.symm))]
      exact h.cell hj
  · rw [World.frozen?_setCell]; exact h.frozen hj
theorem of_own {base : Nat} {e : TypeId} {c : Nat} {A : Option Addr} {n : Nat} {xs : List Value} (h : w.ownsRow base e 1 (.slice A n c) n xs) (hn : 0 < n) (hx : ∀ i, i < n → xs[i]? = some (f i)) :
    ∃ g, A = some ⟨g, 0, none⟩ ∧ base ≤ g ∧ Own w g n f := by
  obtain ⟨g, cap, hv, hb, hlt⟩ := h.form hn
  have hA : A = some ⟨g, 0, none⟩ := by injection hv
  subst hA
  refine ⟨g, rfl, hb, hlt, fun i hi => ⟨?_, ?_⟩⟩
  · rw [h.cellAt i (by omega)]; exact hx i hi
  · exact h.frozenAt i
end Own

theorem only_drew {a w : World} {row : Option Nat} (h : a.grownBy w row) : a.grownBy w.drew row := ⟨h.os, h.tape, h.output, h.size, h.block⟩
theorem only_alloc {a w : World} {row : Option Nat} (h : a.grownBy w row) (o : Obj) : a.grownBy (w.alloc o) row :=
  ⟨h.os, h.tape, h.output, Nat.le_trans h.size (by simp), fun i hi hne => (Below.heap_alloc w o i (Nat.lt_of_lt_of_le hi h.size)).trans (h.block i hi hne)⟩
theorem only_setCell {a w : World} {g : Nat} (h : a.grownBy w (some g)) {p : Addr} (hp : p.block = g ∨ a.heap.size ≤ p.block) (u : Value) : a.grownBy (w.setCell p u) (some g) :=
  ⟨h.os, h.tape, h.output, by simpa [World.setCell] using h.size, fun i hi hne => (Below.heap_setCell w p u i (by
    rintro rfl
    rcases hp with hp | hp
    · exact hne (by rw [hp])
    · omega)).trans (h.block i hi hne)⟩
theorem only_below {a b w : World} {row : Option Nat} (h : a.grownBy b row) (k : Below b.heap.size b w) : a.grownBy w row :=
  ⟨k.os.trans h.os, k.tape.trans h.tape, k.output.trans h.output, Nat.le_trans h.size k.size, fun i hi hne => (k.block i (Nat.lt_of_lt_of_le hi h.size)).trans (h.block i hi hne)⟩
end Go.Proofs.YtplgdpjbkdagfaaGreat
