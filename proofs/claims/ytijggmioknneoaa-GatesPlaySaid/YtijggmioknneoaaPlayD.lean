/- law 23: GatesPlay: the acts that are given. -/
import Derived.Test.YtijggmioknneoaaPlayC
import Derived.Test.YtijggmioknneoaaOwnT
import Derived.Deep.MidRow
import Derived.Laws.CopyOwn
import Derived.Laws.Tables
namespace Go.Proofs.Ytijggmioknneoaa
open Go.ChangeShapes Go.WideShapes Go.ChangeAt Go.RowKit
set_option linter.unusedVariables false
set_option linter.unusedSimpArgs false

/-- An act that is given. -/
structure OpV where
  kind : Int
  thread : Int
  index : Int
  gate : Int
  v : Int
def opC (o : OpV) : List Value := [.int .i64 o.kind, .int .i64 o.thread, .int .i64 o.index, .int .i64 o.gate, .int .u64 o.v]

theorem opOne (o : OpV) : (opC o).toArray.all (·.oneCell') = true := by simp [opC, Value.oneCell']
theorem opSize {o : OpV} : (Try.prog.info? 34).map (·.size) = some (opC o).toArray.size := by kernel_rfl

theorem opRow {w : World} {A : Option Addr} {l : List OpV} (h : SlT opC 5 w A l) {i : Nat} (hi : i < l.length) :
    ∃ b off, A = some ⟨b, off, none⟩ ∧ b < w.heap.size ∧ w.rangeAt b (off + i * 5) (opC l[i]) := by
  rcases h with rfl | ⟨b, off, rfl, hb, h⟩
  · exact absurd hi (by simp)
  · exact ⟨b, off, rfl, hb, fun j v hj => by rw [Nat.add_assoc]; exact h i hi j v hj⟩

theorem rangeAt_kept {R : Nat → Prop} {w w' : World} {b o : Nat} {cs : List Value} (h : w.rangeAt b o cs) (k : Kept R w w') (hb : R b) : w'.rangeAt b o cs := fun j v hj => (k.cell (p := ⟨b, o + j, none⟩) hb).trans (h j v hj)

/-- The act is laid into a block of its own. -/
theorem Play.acted {R : Nat → Prop} {w0 w : World} {s C B n : Nat} {v : Int → Nat → Int} {u r : Nat → Int} (h : Play R w0 w s C B n v u r) (hs : w0.heap.size ≤ w.heap.size) (o : OpV) (T : TypeId) :
    Play (fun k => R k ∨ k = w.heap.size) w0 ((w.alloc (.cells #[.int .i64 0, .int .i64 0, .int .i64 0, .int .i64 0, .int .u64 0] T)).setRow w.heap.size (opC o).toArray) s C B n v u r ∧
    ∀ j x, (opC o)[j]? = some x → ((w.alloc (.cells #[.int .i64 0, .int .i64 0, .int .i64 0, .int .i64 0, .int .u64 0] T)).setRow w.heap.size (opC o).toArray).cell? ⟨w.heap.size, j, none⟩ = some x := by
  have hl := h.slots.lt
  have h1 := hl C h.rC
  have h2 := hl B h.rB
  refine ⟨(h.alloc _).grown (P := w.heap.size) ⟨rfl, rfl, rfl, by simp [World.setRow], fun k hk hne => setRow_other _ _ k _ (fun e => hne (by rw [e]))⟩ (.inr rfl) (by omega) (by omega) hs, fun j x hj => ?_⟩
  rw [cell_setRow_same _ _ _ _ _ _ _ (heap_alloc_new _ _)]
  simpa using hj
end Go.Proofs.Ytijggmioknneoaa
