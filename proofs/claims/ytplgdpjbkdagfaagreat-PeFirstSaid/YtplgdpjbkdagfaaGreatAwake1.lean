/- The contract of the closed call that each law of layer 1 ends with. -/
import Derived.Test.YtplgdpjbkdagfaaGreatBytes
import Derived.Lib.SmallJoins
namespace Go.Proofs.YtplgdpjbkdagfaaGreat
set_option maxRecDepth 100000
open Go.ChangeShapes Go.WideShapes Go.ChangeAt Go.RowKit
open Go.ChangeMaps (open_string shut_string)
set_option linter.unusedVariables false
set_option linter.unusedSimpArgs false

/-- The bytes of a written-out row. -/
def litF (l : List Int) (i : Nat) : Int := l.getD i 0

theorem row_lit {w : World} {g : Nat} {t : TypeId} {fr : Nat × Nat} (l : List Int) (hg : g = w.heap.size) : Row (w.alloc (.cells (l.map (Value.int .u8)).toArray t fr)) g 0 l.length (litF l) := by
  intro i hi
  subst hg
  rw [Nat.zero_add, World.cell?_alloc_mark]
  simp [hi, litF]

theorem lit255 (l : List Int) (h : l.all (fun x => decide (0 ≤ x ∧ x ≤ 255)) = true) : Bytes255 (litF l) := by
  intro i
  unfold litF
  rcases Nat.lt_or_ge i l.length with hi | hi
  · have := List.all_eq_true.1 h l[i] (List.getElem_mem hi)
    simpa [List.getD, List.getElem?_eq_getElem hi] using this
  · simp [List.getD, List.getElem?_eq_none hi]

theorem own_row {w : World} {g n : Nat} {f : Nat → Value} {f' : Nat → Int} (h : Own w g n f) (e : ∀ i, i < n → f i = .int .u8 (f' i)) : Row w g 0 n f' := by
  intro i hi
  rw [Nat.zero_add, h.cell hi, e i hi]

end Go.Proofs.YtplgdpjbkdagfaaGreat
