/- The contract of the closed call that each law of layer 1 ends with. -/
import Derived.Test.YtclholeopgfakaaBytes
import Derived.Lib.SmallJoins
namespace Go.Proofs.Ytclholeopgfakaa
open Go.ChangeShapes Go.WideShapes Go.ChangeAt Go.RowKit
open Go.ChangeMaps (open_string shut_string)
set_option linter.unusedVariables false

/-- The bytes of a written-out row. -/
def litF (l : List Int) (i : Nat) : Int := l.getD i 0

theorem row_lit {w : World} {g : Nat} {t : TypeId} {fr : Nat × Nat} (l : List Int) (hg : g = w.heap.size) : Row (w.alloc (.cells (l.map (Value.int .u8)).toArray t fr)) g 0 l.length (litF l) := by
  intro i hi
  subst hg
  rw [Nat.zero_add, World.cell?_alloc_mark]
  simp [hi, litF]

theorem lit255 (l : List Int) (h : l.all (fun x => decide (0 ≤ x ∧ x ≤ 255)) = true) : Bytes255 (litF l) := by
  intro i
  unfold litF
  rcases Nat.lt_or_ge i l.length with hi | hi
  · have := List.all_eq_true.1 h l[i] (List.getElem_mem hi)
    simpa [List.getD, List.getElem?_eq_getElem hi] using this
  · simp [List.getD, List.getElem?_eq_none hi]

theorem own_row {w : World} {g n : Nat} {f : Nat → Value} {f' : Nat → Int} (h : Own w g n f) (e : ∀ i, i < n → f i = .int .u8 (f' i)) : Row w g 0 n f' := by
  intro i hi
  rw [Nat.zero_add, h.cell hi, e i hi]

theorem awake1 (w : World) : Calls Try.prog 11 #[] w fun e w' => e = .returned (.bool true) ∧ Below w.heap.size w w' := by
  have kc := fun (w : World) (C : Array Value) (n c g : Nat) (hg : g = w.heap.size) => Joins.run_convert_bytes_const_at (P := Try.prog) w 22 5 C n c g hg Try.underlying22 Try.underlying5
  have e1 : rdF (litF [1, 2]) 0 2 = 513 := by decide
  have e2 : strF (litF [97, 98, 0, 99]) 0 2 = ⟨#[97, 98]⟩ := by decide
  have e3 : strF (fun i => if i < 2 then byteOf 258 i else 0) 0 2 = ⟨#[2, 1]⟩ := by decide
  go_enter Try.func11, Try.ntmps11
  go_wp2_with fail
  refine (u16_yes _ _ 2 2 (litF [1, 2]) 0 _ (by omega) (by omega) (lit255 _ rfl) (row_lit [1, 2] (by simp))).mono ?_
  rintro e w' ⟨rfl, rfl⟩
  go_wp2_with fail
  refine (u32_no _ _ _ _ _ (by omega) (by omega)).mono ?_
  rintro e w' ⟨rfl, rfl⟩
  go_wp2_with fail
  refine (text_yes _ _ 4 4 (litF [97, 98, 0, 99]) 0 2 2 _ (by omega) (by omega) (by omega) (by omega) (by decide) (by decide) (row_lit [97, 98, 0, 99] (by simp))).mono ?_
  rintro e w' ⟨rfl, rfl⟩
  go_wp2_with fail
  refine (bytes_in 258 2 _ (by omega) (by omega) (by omega)).mono ?_
  rintro e w1 ⟨rfl, hown, hbel⟩
  have hs := run_str (cap := 2) (own_row (f' := fun i => if i < 2 then byteOf 258 i else 0) hown fun i _ => rfl)
  simp at hs
  have H := Lib.hid hown
  clear hown
  go_wp2
  go_ret
  refine ⟨rfl, ?_⟩
  exact Below.trans (by go_grown) (hbel.mono (by simp; omega))
end Go.Proofs.Ytclholeopgfakaa
