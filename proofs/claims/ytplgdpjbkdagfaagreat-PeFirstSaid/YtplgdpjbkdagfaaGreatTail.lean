/- 'x[lo:]' of bytes, and the text of it. -/
import Derived.Test.YtplgdpjbkdagfaaGreatAppB
namespace Go.Proofs.YtplgdpjbkdagfaaGreat
set_option maxRecDepth 100000
open Go.ChangeShapes Go.WideShapes Go.ChangeAt Go.RowKit
set_option linter.unusedVariables false
set_option linter.unusedSimpArgs false

theorem strF_congr {f f' : Nat → Int} {o o' n : Nat} (h : ∀ i, i < n → f (o + i) = f' (o' + i)) : strF f o n = strF f' o' n := by
  unfold strF
  congr 1
  apply List.map_congr_left
  intro i hi
  exact h i (List.mem_range.1 hi)

theorem strF_nil (f : Nat → Int) (o : Nat) : strF f o 0 = ByteArray.empty := rfl

theorem Row.part {w : World} {b off len : Nat} {f : Nat → Int} (h : Row w b off len f) {o n : Nat} (hn : o + n ≤ len) : Row w b (off + o) n (fun i => f (o + i)) := by
  intro i hi
  rw [Nat.add_assoc]
  exact h (o + i) (by omega)

theorem Row.congr {w : World} {b off len : Nat} {f f' : Nat → Int} (h : Row w b off len f) (e : ∀ i, i < len → f i = f' i) : Row w b off len f' := fun i hi => by rw [h i hi, e i hi]
theorem Row.less {w : World} {b off len n : Nat} {f : Nat → Int} (h : Row w b off len f) (hn : n ≤ len) : Row w b off n f := fun i hi => h i (by omega)
theorem Row.below {w w' : World} {B b off len : Nat} {f : Nat → Int} (h : Row w b off len f) (hb : Below B w w') (hB : b < B) : Row w' b off len f := fun i hi => (hb.cell (p := ⟨b, off + i, none⟩) hB).trans (h i hi)
theorem Row.grown {w w' : World} {row : Option Nat} {b off len : Nat} {f : Nat → Int} (h : Row w b off len f) (hb : w.grownBy w' row) (hl : b < w.heap.size) (hB : some b ≠ row) : Row w' b off len f :=
  fun i hi => (World.cell?_of_block (a := ⟨b, off + i, none⟩) (hb.block b hl hB)).trans (h i hi)

theorem run_str0 {w : World} {A : Option Addr} {cap : Nat} : (convert 25 9 (.slice A 0 cap)).run Tryz.prog w = .ok (.string ByteArray.empty) w := by
  rcases A with _ | ⟨b, off, spot⟩
  · exact run_convert_bytes_nil w 25 5 Tryz.underlying25 Tryz.underlying5 0 cap 9 Tryz.underlying9
  · rw [run_convert_bytes_string w 25 9 5 _ 0 cap Tryz.underlying25 Tryz.underlying5 Tryz.underlying9]
    rw [run_bytesToString w ⟨b, off, spot⟩ 0 cap [] (by simp [loadCells, loadCellsFrom])]
    rfl

theorem run_tail {b off len cap lo : Nat} (h1 : lo ≤ len) (h2 : len ≤ cap) (h3 : cap ≤ 9223372036854775807) :
    ∃ A', (∀ W, (Instr.slice 25 (.slice (some ⟨b, off, none⟩) len cap) (some (.int .i64 lo)) none none).run Tryz.prog W = .ok (.slice A' (len - lo) (cap - lo)) W) ∧
      ∀ (w : World) (f : Nat → Int), Row w b off len f → ∀ c, (convert 25 9 (.slice A' (len - lo) c)).run Tryz.prog w = .ok (.string (strF f lo (len - lo))) w := by
  by_cases h : cap = lo
  · refine ⟨some ⟨b, off, none⟩, fun W => ?_, fun w f hr c => ?_⟩
    · subst h
      obtain rfl : len = cap := by omega
      simp [Instr.slice, Instr.sliceBounds, run_underlying Tryz.underlying25, go_sem]
    · have e : len - lo = 0 := by omega
      rw [e, run_str0]; rfl
  · refine ⟨some ⟨b, off + lo, none⟩, fun W => ?_, fun w f hr c => run_str_at hr (by omega)⟩
    have h4 : ¬ cap - lo = 0 := by omega
    simp [Instr.slice, Instr.sliceBounds, run_underlying Tryz.underlying25, go_sem, h1, h]
end Go.Proofs.YtplgdpjbkdagfaaGreat
