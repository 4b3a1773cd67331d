/- law 3: VmemTurns: four thousand and ninety-six noughts as a string. -/
import Derived.Test.YtlifaldbdjcgjaaTurnsMath
import Derived.Test.YtlifaldbdjcgjaaVright
import Derived.Test.YtlifaldbdjcgjaaStr
import Derived.Laws.OwnMore
namespace Go.Proofs.Ytlifaldbdjcgjaa
open Go.ChangeShapes Go.WideShapes Go.ChangeAt Go.RowKit
open Go.Maps (Keyed)
set_option linter.unusedVariables false

theorem infoU8T : (Try.prog.info? 5).map (fun i => (i.zero, i.size, i.bytes)) = some (some (.int .u8 0), 1, 1) := by kernel_rfl

def page0 : ByteArray := strF (fun _ => 0) 0 4096

theorem str_page {w : World} {g : Nat} {f : Nat → Int} (h : Own w g 4096 (fun q => .int .u8 (f q))) (hf : ∀ q, q < 4096 → f q = 0) :
    (convert 43 9 (.slice (some ⟨g, 0, none⟩) (4096 : Nat) 4096)).run Try.prog w = .ok (.string page0) w :=
  run_str (f := fun _ => 0) (fun i hi => by rw [show (0 : Nat) + i = i by omega, (h.2 i hi).1]; show some (Value.int .u8 (f i)) = _; rw [hf i hi])

theorem make_noughts (W : World) (n : Nat) (h0 : 0 < n) (hn : n ≤ 65536) : ∃ w', (Instr.makeSlice 43 (.int .i64 (n : Int)) (.int .i64 (n : Int))).run Try.prog W = .ok (.slice (some ⟨W.heap.size, 0, none⟩) n n) w' ∧ W.grownBy w' none ∧ Own w' W.heap.size n (fun _ => .int .u8 0) := by
  obtain ⟨i, hi, hz0, hz1, hz2⟩ := info_parts infoU8T
  obtain ⟨w', h1, h2, h3⟩ := run_make_full (P := Try.prog) (w := W) W.heap.size 43 5 i (.int .u8 0) 1 Try.underlying43 hi hz0 hz1 .i64 .i64 n (by rw [hz2]; omega) (by unfold maxLen; omega) (Nat.le_refl _)
  refine ⟨w', h1, h3, ?_⟩
  obtain ⟨g', hA, _, ho⟩ := Own.of_own (f := fun _ => .int .u8 0) h2 h0 (fun i hi => by
    show (madeCells #[Value.int .u8 0] (n * 1)).toList[i]? = _
    rw [toList_madeCells_one, List.getElem?_replicate, if_pos (by omega)])
  injection hA with hA
  injection hA with hA
  subst hA
  exact ho

theorem make_page : ∃ mk : World → World, ∀ W : World, (Instr.makeSlice 43 (.int .i64 4096) (.int .i64 4096)).run Try.prog W = .ok (.slice (some ⟨W.heap.size, 0, none⟩) 4096 4096) (mk W) ∧ W.grownBy (mk W) none ∧ Own (mk W) W.heap.size 4096 (fun _ => .int .u8 0) :=
  ⟨fun W => (make_noughts W 4096 (by omega) (by omega)).choose, fun W => (make_noughts W 4096 (by omega) (by omega)).choose_spec⟩
end Go.Proofs.Ytlifaldbdjcgjaa
