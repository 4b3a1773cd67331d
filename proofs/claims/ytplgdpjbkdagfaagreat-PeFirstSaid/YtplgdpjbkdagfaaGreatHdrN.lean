/- package hdr: Parse of nothing. -/
import Derived.Test.YtplgdpjbkdagfaaGreatHdrH
namespace Go.Proofs.YtplgdpjbkdagfaaGreat
set_option maxRecDepth 100000
open Go.ChangeShapes Go.WideShapes Go.ChangeAt Go.RowKit
set_option linter.unusedVariables false
set_option linter.unusedSimpArgs false

theorem begin_nil (w : World) : Calls Tryz.prog 61 #[.slice none 0 0] w fun e w' => e = .returned (.tuple #[.int .i64 0, .int .i64 2]) ∧ w = w' := by
  go_enter Tryz.func61, Tryz.ntmps61
  go_wp2_with fail
  go_ret2
  exact ⟨rfl, rfl⟩

set_option maxRecDepth 100000 in
theorem hparse_nil (w : World) :
    Calls Tryz.prog 23 #[.slice none 0 0] w fun e w' => (∃ cs, e = .returned (.tuple #[.agg cs, .int .i64 2]) ∧ HeadV cs noHead (.slice none 0 0)) ∧ Below w.heap.size w w' := by
  have hZ := heap_alloc_new w (.cells (headC 0 0 0 0 0 0) 41)
  have HB0 := Lib.hid ((Below.refl w.heap.size w).alloc (Nat.le_refl _) (.cells (headC 0 0 0 0 0 0) 41))
  go_enter Tryz.func23, Tryz.ntmps23
  go_wp2_with fail
  rw [zero_head]
  generalize w.alloc (.cells (headC 0 0 0 0 0 0) 41) = w1 at hZ HB0 ⊢
  refine (begin_nil w1).mono ?_
  rintro e w' ⟨rfl, rfl⟩
  go_wp2_with (refine wpList_store_row rfl 41 _ _ rfl w.heap.size (headC 0 0 0 0 0 0) rfl rfl 41 _ hZ rfl rfl (headC_one _ _ _ _ _ _) ?_)
  refine bodyPost_ret (v := .tuple #[.agg (headC 0 0 0 0 0 0), .int .i64 2]) (results_cell_tmp rfl _ _ w.heap.size 41 _ (0, 0) _ _ rfl rfl (setRow_heap _ _ _ _ _ _ hZ) rfl rfl rfl) rfl ⟨⟨_, rfl, headV_none⟩, below_setRow HB0.out (Nat.le_refl _) _⟩
end Go.Proofs.YtplgdpjbkdagfaaGreat
