/- package dec: does an instruction fit a form. -/
import Derived.Test.YthbgmlmcjnlopaaDecI
import Derived.Test.YthbgmlmcjnlopaaRegK
import Derived.Deep.Cut
namespace Go.Proofs.Ythbgmlmcjnlopaa
open Go.ChangeShapes Go.WideShapes Go.ChangeAt Go.RowKit
set_option linter.unusedVariables false
set_option linter.unusedSimpArgs false

theorem ins_alloc (w : World) (x : InsV) (T : TypeId) : Own (w.alloc (.cells #[.int .i64 x.op, .int .i64 x.a, .int .i64 x.b, .int .i64 x.alu, .int .i64 x.cc, .int .u64 x.imm, .int .i64 x.disp] T)) w.heap.size 7 (insF x) := by
  refine ⟨by simp, fun i hi => ?_⟩
  rcases (by omega : i = 0 ∨ i = 1 ∨ i = 2 ∨ i = 3 ∨ i = 4 ∨ i = 5 ∨ i = 6) with rfl | rfl | rfl | rfl | rfl | rfl | rfl <;> constructor <;> simp [go_sem, insF]

end Go.Proofs.Ythbgmlmcjnlopaa
