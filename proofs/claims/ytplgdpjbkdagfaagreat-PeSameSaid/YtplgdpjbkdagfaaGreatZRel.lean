import Derived.Test.YtplgdpjbkdagfaaGreatZMem
namespace Go.Proofs.YtplgdpjbkdagfaaGreat
set_option maxRecDepth 100000
open Go.ChangeShapes Go.WideShapes Go.ChangeAt Go.RowKit
set_option linter.unusedVariables false
set_option linter.unusedSimpArgs false
def Yb (k:Int):Int:=if k=3 then 4 else if k=10 then 8 else 0
theorem WD (k:Int):0≤Yb k∧Yb k≤8:=by unfold Yb; split <;> (try split) <;> omega
def UN (f:Nat→Int) (o e:Nat):Option (Int × Int) :=
 if e<o+8 then none else
 if rdF f o 4 % 4096≠0∨rdF f (o+4) 4<8∨rdF f (o+4) 4 % 4≠0∨(e:Int) - o<rdF f (o+4) 4 then none else
 some (rdF f o 4,rdF f (o+4) 4)
theorem Wb (w:World) (x y:Value) (t:TypeId):Own (w.alloc (.cells #[x,y] t)) w.heap.size 2 (fun i=>if i=0 then x else y) :=
 ⟨by simp,fun i hi=>⟨by rcases(by omega:i=0∨i=1) with rfl|rfl <;> simp[go_sem],by simp[go_sem]⟩⟩
end Go.Proofs.YtplgdpjbkdagfaaGreat
