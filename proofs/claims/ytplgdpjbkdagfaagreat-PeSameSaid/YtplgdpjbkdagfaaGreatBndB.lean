import Derived.Test.YtplgdpjbkdagfaaGreatZRelParse
import Derived.Test.YtplgdpjbkdagfaaGreatZOwnT
import Derived.Lib.SmallJoins
namespace Go.Proofs.YtplgdpjbkdagfaaGreat
set_option maxRecDepth 100000
open Go.ChangeShapes Go.WideShapes Go.ChangeAt Go.RowKit
set_option linter.unusedVariables false
set_option linter.unusedSimpArgs false
abbrev Jm:=List Nat × Nat
def bC (x:Jm):List Value:=[.string (txt x.1),.int .i64 x.2]
theorem JB (x:Jm):(bC x).length=2:=rfl
theorem Zcu (x:Jm): ∀ u∈bC x,u.oneCell'=true:=by
 intro u hu
 simp[bC] at hu
 rcases hu with rfl|rfl <;> rfl
theorem VH:(Tryz.prog.info? 80).map (fun i=>(i.zero,i.size,i.bytes))=some (some (.agg #[.string ByteArray.empty,.int .i64 0]),2,24):=by kernel_rfl
def UU (b:List Nat) (rva:Nat):Nat→Nat→Nat→List Jm→Option (List Jm)
 | 0,_,_,_=>none
 | k+1,o,bl,acc =>
   if bl=0∧Xj b o 8=true then some acc
   else if ¬ o+8≤b.length∨Xj b o 8=true∨acc.length=32 then none
   else match Zjg b rva o with
    | none=>none
    | some x=>UU b rva k (o+8) (if 0<bl then bl - 1 else YS (b.drop (o+6)) 2) (acc++[x])
def ParseB (w w':World) (r:Option (List Jm)) (e:Ending):Prop :=
 (match r with
  | none=>e= .returned (.tuple #[.slice none 0 0,.int .i64 8])
  | some l=> ∃ A cap,e= .returned (.tuple #[.slice A l.length cap,.int .i64 0])∧ZR bC 2 w' w.heap.size 80 (.slice A l.length cap) l)∧Below w.heap.size w w'
theorem Zds (t:List Nat) (v:Nat) (w:World): ∀ j u,(bC (t,v))[j]? =some u→(w.alloc (.cells #[.string (txt t),.int .i64 v] 80)).cell? ⟨w.heap.size,j,none⟩=some u:=by
 intro j u hu
 rcases j with _|_|j
 ·simp[bC] at hu; subst hu; simp[go_sem]
 ·simp[bC] at hu; subst hu; simp[go_sem]
 ·simp[bC] at hu
end Go.Proofs.YtplgdpjbkdagfaaGreat
