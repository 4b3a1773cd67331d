import Derived.Test.YtplgdpjbkdagfaaGreatRows
import Derived.WalkKit
import Derived.ProofKit
import Derived.OpenShut
import Derived.Below
import Derived.Lib.Hide
import Derived.Outline
import Derived.IntWalk
import Derived.Handy
import Derived.Maps.OwnOps
import Derived.Maps.OwnSet
import Derived.Maps.Views
import Derived.Maps.RangeWalk
import Derived.Maps.Keyed
import Derived.Maps.AppendAt
import Derived.Test.YtplgdpjbkdagfaaGreatZMem
namespace Go.Proofs.YtplgdpjbkdagfaaGreat
set_option maxRecDepth 100000
open Go.ChangeShapes Go.WideShapes Go.ChangeAt Go.RowKit
open Go.Maps (Keyed)
set_option linter.unusedVariables false
set_option linter.unusedSimpArgs false
def ptrR:Value→Option (DataW Unit × List MemPlace)
 | .pointer none=>some (.nil,[])
 | .pointer (some a)=>if a=⟨a.block,0,none⟩ then some (.lit (.int .i64 a.block),[]) else none
 | _=>none
def ptrD:Option Nat→DataW Unit→DataW Unit
 | none,z=>z
 | some b,_=> .lit (.int .i64 b)
def PM (w:World) (P:Program) (k:TypeId) (q:IntKind) (b m:Nat) (f:Int→Option Nat):Prop :=
 ∃ D:DataW Unit,w.ownsMap P k ptrR b m D∧Maps.size D=m∧ ∀ x zd,D.atKey (.int q x) zd=ptrD (f x) zd
section
variable {w w':World} {P:Program} {k t e:TypeId} {q:IntKind} {b m:Nat} {f:Int→Option Nat}
theorem PM.lt (h:PM w P k q b m f):b<w.heap.size:=by obtain⟨D,h,_⟩:=h; exact h.lt
theorem PM.of_block (h:PM w P k q b m f) (e:w'.heap[b]? =w.heap[b]?):PM w' P k q b m f:=by
 obtain⟨D,⟨es,clock,hb,r⟩,r'⟩:=h; exact⟨D,⟨es,clock,e.trans hb,r⟩,r'⟩
end
structure Xg (R:Nat→Prop) (w w':World):Prop where
 os:w'.os=w.os
 tape:w'.tape=w.tape
 output:w'.output=w.output
 size:w.heap.size≤w'.heap.size
 block: ∀ k,R k→w'.heap[k]? =w.heap[k]?
namespace Xg
variable {R R':Nat→Prop} {a w w':World}
theorem refl (R:Nat→Prop) (w:World):Xg R w w:=⟨rfl,rfl,rfl,Nat.le_refl _,fun _ _=>rfl⟩
theorem trans {b c:World} (h:Xg R a b) (k:Xg R b c):Xg R a c :=
 ⟨k.os.trans h.os,k.tape.trans h.tape,k.output.trans h.output,Nat.le_trans h.size k.size,fun i hi=>(k.block i hi).trans (h.block i hi)⟩
theorem mono (h:Xg R w w') (hR: ∀ k,R' k→R k):Xg R' w w':=⟨h.os,h.tape,h.output,h.size,fun k hk=>h.block k (hR k hk)⟩
theorem drew (h:Xg R a w):Xg R a w.drew:=⟨h.os,h.tape,h.output,h.size,h.block⟩
theorem alloc (h:Xg R a w) (hR: ∀ k,R k→k<a.heap.size) (o:Obj):Xg R a (w.alloc o) :=
 h.trans ⟨rfl,rfl,rfl,by simp,fun k hk=>Below.heap_alloc w o k (Nat.lt_of_lt_of_le (hR k hk) h.size)⟩
theorem setCell (h:Xg R a w) {p:Addr} (hp: ¬ R p.block) (u:Value):Xg R a (w.setCell p u) :=
 h.trans ⟨rfl,rfl,rfl,by simp[World.setCell],fun k hk=>Below.heap_setCell _ _ _ _ (fun e=>hp (by rw[←e]; exact hk))⟩
theorem grown {row:Option Nat} (h:Xg R a w) (hg:w.grownBy w' row) (hR: ∀ k,R k→k<a.heap.size) (hr: ∀ k,row=some k→ ¬ R k):Xg R a w' :=
 h.trans ⟨hg.os,hg.tape,hg.output,hg.size,fun k hk=>hg.block k (Nat.lt_of_lt_of_le (hR k hk) h.size) (fun e=>hr k e.symm hk)⟩
theorem of_below {B:Nat} (h:Below B w w') (hR: ∀ k,R k→k<B):Xg R w w':=⟨h.os,h.tape,h.output,h.size,fun k hk=>h.block k (hR k hk)⟩
theorem below {B:Nat} (h:Xg R w w') (hR: ∀ k,k<B→R k):Below B w w':=⟨h.os,h.tape,h.output,h.size,fun k hk=>h.block k (hR k hk)⟩
theorem cell (h:Xg R w w') {p:Addr} (hp:R p.block):w'.cell? p=w.cell? p:=World.cell?_of_block (h.block _ hp)
theorem frozen (h:Xg R w w') {p:Addr} (hp:R p.block):w'.frozen? p=w.frozen? p:=World.frozen?_of_block (h.block _ hp)
theorem own {g n:Nat} {f:Nat→Value} (h:Xg R w w') (ho:Own w g n f) (hg:R g):Own w' g n f:=ho.of_block (h.block g hg) h.size
end Xg
section
variable {P:Program} (w:World) {ops:Array Oper} {rest:List Oper} {o:Oper} {a:Act} {Q:Exit→Act→World→Prop}
end
end Go.Proofs.YtplgdpjbkdagfaaGreat
