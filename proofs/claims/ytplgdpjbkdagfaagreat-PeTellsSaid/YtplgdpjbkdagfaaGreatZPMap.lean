import Derived.Test.YtplgdpjbkdagfaaGreatRows
import Derived.WalkKit
import Derived.ProofKit
import Derived.OpenShut
import Derived.Below
import Derived.Lib.Hide
import Derived.Outline
import Derived.IntWalk
import Derived.Handy
import Derived.Maps.OwnOps
import Derived.Maps.OwnSet
import Derived.Maps.Views
import Derived.Maps.RangeWalk
import Derived.Maps.Keyed
import Derived.Maps.AppendAt
import Derived.Test.YtplgdpjbkdagfaaGreatZMem
import Derived.Test.YtplgdpjbkdagfaaGreatZOwnT
import Derived.Laws.CopyOwn
import Derived.Laws.Tables
import Derived.Test.YtplgdpjbkdagfaaGreatZHdrD
import Derived.Deep.MidRow
import Derived.Deep.Cut
import Derived.Test.YtplgdpjbkdagfaaGreatZMd
namespace Go.Proofs.YtplgdpjbkdagfaaGreat
open List renaming getElem?_toArray→Za, getElem?_cons_succ→Zb, getElem?_cons_zero→Zc, setIfInBounds_toArray→Zd, set_cons_zero→Ze, set_cons_succ→Zf
open Lib renaming hid→Zg
set_option maxRecDepth 100000
open Go.ChangeShapes Go.WideShapes Go.ChangeAt Go.RowKit
open Go.Maps (Keyed)
set_option linter.unusedVariables false
set_option linter.unusedSimpArgs false
def ptrR:Value->Option (DataW Unit × List MemPlace)
 | .pointer none=>some (.nil,[])
 | .pointer (some a)=>if a=⟨a.block,0,none⟩ then some (.lit (.int .i64 a.block),[]) else none
 | _=>none
def ptrD:Option Nat->DataW Unit->DataW Unit
 | none,z=>z
 | some b,_=> .lit (.int .i64 b)
def PM (w:World) (P:Program) (k:TypeId) (q:IntKind) (b m:Nat) (f:Int->Option Nat):Prop :=
 ∃ D:DataW Unit,w.ownsMap P k ptrR b m D/\Maps.size D=m/\ ∀ x zd,D.atKey (.int q x) zd=ptrD (f x) zd
section
variable {w w':World} {P:Program} {k t e:TypeId} {q:IntKind} {b m:Nat} {f:Int->Option Nat}
theorem PM.lt (h:PM w P k q b m f):b<w.heap.size:=by obtain⟨D,h,_⟩:=h; exact h.lt
theorem PM.of_block (h:PM w P k q b m f) (e:w'.heap[b]? =w.heap[b]?):PM w' P k q b m f:=by
 obtain⟨D,⟨es,clock,hb,r⟩,r'⟩:=h; exact⟨D,⟨es,clock,e.trans hb,r⟩,r'⟩
end
structure Xl (R:Nat->Prop) (w w':World):Prop where
 os:w'.os=w.os
 tape:w'.tape=w.tape
 output:w'.output=w.output
 size:w.heap.size<=w'.heap.size
 block: ∀ k,R k->w'.heap[k]? =w.heap[k]?
namespace Xl
variable {R R':Nat->Prop} {a w w':World}
theorem refl (R:Nat->Prop) (w:World):Xl R w w:=⟨rfl,rfl,rfl,Nat.le_refl _,fun _ _=>rfl⟩
theorem trans {b c:World} (h:Xl R a b) (k:Xl R b c):Xl R a c :=
 ⟨k.os.trans h.os,k.tape.trans h.tape,k.output.trans h.output,Nat.le_trans h.size k.size,fun i hi=>(k.block i hi).trans (h.block i hi)⟩
theorem mono (h:Xl R w w') (hR: ∀ k,R' k->R k):Xl R' w w':=⟨h.os,h.tape,h.output,h.size,fun k hk=>h.block k (hR k hk)⟩
theorem drew (h:Xl R a w):Xl R a w.drew:=⟨h.os,h.tape,h.output,h.size,h.block⟩
theorem alloc (h:Xl R a w) (hR: ∀ k,R k->k<a.heap.size) (o:Obj):Xl R a (w.alloc o) :=
 h.trans ⟨rfl,rfl,rfl,by simp,fun k hk=>Below.heap_alloc w o k (Nat.lt_of_lt_of_le (hR k hk) h.size)⟩
theorem setCell (h:Xl R a w) {p:Addr} (hp: ¬ R p.block) (u:Value):Xl R a (w.setCell p u) :=
 h.trans ⟨rfl,rfl,rfl,by simp[World.setCell],fun k hk=>Below.heap_setCell _ _ _ _ (fun e=>hp (by rw[<-e]; exact hk))⟩
theorem grown {row:Option Nat} (h:Xl R a w) (hg:w.grownBy w' row) (hR: ∀ k,R k->k<a.heap.size) (hr: ∀ k,row=some k-> ¬ R k):Xl R a w' :=
 h.trans ⟨hg.os,hg.tape,hg.output,hg.size,fun k hk=>hg.block k (Nat.lt_of_lt_of_le (hR k hk) h.size) (fun e=>hr k e.symm hk)⟩
theorem of_below {B:Nat} (h:Below B w w') (hR: ∀ k,R k->k<B):Xl R w w':=⟨h.os,h.tape,h.output,h.size,fun k hk=>h.block k (hR k hk)⟩
theorem below {B:Nat} (h:Xl R w w') (hR: ∀ k,k<B->R k):Below B w w':=⟨h.os,h.tape,h.output,h.size,fun k hk=>h.block k (hR k hk)⟩
theorem cell (h:Xl R w w') {p:Addr} (hp:R p.block):w'.cell? p=w.cell? p:=World.cell?_of_block (h.block _ hp)
theorem frozen (h:Xl R w w') {p:Addr} (hp:R p.block):w'.frozen? p=w.frozen? p:=World.frozen?_of_block (h.block _ hp)
theorem own {g n:Nat} {f:Nat->Value} (h:Xl R w w') (ho:Own w g n f) (hg:R g):Own w' g n f:=ho.of_block (h.block g hg) h.size
end Xl
section
variable {P:Program} (w:World) {ops:Array Oper} {rest:List Oper} {o:Oper} {a:Act} {Q:Exit->Act->World->Prop}
end
end Go.Proofs.YtplgdpjbkdagfaaGreat
namespace Go.Proofs.YtplgdpjbkdagfaaGreat
open List renaming getElem?_toArray→Za, getElem?_cons_succ→Zb, getElem?_cons_zero→Zc, setIfInBounds_toArray→Zd, set_cons_zero→Ze, set_cons_succ→Zf
open Lib renaming hid→Zg
set_option maxRecDepth 100000
open Go.ChangeShapes Go.WideShapes Go.ChangeAt Go.RowKit
set_option linter.unusedVariables false
theorem Zi {w:World} {b:Nat} {c:Obj} (h:w.heap[b]? =some c):b<w.heap.size:=by
 rcases Nat.lt_or_ge b w.heap.size with h'|h'
 ·exact h'
 ·rw[Array.getElem?_eq_none h'] at h; cases h
theorem Yd {P:Program} {ops:Array Oper} {o:Oper} {a:Act} {w:World} {K:Act->World->Prop} {Q:Exit->Act->World->Prop} {E:Prop} (eu:o.guard=none) (ty:TypeId) (x y:Operand) (ho:o.op= .store ty x y)
 (g:Nat) (cells:Array Value) (hx:a.eval x= .pointer (some ⟨g,0,none⟩)) (hy:a.eval y= .agg cells)
 (t:TypeId) (old:Array Value) (hg:w.heap[g]? =some (.cells old t (0,0))) (hi:(P.info? ty).map (·.size)=some cells.size)
 (hold:old.size=cells.size) (h1:cells.all (·.oneCell')=true)
 (h:K (a.put o.dst undef) (w.setRow g cells)):if Region.wanted o (yielded ops a.tmps)=true then Oper.wp P o a w K Q else E:=by
 rw[if_pos (by simp[Region.wanted,eu])];exact wp_store_row ty x y ho g cells hx hy t old hg hi hold h1 h
theorem Zh {w:World} {g j:Nat} {cells:Array Value} {t:TypeId} {fr:Nat × Nat} (h:w.heap[g]? =some (.cells cells t fr)):w.cell? ⟨g,j,none⟩=cells[j]? :=by
 simp[World.cell?,h]
end Go.Proofs.YtplgdpjbkdagfaaGreat
namespace Go.Proofs.YtplgdpjbkdagfaaGreat
set_option maxHeartbeats 8000000
open List renaming getElem?_toArray→Za, getElem?_cons_succ→Zb, getElem?_cons_zero→Zc, setIfInBounds_toArray→Zd, set_cons_zero→Ze, set_cons_succ→Zf
open Lib renaming hid→Zg
open Go.ChangeShapes Go.WideShapes Go.ChangeAt Go.RowKit
set_option linter.unusedVariables false
set_option linter.unusedSimpArgs false
set_option maxRecDepth 100000
structure PeV where
 hd:Nat->Value
 img:Value
 e0:Value
 e1:Value
 e2:Value
 im:Value
 de:Value
 bo:Value
 re:Value
 t0:Value
 t1:Value
 t2:Value
def peF (x:PeV) (j:Nat):Value :=
 if j<39 then x.hd j else if j=39 then x.img else if j=40 then x.e0 else if j=41 then x.e1 else if j=42 then x.e2 else if j=43 then x.im else if j=44 then x.de else if j=45 then x.bo else if j=46 then x.re else if j=47 then x.t0 else if j=48 then x.t1 else x.t2
def VB (w:World) (P:Nat) (x:PeV):Prop:=Own w P 50 (peF x)
theorem JJ (x:PeV) {j:Nat} (h:j<39):peF x j=x.hd j:=if_pos h
section
variable {w:World} {P:Nat} {x:PeV}
theorem Zoc (x y:PeV) (k:Nat) (v:Value) (hv:peF y k=v) (ho: ∀ j,j<50->j≠k->peF y j=peF x j): ∀ j,j<50->(if j=k then v else peF x j)=peF y j:=fun j hj=>by
 by_cases e:j=k
 ·rw[if_pos e,e,hv]
 ·rw[if_neg e,ho j hj e]
theorem VB.put (h:VB w P x) (k:Nat) (hk:k<50) (v:Value) (y:PeV) (hv:peF y k=v) (ho: ∀ j,j<50->j≠k->peF y j=peF x j):VB (w.setCell ⟨P,k,none⟩ v) P y :=
 (Own.set h (i:=k) hk v).congr (Zoc x y k v hv ho)
theorem VB.im (h:VB w P x) (v:Value):VB (w.setCell ⟨P,43,none⟩ v) P { x with im:=v }:=h.put 43 (by omega) v _ rfl (fun j hj hn=>by
 unfold peF; simp only[if_neg hn])
theorem VB.de (h:VB w P x) (v:Value):VB (w.setCell ⟨P,44,none⟩ v) P { x with de:=v }:=h.put 44 (by omega) v _ rfl (fun j hj hn=>by
 unfold peF; simp only[if_neg hn])
theorem VB.bo (h:VB w P x) (v:Value):VB (w.setCell ⟨P,45,none⟩ v) P { x with bo:=v }:=h.put 45 (by omega) v _ rfl (fun j hj hn=>by
 unfold peF; simp only[if_neg hn])
theorem VB.re (h:VB w P x) (v:Value):VB (w.setCell ⟨P,46,none⟩ v) P { x with re:=v }:=h.put 46 (by omega) v _ rfl (fun j hj hn=>by
 unfold peF; simp only[if_neg hn])
theorem VB.ex (h:VB w P x) (a b c:Value):VB (w.setCells P 40 [a,b,c]) P { x with e0:=a,e1:=b,e2:=c }:=by
 have h1:=h.put 40 (by omega) a { x with e0:=a } rfl (fun j hj hn=>by unfold peF; simp only[if_neg hn]);have h2:=h1.put 41 (by omega) b { x with e0:=a,e1:=b } rfl (fun j hj hn=>by unfold peF; simp only[if_neg hn]);exact h2.put 42 (by omega) c { x with e0:=a,e1:=b,e2:=c } rfl (fun j hj hn=>by unfold peF; simp only[if_neg hn])
theorem VB.tl (h:VB w P x) (a b c:Value):VB (w.setCells P 47 [a,b,c]) P { x with t0:=a,t1:=b,t2:=c }:=by
 have h1:=h.put 47 (by omega) a { x with t0:=a } rfl (fun j hj hn=>by unfold peF; simp only[if_neg hn]);have h2:=h1.put 48 (by omega) b { x with t0:=a,t1:=b } rfl (fun j hj hn=>by unfold peF; simp only[if_neg hn]);refine h2.put 49 (by omega) c { x with t0:=a,t1:=b,t2:=c } rfl (fun j hj hn=> ?_);unfold peF;rcases(by omega:j<39\/j=39\/j=40\/j=41\/j=42\/j=43\/j=44\/j=45\/j=46\/j=47\/j=48) with h|rfl|rfl|rfl|rfl|rfl|rfl|rfl|rfl|rfl|rfl <;> simp[*]
theorem VB.there (h:VB w P x) (o n:Nat) (hn:o+n<=50):w.there P o n:=fun j hj=>by
 rw[Own.cell h (i:=o+j) (by omega)];exact⟨rfl,Own.frozen h (by omega)⟩
end
def ZE (base:Nat) (S:World->Prop) (W:World):Prop:= ∀ W2,(∀ k,base<=k->k<W.heap.size->W2.heap[k]? =W.heap[k]?)->W.heap.size<=W2.heap.size->S W2
theorem ZE.now {base:Nat} {S:World->Prop} {W:World} (h:ZE base S W):S W:=h W (fun _ _ _=>rfl) (Nat.le_refl _)
theorem ZE.on {base:Nat} {S:World->Prop} {W W2:World} (h:ZE base S W) (hk: ∀ k,base<=k->k<W.heap.size->W2.heap[k]? =W.heap[k]?) (hs:W.heap.size<=W2.heap.size):ZE base S W2 :=
 fun W3 h3 s3=>h W3 (fun k a b=>(h3 k a (by omega)).trans (hk k a b)) (by omega)
theorem ZE.less {base base':Nat} {S:World->Prop} {W:World} (h:ZE base S W) (hb:base'<=base):ZE base' S W:=fun W2 hk hs=>h W2 (fun k a b=>hk k (by omega) b) hs
theorem ZE.const {base:Nat} {S:World->Prop} {W:World} (h: ∀ W,S W):ZE base S W:=fun W2 _ _=>h W2
abbrev Zar (P:Nat) (w W:World):Prop:=Xl (fun k=>k<w.heap.size/\k≠P) w W
theorem Wg {P:Program} {ops:Array Oper} {o:Oper} {a:Act} {w:World} {K:Act->World->Prop} {Q:Exit->Act->World->Prop} {E:Prop} (eu:o.guard=none) (ty:TypeId) (x y:Operand) (ho:o.op= .store ty x y)
 (b off:Nat) (cells:Array Value) (hx:a.eval x= .pointer (some ⟨b,off,none⟩)) (hy:a.eval y= .agg cells) (ht:w.there b off cells.size) (hi:(P.info? ty).map (·.size)=some cells.size) (h1:cells.all (·.oneCell')=true)
 (h:K (a.put o.dst undef) (w.setCells b off cells.toList)):if Region.wanted o (yielded ops a.tmps)=true then Oper.wp P o a w K Q else E:=by
 rw[if_pos (by simp[Region.wanted,eu])];exact wp_store_mid ty x y ho b off cells hx hy ht hi h1 h
theorem Zch (ty:TypeId) (ad:Addr) (v:Value) (h:v.oneCell'=true):storeVar ty ad v=storeVar ty ad (.agg #[v]):=by cases v <;> first|rfl|(simp[Value.oneCell'] at h)
theorem Xz {P:Program} {ops:Array Oper} {o:Oper} {a:Act} {w:World} {K:Act->World->Prop} {Q:Exit->Act->World->Prop} {E:Prop} (eu:o.guard=none) (ty:TypeId) (x y:Operand) (ho:o.op= .store ty x y)
 (b off:Nat) (v:Value) (hx:a.eval x= .pointer (some ⟨b,off,none⟩)) (hy:a.eval y=v) (ht:w.there b off 1) (hi:(P.info? ty).map (·.size)=some 1) (h1:v.oneCell'=true)
 (h:K (a.put o.dst undef) (w.setCell ⟨b,off,none⟩ v)):if Region.wanted o (yielded ops a.tmps)=true then Oper.wp P o a w K Q else E:=by
 rw[if_pos (by simp[Region.wanted,eu])];have hs:=run_storeVar_mid (P:=P) w b off ty #[v] ht hi (by simp[h1]);rw[<-Zch ty _ v h1] at hs;unfold Oper.wp execOp;simp only[ho,hx,hy,Instr.storeAt,Instr.sureAddr,Sem.run_bind,Sem.run_pure,Result.andThen_ok,hs];exact h
def Zci (f:Nat) (args:Array Value) (P:Nat) (w:World) (er:Int) (S:Value->World->Prop):Prop :=
 ∀ W,Zar P w W->w.heap.size<=W.heap.size->Calls Tryz.prog f args W fun e W'=> ∃ v,e= .returned (.tuple #[v,.int .i64 er])/\v.oneCell'=true/\Below W.heap.size W W'/\ZE W.heap.size (S v) W'
def Zje (f:Nat) (args:Array Value) (P:Nat) (w:World) (er:Int) (S:Value->Value->Value->World->Prop):Prop :=
 ∀ W,Zar P w W->w.heap.size<=W.heap.size->Calls Tryz.prog f args W fun e W'=> ∃ a b c,e= .returned (.tuple #[.agg #[a,b,c],.int .i64 er])/\(a.oneCell'=true/\b.oneCell'=true/\c.oneCell'=true)/\Below W.heap.size W W'/\ZE W.heap.size (S a b c) W'
def Znb (rv sz:Nat->Int) (j:Nat):Value:=if j % 2=0 then .int .i64 (rv (j / 2)) else .int .i64 (sz (j / 2))
structure Zhi (w:World) (P:Nat) (x:PeV) (D:Nat) (rv sz:Nat->Int) (W:World) (y:PeV):Prop where
 kept:Zar P w W
 pe:VB W P y
 hd:y.hd=x.hd
 img:y.img=x.img
 dd:Own W D 32 (Znb rv sz)
 ddw:w.heap.size<=D
namespace Zhi
variable {w:World} {P:Nat} {x:PeV} {D:Nat} {rv sz:Nat->Int} {W W':World} {y:PeV}
theorem below (h:Zhi w P x D rv sz W y) (hb:Below W.heap.size W W'):Zhi w P x D rv sz W' y :=
 ⟨h.kept.trans (Xl.of_below hb (fun k hk=>Nat.lt_of_lt_of_le hk.1 h.kept.size)),Own.of_block h.pe (hb.block P h.pe.1) hb.size,h.hd,h.img,h.dd.of_block (hb.block D h.dd.1) hb.size,h.ddw⟩
theorem drew (h:Zhi w P x D rv sz W y):Zhi w P x D rv sz W.drew y:=h.below (Below.refl _ _).drew
theorem img39 (h:Zhi w P x D rv sz W y):W.cell? ⟨P,39,none⟩=some x.img:=by rw[Own.cell h.pe (i:=39) (by omega),<-h.img]; rfl
theorem base0 (h:Zhi w P x D rv sz W y) {b:Int} (hb:x.hd 0= .int .u64 b):W.cell? ⟨P,0,none⟩=some (.int .u64 b):=by
 rw[Own.cell h.pe (i:=0) (by omega),JJ _ (by omega),h.hd,hb]
theorem dir (h:Zhi w P x D rv sz W y) (i:Nat) (hi:i<16):W.rangeAt D (2 * i) [.int .i64 (rv i),.int .i64 (sz i)]:=fun j v hv=>by
 rcases j with _|_|j
 ·simp at hv; subst hv;rw[Nat.add_zero,h.dd.cell (i:=2 * i) (by omega)];unfold Znb; rw[if_pos (by omega),show 2 * i / 2=i by omega]
 ·simp at hv; subst hv;rw[h.dd.cell (i:=2 * i+(0+1)) (by omega)];unfold Znb; rw[if_neg (by omega),show(2 * i+(0+1)) / 2=i by omega]
 ·simp at hv
theorem wrote (h:Zhi w P x D rv sz W y) (hP:P<w.heap.size) {y':PeV} (hk:Xl (fun k=>k≠P) W W') (hp:VB W' P y') (h1:y'.hd=y.hd) (h2:y'.img=y.img):Zhi w P x D rv sz W' y' :=
 ⟨h.kept.trans (hk.mono (fun k hk=>hk.2)),hp,h1.trans h.hd,h2.trans h.img,hk.own h.dd (by have:=h.ddw; omega),h.ddw⟩
end Zhi
theorem YK (W:World) (P o:Nat) (v:Value):Xl (fun k=>k≠P) W (W.setCell ⟨P,o,none⟩ v):=(Xl.refl _ W).setCell (p:=⟨P,o,none⟩) (fun e=>e rfl) v
theorem Vg (W:World) (P o:Nat) (a b c:Value):Xl (fun k=>k≠P) W (W.setCells P o [a,b,c]) :=
 ((YK W P o a).trans (YK _ P (o+1) b)).trans (YK _ P (o+1+1) c)
theorem ZE.below {base:Nat} {S:World->Prop} {W W2:World} (h:ZE base S W) (hb:Below W.heap.size W W2):ZE base S W2:=h.on (fun k _ hk=>hb.block k hk) hb.size
theorem ZE.wrote {base P:Nat} {S:World->Prop} {W W2:World} (h:ZE base S W) (hP:P<base) (hk:Xl (fun k=>k≠P) W W2):ZE base S W2:=h.on (fun k hb _=>hk.block k (by omega)) hk.size
def ZL (e1 e2 e3 e4 e5 e6:Int):Int:=if e1≠0 then e1 else if e2≠0 then e2 else if e3≠0 then e3 else if e4≠0 then e4 else if e5≠0 then e5 else e6
theorem Zfm (e1 e2 e3 e4 e5 e6:Int) (h1: ¬ e1=0):ZL e1 e2 e3 e4 e5 e6=e1:=by unfold ZL; rw[if_pos h1]
theorem Zfn (e1 e2 e3 e4 e5 e6:Int) (h1:e1=0) (h2: ¬ e2=0):ZL e1 e2 e3 e4 e5 e6=e2:=by unfold ZL; rw[if_neg (fun h=>h h1),if_pos h2]
theorem Zfo (e1 e2 e3 e4 e5 e6:Int) (h1:e1=0) (h2:e2=0) (h3: ¬ e3=0):ZL e1 e2 e3 e4 e5 e6=e3:=by unfold ZL; rw[if_neg (fun h=>h h1),if_neg (fun h=>h h2),if_pos h3]
theorem Zfp (e1 e2 e3 e4 e5 e6:Int) (h1:e1=0) (h2:e2=0) (h3:e3=0) (h4: ¬ e4=0):ZL e1 e2 e3 e4 e5 e6=e4:=by unfold ZL; rw[if_neg (fun h=>h h1),if_neg (fun h=>h h2),if_neg (fun h=>h h3),if_pos h4]
theorem Zfq (e1 e2 e3 e4 e5 e6:Int) (h1:e1=0) (h2:e2=0) (h3:e3=0) (h4:e4=0) (h5: ¬ e5=0):ZL e1 e2 e3 e4 e5 e6=e5:=by unfold ZL; rw[if_neg (fun h=>h h1),if_neg (fun h=>h h2),if_neg (fun h=>h h3),if_neg (fun h=>h h4),if_pos h5]
theorem Zas (e1 e2 e3 e4 e5 e6:Int) (h1:e1=0) (h2:e2=0) (h3:e3=0) (h4:e4=0) (h5:e5=0):ZL e1 e2 e3 e4 e5 e6=e6:=by unfold ZL; rw[if_neg (fun h=>h h1),if_neg (fun h=>h h2),if_neg (fun h=>h h3),if_neg (fun h=>h h4),if_neg (fun h=>h h5)]
structure DirsQ (w:World) (P:Nat) (x:PeV) (SE:Value->Value->Value->World->Prop) (SI SR:Value->World->Prop) (ST:Value->Value->Value->World->Prop) (SB SD:Value->World->Prop) (u:World) (y:PeV):Prop where
 pe:VB u P y
 hd:y.hd=x.hd
 img:y.img=x.img
 e:ZE w.heap.size (SE y.e0 y.e1 y.e2) u
 i:ZE w.heap.size (SI y.im) u
 r:ZE w.heap.size (SR y.re) u
 t:ZE w.heap.size (ST y.t0 y.t1 y.t2) u
 b:ZE w.heap.size (SB y.bo) u
 d:ZE w.heap.size (SD y.de) u
 ones:(y.e0.oneCell'=true/\y.e1.oneCell'=true/\y.e2.oneCell'=true)/\y.im.oneCell'=true/\y.re.oneCell'=true/\(y.t0.oneCell'=true/\y.t1.oneCell'=true/\y.t2.oneCell'=true)/\y.bo.oneCell'=true/\y.de.oneCell'=true
theorem Zly (w:World) (P:Nat) (x:PeV) (h:VB w P x) (rv sz:Nat->Int) (hd: ∀ i,i<16->x.hd (6+2 * i)= .int .i64 (rv i)/\x.hd (6+2 * i+1)= .int .i64 (sz i)) (base:Int) (hb:x.hd 0= .int .u64 base)
 (eE eI eR eT eB eD:Int) (SE:Value->Value->Value->World->Prop) (SI SR:Value->World->Prop) (ST:Value->Value->Value->World->Prop) (SB SD:Value->World->Prop)
 (hE:Zje 79 #[x.img,.agg #[.int .i64 (rv 0),.int .i64 (sz 0)]] P w eE SE)
 (hI:Zci 80 #[x.img,.agg #[.int .i64 (rv 1),.int .i64 (sz 1)]] P w eI SI)
 (hR:Zci 81 #[x.img,.agg #[.int .i64 (rv 5),.int .i64 (sz 5)]] P w eR SR)
 (hT:Zje 82 #[x.img,.agg #[.int .i64 (rv 9),.int .i64 (sz 9)],.int .u64 base] P w eT ST)
 (hB:Zci 83 #[x.img,.agg #[.int .i64 (rv 11),.int .i64 (sz 11)]] P w eB SB)
 (hD:Zci 84 #[x.img,.agg #[.int .i64 (rv 13),.int .i64 (sz 13)]] P w eD SD)
 : Calls Tryz.prog 33 #[.pointer (some ⟨P,0,none⟩)] w fun e u=>e= .returned (.int .i64 (ZL eE eI eR eT eB eD))/\Zar P w u/\(ZL eE eI eR eT eB eD=0-> ∃ y,DirsQ w P x SE SI SR ST SB SD u y):=by
 have hP:P<w.heap.size:=h.1;have HE:=Zg hE;have HI:=Zg hI;have HR:=Zg hR;have HT:=Zg hT;have HB:=Zg hB;have HD:=Zg hD;have HP:=Zg hP;have HH:=Zg h;have sw:=Zg hd;have ff:=Zg hb;clear hE hI hR hT hB hD hP h hd hb;have lp:w.rangeAt P 6 ((List.range 32).map (Znb rv sz)):=fun j v hv=>by
  have hj:j<32:=by
   rcases Nat.lt_or_ge j 32 with hj|hj
   ·exact hj
   ·simp[hj] at hv
  simp[hj] at hv;subst hv;rw[Own.cell HH.out (i:=6+j) (by omega),JJ _ (by omega)];unfold Znb;by_cases c:j % 2=0
  ·rw[if_pos c,<-(sw.out (j / 2) (by omega)).1,show 6+2 * (j / 2)=6+j by omega]
  ·rw[if_neg c,<-(sw.out (j / 2) (by omega)).2,show 6+2 * (j / 2)+1=6+j by omega]
 obtain⟨dl,xX⟩: ∃ dl,(List.range 32).map (Znb rv sz)=dl:=⟨_,rfl⟩;have hlen:dl.length=32:=by rw[<-xX]; simp
 rw[xX] at lp;have vU:=Zg lp;have tR:=Zg xX;have og:=Zg hlen;clear lp xX hlen;go_enter Tryz.func33,Tryz.ntmps33;have jm:=Zg (show dl.toArray.all (·.oneCell')=true from all_oneCell_toArray (fun v hv=>by
  rw[<-tR.out] at hv;obtain⟨j,_,rfl⟩:=List.mem_map.mp hv;unfold Znb;split <;> rfl))
 have E8:=Zg (show dl.toArray.size=32 from by rw[List.size_toArray]; exact og.out);go_wp2_with (first
  | (refine wpList_load_mid rfl 38 (.tmp 8) rfl P 6 rfl dl _ vU.out Tryz.underlying38 rfl (by rw[og.out]; kernel_rfl) ?_)
  | (refine wpList_store_row rfl 38 (.tmp 3) (.tmp 9) rfl w.heap.size dl.toArray rfl rfl 38 _ (heap_alloc_new _ _) (by rw[E8.out]; kernel_rfl) (by rw[E8.out]; rfl) jm.out ?_)
  | fail)
 obtain⟨w1,ao⟩: ∃ w1,(w.alloc (.cells #[.int .i64 0,.int .i64 0,.int .i64 0,.int .i64 0,.int .i64 0,.int .i64 0,.int .i64 0,.int .i64 0,.int .i64 0,.int .i64 0,.int .i64 0,.int .i64 0,.int .i64 0,.int .i64 0,.int .i64 0,.int .i64 0,.int .i64 0,.int .i64 0,.int .i64 0,.int .i64 0,.int .i64 0,.int .i64 0,.int .i64 0,.int .i64 0,.int .i64 0,.int .i64 0,.int .i64 0,.int .i64 0,.int .i64 0,.int .i64 0,.int .i64 0,.int .i64 0] 38)).setRow w.heap.size dl.toArray=w1:=⟨_,rfl⟩;have az:Below w.heap.size w w1:=by rw[<-ao]; exact below_setRow ((Below.refl _ _).alloc (Nat.le_refl _) _) (Nat.le_refl _) _
 have bw:w1.heap[w.heap.size]? =some (.cells dl.toArray 38 (0,0)):=by rw[<-ao]; exact setRow_heap _ _ _ _ _ _ (heap_alloc_new w _)
 have xZ:Own w1 w.heap.size 32 (Znb rv sz):=by
  refine⟨Zi bw,fun i hi=>⟨?_,by simp[World.frozen?,bw]⟩⟩;rw[Zh bw,<-tR.out,Za];simp[hi]
 have H1:=Zg (show Zhi w P x w.heap.size rv sz w1 x from⟨Xl.of_below az (fun k hk=>hk.1),Own.of_block HH.out (az.block P HP.out) az.size,rfl,rfl,xZ,Nat.le_refl _⟩);obtain⟨D,hD⟩: ∃ D,w.heap.size=D:=⟨_,rfl⟩;have kv:=Zg hD;rw[ao,hD];rw[hD] at H1;clear ao az bw xZ hD vU jm E8;go_upto_region 3 with(fail)
 have HS:=Zg (show w1.drew.cell? ⟨P,39,none⟩=some x.img/\(∀ i,i<16->w1.drew.rangeAt D (2 * i) [.int .i64 (rv i),.int .i64 (sz i)])/\w1.drew.cell? ⟨P,0,none⟩=some (.int .u64 base) from⟨H1.out.drew.img39,fun i hi=>H1.out.drew.dir i hi,H1.out.drew.base0 ff.out⟩);refine wp_region_noPanic ?_;refine Zt (fun W=>W.cell? ⟨P,39,none⟩=some x.img/\(∀ i,i<16->W.rangeAt D (2 * i) [.int .i64 (rv i),.int .i64 (sz i)])/\W.cell? ⟨P,0,none⟩=some (.int .u64 base)) (fun _=>True) 99 (by kernel_rfl) ?_;refine wU (i:=0) HS.out ?_;refine wU (i:=1) HS.out ?_;refine wU (i:=2) HS.out ?_;refine wU (i:=3) HS.out ?_;refine wU (i:=4) HS.out ?_ (hy:=by refine Or.inl ⟨by rfl,?_⟩; intro W aL; have hq:=aL.1; clear aL; go_simp; try with_reducible rfl);refine wU (i:=5) HS.out ?_;refine wT (i:=6) (oi:= ?_) (v:= ?_) ?_ ?_ HS.out ?_;rotate_left 2
 ·(simp only[Za,Zb,Zc]; rfl)
 ·refine yieldsIf_load_mid ?_ 37 (.tmp 16) ?_ D 0 ?_ [.int .i64 (rv 0),.int .i64 (sz 0)] _ ?_ Tryz.underlying37 ?_ ?_
  ·rfl
  ·rfl
  ·first|rfl|simp[Act.eval]
  ·exact fun W hW=>hW.2.1 0 (by omega)
  ·rfl
  ·rfl
 try simp only[Act.put,Zd,Ze,Zf]
 refine wO (i:=7) (fun K hK=> ?_);go_simp;go_at_call 79;refine(HE.out w1.drew H1.out.drew.kept H1.out.drew.kept.size).mono ?_;rintro e w2 ⟨a0,b0,c0,rfl,zY,bO,lQ⟩;have bN:=H1.out.drew.below bO;have Cw:=Zg bN;have aF:=Zg (show w2.cell? ⟨P,39,none⟩=some x.img/\(∀ i,i<16->w2.rangeAt D (2 * i) [.int .i64 (rv i),.int .i64 (sz i)])/\w2.cell? ⟨P,0,none⟩=some (.int .u64 base) from⟨bN.img39,fun i hi=>bN.dir i hi,bN.base0 ff.out⟩);have dp:=Zg (show ZE D (SE a0 b0 c0) w2 from lQ.less (by rw[<-kv.out]; exact H1.out.drew.kept.size));have ft:=Zg zY;clear bN lQ zY bO HS;refine hK.out _ _ aF.out (fun _=>trivial) ?_;clear hK K;try simp only[Act.put,Zd,Ze,Zf]
 refine wU (i:=8) aF.out ?_;refine wU (i:=9) aF.out ?_;refine wU (i:=10) aF.out ?_;refine wU (i:=11) aF.out ?_;refine wU (i:=12) aF.out ?_;refine wO (i:=13) (fun K hK=> ?_);refine Wg rfl 45 (.tmp 22) (.tmp 19) rfl P 40 #[a0,b0,c0] (by first|rfl|simp[Act.eval]) (by first|rfl|simp[Act.eval]) (Cw.out.pe.there 40 3 (by omega)) (by kernel_rfl) (by simp[ft.out.1,ft.out.2.1,ft.out.2.2]) ?_;have mu:Xl (fun k=>k≠P) w2 (w2.setCells P 40 [a0,b0,c0]):=Vg _ P 40 _ _ _;obtain⟨y0,ox⟩: ∃ y:PeV,{ x with e0:=a0,e1:=b0,e2:=c0 }=y:=⟨_,rfl⟩;have bN:=Cw.out.wrote HP.out (y':=y0) mu (by rw[<-ox]; exact Cw.out.pe.ex a0 b0 c0) (by rw[<-ox]) (by rw[<-ox]);have fy:P<D:=by rw[<-kv.out]; exact HP.out
 have dp:=Zg (dp.out.wrote fy mu);generalize w2.setCells P 40 [a0,b0,c0]=w3 at *;have tS:=Zg bN;have bY:=Zg (show w3.cell? ⟨P,39,none⟩=some x.img/\(∀ i,i<16->w3.rangeAt D (2 * i) [.int .i64 (rv i),.int .i64 (sz i)])/\w3.cell? ⟨P,0,none⟩=some (.int .u64 base) from⟨bN.img39,fun i hi=>bN.dir i hi,bN.base0 ff.out⟩);have zD:=Zg ox;clear bN mu fy ox aF Cw;refine hK.out _ _ bY.out (fun _=>trivial) ?_;clear hK K;try simp only[Act.put,Zd,Ze,Zf]
 refine wU (i:=14) bY.out ?_;refine Zo (by kernel_rfl) ?_ _;refine NoPanic.normal ?_;clear bY;by_cases eP: ¬ eE=0
 ·have cV:=Zfm eE eI eR eT eB eD eP;have eC:=Zg (And.intro cV (show ¬ ZL eE eI eR eT eB eD=0 from by rw[cV]; exact eP));have fO:(eE == 0)=false:=beq_eq_false_iff_ne.2 eP;clear cV eP;go_wp2_with fail
  go_ret;exact⟨by rw[eC.out.1]; rfl,tS.out.kept,fun h=>absurd h eC.out.2⟩
 replace eP:eE=0:=Decidable.not_not.1 eP;go_upto_region 6 with(fail)
 have HS:=Zg (show w3.drew.cell? ⟨P,39,none⟩=some x.img/\(∀ i,i<16->w3.drew.rangeAt D (2 * i) [.int .i64 (rv i),.int .i64 (sz i)])/\w3.drew.cell? ⟨P,0,none⟩=some (.int .u64 base) from⟨tS.out.drew.img39,fun i hi=>tS.out.drew.dir i hi,tS.out.drew.base0 ff.out⟩);refine wp_region_noPanic ?_;refine Zt (fun W=>W.cell? ⟨P,39,none⟩=some x.img/\(∀ i,i<16->W.rangeAt D (2 * i) [.int .i64 (rv i),.int .i64 (sz i)])/\W.cell? ⟨P,0,none⟩=some (.int .u64 base)) (fun _=>True) 99 (by kernel_rfl) ?_;refine wU (i:=0) HS.out ?_;refine wU (i:=1) HS.out ?_;refine wU (i:=2) HS.out ?_;refine wU (i:=3) HS.out ?_;refine wU (i:=4) HS.out ?_ (hy:=by refine Or.inl ⟨by rfl,?_⟩; intro W aL; have hq:=aL.1; clear aL; go_simp; try with_reducible rfl);refine wU (i:=5) HS.out ?_;refine wT (i:=6) (oi:= ?_) (v:= ?_) ?_ ?_ HS.out ?_;rotate_left 2
 ·(simp only[Za,Zb,Zc]; rfl)
 ·refine yieldsIf_load_mid ?_ 37 (.tmp 32) ?_ D 2 ?_ [.int .i64 (rv 1),.int .i64 (sz 1)] _ ?_ Tryz.underlying37 ?_ ?_
  ·rfl
  ·rfl
  ·first|rfl|simp[Act.eval]
  ·exact fun W hW=>hW.2.1 1 (by omega)
  ·rfl
  ·rfl
 try simp only[Act.put,Zd,Ze,Zf]
 refine wO (i:=7) (fun K hK=> ?_);go_simp;go_at_call 80;refine(HI.out w3.drew tS.out.drew.kept tS.out.drew.kept.size).mono ?_;rintro e w4 ⟨v1,rfl,cG,az,dP⟩;have bN:=tS.out.drew.below az;have Cx:=Zg bN;have aF:=Zg (show w4.cell? ⟨P,39,none⟩=some x.img/\(∀ i,i<16->w4.rangeAt D (2 * i) [.int .i64 (rv i),.int .i64 (sz i)])/\w4.cell? ⟨P,0,none⟩=some (.int .u64 base) from⟨bN.img39,fun i hi=>bN.dir i hi,bN.base0 ff.out⟩);have aO:=Zg (show ZE D (SI v1) w4 from dP.less (by rw[<-kv.out]; exact tS.out.drew.kept.size));have cW:=Zg cG;have dp:=Zg ((dp.out.below (Below.refl _ _).drew).below az);clear bN dP cG az HS;refine hK.out _ _ aF.out (fun _=>trivial) ?_;clear hK K;try simp only[Act.put,Zd,Ze,Zf]
 refine wU (i:=8) aF.out ?_;refine wU (i:=9) aF.out ?_;refine wU (i:=10) aF.out ?_;refine wU (i:=11) aF.out ?_;refine wU (i:=12) aF.out ?_;refine wO (i:=13) (fun K hK=> ?_);refine Xz rfl 46 (.tmp 38) (.tmp 35) rfl P 43 v1 (by first|rfl|simp[Act.eval]) (by first|rfl|simp[Act.eval]) (Cx.out.pe.there 43 1 (by omega)) (by kernel_rfl) cW.out ?_;have n':Xl (fun k=>k≠P) w4 (w4.setCell ⟨P,43,none⟩ v1):=YK _ P 43 _;obtain⟨y1,gN⟩: ∃ y:PeV,{ y0 with im:=v1 }=y:=⟨_,rfl⟩;have bN:=Cx.out.wrote HP.out (y':=y1) n' (by rw[<-gN]; exact Cx.out.pe.im v1) (by rw[<-gN]) (by rw[<-gN]);have fy:P<D:=by rw[<-kv.out]; exact HP.out
 have dp:=Zg (dp.out.wrote fy n');have aO:=Zg (aO.out.wrote fy n');generalize w4.setCell ⟨P,43,none⟩ v1=w5 at *;have tT:=Zg bN;have bY:=Zg (show w5.cell? ⟨P,39,none⟩=some x.img/\(∀ i,i<16->w5.rangeAt D (2 * i) [.int .i64 (rv i),.int .i64 (sz i)])/\w5.cell? ⟨P,0,none⟩=some (.int .u64 base) from⟨bN.img39,fun i hi=>bN.dir i hi,bN.base0 ff.out⟩);have cK:=Zg gN;clear bN n' fy gN aF Cx;refine hK.out _ _ bY.out (fun _=>trivial) ?_;clear hK K;try simp only[Act.put,Zd,Ze,Zf]
 refine wU (i:=14) bY.out ?_;refine Zo (by kernel_rfl) ?_ _;refine NoPanic.normal ?_;clear bY;by_cases eQ: ¬ eI=0
 ·have cV:=Zfn eE eI eR eT eB eD eP eQ;have eC:=Zg (And.intro cV (show ¬ ZL eE eI eR eT eB eD=0 from by rw[cV]; exact eQ));have fO:(eI == 0)=false:=beq_eq_false_iff_ne.2 eQ;clear cV eP eQ;go_wp2_with fail
  go_ret;exact⟨by rw[eC.out.1]; rfl,tT.out.kept,fun h=>absurd h eC.out.2⟩
 replace eQ:eI=0:=Decidable.not_not.1 eQ;go_upto_region 9 with(fail)
 have HS:=Zg (show w5.drew.cell? ⟨P,39,none⟩=some x.img/\(∀ i,i<16->w5.drew.rangeAt D (2 * i) [.int .i64 (rv i),.int .i64 (sz i)])/\w5.drew.cell? ⟨P,0,none⟩=some (.int .u64 base) from⟨tT.out.drew.img39,fun i hi=>tT.out.drew.dir i hi,tT.out.drew.base0 ff.out⟩);refine wp_region_noPanic ?_;refine Zt (fun W=>W.cell? ⟨P,39,none⟩=some x.img/\(∀ i,i<16->W.rangeAt D (2 * i) [.int .i64 (rv i),.int .i64 (sz i)])/\W.cell? ⟨P,0,none⟩=some (.int .u64 base)) (fun _=>True) 99 (by kernel_rfl) ?_;refine wU (i:=0) HS.out ?_;refine wU (i:=1) HS.out ?_;refine wU (i:=2) HS.out ?_;refine wU (i:=3) HS.out ?_;refine wU (i:=4) HS.out ?_ (hy:=by refine Or.inl ⟨by rfl,?_⟩; intro W aL; have hq:=aL.1; clear aL; go_simp; try with_reducible rfl);refine wU (i:=5) HS.out ?_;refine wT (i:=6) (oi:= ?_) (v:= ?_) ?_ ?_ HS.out ?_;rotate_left 2
 ·(simp only[Za,Zb,Zc]; rfl)
 ·refine yieldsIf_load_mid ?_ 37 (.tmp 48) ?_ D 10 ?_ [.int .i64 (rv 5),.int .i64 (sz 5)] _ ?_ Tryz.underlying37 ?_ ?_
  ·rfl
  ·rfl
  ·first|rfl|simp[Act.eval]
  ·exact fun W hW=>hW.2.1 5 (by omega)
  ·rfl
  ·rfl
 try simp only[Act.put,Zd,Ze,Zf]
 refine wO (i:=7) (fun K hK=> ?_);go_simp;go_at_call 81;refine(HR.out w5.drew tT.out.drew.kept tT.out.drew.kept.size).mono ?_;rintro e w6 ⟨v2,rfl,dJ,aC,fw⟩;have bN:=tT.out.drew.below aC;have Cy:=Zg bN;have aF:=Zg (show w6.cell? ⟨P,39,none⟩=some x.img/\(∀ i,i<16->w6.rangeAt D (2 * i) [.int .i64 (rv i),.int .i64 (sz i)])/\w6.cell? ⟨P,0,none⟩=some (.int .u64 base) from⟨bN.img39,fun i hi=>bN.dir i hi,bN.base0 ff.out⟩);have bM:=Zg (show ZE D (SR v2) w6 from fw.less (by rw[<-kv.out]; exact tT.out.drew.kept.size));have bQ:=Zg dJ;have dp:=Zg ((dp.out.below (Below.refl _ _).drew).below aC);have aO:=Zg ((aO.out.below (Below.refl _ _).drew).below aC);clear bN fw dJ aC HS;refine hK.out _ _ aF.out (fun _=>trivial) ?_;clear hK K;try simp only[Act.put,Zd,Ze,Zf]
 refine wU (i:=8) aF.out ?_;refine wU (i:=9) aF.out ?_;refine wU (i:=10) aF.out ?_;refine wU (i:=11) aF.out ?_;refine wU (i:=12) aF.out ?_;refine wO (i:=13) (fun K hK=> ?_);refine Xz rfl 29 (.tmp 54) (.tmp 51) rfl P 46 v2 (by first|rfl|simp[Act.eval]) (by first|rfl|simp[Act.eval]) (Cy.out.pe.there 46 1 (by omega)) (by kernel_rfl) bQ.out ?_;have ei:Xl (fun k=>k≠P) w6 (w6.setCell ⟨P,46,none⟩ v2):=YK _ P 46 _;obtain⟨y2,jR⟩: ∃ y:PeV,{ y1 with re:=v2 }=y:=⟨_,rfl⟩;have bN:=Cy.out.wrote HP.out (y':=y2) ei (by rw[<-jR]; exact Cy.out.pe.re v2) (by rw[<-jR]) (by rw[<-jR]);have fy:P<D:=by rw[<-kv.out]; exact HP.out
 have dp:=Zg (dp.out.wrote fy ei);have aO:=Zg (aO.out.wrote fy ei);have bM:=Zg (bM.out.wrote fy ei);generalize w6.setCell ⟨P,46,none⟩ v2=w7 at *;have tU:=Zg bN;have bY:=Zg (show w7.cell? ⟨P,39,none⟩=some x.img/\(∀ i,i<16->w7.rangeAt D (2 * i) [.int .i64 (rv i),.int .i64 (sz i)])/\w7.cell? ⟨P,0,none⟩=some (.int .u64 base) from⟨bN.img39,fun i hi=>bN.dir i hi,bN.base0 ff.out⟩);have rh:=Zg jR;clear bN ei fy jR aF Cy;refine hK.out _ _ bY.out (fun _=>trivial) ?_;clear hK K;try simp only[Act.put,Zd,Ze,Zf]
 refine wU (i:=14) bY.out ?_;refine Zo (by kernel_rfl) ?_ _;refine NoPanic.normal ?_;clear bY;by_cases fP: ¬ eR=0
 ·have cV:=Zfo eE eI eR eT eB eD eP eQ fP;have eC:=Zg (And.intro cV (show ¬ ZL eE eI eR eT eB eD=0 from by rw[cV]; exact fP));have fO:(eR == 0)=false:=beq_eq_false_iff_ne.2 fP;clear cV eP eQ fP;go_wp2_with fail
  go_ret;exact⟨by rw[eC.out.1]; rfl,tU.out.kept,fun h=>absurd h eC.out.2⟩
 replace fP:eR=0:=Decidable.not_not.1 fP;go_upto_region 12 with(fail)
 have HS:=Zg (show w7.drew.cell? ⟨P,39,none⟩=some x.img/\(∀ i,i<16->w7.drew.rangeAt D (2 * i) [.int .i64 (rv i),.int .i64 (sz i)])/\w7.drew.cell? ⟨P,0,none⟩=some (.int .u64 base) from⟨tU.out.drew.img39,fun i hi=>tU.out.drew.dir i hi,tU.out.drew.base0 ff.out⟩);refine wp_region_noPanic ?_;refine Zt (fun W=>W.cell? ⟨P,39,none⟩=some x.img/\(∀ i,i<16->W.rangeAt D (2 * i) [.int .i64 (rv i),.int .i64 (sz i)])/\W.cell? ⟨P,0,none⟩=some (.int .u64 base)) (fun _=>True) 99 (by kernel_rfl) ?_;refine wU (i:=0) HS.out ?_;refine wU (i:=1) HS.out ?_;refine wU (i:=2) HS.out ?_;refine wU (i:=3) HS.out ?_;refine wU (i:=4) HS.out ?_ (hy:=by refine Or.inl ⟨by rfl,?_⟩; intro W aL; have hq:=aL.1; clear aL; go_simp; try with_reducible rfl);refine wU (i:=5) HS.out ?_;refine wT (i:=6) (oi:= ?_) (v:= ?_) ?_ ?_ HS.out ?_;rotate_left 2
 ·(simp only[Za,Zb,Zc]; rfl)
 ·refine yieldsIf_load_mid ?_ 37 (.tmp 64) ?_ D 18 ?_ [.int .i64 (rv 9),.int .i64 (sz 9)] _ ?_ Tryz.underlying37 ?_ ?_
  ·rfl
  ·rfl
  ·first|rfl|simp[Act.eval]
  ·exact fun W hW=>hW.2.1 9 (by omega)
  ·rfl
  ·rfl
 try simp only[Act.put,Zd,Ze,Zf]
 refine wU (i:=7) HS.out ?_;refine wU (i:=8) HS.out ?_;refine wU (i:=9) HS.out ?_;refine wU (i:=10) HS.out ?_;refine wU (i:=11) HS.out ?_ (hy:=by refine Or.inl ⟨by rfl,?_⟩; intro W aL; have hq:=aL.2.2; clear aL; go_simp; try with_reducible rfl);refine wO (i:=12) (fun K hK=> ?_);go_simp;go_at_call 82;refine(HT.out w7.drew tU.out.drew.kept tU.out.drew.kept.size).mono ?_;rintro e w8 ⟨a3,b3,c3,rfl,j3,bJ,gl⟩;have bN:=tU.out.drew.below bJ;have Cz:=Zg bN;have aF:=Zg (show w8.cell? ⟨P,39,none⟩=some x.img/\(∀ i,i<16->w8.rangeAt D (2 * i) [.int .i64 (rv i),.int .i64 (sz i)])/\w8.cell? ⟨P,0,none⟩=some (.int .u64 base) from⟨bN.img39,fun i hi=>bN.dir i hi,bN.base0 ff.out⟩);have dY:=Zg (show ZE D (ST a3 b3 c3) w8 from gl.less (by rw[<-kv.out]; exact tU.out.drew.kept.size));have cT:=Zg j3;have dp:=Zg ((dp.out.below (Below.refl _ _).drew).below bJ);have aO:=Zg ((aO.out.below (Below.refl _ _).drew).below bJ);have bM:=Zg ((bM.out.below (Below.refl _ _).drew).below bJ);clear bN gl j3 bJ HS;refine hK.out _ _ aF.out (fun _=>trivial) ?_;clear hK K;try simp only[Act.put,Zd,Ze,Zf]
 refine wU (i:=13) aF.out ?_;refine wU (i:=14) aF.out ?_;refine wU (i:=15) aF.out ?_;refine wU (i:=16) aF.out ?_;refine wU (i:=17) aF.out ?_;refine wO (i:=18) (fun K hK=> ?_);refine Wg rfl 48 (.tmp 75) (.tmp 72) rfl P 47 #[a3,b3,c3] (by first|rfl|simp[Act.eval]) (by first|rfl|simp[Act.eval]) (Cz.out.pe.there 47 3 (by omega)) (by kernel_rfl) (by simp[cT.out.1,cT.out.2.1,cT.out.2.2]) ?_;have ey:Xl (fun k=>k≠P) w8 (w8.setCells P 47 [a3,b3,c3]):=Vg _ P 47 _ _ _;obtain⟨y3,o9⟩: ∃ y:PeV,{ y2 with t0:=a3,t1:=b3,t2:=c3 }=y:=⟨_,rfl⟩;have bN:=Cz.out.wrote HP.out (y':=y3) ey (by rw[<-o9]; exact Cz.out.pe.tl a3 b3 c3) (by rw[<-o9]) (by rw[<-o9]);have fy:P<D:=by rw[<-kv.out]; exact HP.out
 have dp:=Zg (dp.out.wrote fy ey);have aO:=Zg (aO.out.wrote fy ey);have bM:=Zg (bM.out.wrote fy ey);have dY:=Zg (dY.out.wrote fy ey);generalize w8.setCells P 47 [a3,b3,c3]=w9 at *;have tV:=Zg bN;have bY:=Zg (show w9.cell? ⟨P,39,none⟩=some x.img/\(∀ i,i<16->w9.rangeAt D (2 * i) [.int .i64 (rv i),.int .i64 (sz i)])/\w9.cell? ⟨P,0,none⟩=some (.int .u64 base) from⟨bN.img39,fun i hi=>bN.dir i hi,bN.base0 ff.out⟩);have oz:=Zg o9;clear bN ey fy o9 aF Cz;refine hK.out _ _ bY.out (fun _=>trivial) ?_;clear hK K;try simp only[Act.put,Zd,Ze,Zf]
 refine wU (i:=19) bY.out ?_;refine Zo (by kernel_rfl) ?_ _;refine NoPanic.normal ?_;clear bY;by_cases gP: ¬ eT=0
 ·have cV:=Zfp eE eI eR eT eB eD eP eQ fP gP;have eC:=Zg (And.intro cV (show ¬ ZL eE eI eR eT eB eD=0 from by rw[cV]; exact gP));have fO:(eT == 0)=false:=beq_eq_false_iff_ne.2 gP;clear cV eP eQ fP gP;go_wp2_with fail
  go_ret;exact⟨by rw[eC.out.1]; rfl,tV.out.kept,fun h=>absurd h eC.out.2⟩
 replace gP:eT=0:=Decidable.not_not.1 gP;go_upto_region 15 with(fail)
 have HS:=Zg (show w9.drew.cell? ⟨P,39,none⟩=some x.img/\(∀ i,i<16->w9.drew.rangeAt D (2 * i) [.int .i64 (rv i),.int .i64 (sz i)])/\w9.drew.cell? ⟨P,0,none⟩=some (.int .u64 base) from⟨tV.out.drew.img39,fun i hi=>tV.out.drew.dir i hi,tV.out.drew.base0 ff.out⟩);refine wp_region_noPanic ?_;refine Zt (fun W=>W.cell? ⟨P,39,none⟩=some x.img/\(∀ i,i<16->W.rangeAt D (2 * i) [.int .i64 (rv i),.int .i64 (sz i)])/\W.cell? ⟨P,0,none⟩=some (.int .u64 base)) (fun _=>True) 99 (by kernel_rfl) ?_;refine wU (i:=0) HS.out ?_;refine wU (i:=1) HS.out ?_;refine wU (i:=2) HS.out ?_;refine wU (i:=3) HS.out ?_;refine wU (i:=4) HS.out ?_ (hy:=by refine Or.inl ⟨by rfl,?_⟩; intro W aL; have hq:=aL.1; clear aL; go_simp; try with_reducible rfl);refine wU (i:=5) HS.out ?_;refine wT (i:=6) (oi:= ?_) (v:= ?_) ?_ ?_ HS.out ?_;rotate_left 2
 ·(simp only[Za,Zb,Zc]; rfl)
 ·refine yieldsIf_load_mid ?_ 37 (.tmp 85) ?_ D 22 ?_ [.int .i64 (rv 11),.int .i64 (sz 11)] _ ?_ Tryz.underlying37 ?_ ?_
  ·rfl
  ·rfl
  ·first|rfl|simp[Act.eval]
  ·exact fun W hW=>hW.2.1 11 (by omega)
  ·rfl
  ·rfl
 try simp only[Act.put,Zd,Ze,Zf]
 refine wO (i:=7) (fun K hK=> ?_);go_simp;go_at_call 83;refine(HB.out w9.drew tV.out.drew.kept tV.out.drew.kept.size).mono ?_;rintro e mP ⟨v4,rfl,dj,bP,iZ⟩;have bN:=tV.out.drew.below bP;have sx:=Zg bN;have aF:=Zg (show mP.cell? ⟨P,39,none⟩=some x.img/\(∀ i,i<16->mP.rangeAt D (2 * i) [.int .i64 (rv i),.int .i64 (sz i)])/\mP.cell? ⟨P,0,none⟩=some (.int .u64 base) from⟨bN.img39,fun i hi=>bN.dir i hi,bN.base0 ff.out⟩);have fV:=Zg (show ZE D (SB v4) mP from iZ.less (by rw[<-kv.out]; exact tV.out.drew.kept.size));have bV:=Zg dj;have dp:=Zg ((dp.out.below (Below.refl _ _).drew).below bP);have aO:=Zg ((aO.out.below (Below.refl _ _).drew).below bP);have bM:=Zg ((bM.out.below (Below.refl _ _).drew).below bP);have dY:=Zg ((dY.out.below (Below.refl _ _).drew).below bP);clear bN iZ dj bP HS;refine hK.out _ _ aF.out (fun _=>trivial) ?_;clear hK K;try simp only[Act.put,Zd,Ze,Zf]
 refine wU (i:=8) aF.out ?_;refine wU (i:=9) aF.out ?_;refine wU (i:=10) aF.out ?_;refine wU (i:=11) aF.out ?_;refine wU (i:=12) aF.out ?_;refine wO (i:=13) (fun K hK=> ?_);refine Xz rfl 30 (.tmp 91) (.tmp 88) rfl P 45 v4 (by first|rfl|simp[Act.eval]) (by first|rfl|simp[Act.eval]) (sx.out.pe.there 45 1 (by omega)) (by kernel_rfl) bV.out ?_;have mU:Xl (fun k=>k≠P) mP (mP.setCell ⟨P,45,none⟩ v4):=YK _ P 45 _;obtain⟨y4,pa⟩: ∃ y:PeV,{ y3 with bo:=v4 }=y:=⟨_,rfl⟩;have bN:=sx.out.wrote HP.out (y':=y4) mU (by rw[<-pa]; exact sx.out.pe.bo v4) (by rw[<-pa]) (by rw[<-pa]);have fy:P<D:=by rw[<-kv.out]; exact HP.out
 have dp:=Zg (dp.out.wrote fy mU);have aO:=Zg (aO.out.wrote fy mU);have bM:=Zg (bM.out.wrote fy mU);have dY:=Zg (dY.out.wrote fy mU);have fV:=Zg (fV.out.wrote fy mU);generalize mP.setCell ⟨P,45,none⟩ v4=p' at *;have lq:=Zg bN;have bY:=Zg (show p'.cell? ⟨P,39,none⟩=some x.img/\(∀ i,i<16->p'.rangeAt D (2 * i) [.int .i64 (rv i),.int .i64 (sz i)])/\p'.cell? ⟨P,0,none⟩=some (.int .u64 base) from⟨bN.img39,fun i hi=>bN.dir i hi,bN.base0 ff.out⟩);have me:=Zg pa;clear bN mU fy pa aF sx;refine hK.out _ _ bY.out (fun _=>trivial) ?_;clear hK K;try simp only[Act.put,Zd,Ze,Zf]
 refine wU (i:=14) bY.out ?_;refine Zo (by kernel_rfl) ?_ _;refine NoPanic.normal ?_;clear bY;by_cases jt: ¬ eB=0
 ·have cV:=Zfq eE eI eR eT eB eD eP eQ fP gP jt;have eC:=Zg (And.intro cV (show ¬ ZL eE eI eR eT eB eD=0 from by rw[cV]; exact jt));have fO:(eB == 0)=false:=beq_eq_false_iff_ne.2 jt;clear cV eP eQ fP gP jt;go_wp2_with fail
  go_ret;exact⟨by rw[eC.out.1]; rfl,lq.out.kept,fun h=>absurd h eC.out.2⟩
 replace jt:eB=0:=Decidable.not_not.1 jt;go_upto_region 18 with(fail)
 have HS:=Zg (show p'.drew.cell? ⟨P,39,none⟩=some x.img/\(∀ i,i<16->p'.drew.rangeAt D (2 * i) [.int .i64 (rv i),.int .i64 (sz i)])/\p'.drew.cell? ⟨P,0,none⟩=some (.int .u64 base) from⟨lq.out.drew.img39,fun i hi=>lq.out.drew.dir i hi,lq.out.drew.base0 ff.out⟩);refine wp_region_noPanic ?_;refine Zt (fun W=>W.cell? ⟨P,39,none⟩=some x.img/\(∀ i,i<16->W.rangeAt D (2 * i) [.int .i64 (rv i),.int .i64 (sz i)])/\W.cell? ⟨P,0,none⟩=some (.int .u64 base)) (fun _=>True) 99 (by kernel_rfl) ?_;refine wU (i:=0) HS.out ?_;refine wU (i:=1) HS.out ?_;refine wU (i:=2) HS.out ?_;refine wU (i:=3) HS.out ?_;refine wU (i:=4) HS.out ?_ (hy:=by refine Or.inl ⟨by rfl,?_⟩; intro W aL; have hq:=aL.1; clear aL; go_simp; try with_reducible rfl);refine wU (i:=5) HS.out ?_;refine wT (i:=6) (oi:= ?_) (v:= ?_) ?_ ?_ HS.out ?_;rotate_left 2
 ·(simp only[Za,Zb,Zc]; rfl)
 ·refine yieldsIf_load_mid ?_ 37 (.tmp 101) ?_ D 26 ?_ [.int .i64 (rv 13),.int .i64 (sz 13)] _ ?_ Tryz.underlying37 ?_ ?_
  ·rfl
  ·rfl
  ·first|rfl|simp[Act.eval]
  ·exact fun W hW=>hW.2.1 13 (by omega)
  ·rfl
  ·rfl
 try simp only[Act.put,Zd,Ze,Zf]
 refine wO (i:=7) (fun K hK=> ?_);go_simp;go_at_call 84;refine(HD.out p'.drew lq.out.drew.kept lq.out.drew.kept.size).mono ?_;rintro e tW ⟨v5,rfl,gG,cm,nO⟩;have bN:=lq.out.drew.below cm;have sA:=Zg bN;have aF:=Zg (show tW.cell? ⟨P,39,none⟩=some x.img/\(∀ i,i<16->tW.rangeAt D (2 * i) [.int .i64 (rv i),.int .i64 (sz i)])/\tW.cell? ⟨P,0,none⟩=some (.int .u64 base) from⟨bN.img39,fun i hi=>bN.dir i hi,bN.base0 ff.out⟩);have vV:=Zg (show ZE D (SD v5) tW from nO.less (by rw[<-kv.out]; exact lq.out.drew.kept.size));have cx:=Zg gG;have dp:=Zg ((dp.out.below (Below.refl _ _).drew).below cm);have aO:=Zg ((aO.out.below (Below.refl _ _).drew).below cm);have bM:=Zg ((bM.out.below (Below.refl _ _).drew).below cm);have dY:=Zg ((dY.out.below (Below.refl _ _).drew).below cm);have fV:=Zg ((fV.out.below (Below.refl _ _).drew).below cm);clear bN nO gG cm HS;refine hK.out _ _ aF.out (fun _=>trivial) ?_;clear hK K;try simp only[Act.put,Zd,Ze,Zf]
 refine wU (i:=8) aF.out ?_;refine wU (i:=9) aF.out ?_;refine wU (i:=10) aF.out ?_;refine wU (i:=11) aF.out ?_;refine wU (i:=12) aF.out ?_;refine wO (i:=13) (fun K hK=> ?_);refine Xz rfl 46 (.tmp 107) (.tmp 104) rfl P 44 v5 (by first|rfl|simp[Act.eval]) (by first|rfl|simp[Act.eval]) (sA.out.pe.there 44 1 (by omega)) (by kernel_rfl) cx.out ?_;have lr:Xl (fun k=>k≠P) tW (tW.setCell ⟨P,44,none⟩ v5):=YK _ P 44 _;obtain⟨y5,qj⟩: ∃ y:PeV,{ y4 with de:=v5 }=y:=⟨_,rfl⟩;have bN:=sA.out.wrote HP.out (y':=y5) lr (by rw[<-qj]; exact sA.out.pe.de v5) (by rw[<-qj]) (by rw[<-qj]);have fy:P<D:=by rw[<-kv.out]; exact HP.out
 have dp:=Zg (dp.out.wrote fy lr);have aO:=Zg (aO.out.wrote fy lr);have bM:=Zg (bM.out.wrote fy lr);have dY:=Zg (dY.out.wrote fy lr);have fV:=Zg (fV.out.wrote fy lr);have vV:=Zg (vV.out.wrote fy lr);generalize tW.setCell ⟨P,44,none⟩ v5=CR at *;have sB:=Zg bN;have bY:=Zg (show CR.cell? ⟨P,39,none⟩=some x.img/\(∀ i,i<16->CR.rangeAt D (2 * i) [.int .i64 (rv i),.int .i64 (sz i)])/\CR.cell? ⟨P,0,none⟩=some (.int .u64 base) from⟨bN.img39,fun i hi=>bN.dir i hi,bN.base0 ff.out⟩);have gQ:=Zg qj;clear bN lr fy qj aF sA;refine hK.out _ _ bY.out (fun _=>trivial) ?_;clear hK K;try simp only[Act.put,Zd,Ze,Zf]
 refine wU (i:=14) bY.out ?_;refine Zo (by kernel_rfl) ?_ _;refine NoPanic.normal ?_;clear bY;have cV:=Zas eE eI eR eT eB eD eP eQ fP gP jt;have eC:=Zg cV;have HE:=Zg (show eE=0/\eI=0/\eR=0/\eT=0/\eB=0 from⟨eP,eQ,fP,gP,jt⟩);clear cV eP eQ fP gP jt;go_wp2_with fail
 go_ret;refine⟨by rw[eC.out]; rfl,sB.out.kept,fun _=>⟨y5,sB.out.pe,sB.out.hd,sB.out.img,?_,?_,?_,?_,?_,?_,?_⟩⟩
 ·rw[kv.out,<-gQ.out,<-me.out,<-oz.out,<-rh.out,<-cK.out,<-zD.out]; exact dp.out
 ·rw[kv.out,<-gQ.out,<-me.out,<-oz.out,<-rh.out,<-cK.out]; exact aO.out
 ·rw[kv.out,<-gQ.out,<-me.out,<-oz.out,<-rh.out]; exact bM.out
 ·rw[kv.out,<-gQ.out,<-me.out,<-oz.out]; exact dY.out
 ·rw[kv.out,<-gQ.out,<-me.out]; exact fV.out
 ·rw[kv.out,<-gQ.out]; exact vV.out
 ·rw[<-gQ.out,<-me.out,<-oz.out,<-rh.out,<-cK.out,<-zD.out]; exact⟨ft.out,cW.out,bQ.out,cT.out,bV.out,cx.out⟩
def peZ:PeV:=⟨fun j=>if j=0 then .int .u64 0 else if j=38 then .slice none 0 0 else .int .i64 0,.slice none 0 0,.int .i64 0,.slice none 0 0,.slice none 0 0,.slice none 0 0,.slice none 0 0,.slice none 0 0,.slice none 0 0,.bool false,.int .i64 0,.slice none 0 0⟩
def peC (x:PeV):Array Value:=((List.range 50).map (peF x)).toArray
theorem Xs:(#[.int .u64 0,.int .i64 0,.int .i64 0,.int .i64 0,.int .i64 0,.int .i64 0,.int .i64 0,.int .i64 0,.int .i64 0,.int .i64 0,.int .i64 0,.int .i64 0,.int .i64 0,.int .i64 0,.int .i64 0,.int .i64 0,.int .i64 0,.int .i64 0,.int .i64 0,.int .i64 0,.int .i64 0,.int .i64 0,.int .i64 0,.int .i64 0,.int .i64 0,.int .i64 0,.int .i64 0,.int .i64 0,.int .i64 0,.int .i64 0,.int .i64 0,.int .i64 0,.int .i64 0,.int .i64 0,.int .i64 0,.int .i64 0,.int .i64 0,.int .i64 0,.slice none 0 0,.slice none 0 0,.int .i64 0,.slice none 0 0,.slice none 0 0,.slice none 0 0,.slice none 0 0,.slice none 0 0,.slice none 0 0,.bool false,.int .i64 0,.slice none 0 0]:Array Value)=peC peZ:=by kernel_rfl
theorem Zu (x:PeV):(peC x).size=50:=by simp[peC]
theorem Yv (x:PeV) {j:Nat} (h:j<50):(peC x)[j]? =some (peF x j):=by simp[peC,h]
theorem Wh:(peC peZ).all (·.oneCell')=true:=by kernel_rfl
def pe0 (hd:Nat->Value) (img:Value):PeV:={ peZ with hd:=hd,img:=img }
theorem Zat (hd:Nat->Value) (p:Option Addr) (n c:Nat):Tryz.prog.built 50 [(0,.agg ((List.range 39).map hd).toArray),(1,.slice p n c)]=some (peC (pe0 hd (.slice p n c))):=by kernel_rfl
theorem VC (sl:Value) (er:Int) (he:er≠0) (w:World) (hc: ∀ W,Below w.heap.size w W->Calls Tryz.prog 23 #[sl] W fun x u=>(∃ cs,x= .returned (.tuple #[.agg cs,.int .i64 er])/\YR cs Ul (.slice none 0 0))/\Below W.heap.size W u) :
 Calls Tryz.prog 11 #[sl] w fun x u=>x= .returned (.tuple #[.agg (peC peZ),.int .i64 er])/\Below w.heap.size w u:=by
 have HC:=Zg hc;have au:=Zg ((Below.refl w.heap.size w).alloc (Nat.le_refl _) (.cells (peC peZ) 50));have hZ:=heap_alloc_new w (.cells (peC peZ) 50);have cY:(w.alloc (.cells (peC peZ) 50)).heap.size=w.heap.size+1:=by simp
 have e1:(er != 0)=true:=by simpa using he
 clear hc;go_enter Tryz.func11,Tryz.ntmps11;go_wp2_with fail
 rw[Xs];generalize w.alloc (.cells (peC peZ) 50)=w1 at hZ au cY ⊢;refine(HC.out w1 au.out).mono ?_;rintro e w2 ⟨⟨cs,rfl,hv⟩,hb⟩;have oA:=(hb.block w.heap.size (by omega)).trans hZ;have aj:=Zg (au.out.trans (hb.mono (by omega)));have af:w.heap.size<w2.heap.size:=by have:=hb.size; omega
 have aZ:=hv.one rfl;have iH:=hv.size;clear hZ hb hv au cY HC;have aT:(Tryz.prog.info? 41).map (·.size)=some cs.size:=by rw[iH]; kernel_rfl
 have fp:(Zl 0 0 0 0 0 0).size=cs.size:=by rw[iH]; kernel_rfl
 have zV:=(setRow_other (w2.alloc (.cells (Zl 0 0 0 0 0 0) 41)) w2.heap.size w.heap.size cs (by omega)).trans ((heap_alloc_old w2 (.cells (Zl 0 0 0 0 0 0) 41) af).trans oA);have aN:=Zg (below_setRow (aj.out.alloc aj.out.size (.cells (Zl 0 0 0 0 0 0) 41)) aj.out.size cs);have eX:=Zg zV;clear iH oA aj af zV;go_wp2_with (first
  | (refine wpList_store_row rfl 41 (.tmp 4) (.tmp 11) rfl w2.heap.size cs rfl rfl 41 (Zl 0 0 0 0 0 0) (heap_alloc_new _ _) aT fp aZ ?_; rw[Yh]; generalize (w2.alloc (.cells (Zl 0 0 0 0 0 0) 41)).setRow w2.heap.size cs=w3 at *)
  | (refine wpList_store_row rfl 50 (.tmp 2) (.tmp 15) rfl w.heap.size _ rfl rfl 50 (peC peZ) eX.out (by kernel_rfl) (Zu _) (by kernel_rfl) ?_; rw[Xs]))
 exact bodyPost_ret (v:= .tuple #[.agg (peC peZ),.int .i64 er]) (Zj rfl _ _ w.heap.size 50 _ (0,0) _ _ rfl rfl (setRow_heap _ _ _ _ _ _ eX.out) Tryz.underlying50 rfl (by rw[Zu]; kernel_rfl)) rfl ⟨rfl,below_setRow aN.out (Nat.le_refl _) _⟩
structure HeadK (w:World) (sl:Value) (N:Nat) (IM:Nat->Int) (HG:World->Array Value->Prop) (rv sz:Nat->Int) (base:Int):Prop where
 parse: ∀ W,Below w.heap.size w W->Calls Tryz.prog 23 #[sl] W fun x u=>(∃ cs,x= .returned (.tuple #[.agg cs,.int .i64 0])/\HG u cs)/\Below W.heap.size W u
 sized: ∀ u cs,HG u cs->cs.size=39/\cs.all (·.oneCell')=true
 stays: ∀ u u' cs,HG u cs->Below u.heap.size u u'->HG u' cs
 lay: ∀ W cs,Below w.heap.size w W->HG W cs->Calls Tryz.prog 24 #[.agg cs,sl] W fun x u=> ∃ gi,x= .returned (.slice (some ⟨gi,0,none⟩) N N)/\YA u W.heap.size gi N N IM/\Below W.heap.size W u
 dirs: ∀ u cs,HG u cs-> ∀ i,i<16->cs[6+2 * i]? =some (.int .i64 (rv i))/\cs[6+2 * i+1]? =some (.int .i64 (sz i))
 base0: ∀ u cs,HG u cs->cs[0]? =some (.int .u64 base)
def VX (w:World) (N:Nat) (IM:Nat->Int) (fn:Nat) (rest:List Value) (er:Int) (S:Nat->Value->World->Prop):Prop :=
 ∀ W gi P,YA W w.heap.size gi N N IM->Below w.heap.size w W->P<W.heap.size->gi≠P->Zci fn (.slice (some ⟨gi,0,none⟩) N N::rest).toArray P W er (S gi)
def Qy (w:World) (N:Nat) (IM:Nat->Int) (fn:Nat) (rest:List Value) (er:Int) (S:Nat->Value->Value->Value->World->Prop):Prop :=
 ∀ W gi P,YA W w.heap.size gi N N IM->Below w.heap.size w W->P<W.heap.size->gi≠P->Zje fn (.slice (some ⟨gi,0,none⟩) N N::rest).toArray P W er (S gi)
theorem Ku (cs:Array Value) (n:Nat) (h:cs.size=n):((List.range n).map (fun j=>cs.getD j undef)).toArray=cs:=by
 apply Array.ext
 ·simp[h]
 ·intro i h1 h2;simp[h2]
theorem Uz {w:World} {g:Nat} {x:PeV} (h:w.heap[g]? =some (.cells (peC x) 50 (0,0))):VB w g x :=
 ⟨Zi h,fun i hi=>⟨by rw[Zh h,Yv x hi],by simp[World.frozen?,h]⟩⟩
theorem Zd0 {hd:Nat->Value} {im:Value} (h: ∀ j,j<39->(hd j).oneCell'=true) (hi:im.oneCell'=true):(peC (pe0 hd im)).all (·.oneCell')=true:=by
 refine all_oneCell_toArray (fun v hv=> ?_);obtain⟨j,hj,rfl⟩:=List.mem_map.mp hv;have hj:=List.mem_range.1 hj;by_cases c:j<39
 ·rw[JJ _ c]; exact h j c
 ·rcases(by omega:j=39\/j=40\/j=41\/j=42\/j=43\/j=44\/j=45\/j=46\/j=47\/j=48\/j=49) with rfl|rfl|rfl|rfl|rfl|rfl|rfl|rfl|rfl|rfl|rfl
  ·exact hi
  all_goals rfl
inductive Zck (w:World) (N:Nat) (IM:Nat->Int) (HG:World->Array Value->Prop) (FE:Int) (SE:Nat->Value->Value->Value->World->Prop) (SI SR:Nat->Value->World->Prop) (ST:Nat->Value->Value->Value->World->Prop) (SB SD:Nat->Value->World->Prop):Ending->World->Prop
 | bad {u:World} (h: ¬ FE=0):Zck w N IM HG FE SE SI SR ST SB SD (.returned (.tuple #[.agg (peC peZ),.int .i64 FE])) u
 | good {u:World} (h:FE=0) (y:PeV) (cs:Array Value) (gi W:Nat) (hk: ∃ wb,HG wb cs/\wb.heap[w.heap.size]? =some (.cells (peC peZ) 50 (0,0))/\Xl (fun k=>k<wb.heap.size/\k≠w.heap.size) wb u) (hh: ∀ j,j<39->cs[j]? =some (y.hd j)) (hi:y.img= .slice (some ⟨gi,0,none⟩) N N) (ho:YA u w.heap.size gi N N IM) (hW:w.heap.size<=W)
    (lE:ZE W (SE gi y.e0 y.e1 y.e2) u) (lI:ZE W (SI gi y.im) u) (lR:ZE W (SR gi y.re) u) (lT:ZE W (ST gi y.t0 y.t1 y.t2) u) (lB:ZE W (SB gi y.bo) u) (lD:ZE W (SD gi y.de) u) :
    Zck w N IM HG FE SE SI SR ST SB SD (.returned (.tuple #[.agg (peC y),.int .i64 0])) u
theorem Vr {P:Program} {ops:Array Oper} {T:World->Prop} {o:Oper} {a:Act} (t:TypeId) (parts:Array (Nat × Operand)) (l:List (Nat × Value)) (cells:Array Value) (eu:o.guard=none) (ho:o.op= .build t parts)
 (hl:(parts.map fun(i,x)=>(i,a.eval x)).toList=l) (hf:P.built t l=some cells):YieldsIf P ops T o (.agg cells) a:=by
 subst hl;refine Or.inl ⟨by simp[Region.wanted,eu],fun w hw=> ?_⟩;unfold execOp;simp only[ho,Sem.run_bind,run_build w t _ cells hf,Result.andThen_ok];rfl
def Zjf (w:World) (N:Nat) (IM:Nat->Int) (HG:World->Array Value->Prop) (cs:Array Value) (HD:Nat->Value) (v:Value) (W:World):Prop :=
 ∃ P gi,v= .pointer (some ⟨P,0,none⟩)/\VB W P (pe0 HD (.slice (some ⟨gi,0,none⟩) N N))/\YA W w.heap.size gi N N IM/\Below w.heap.size w W/\w.heap.size<P/\w.heap.size<gi/\gi≠P/\(∃ wb,HG wb cs/\Below wb.heap.size wb W/\wb.heap.size<=P/\wb.heap[w.heap.size]? =some (.cells (peC peZ) 50 (0,0)))/\W.heap[w.heap.size]? =some (.cells (peC peZ) 50 (0,0))
theorem Zlz {cs:Array Value} (h:cs.size=39) (h1:cs.all (·.oneCell')=true) {j:Nat} (hj:j<39):(cs.getD j undef).oneCell'=true:=by
 have:=Array.all_eq_true_iff_forall_mem.1 h1 (cs.getD j undef) (by simp[Array.getD,h,hj]);exact this
theorem YA.setRow {w:World} {b g n c:Nat} {f:Nat->Int} (h:YA w b g n c f) {P:Nat} (hn:g≠P) (cells:Array Value):YA (w.setRow P cells) b g n c f:=h.of_block (by simp[World.setRow]) (setRow_other w P g cells hn)
theorem Zau (y:PeV) (h: ∀ j,j<39->(y.hd j).oneCell'=true) (hi:y.img.oneCell'=true) (ho:(y.e0.oneCell'=true/\y.e1.oneCell'=true/\y.e2.oneCell'=true)/\y.im.oneCell'=true/\y.re.oneCell'=true/\(y.t0.oneCell'=true/\y.t1.oneCell'=true/\y.t2.oneCell'=true)/\y.bo.oneCell'=true/\y.de.oneCell'=true):(peC y).all (·.oneCell')=true:=by
 obtain⟨⟨h0,h1,h2⟩,h3,h4,⟨h5,h6,h7⟩,h8,h9⟩:=ho;refine all_oneCell_toArray (fun v hv=> ?_);obtain⟨j,hj,rfl⟩:=List.mem_map.mp hv;have hj:=List.mem_range.1 hj;by_cases c:j<39
 ·rw[JJ _ c]; exact h j c
 ·rcases(by omega:j=39\/j=40\/j=41\/j=42\/j=43\/j=44\/j=45\/j=46\/j=47\/j=48\/j=49) with rfl|rfl|rfl|rfl|rfl|rfl|rfl|rfl|rfl|rfl|rfl
  ·exact hi
  ·exact h0
  ·exact h1
  ·exact h2
  ·exact h3
  ·exact h9
  ·exact h8
  ·exact h4
  ·exact h5
  ·exact h6
  ·exact h7
theorem Xl.setRow_ne (w:World) (g:Nat) (cs:Array Value):Xl (fun k=>k≠g) w (w.setRow g cs):=⟨rfl,rfl,rfl,by simp[World.setRow],fun k hk=>setRow_other w g k cs hk⟩
theorem UL (sl:Value) (N:Nat) (IM:Nat->Int) (HG:World->Array Value->Prop) (rv sz:Nat->Int) (base:Int) (w:World) (hk:HeadK w sl N IM HG rv sz base)
 (eE eI eR eT eB eD:Int) (SE:Nat->Value->Value->Value->World->Prop) (SI SR:Nat->Value->World->Prop) (ST:Nat->Value->Value->Value->World->Prop) (SB SD:Nat->Value->World->Prop)
 (hE:Qy w N IM 79 [.agg #[.int .i64 (rv 0),.int .i64 (sz 0)]] eE SE)
 (hI:VX w N IM 80 [.agg #[.int .i64 (rv 1),.int .i64 (sz 1)]] eI SI)
 (hR:VX w N IM 81 [.agg #[.int .i64 (rv 5),.int .i64 (sz 5)]] eR SR)
 (hT:Qy w N IM 82 [.agg #[.int .i64 (rv 9),.int .i64 (sz 9)],.int .u64 base] eT ST)
 (hB:VX w N IM 83 [.agg #[.int .i64 (rv 11),.int .i64 (sz 11)]] eB SB)
 (hD:VX w N IM 84 [.agg #[.int .i64 (rv 13),.int .i64 (sz 13)]] eD SD) :
 Calls Tryz.prog 11 #[sl] w fun x u=>Below w.heap.size w u/\Zck w N IM HG (ZL eE eI eR eT eB eD) SE SI SR ST SB SD x u:=by
 obtain⟨FE,Fb⟩: ∃ FE,ZL eE eI eR eT eB eD=FE:=⟨_,rfl⟩;rw[Fb];have eC:=Zg Fb;clear Fb;have HK:=Zg hk;have cp:=Zg hE;have IC:=Zg hI;have kL:=Zg hR;have CA:=Zg hT;have fi:=Zg hB;have gV:=Zg hD;have au:=Zg ((Below.refl w.heap.size w).alloc (Nat.le_refl _) (.cells (peC peZ) 50));have hZ:=heap_alloc_new w (.cells (peC peZ) 50);have cY:(w.alloc (.cells (peC peZ) 50)).heap.size=w.heap.size+1:=by simp
 clear hk hE hI hR hT hB hD;go_enter Tryz.func11,Tryz.ntmps11;go_wp2_with fail
 rw[Xs];generalize w.alloc (.cells (peC peZ) 50)=w1 at hZ au cY ⊢;refine(HK.out.parse w1 au.out).mono ?_;rintro e w2 ⟨⟨cs,rfl,hg⟩,hb⟩;have oA:=(hb.block w.heap.size (by omega)).trans hZ;have aj:=Zg (au.out.trans (hb.mono (by omega)));have af:w.heap.size<w2.heap.size:=by have:=hb.size; omega
 obtain⟨iH,aZ⟩:=HK.out.sized _ _ hg;have aT:(Tryz.prog.info? 41).map (·.size)=some cs.size:=by rw[iH]; kernel_rfl
 have fp:(Zl 0 0 0 0 0 0).size=cs.size:=by rw[iH]; kernel_rfl
 have eX:=Zg ((setRow_other (w2.alloc (.cells (Zl 0 0 0 0 0 0) 41)) w2.heap.size w.heap.size cs (by omega)).trans ((heap_alloc_old w2 (.cells (Zl 0 0 0 0 0 0) 41) af).trans oA));have gu:Below w2.heap.size w2 ((w2.alloc (.cells (Zl 0 0 0 0 0 0) 41)).setRow w2.heap.size cs):=below_setRow ((Below.refl _ w2).alloc (Nat.le_refl _) _) (Nat.le_refl _) _;have aN:=Zg (aj.out.trans (gu.mono aj.out.size));have cj:=Zg (HK.out.stays _ _ _ hg gu);have ri:=Zg (setRow_heap (w2.alloc (.cells (Zl 0 0 0 0 0 0) 41)) w2.heap.size _ cs _ _ (heap_alloc_new _ _));have tn:=Zg iH;have cM:=Zg af;have jm:=Zg aZ;clear iH oA aj af hZ hb cY au hg gu;go_upto_region 4 with(first
  | (refine wpList_store_row rfl 41 (.tmp 4) (.tmp 11) rfl w2.heap.size cs rfl rfl 41 (Zl 0 0 0 0 0 0) (heap_alloc_new _ _) aT fp aZ ?_; rw[Yh]; generalize (w2.alloc (.cells (Zl 0 0 0 0 0 0) 41)).setRow w2.heap.size cs=w3 at *; generalize w2.heap.size=gh at *)
  | fail)
 obtain⟨HD,Fc⟩: ∃ HD:Nat->Value,(fun j=>cs.getD j undef)=HD:=⟨_,rfl⟩;have oZ:=Zg (show((List.range 39).map HD).toArray=cs/\ ∀ j,j<39->(HD j).oneCell'=true from⟨by rw[<-Fc]; exact Ku cs 39 tn.out,fun j hj=>by rw[<-Fc]; exact Zlz tn.out jm.out hj⟩);clear Fc;go_cut [6] from 8 (fun v6 wc=>Zjf w N IM HG cs HD v6 wc)
 case first =>
  rename_i J1 K1 kQ jG;have oQ:=Zg kQ;have jF:=Zg jG;have bH:=Zg aN.out.drew;have dH:=Zg (HK.out.stays _ _ _ cj.out ((Below.refl _ w3).drew));have E9:=Zg (show gh<w3.drew.heap.size from Zi (ri.out:w3.drew.heap[gh]? =_));clear kQ jG;have HS:=Zg (show w3.drew.heap[gh]? =some (.cells cs 41 (0,0)) from ri.out);refine wp_region_noPanic ?_;refine Zt (fun W=>W.heap[gh]? =some (.cells cs 41 (0,0))) (fun _=>True) 99 (by kernel_rfl) ?_;refine wT (i:=0) (oi:= ?_) (v:= ?_) ?_ ?_ HS.out ?_;rotate_left 2
  ·(simp only[Za,Zb,Zc]; rfl)
  ·refine Wr 41 (.tmp 4) gh 41 cs (0,0) ?_ ?_ ?_ (fun W hW=>hW) ?_ aT
   ·rfl
   ·rfl
   ·rfl
   ·kernel_rfl
  try simp only[Act.put,Zd,Ze,Zf]
  refine wT (i:=1) (oi:= ?_) (v:= ?_) ?_ ?_ HS.out ?_;rotate_left 2
  ·(simp only[Za,Zb,Zc]; rfl)
  ·refine Wr 41 (.tmp 4) gh 41 cs (0,0) ?_ ?_ ?_ (fun W hW=>hW) ?_ aT
   ·rfl
   ·rfl
   ·rfl
   ·kernel_rfl
  try simp only[Act.put,Zd,Ze,Zf]
  refine wU (i:=2) HS.out ?_;have nU:=Zg (show w3.drew.heap[w.heap.size]? =_ from eX.out);generalize w3.drew=w4 at *;refine XM (i:=3) (j:=5) (by kernel_rfl) rfl rfl (fun K hK=> ?_) (fun K hK=> ?_)
  ·skip
   go_simp;go_at_call 24;refine(HK.out.lay w4 cs bH.out dH.out).mono ?_;rintro e w5 ⟨gi,rfl,ho,hb⟩;have hle:=bH.out.size;have uq:=cM.out;have gF:=Zg ((hb.block gh E9.out).trans HS.out);have bp:=Zg (bH.out.trans (hb.mono hle));have dX:=Zg (HK.out.stays _ _ _ dH.out hb);have fW:=Zg ((hb.block w.heap.size (Zi nU.out)).trans nU.out);have cx:=Zg (ho.weaken (Nat.succ_le_of_lt (Zi nU.out)));clear ho hb hle uq;refine hK.out _ _ gF.out (fun _=>trivial) ?_;clear hK K;try simp only[Act.put,Zd,Ze,Zf]
   refine wT (i:=4) (oi:= ?_) (v:= ?_) ?_ ?_ gF.out ?_;rotate_left 2
   ·(simp only[Za,Zb,Zc]; rfl)
   ·refine Vr 50 #[(0,.tmp 17),(1,.tmp 20)] [(0,.agg cs),(1,.slice (some ⟨gi,0,none⟩) N N)] (peC (pe0 HD (.slice (some ⟨gi,0,none⟩) N N))) ?_ ?_ ?_ ?_
    ·rfl
    ·rfl
    ·simp[Act.eval]
    ·have h:=Zat HD (some ⟨gi,0,none⟩) N N;rw[oZ.out.1] at h;exact h
   try simp only[Act.put,Zd,Ze,Zf]
   refine wO (i:=5) (fun K hK=> ?_);go_simp;rw[Xs];have hb:Below w5.heap.size w5 (w5.alloc (.cells (peC peZ) 50)):=(Below.refl _ w5).alloc (Nat.le_refl _) _;have ld:=Zg ((hb.block gh (Zi gF.out)).trans gF.out);have cU:=Zg (bp.out.trans (hb.mono bp.out.size));have zW:=Zg ((hb.block w.heap.size (Zi fW.out)).trans fW.out);have dk:=Zg (cx.out.below hb);obtain⟨P,hP⟩: ∃ P,w5.heap.size=P:=⟨_,rfl⟩;have qZ:=Zg (show(w5.alloc (.cells (peC peZ) 50)).heap[P]? =some (.cells (peC peZ) 50) from by rw[<-hP]; exact heap_alloc_new w5 (.cells (peC peZ) 50));have oB:=Zg (show w.heap.size<P/\gi≠P/\gh≠P from by rw[<-hP]; exact⟨Zi fW.out,Nat.ne_of_lt cx.out.lt,Nat.ne_of_lt (Zi gF.out)⟩);have mN:=Zg (show HG w5 cs/\Below w5.heap.size w5 (w5.alloc (.cells (peC peZ) 50))/\w5.heap.size<=P/\w5.heap[w.heap.size]? =some (.cells (peC peZ) 50 (0,0)) from⟨dX.out,hb,Nat.le_of_eq hP,fW.out⟩);simp only[hP];generalize w5.alloc (.cells (peC peZ) 50)=w6 at *;clear hb hP;refine hK.out _ _ ld.out (fun _=>trivial) ?_;clear hK K;try simp only[Act.put,Zd,Ze,Zf]
   refine wO (i:=6) (fun K hK=> ?_);refine Yd rfl 50 (.tmp 6) (.tmp 21) rfl P (peC (pe0 HD (.slice (some ⟨gi,0,none⟩) N N))) rfl rfl 50 (peC peZ) qZ.out (by rw[Zu]; kernel_rfl) (by rw[Zu,Zu]) (Zd0 (fun j hj=>oZ.out.2 j hj) rfl) ?_;have E':=Zg ((setRow_other w6 P gh (peC (pe0 HD (.slice (some ⟨gi,0,none⟩) N N))) oB.out.2.2).trans ld.out);have Fa:=Zg (show Zjf w N IM HG cs HD (.pointer (some ⟨P,0,none⟩)) (w6.setRow P (peC (pe0 HD (.slice (some ⟨gi,0,none⟩) N N)))) from
    ⟨P,gi,rfl,Uz (setRow_heap w6 P _ (peC (pe0 HD (.slice (some ⟨gi,0,none⟩) N N))) _ _ qZ.out),(dk.out.weaken (Nat.le_succ _)).setRow oB.out.2.1 _,below_setRow cU.out (Nat.le_of_lt oB.out.1) _,oB.out.1,dk.out.le,oB.out.2.1,⟨_,mN.out.1,below_setRow mN.out.2.1 mN.out.2.2.1 _,mN.out.2.2.1,mN.out.2.2.2⟩,(setRow_other w6 P w.heap.size _ (Nat.ne_of_lt oB.out.1)).trans zW.out⟩)
   generalize w6.setRow P (peC (pe0 HD (.slice (some ⟨gi,0,none⟩) N N)))=w7 at *;refine hK.out _ _ E'.out (fun _=>trivial) ?_;clear hK K;try simp only[Act.put,Zd,Ze,Zf]
   refine Zo (by kernel_rfl) ?_ _;refine NoPanic.normal ?_;refine jF.out _ _ ?_;refine Met.intro (oQ.out _ _ ?_);repeat apply Exists.intro
   exact⟨Fa.out,rfl⟩
  ·skip
   go_simp;rw[Xs];have hb:Below w4.heap.size w4 (w4.alloc (.cells (peC peZ) 50)):=(Below.refl _ w4).alloc (Nat.le_refl _) _;have gF:=Zg ((hb.block gh E9.out).trans HS.out);have bp:=Zg (bH.out.trans (hb.mono bH.out.size));have dX:=Zg (HK.out.stays _ _ _ dH.out hb);have fW:=Zg ((hb.block w.heap.size (Zi nU.out)).trans nU.out);obtain⟨P,hP⟩: ∃ P,w4.heap.size=P:=⟨_,rfl⟩;have zX:=Zg (show(w4.alloc (.cells (peC peZ) 50)).heap[P]? =some (.cells (peC peZ) 50) from by rw[<-hP]; exact heap_alloc_new w4 (.cells (peC peZ) 50));have ID:=Zg (show w.heap.size<P/\gh≠P from by rw[<-hP]; exact⟨Zi nU.out,Nat.ne_of_lt E9.out⟩);have gn:=Zg (show HG w4 cs/\Below w4.heap.size w4 (w4.alloc (.cells (peC peZ) 50))/\w4.heap.size<=P/\w4.heap[w.heap.size]? =some (.cells (peC peZ) 50 (0,0)) from⟨dH.out,hb,Nat.le_of_eq hP,nU.out⟩);simp only[hP];generalize w4.alloc (.cells (peC peZ) 50)=w5 at *;clear hb hP;refine hK.out _ _ gF.out (fun _=>trivial) ?_;clear hK K;try simp only[Act.put,Zd,Ze,Zf]
   refine wO (i:=3) (fun K hK=> ?_);go_simp;go_at_call 24;refine(HK.out.lay w5 cs bp.out dX.out).mono ?_;rintro e w6 ⟨gi,rfl,ho,hb⟩;have hle:=bp.out.size;have uq:=cM.out;have ld:=Zg ((hb.block gh (Zi gF.out)).trans gF.out);have cU:=Zg (bp.out.trans (hb.mono hle));have zW:=Zg ((hb.block w.heap.size (Zi fW.out)).trans fW.out);have qZ:=Zg ((hb.block P (Zi zX.out)).trans zX.out);have mN:=Zg (show HG w4 cs/\Below w4.heap.size w4 w6/\w4.heap.size<=P/\w4.heap[w.heap.size]? =some (.cells (peC peZ) 50 (0,0)) from⟨gn.out.1,gn.out.2.1.trans (hb.mono gn.out.2.1.size),gn.out.2.2.1,gn.out.2.2.2⟩);have dk:=Zg (ho.weaken (Nat.succ_le_of_lt (Zi fW.out)));have oB:=Zg (show w.heap.size<P/\gi≠P/\gh≠P from⟨ID.out.1,fun e=>by have:=ho.le; have:=Zi zX.out; omega,ID.out.2⟩);clear ho hb hle uq;refine hK.out _ _ ld.out (fun _=>trivial) ?_;clear hK K;try simp only[Act.put,Zd,Ze,Zf]
   refine wT (i:=4) (oi:= ?_) (v:= ?_) ?_ ?_ ld.out ?_;rotate_left 2
   ·(simp only[Za,Zb,Zc]; rfl)
   ·refine Vr 50 #[(0,.tmp 17),(1,.tmp 20)] [(0,.agg cs),(1,.slice (some ⟨gi,0,none⟩) N N)] (peC (pe0 HD (.slice (some ⟨gi,0,none⟩) N N))) ?_ ?_ ?_ ?_
    ·rfl
    ·rfl
    ·simp[Act.eval]
    ·have h:=Zat HD (some ⟨gi,0,none⟩) N N;rw[oZ.out.1] at h;exact h
   try simp only[Act.put,Zd,Ze,Zf]
   refine wO (i:=6) (fun K hK=> ?_);refine Yd rfl 50 (.tmp 6) (.tmp 21) rfl P (peC (pe0 HD (.slice (some ⟨gi,0,none⟩) N N))) rfl rfl 50 (peC peZ) qZ.out (by rw[Zu]; kernel_rfl) (by rw[Zu,Zu]) (Zd0 (fun j hj=>oZ.out.2 j hj) rfl) ?_;have E':=Zg ((setRow_other w6 P gh (peC (pe0 HD (.slice (some ⟨gi,0,none⟩) N N))) oB.out.2.2).trans ld.out);have Fa:=Zg (show Zjf w N IM HG cs HD (.pointer (some ⟨P,0,none⟩)) (w6.setRow P (peC (pe0 HD (.slice (some ⟨gi,0,none⟩) N N)))) from
    ⟨P,gi,rfl,Uz (setRow_heap w6 P _ (peC (pe0 HD (.slice (some ⟨gi,0,none⟩) N N))) _ _ qZ.out),(dk.out.weaken (Nat.le_succ _)).setRow oB.out.2.1 _,below_setRow cU.out (Nat.le_of_lt oB.out.1) _,oB.out.1,dk.out.le,oB.out.2.1,⟨_,mN.out.1,below_setRow mN.out.2.1 mN.out.2.2.1 _,mN.out.2.2.1,mN.out.2.2.2⟩,(setRow_other w6 P w.heap.size _ (Nat.ne_of_lt oB.out.1)).trans zW.out⟩)
   generalize w6.setRow P (peC (pe0 HD (.slice (some ⟨gi,0,none⟩) N N)))=w7 at *;refine hK.out _ _ E'.out (fun _=>trivial) ?_;clear hK K;try simp only[Act.put,Zd,Ze,Zf]
   refine Zo (by kernel_rfl) ?_ _;refine NoPanic.normal ?_;refine jF.out _ _ ?_;refine Met.intro (oQ.out _ _ ?_);repeat apply Exists.intro
   exact⟨Fa.out,rfl⟩
 case rest =>
  obtain⟨P,gi,rfl,hp,ho,hb,hP,uR,bK,kg,hz⟩:=hcut;have HO:=Zg ho;have HB:=Zg hb;have BV:=Zg (And.intro hP (And.intro uR bK));have mN:=Zg kg;have HZ:=Zg hz;have bm: ∀ j,j<39->cs[j]? =some (HD j):=fun j hj=>by rw[<-oZ.out.1]; simp[hj]
  have MN:=Zg bm;obtain⟨wb,ao,_,_,_⟩:=kg;have mD: ∀ i,i<16->HD (6+2 * i)= .int .i64 (rv i)/\HD (6+2 * i+1)= .int .i64 (sz i):=fun i hi=>by
   have h:=HK.out.dirs wb cs ao i hi;rw[bm _ (by omega),bm _ (by omega)] at h;exact⟨Option.some.inj h.1,Option.some.inj h.2⟩
  have bO:HD 0= .int .u64 base:=by
   have h:=HK.out.base0 wb cs ao;rw[bm 0 (by omega)] at h;exact Option.some.inj h
  have lu:=hp.1;have HC:=Zg (Zly wc P (pe0 HD (.slice (some ⟨gi,0,none⟩) N N)) hp rv sz mD base bO eE eI eR eT eB eD (SE gi) (SI gi) (SR gi) (ST gi) (SB gi) (SD gi) (cp.out wc gi P ho hb lu bK) (IC.out wc gi P ho hb lu bK) (kL.out wc gi P ho hb lu bK) (CA.out wc gi P ho hb lu bK) (fi.out wc gi P ho hb lu bK) (gV.out wc gi P ho hb lu bK));have zy:=Zg lu;rw[eC.out] at HC;clear hp ho hb hP uR bK ao mD bO hz lu bm eC cp IC kL CA fi gV aT fp aZ;go_wp2_with fail
  refine HC.out.mono ?_;rintro e w5 ⟨rfl,hk,hq⟩;have fN:=Zg hk;have HQ:=Zg hq;have fW:=Zg ((hk.block w.heap.size ⟨Zi HZ.out,Nat.ne_of_lt BV.out.1⟩).trans HZ.out);have bp:=Zg (HB.out.trans (hk.below (fun k hk=>⟨Nat.lt_of_lt_of_le hk HB.out.size,by have:=BV.out.1; omega⟩)));clear hk hq HC HZ;by_cases cV: ¬ FE=0
  ·have e1:(FE != 0)=true:=by simpa using cV
   go_wp2_with (refine wpList_store_row rfl 50 (.tmp 2) (.tmp 25) rfl w.heap.size _ rfl rfl 50 (peC peZ) fW.out (by kernel_rfl) (Zu _) (by kernel_rfl) ?_; rw[Xs])
   exact bodyPost_ret (v:= .tuple #[.agg (peC peZ),.int .i64 FE]) (Zj rfl _ _ w.heap.size 50 _ (0,0) _ _ rfl rfl (setRow_heap _ _ _ _ _ _ fW.out) Tryz.underlying50 rfl (by rw[Zu]; kernel_rfl)) rfl ⟨below_setRow bp.out (Nat.le_refl _) _,.bad cV⟩
  ·have cV:FE=0:=Decidable.not_not.1 cV;subst cV;obtain⟨y,hy⟩:=HQ.out rfl;have HY:=Zg hy;have lp:w5.rangeAt P 0 ((List.range 50).map (peF y)):=fun j v hv=>by
    have hj:j<50:=by
     rcases Nat.lt_or_ge j 50 with hj|hj
     ·exact hj
     ·simp[hj] at hv
    simp[hj] at hv;subst hv;rw[Nat.zero_add,Own.cell hy.pe hj]
   have vU:=Zg lp;clear lp hy HQ;go_wp2_with (first
    | (refine wpList_load_mid rfl 50 (.tmp 6) rfl P 0 rfl ((List.range 50).map (peF y)) _ vU.out Tryz.underlying50 rfl (by rw[List.length_map,List.length_range]; kernel_rfl) ?_)
    | (refine wpList_store_row rfl 50 (.tmp 2) (.tmp 27) rfl w.heap.size (peC y) rfl rfl 50 (peC peZ) fW.out (by rw[Zu]; kernel_rfl) (by rw[Zu,Zu]) (Zau y (by rw[HY.out.hd]; exact oZ.out.2) (by rw[HY.out.img]; rfl) HY.out.ones) ?_))
   have oN:Xl (fun k=>k≠w.heap.size) w5 (w5.setRow w.heap.size (peC y)):=Xl.setRow_ne w5 w.heap.size (peC y);have xL:=zy.out;have pU: ∃ wb,HG wb cs/\wb.heap[w.heap.size]? =some (.cells (peC peZ) 50 (0,0))/\Xl (fun k=>k<wb.heap.size/\k≠w.heap.size) wb (w5.setRow w.heap.size (peC y)):=by
    obtain⟨wb,g1,g2,g3,g4⟩:=mN.out;have q1:Xl (fun k=>k<wb.heap.size/\k≠w.heap.size) wb wc:=Xl.of_below g2 (fun k hk=>hk.1);have q2:=q1.trans (fN.out.mono (fun k hk=>⟨Nat.lt_of_lt_of_le hk.1 g2.size,by have:=hk.1; omega⟩));exact⟨wb,g1,g4,q2.trans (oN.mono (fun k hk=>hk.2))⟩
   have Cp:=BV.out;have ll: ∀ S:World->Prop,ZE wc.heap.size S w5->ZE wc.heap.size S (w5.setRow w.heap.size (peC y)):=fun S h=>h.wrote (by omega) oN;exact bodyPost_ret (v:= .tuple #[.agg (peC y),.int .i64 0]) (Zj rfl _ _ w.heap.size 50 _ (0,0) _ _ rfl rfl (setRow_heap _ _ _ _ _ _ fW.out) Tryz.underlying50 rfl (by rw[Zu]; kernel_rfl)) rfl
    ⟨below_setRow bp.out (Nat.le_refl _) _,.good rfl y cs gi wc.heap.size pU (fun j hj=>by rw[HY.out.hd]; exact MN.out j hj) HY.out.img ((HO.out.of_block fN.out.size (fN.out.block gi ⟨HO.out.lt,Cp.2.2⟩)).setRow (by omega) _) HB.out.size (ll _ HY.out.e) (ll _ HY.out.i) (ll _ HY.out.r) (ll _ HY.out.t) (ll _ HY.out.b) (ll _ HY.out.d)⟩
end Go.Proofs.YtplgdpjbkdagfaaGreat
