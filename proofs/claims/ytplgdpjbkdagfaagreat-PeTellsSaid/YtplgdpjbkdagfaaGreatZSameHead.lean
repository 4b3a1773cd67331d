import Derived.Test.YtplgdpjbkdagfaaGreatZHdrD
import Derived.Test.YtplgdpjbkdagfaaGreatZPeE
import Derived.Test.YtplgdpjbkdagfaaGreatZAwake1
import Derived.DeepKeys
import Derived.Test.YtplgdpjbkdagfaaGreatZMd
import Derived.Test.YtplgdpjbkdagfaaGreatRLay
import Derived.Test.YtplgdpjbkdagfaaGreatZPMap
namespace Go.Proofs.YtplgdpjbkdagfaaGreat
set_option maxHeartbeats 8000000
open List renaming getElem?_toArray→Za, getElem?_cons_succ→Zb, getElem?_cons_zero→Zc, setIfInBounds_toArray→Zd, set_cons_zero→Ze, set_cons_succ→Zf
open Lib renaming hid→Zg
set_option maxRecDepth 100000
open Go.ChangeShapes Go.WideShapes Go.ChangeAt Go.RowKit
set_option linter.unusedVariables false
set_option linter.unusedSimpArgs false
def Ua (w:World) (sv:Value) (l:List Zx):Prop:= ∃ A c,sv= .slice A l.length c/\SlT Zx.cells 6 w A l/\l.length<=16
theorem SlT.at6o {w:World} {b o:Nat} {l:List Zx} (h:SlT Zx.cells 6 w (some ⟨b,o,none⟩) l) (i:Nat) (hi:i<l.length) :
 b<w.heap.size/\w.cell? ⟨b,o+i * 6,none⟩=some (.string l[i].name)/\w.cell? ⟨b,o+i * 6+1,none⟩=some (.int .i64 l[i].vsize)/\w.cell? ⟨b,o+i * 6+2,none⟩=some (.int .i64 l[i].rva) /\
 w.cell? ⟨b,o+i * 6+3,none⟩=some (.int .i64 l[i].raw)/\w.cell? ⟨b,o+i * 6+4,none⟩=some (.int .i64 l[i].spot)/\w.cell? ⟨b,o+i * 6+5,none⟩=some (.int .i64 l[i].chars):=by
 rcases h with rfl|⟨b',off,hb,af,hc⟩
 ·simp at hi
 ·injection hb with hb;injection hb with h1 h2;subst h1 h2;have k:=fun j v hv=>hc i hi j v hv;exact⟨af,k 0 _ rfl,k 1 _ rfl,k 2 _ rfl,k 3 _ rfl,k 4 _ rfl,k 5 _ rfl⟩
def Ub (h:ZX):List Value:=[.int .i64 (h.dirs 0).1,.int .i64 (h.dirs 0).2,.int .i64 (h.dirs 1).1,.int .i64 (h.dirs 1).2,.int .i64 (h.dirs 2).1,.int .i64 (h.dirs 2).2,.int .i64 (h.dirs 3).1,.int .i64 (h.dirs 3).2,.int .i64 (h.dirs 4).1,.int .i64 (h.dirs 4).2,.int .i64 (h.dirs 5).1,.int .i64 (h.dirs 5).2,.int .i64 (h.dirs 6).1,.int .i64 (h.dirs 6).2,.int .i64 (h.dirs 7).1,.int .i64 (h.dirs 7).2,.int .i64 (h.dirs 8).1,.int .i64 (h.dirs 8).2,.int .i64 (h.dirs 9).1,.int .i64 (h.dirs 9).2,.int .i64 (h.dirs 10).1,.int .i64 (h.dirs 10).2,.int .i64 (h.dirs 11).1,.int .i64 (h.dirs 11).2,.int .i64 (h.dirs 12).1,.int .i64 (h.dirs 12).2,.int .i64 (h.dirs 13).1,.int .i64 (h.dirs 13).2,.int .i64 (h.dirs 14).1,.int .i64 (h.dirs 14).2,.int .i64 (h.dirs 15).1,.int .i64 (h.dirs 15).2]
theorem YR.dirRow {cs:Array Value} {h:ZX} {sv:Value} (x:YR cs h sv) {w:World} {g:Nat} (hg:w.heap[g]? =some (.cells cs 41 (0,0))):w.rangeAt g 6 (Ub h):=fun j v hj=>by
 rw[cell_of_row _ _ _ _ _ _ hg];have hl:j<32:=(List.getElem?_eq_some_iff.1 hj).1;rcases(by omega:j=0\/j=1\/j=2\/j=3\/j=4\/j=5\/j=6\/j=7\/j=8\/j=9\/j=10\/j=11\/j=12\/j=13\/j=14\/j=15\/j=16\/j=17\/j=18\/j=19\/j=20\/j=21\/j=22\/j=23\/j=24\/j=25\/j=26\/j=27\/j=28\/j=29\/j=30\/j=31) with rfl|rfl|rfl|rfl|rfl|rfl|rfl|rfl|rfl|rfl|rfl|rfl|rfl|rfl|rfl|rfl|rfl|rfl|rfl|rfl|rfl|rfl|rfl|rfl|rfl|rfl|rfl|rfl|rfl|rfl|rfl|rfl
 ·rw[<-hj]; exact x.dir0 0 (by omega)
 ·rw[<-hj]; exact x.dir1 0 (by omega)
 ·rw[<-hj]; exact x.dir0 1 (by omega)
 ·rw[<-hj]; exact x.dir1 1 (by omega)
 ·rw[<-hj]; exact x.dir0 2 (by omega)
 ·rw[<-hj]; exact x.dir1 2 (by omega)
 ·rw[<-hj]; exact x.dir0 3 (by omega)
 ·rw[<-hj]; exact x.dir1 3 (by omega)
 ·rw[<-hj]; exact x.dir0 4 (by omega)
 ·rw[<-hj]; exact x.dir1 4 (by omega)
 ·rw[<-hj]; exact x.dir0 5 (by omega)
 ·rw[<-hj]; exact x.dir1 5 (by omega)
 ·rw[<-hj]; exact x.dir0 6 (by omega)
 ·rw[<-hj]; exact x.dir1 6 (by omega)
 ·rw[<-hj]; exact x.dir0 7 (by omega)
 ·rw[<-hj]; exact x.dir1 7 (by omega)
 ·rw[<-hj]; exact x.dir0 8 (by omega)
 ·rw[<-hj]; exact x.dir1 8 (by omega)
 ·rw[<-hj]; exact x.dir0 9 (by omega)
 ·rw[<-hj]; exact x.dir1 9 (by omega)
 ·rw[<-hj]; exact x.dir0 10 (by omega)
 ·rw[<-hj]; exact x.dir1 10 (by omega)
 ·rw[<-hj]; exact x.dir0 11 (by omega)
 ·rw[<-hj]; exact x.dir1 11 (by omega)
 ·rw[<-hj]; exact x.dir0 12 (by omega)
 ·rw[<-hj]; exact x.dir1 12 (by omega)
 ·rw[<-hj]; exact x.dir0 13 (by omega)
 ·rw[<-hj]; exact x.dir1 13 (by omega)
 ·rw[<-hj]; exact x.dir0 14 (by omega)
 ·rw[<-hj]; exact x.dir1 14 (by omega)
 ·rw[<-hj]; exact x.dir0 15 (by omega)
 ·rw[<-hj]; exact x.dir1 15 (by omega)
def Zl3 (h:ZX):Prop:= ∀ i,i<16->0<=(h.dirs i).1/\(h.dirs i).1<4294967296/\0<=(h.dirs i).2/\(h.dirs i).2<4294967296
theorem Zcm (x y:Int) (d:Nat) (hx:(Lit.int .i64 x).wf=true) (hy:(Lit.int .i64 y).wf=true):Tryz.prog.keyLits (d+2) 37 [.int .i64 x,.int .i64 y]=some [.int .i64 x,.int .i64 y]:=by
 have e: ∀ z:Int,(Lit.int .i64 z).wf=true->Tryz.prog.keyLits (d+1) 3 [.int .i64 z]=some [.int .i64 z]:=fun z hz=>by
  unfold Program.keyLits;rw[Tryz.underlying3];simp[hz]
 unfold Program.keyLits;rw[Tryz.underlying37];have Ap:Tryz.prog.cellsOf 37=2:=by kernel_rfl
 have c3:Tryz.prog.cellsOf 3=1:=by kernel_rfl
 simp[Ap,c3,e x hx,e y hy]
theorem Zof (h:ZX) (hb:Zl3 h) (W:World):(Op.equalIn 10000 38 (.agg (Ub h).toArray) (.agg (Ub h).toArray)).run Tryz.prog W= .ok true W:=by
 have hf:(Value.agg (Ub h).toArray).formed Tryz.prog 38=true:=by rfl
 have hw: ∀ z:Int,0<=z->z<4294967296->(Lit.int .i64 z).wf=true:=fun z h0 h1=>by
  simp[Lit.wf,IntKind.min,IntKind.max,IntKind.bits,IntKind.signed];omega
 have hp: ∀ i,i<16->Tryz.prog.keyLits 9 37 [.int .i64 (h.dirs i).1,.int .i64 (h.dirs i).2]=some [.int .i64 (h.dirs i).1,.int .i64 (h.dirs i).2]:=fun i hi=>by
  obtain⟨h1,h2,h3,h4⟩:=hb i hi;exact Zcm _ _ 7 (hw _ h1 h2) (hw _ h3 h4)
 have hk: ∃ la,Tryz.prog.keyLits 10 38 (Value.agg (Ub h).toArray).cells.toList=some la:=by
  have Ap:Tryz.prog.cellsOf 37=2:=by kernel_rfl
  have FA:Tryz.prog.cellsOf 38=32:=by kernel_rfl
  have hr:List.range 16=[0,1,2,3,4,5,6,7,8,9,10,11,12,13,14,15]:=rfl;have hc:(Value.agg (Ub h).toArray).cells.toList=Ub h:=rfl;rw[hc];unfold Program.keyLits;rw[Tryz.underlying38];simp only[FA,Ap,hr];rw[if_pos (by rfl)];simp only[List.mapM_cons,List.mapM_nil,Ub,List.drop_zero,List.drop_succ_cons,List.take_succ_cons,List.take_zero,Nat.zero_mul,Nat.one_mul,Nat.reduceMul];rw[hp 0 (by omega),hp 1 (by omega),hp 2 (by omega),hp 3 (by omega),hp 4 (by omega),hp 5 (by omega),hp 6 (by omega),hp 7 (by omega),hp 8 (by omega),hp 9 (by omega),hp 10 (by omega),hp 11 (by omega),hp 12 (by omega),hp 13 (by omega),hp 14 (by omega),hp 15 (by omega)];exact⟨_,rfl⟩
 obtain⟨la,hk⟩:=hk;obtain⟨r,hr,hi⟩:=run_equalIn_deep (P:=Tryz.prog) 9990 10 38 (by kernel_rfl) W 10 10 _ _ la la hf hf hk hk;rw[hi.2 rfl] at hr;exact hr
theorem ZO {P:Program} {ops:Array Oper} {rest:List Oper} {o:Oper} {a:Act} {w:World} {Q:Exit->Act->World->Prop} (hw:Region.wanted o (yielded ops a.tmps)=true) (ty:TypeId) (x:Operand) (ho:o.op= .load ty x)
 (b off:Nat) (hx:a.eval x= .pointer (some ⟨b,off,none⟩)) (cs:List Value) (d:TypeDesc) (hc:w.rangeAt b off cs)
 (hu:P.underlying ty=some d) (hd:d.isRow=true) (hi:(P.info? ty).map (·.size)=some cs.length)
 (h:wpList P ops Q rest (a.put o.dst (.agg cs.toArray)) w):wpList P ops Q (o::rest) a w :=
 wpList_step fun K hK=>by
  rw[if_pos hw];exact wp_load_mid ty x ho b off hx cs d hc hu hd hi (hK _ _ h)
theorem Yf (S:ByteArray) (o n:Nat) (w:World) (hs:S.size<=1000000) (hn:n<=4) (h:o+n<=S.size) :
 Calls Tryz.prog 72 #[.string S,.int .i64 o,.int .i64 n] w fun e w'=>e= .returned (.int .i64 (rdF (PlainAid.bt S) o n))/\w=w':=by
 have HR:=Zg (Vd S o n w (by omega) (by omega) h);have hb:=ZR (PlainAid.bt S) (Xx S) n o;have hp:(256:Int) ^ n<=4294967296:=by
  rcases(by omega:n=0\/n=1\/n=2\/n=3\/n=4) with rfl|rfl|rfl|rfl|rfl <;> decide
 have h1:rdF (PlainAid.bt S) o n<4294967296:=by omega
 have h0:=hb.1;clear hb hp;generalize rdF (PlainAid.bt S) o n=x at *;go_enter Tryz.func72,Tryz.ntmps72;go_wp2_with (go_fit HR.out; rintro e u ⟨rfl,rfl⟩)
 go_ret;exact⟨rfl,rfl⟩
theorem Zjk {f:Nat->Int} (hb:Zm f) (xs:List UInt8) (o:Nat):((ZB f o xs.length).toList == xs)=true↔ ∀ i (h:i<xs.length),f (o+i)=(xs[i].toNat:Int):=by
 have hl:(ZB f o xs.length).toList=Lib.bytesOf ((List.range xs.length).map fun i=>f (o+i)):=Lib.strOfNums_toList _;rw[hl,beq_iff_eq];constructor
 ·intro h i hi;have h2:=congrArg (fun z=>z[i]?) h;simp only[Lib.bytesOf,List.getElem?_map,List.getElem?_range hi,Option.map_some,List.getElem?_eq_getElem hi,Option.some.injEq] at h2;have h3:=congrArg UInt8.toNat h2;have:=hb (o+i);simp at h3;omega
 ·intro h;apply List.ext_getElem?;intro i;rcases Nat.lt_or_ge i xs.length with hi|hi
  ·simp only[Lib.bytesOf,List.getElem?_map,List.getElem?_range hi,Option.map_some,List.getElem?_eq_getElem hi,Option.some.injEq];rw[h i hi];simp
  ·rw[List.getElem?_eq_none hi,List.getElem?_eq_none];simpa [Lib.bytesOf] using hi
theorem Zjl (S:ByteArray) (h:2<=S.size):((S.extract 0 2).toList == [77,90])=true↔PlainAid.bt S 0=77/\PlainAid.bt S 1=90:=by
 have e:=Yq S 0 2 (by omega);rw[Nat.zero_add] at e;rw[e];have k:=Zjk (Xx S) [77,90] 0;refine k.trans ⟨fun h=>⟨h 0 (by simp),h 1 (by simp)⟩,fun h i hi=> ?_⟩;have ef:i<2:=hi;rcases(by omega:i=0\/i=1) with rfl|rfl
 ·exact h.1
 ·exact h.2
theorem Zjm (S:ByteArray) (p:Nat) (h:p+4<=S.size):((S.extract p (p+4)).toList == [80,69,0,0])=true↔PlainAid.bt S p=80/\PlainAid.bt S (p+1)=69/\PlainAid.bt S (p+2)=0/\PlainAid.bt S (p+3)=0:=by
 rw[Yq S p 4 h];have k:=Zjk (Xx S) [80,69,0,0] p;refine k.trans ⟨fun h=>⟨h 0 (by simp),h 1 (by simp),h 2 (by simp),h 3 (by simp)⟩,fun h i hi=> ?_⟩;have ef:i<4:=hi;rcases(by omega:i=0\/i=1\/i=2\/i=3) with rfl|rfl|rfl|rfl
 ·exact h.1
 ·exact h.2.1
 ·exact h.2.2.1
 ·exact h.2.2.2
def Zog (w:World) (n:Nat) (f:Nat->Int) (v:Value):Prop :=
 ∃ cs,v= .tuple #[.agg cs,.int .i64 (ZI n f)] /\
   ((ZI n f≠0/\YR cs Ul (.slice none 0 0))\/(ZI n f=0/\ ∃ sv,YR cs (Zw f (headP n f)) sv/\Ua w sv (ZM f (headP n f+264) (headK n f))))
theorem Zd5 (b s c e z h:Int):Tryz.prog.built 41 [(0,.int .u64 b),(1,.int .i64 s),(2,.int .i64 c),(3,.int .i64 e),(4,.int .i64 z),(5,.int .i64 h)]=some (Zl b s c e z h):=by
 kernel_rfl
theorem YP.start6 (h:ZX):YP (Zl h.base h.stamp h.chars h.entry h.size h.headers) h 0 :=
 ⟨rfl,rfl,rfl,rfl,rfl,rfl,rfl,fun j hj=>by omega,fun j hj=>by omega,rfl,by simp[Zl,Value.oneCell']⟩
structure XT (w u:World) (g:Nat) (h:ZX) (i:Nat):Prop where
 bel:Below w.heap.size w u
 le:w.heap.size+1<g
 z0:u.heap[w.heap.size]? =some (.cells (Zl 0 0 0 0 0 0) 41 (0,0))
 z1:u.heap[w.heap.size+1]? =some (.cells (Zl 0 0 0 0 0 0) 41 (0,0))
 cs: ∃ cs,u.heap[g]? =some (.cells cs 41 (0,0))/\YP cs h i
theorem XT.next {w u:World} {g:Nat} {h:ZX} {i:Nat} (x:XT w u g h i) (hi:i<16) (v1 v2:Int) (e1:v1=(h.dirs i).1) (e2:v2=(h.dirs i).2) :
 XT w ((u.setCell ⟨g,6+i * 2,none⟩ (.int .i64 v1)).setCell ⟨g,6+i * 2+1,none⟩ (.int .i64 v2)) g h (i+1):=by
 subst e1 e2;rw[Nat.mul_comm i 2];obtain⟨cs,hc,hp⟩:=x.cs;have hl:=x.le;refine⟨(x.bel.setCell (show w.heap.size<=g by omega) _).setCell (show w.heap.size<=g by omega) _,hl,?_,?_,⟨_,heap_setCell_same _ _ _ _ _ _ (heap_setCell_same _ _ _ _ _ _ hc),hp.next hi⟩⟩
 ·rw[heap_setCell_other _ _ _ _ (show w.heap.size≠g by omega),heap_setCell_other _ _ _ _ (show w.heap.size≠g by omega)];exact x.z0
 ·rw[heap_setCell_other _ _ _ _ (show w.heap.size+1≠g by omega),heap_setCell_other _ _ _ _ (show w.heap.size+1≠g by omega)];exact x.z1
structure XE (w u:World) (g:Nat) (h:ZX) (l:List Zx):Prop where
 bel:Below w.heap.size w u
 le:w.heap.size+1<g
 z0:u.heap[w.heap.size]? =some (.cells (Zl 0 0 0 0 0 0) 41 (0,0))
 z1:u.heap[w.heap.size+1]? =some (.cells (Zl 0 0 0 0 0 0) 41 (0,0))
 cs: ∃ cs A c,u.heap[g]? =some (.cells cs 41 (0,0))/\YR cs h (.slice A l.length c)/\ZJ Zx.cells 6 u (g+1) 72 (.slice A l.length c) l
theorem XT.all {w u:World} {g:Nat} {h:ZX} (x:XT w u g h 16):XE w u g h []:=by
 obtain⟨cs,hc,hp⟩:=x.cs;exact⟨x.bel,x.le,x.z0,x.z1,cs,none,0,hc,hp.all,ZJ.nil _ _ _⟩
theorem XE.below {w u u':World} {g:Nat} {h:ZX} {l:List Zx} (x:XE w u g h l) (hb:Below u.heap.size u u'):XE w u' g h l:=by
 obtain⟨cs,A,c,hc,hv,ho⟩:=x.cs;exact⟨x.bel.trans (hb.mono x.bel.size),x.le,(hb.block _ (Array.getElem?_eq_some_iff.1 x.z0).1).trans x.z0,(hb.block _ (Array.getElem?_eq_some_iff.1 x.z1).1).trans x.z1,
  cs,A,c,(hb.block _ (Array.getElem?_eq_some_iff.1 hc).1).trans hc,hv,ho.below hb⟩
theorem XE.add {w u u':World} {g:Nat} {h:ZX} {l:List Zx} {s:Zx} {A:Option Addr} {c g' cap:Nat} {cs:Array Value} (x:XE w u g h l) (hc:u.heap[g]? =some (.cells cs 41 (0,0))) (hv:YR cs h (.slice A l.length c))
 (ho:ZJ Zx.cells 6 u (g+1) 72 (.slice A l.length c) l)
 (hg:u.grownBy u' (Value.ownBlock (.slice A l.length c))) (pY:ZJ Zx.cells 6 u' (g+1) 72 (.slice (some ⟨g',0,none⟩) (l.length+1) cap) (l++[s])) :
 XE w (u'.setCell ⟨g,38,none⟩ (.slice (some ⟨g',0,none⟩) (l.length+1) cap)) g h (l++[s]):=by
 have hl:=x.le;have af:=(Array.getElem?_eq_some_iff.1 hc).1;have aq:Below (g+1) u u':=ho.grew (Below.refl _ _) (Nat.le_refl _) (by omega) hg;have hb:=aq.mono (show w.heap.size<=g+1 by omega);have k:=pY.lt g' rfl;refine⟨(x.bel.trans hb).setCell (show w.heap.size<=g by omega) _,hl,?_,?_,cs.setIfInBounds 38 (.slice (some ⟨g',0,none⟩) (l.length+1) cap),some ⟨g',0,none⟩,cap,heap_setCell_same _ _ _ _ _ _ ((aq.block _ (by omega)).trans hc),?_,?_⟩
 ·rw[heap_setCell_other _ _ _ _ (show w.heap.size≠g by omega)];exact(aq.block _ (by omega)).trans x.z0
 ·rw[heap_setCell_other _ _ _ _ (show w.heap.size+1≠g by omega)];exact(aq.block _ (by omega)).trans x.z1
 ·rw[List.length_append]; exact hv.sects _
 ·rw[List.length_append];exact pY.of_block (fun q hq=>heap_setCell_other _ _ _ _ (by have:=(pY.lt q hq).1; show q≠g; omega))
theorem XE.app {w u u':World} {g n:Nat} {h:ZX} {l:List Zx} {s:Zx} {A:Option Addr} {c g' cap:Nat} {cs:Array Value} (x:XE w u g h l) (hc:u.heap[g]? =some (.cells cs 41 (0,0))) (hv:YR cs h (.slice A n c)) (hn:l.length=n)
 (ho:ZJ Zx.cells 6 u (g+1) 72 (.slice A n c) l)
 (hg:u.grownBy u' (Value.ownBlock (.slice A n c))) (pY:ZJ Zx.cells 6 u' (g+1) 72 (.slice (some ⟨g',0,none⟩) (l.length+1) cap) (l++[s])) :
 u'.cell? ⟨g,38,none⟩=some (.slice A n c)/\u'.frozen? ⟨g,38,none⟩=false/\XE w (u'.setCell ⟨g,38,none⟩ (.slice (some ⟨g',0,none⟩) (l.length+1) cap)) g h (l++[s]):=by
 subst hn;have af:=(Array.getElem?_eq_some_iff.1 hc).1;have aq:Below (g+1) u u':=ho.grew (Below.refl _ _) (Nat.le_refl _) (by omega) hg;have aI:=(aq.block g (by omega)).trans hc;exact⟨(cell_of_row _ _ 38 _ _ _ aI).trans hv.c38,frozen_of_row _ _ 38 _ _ aI,x.add hc hv ho hg pY⟩
theorem Zl4:(Tryz.prog.info? 72).map (fun i=>(i.zero,i.size,i.bytes))=some (some (.agg #[.string ⟨#[]⟩,.int .i64 0,.int .i64 0,.int .i64 0,.int .i64 0,.int .i64 0]),6,56):=by kernel_rfl
theorem Zjn (s:Zx): ∀ u∈s.cells,u.oneCell'=true:=by
 intro u hu;simp[Zx.cells] at hu;rcases hu with rfl|rfl|rfl|rfl|rfl|rfl <;> rfl
theorem Zjo {w:World} {g:Nat} {s:Zx} {t:TypeId} {fr:Nat × Nat} (h:w.heap[g]? =some (.cells s.arr t fr)): ∀ j u,s.cells[j]? =some u->w.cell? ⟨g,j,none⟩=some u:=fun j u hu=>by
 rw[cell_of_row _ _ _ _ _ _ h];rw[<-Zx.arr_list,Array.getElem?_toList] at hu;exact hu
theorem JM (f:Nat->Int): ∀(n o i:Nat),i<Ye f o n->f (o+i)≠0
 | 0,_,i,h=>by simp[Ye] at h
 | n+1,o,i,h=>by
   unfold Ye at h;by_cases e:f o=0
   ·rw[if_pos e] at h; omega
   ·rw[if_neg e] at h;rcases i with _|i
    ·simpa using e
    ·have:=JM f n (o+1) i (by omega);rwa [show o+1+i=o+(i+1) from by omega] at this
theorem Zcn (f:Nat->Int): ∀(n o:Nat),Ye f o n<n->f (o+Ye f o n)=0
 | 0,_,h=>by omega
 | n+1,o,h=>by
   unfold Ye at h ⊢;by_cases e:f o=0
   ·rw[if_pos e]; simpa using e
   ·rw[if_neg e] at h ⊢;have:=Zcn f n (o+1) (by omega);rwa [show o+1+Ye f (o+1) n=o+(Ye f (o+1) n+1) from by omega] at this
theorem XU (S:ByteArray) (o n i:Nat) (h:o+n<=S.size) (hi:i<n):PlainAid.bt (S.extract o (o+n)) i=PlainAid.bt S (o+i):=by
 rw[Yq S o n h,XO (Xx S) hi]
theorem Uc (S:ByteArray) (o:Nat) (h:o+8<=S.size):(S.extract o (o+8)).size=8:=by
 rw[Yq S o 8 h,Zr]
theorem Zg1 (S:ByteArray) (o:Nat) (w:World) (h:o+8<=S.size) (hf:Ye (PlainAid.bt S) o 8<8) :
 Calls Tryz.prog 75 #[.string (S.extract o (o+8)),.int .i64 0,.int .i64 8] w fun e w'=>e= .returned (.tuple #[.string (Qc (PlainAid.bt S) o),.bool true])/\w=w':=by
 have hz:=Uc S o h;have k:=Zbz (S.extract o (o+8)) 0 (Ye (PlainAid.bt S) o 8) 8 w (by omega) (by omega) (by omega) (by rw[Nat.zero_add,XU S o 8 _ h hf]; exact Zcn _ _ _ hf) (fun i hi=>by rw[Nat.zero_add,XU S o 8 _ h (by omega)]; exact JM _ _ _ _ hi);have e:ZB (PlainAid.bt (S.extract o (o+8))) 0 (Ye (PlainAid.bt S) o 8)=Qc (PlainAid.bt S) o:=ZA (fun i hi=>by rw[Nat.zero_add,XU S o 8 _ h (by omega)]);rw[e] at k;exact k
theorem Zjp (S:ByteArray) (o:Nat) (w:World) (h:o+8<=S.size) (hf: ¬ Ye (PlainAid.bt S) o 8<8) :
 Calls Tryz.prog 75 #[.string (S.extract o (o+8)),.int .i64 0,.int .i64 8] w fun e w'=>e= .returned (.tuple #[.string ByteArray.empty,.bool false])/\w=w':=by
 have hz:=Uc S o h;exact Ze6 (S.extract o (o+8)) 0 8 w (by omega) (by omega) (fun i hi _=>by rw[Nat.zero_add,XU S o 8 _ h (by omega)]; exact JM _ 8 _ _ (by omega))
theorem Zjq (S:ByteArray) (o:Nat) (h:o+8<=S.size) (hf: ¬ Ye (PlainAid.bt S) o 8<8):S.extract o (o+8)=Qc (PlainAid.bt S) o:=by
 have:=Uj (PlainAid.bt S) o 8;rw[Yq S o 8 h];unfold Qc;rw[show Ye (PlainAid.bt S) o 8=8 by omega]
def Zjr (N:Nat) (F:Nat->Int) (nb:Nat) (f:Nat->Int) (r k n:Nat):Nat->Int:=ovF f (fun q=>F (k+q)) r (UU nb k n) N
def Qa (N:Nat) (F:Nat->Int) (nb:Nat):List Zx->(Nat->Int)->(Nat->Int)
 | [],f=>f
 | s::l,f=>Qa N F nb l (Zjr N F nb f s.rva.toNat s.spot.toNat s.raw.toNat)
def Zjs (N:Nat) (F:Nat->Int) (nb hd:Nat) (l:List Zx):Nat->Int:=Qa N F nb l (Zjr N F nb (fun _=>0) 0 0 hd)
theorem Zft {nb k n:Nat} (h:nb<=1000000):UU nb k n<=1000000:=by unfold UU; split <;> omega
theorem Zl5 (cs:Array Value) (h:ZX) (A:Option Addr) (c:Nat) (l:List Zx) (nb:Nat) (F:Nat->Int) (N hd:Nat) (w:World) (hv:YR cs h (.slice A l.length c)) (hs:SlT Zx.cells 6 w A l) (jr: ∀ s∈l,JU s) (hlen:l.length<=16)
 (hN:h.size=N) (gx:N<=262144) (jj:h.headers=hd) (hd1:hd<4294967296) (lN:nb<=1000000) :
 Calls Tryz.prog 37 #[.agg cs,.string (ZB F 0 nb)] w fun e u=>e= .returned (.string (ZB (Zjs N F nb hd l) 0 N))/\Below w.heap.size w u:=by
 have df:=Zg hs;have gV:=Zg jr;obtain⟨w1,ao⟩: ∃ w1,w.alloc (.cells cs 41)=w1:=⟨_,rfl⟩;have cu:=Zg ao;have av:=Zg (show Below w.heap.size w w1 from by rw[<-ao]; exact(Below.refl _ _).alloc (Nat.le_refl _) _);have dw:=Zg (show w1.heap[w.heap.size]? =some (.cells cs 41 (0,0)) from by rw[<-ao]; exact heap_alloc_new w _);have c4:=hv.c4;have c5:=hv.c5;have c38:=hv.c38;rw[hN] at c4;rw[jj] at c5;have HC:=Zg (fun W (hW:Below w1.heap.size w1 W) (j:Nat) (v:Value) (hj:cs[j]? =some v)=>show W.cell? ⟨w.heap.size,j,none⟩=some v from by rw[Zh ((hW.block _ (Zi dw.out)).trans dw.out)]; exact hj);have oc:=Zg c4;have Nb:=Zg c5;have Aq:=Zg c38;obtain⟨IM,pb⟩: ∃ IM,Zjs N F nb hd l=IM:=⟨_,rfl⟩;have FB:=Zg (show Qa N F nb l (Zjr N F nb (fun _=>0) 0 0 hd)=IM from pb);rw[pb];have n0:decide ((N:Int)<0)=false:=decide_eq_false (by omega);have n1:decide ((262144:Int)<(N:Int))=false:=decide_eq_false (by omega);have q4:=HC.out w1 (Below.refl _ _) 4 _ oc.out;have sZ:=Zg (fun W=>run_make_row' (P:=Tryz.prog) 25 5 (.int .u8 0) 1 Tryz.underlying25 Ws rfl .i64 .i64 N (by omega) (by omega) W);have J4:=Zg (fun W=>Zc0 nb 0 hd F W lN (by omega) (by omega));clear hv hs jr ao pb c4 c5 c38;go_enter Tryz.func37,Tryz.ntmps37;go_upto_region 1 with(fail)
 refine(congrArg _ cu.out).mpr ?_;go_upto_region 3 with(fail)
 clear q4 n0 n1;have HS:=Zg (show Below w1.heap.size w1 w1.drew from(Below.refl _ _).drew);refine wp_region_noPanic ?_;refine Zt (fun W=>Below w1.heap.size w1 W) (fun _=>True) 99 (by kernel_rfl) ?_;refine wU (i:=0) HS.out ?_;refine wU (i:=1) HS.out ?_ (hy:=by refine Or.inl ⟨by rfl,?_⟩; intro W aL; have mb:=HC.out W aL 4 _ oc.out; clear aL; go_simp; try with_reducible rfl);refine wU (i:=4) HS.out ?_;refine wU (i:=5) HS.out ?_;refine wU (i:=6) HS.out ?_ (hy:=by refine Or.inl ⟨by rfl,?_⟩; intro W aL; have mb:=HC.out W aL 5 _ Nb.out; clear aL; go_simp; try with_reducible rfl);refine Zz (i:=7) (oi:= ?_) (v:= .string (ZB (fun q=>F (0+q)) 0 (UU nb 0 hd))) ?_ (by kernel_rfl) (by kernel_rfl) (by kernel_rfl) (fun _ _ _ h=>h) (by decide) ?_ HS.out (fun _=>trivial) ?_;rotate_left 1
 ·(simp only[Za,Zb,Zc]; rfl)
 ·refine⟨by rfl,fun W hW=>⟨91,#[.string (ZB F 0 nb),.int .i64 0,.int .i64 hd],?_,J4.out W⟩⟩;first|kernel_rfl|(go_simp; done)|rfl
 try simp only[Act.put,Zd,Ze,Zf]
 have rn:=sZ.out w1.drew;refine wO (i:=2) (fun K hK=> ?_);go_simp;clear rn;have aF:=Zg (show Below w1.heap.size w1 (w1.drew.alloc (.cells (madeCells #[.int .u8 0] N) 5)) from HS.out.alloc (Nat.le_refl _) _);refine hK.out _ _ aF.out (fun _=>trivial) ?_;clear hK K;try simp only[Act.put,Zd,Ze,Zf]
 have dI:(convert 25 9 (.slice (some ⟨w1.heap.size,0,none⟩) N N)).run Tryz.prog (w1.drew.alloc (.cells (madeCells #[.int .u8 0] N) 5))= .ok (.string (ZB (fun _=>0) 0 N)) (w1.drew.alloc (.cells (madeCells #[.int .u8 0] N) 5)):=Uh w1.drew N;obtain⟨w2,aR⟩: ∃ q,w1.drew.alloc (.cells (madeCells #[.int .u8 0] N) 5)=q:=⟨_,rfl⟩;rw[aR] at dI aF;have eS:=Zg aR;clear aR;refine(congrArg _ eS.out).mpr ?_;refine wO (i:=3) (fun K hK=> ?_);go_simp;clear dI;refine hK.out _ _ aF.out (fun _=>trivial) ?_;clear hK K;try simp only[Act.put,Zd,Ze,Zf]
 refine wO (i:=8) (fun K hK=> ?_);go_simp;go_at_call 90;refine(Zcz N (UU nb 0 hd) 0 (fun _=>0) (fun q=>F q) w2 (by omega) (Zft lN) (by omega)).mono ?_;rintro e w3 ⟨rfl,bJ⟩;have bY:=Zg (show Below w1.heap.size w1 w3 from aF.out.trans (bJ.mono aF.out.size));clear bJ;refine hK.out _ _ bY.out (fun _=>trivial) ?_;clear hK K;try simp only[Act.put,Zd,Ze,Zf]
 refine wU (i:=9) bY.out ?_;refine Zo (by kernel_rfl) ?_ _;refine NoPanic.normal ?_;have h0:ovF (fun _=>0) (fun q=>F q) 0 (UU nb 0 hd) N=Zjr N F nb (fun _=>0) 0 0 hd:=by unfold Zjr; simp only[Nat.zero_add]
 rw[h0];have FC:=HC.out w3 bY.out 38 _ Aq.out;clear aF eS J4 sZ HS h0;go_upto_region 4 with(fail)
 go_wp2_with fail
 clear FC;go_loopw [5,6] (fun v5 v6 wr=> ∃(i:Nat) (f:Nat->Int),i<=l.length/\v6= .int .i64 i/\v5= .string (ZB f 0 N)/\Qa N F nb (l.drop i) f=IM/\Below w1.heap.size w1 wr) (fun _ v6 _=>l.length - (intOf v6).toNat)
 case atStart=>exact⟨0,_,by omega,rfl,rfl,FB.out,bY.out⟩
 case round =>
  obtain⟨i,f,hi,rfl,rfl,hf,hb⟩:=hrel;have HB:=Zg hb;have HF:=Zg hf;have FC:=HC.out wr HB.out 38 _ Aq.out;clear hb hf bY;by_cases af:i<l.length
  ·have aE:(i:Int)<l.length:=by omega
   have tp:=gV.out l[i] (List.getElem_mem af);have hd:=HF.out;rw[List.drop_eq_getElem_cons af] at hd;have HD:=Zg hd;clear hd;obtain⟨b,o,rfl⟩: ∃ b o,A=some ⟨b,o,none⟩:=by
    rcases df.out with k|⟨b,o,k,_⟩
    ·rw[k] at af; exact absurd af (by simp)
    ·exact⟨b,o,k⟩
   obtain⟨gd,d0,d1,d2,d3,d4,d5⟩:=(df.out.below (av.out.trans (HB.out.mono av.out.size))).at6o i af;generalize l[i]=s at *;obtain⟨nm,v,rva,raw,spot,ch⟩:=s;obtain⟨v0,v1,p0,p1,a0,a1,s0,s1,x0,x1⟩:=tp;simp only at d0 d1 d2 d3 d4 d5 v0 v1 p0 p1 a0 a1 s0 s1 x0 x1;obtain⟨rv,rfl⟩: ∃ n:Nat,rva=n:=⟨rva.toNat,by omega⟩;obtain⟨rk,rfl⟩: ∃ n:Nat,raw=n:=⟨raw.toNat,by omega⟩;obtain⟨sp,rfl⟩: ∃ n:Nat,spot=n:=⟨spot.toNat,by omega⟩;obtain⟨w4,cX⟩: ∃ q,wr.alloc (.cells #[.string nm,.int .i64 v,.int .i64 (rv:Int),.int .i64 (rk:Int),.int .i64 (sp:Int),.int .i64 ch] 72)=q:=⟨_,rfl⟩;have gW:=Zg cX;have bH:=Zg (show Below wr.heap.size wr w4 from by rw[<-cX]; exact(Below.refl _ _).alloc (Nat.le_refl _) _);have jd:=Zg (show w4.heap[wr.heap.size]? =some (.cells #[.string nm,.int .i64 v,.int .i64 (rv:Int),.int .i64 (rk:Int),.int .i64 (sp:Int),.int .i64 ch] 72 (0,0)) from by rw[<-cX]; exact heap_alloc_new wr _);have oc:=Zg (fun W (hW:Below w4.heap.size w4 W)=>show W.cell? ⟨wr.heap.size,2,none⟩=some (.int .i64 (rv:Int))/\W.cell? ⟨wr.heap.size,3,none⟩=some (.int .i64 (rk:Int))/\W.cell? ⟨wr.heap.size,4,none⟩=some (.int .i64 (sp:Int)) from by
    have hh:=(hW.block _ (Zi jd.out)).trans jd.out;exact⟨by rw[cell_of_row _ _ _ _ _ _ hh]; rfl,by rw[cell_of_row _ _ _ _ _ _ hh]; rfl,by rw[cell_of_row _ _ _ _ _ _ hh]; rfl⟩)
   have HP:=Zg (fun W=>Zc0 nb sp rk F W lN (by omega) (by omega));clear cX;go_upto_region 8 with(fail)
   refine(congrArg _ gW.out).mpr ?_;clear d0 d1 d2 d3 d4 d5 FC;have HS:=Zg (show Below w4.heap.size w4 w4.drew from(Below.refl _ _).drew);refine wp_region_noPanic ?_;refine Zt (fun W=>Below w4.heap.size w4 W) (fun _=>True) 99 (by kernel_rfl) ?_;refine wU (i:=0) HS.out ?_;refine wU (i:=1) HS.out ?_;refine wU (i:=2) HS.out ?_ (hy:=by refine Or.inl ⟨by rfl,?_⟩; intro W aL; have mb:=(oc.out W aL).1; clear aL; go_simp; try with_reducible rfl);refine wU (i:=3) HS.out ?_;refine wU (i:=4) HS.out ?_;refine wU (i:=5) HS.out ?_ (hy:=by refine Or.inl ⟨by rfl,?_⟩; intro W aL; have mb:=(oc.out W aL).2.2; clear aL; go_simp; try with_reducible rfl);refine wU (i:=6) HS.out ?_;refine wU (i:=7) HS.out ?_ (hy:=by refine Or.inl ⟨by rfl,?_⟩; intro W aL; have mb:=(oc.out W aL).2.1; clear aL; go_simp; try with_reducible rfl);refine Zz (i:=8) (oi:= ?_) (v:= .string (ZB (fun q=>F (sp+q)) 0 (UU nb sp rk))) ?_ (by kernel_rfl) (by kernel_rfl) (by kernel_rfl) (fun _ _ _ h=>h) (by decide) ?_ HS.out (fun _=>trivial) ?_;rotate_left 1
   ·(simp only[Za,Zb,Zc]; rfl)
   ·refine⟨by rfl,fun W hW=>⟨91,#[.string (ZB F 0 nb),.int .i64 sp,.int .i64 rk],?_,HP.out W⟩⟩;first|kernel_rfl|(go_simp; done)|rfl
   try simp only[Act.put,Zd,Ze,Zf]
   refine wO (i:=9) (fun K hK=> ?_);go_simp;go_at_call 90;refine(Zcz N (UU nb sp rk) rv f (fun q=>F (sp+q)) w4.drew (by omega) (Zft lN) (by omega)).mono ?_;rintro e w5 ⟨rfl,cm⟩;have gF:=Zg (show Below w4.heap.size w4 w5 from HS.out.trans (cm.mono HS.out.size));clear cm;refine hK.out _ _ gF.out (fun _=>trivial) ?_;clear hK K;try simp only[Act.put,Zd,Ze,Zf]
   refine wU (i:=10) gF.out ?_;refine Zo (by kernel_rfl) ?_ _;refine NoPanic.normal ?_;go_wp2_with fail
   go_roundw
   case rel=>exact⟨i+1,_,by omega,by go_num,rfl,by have:=HD.out; simp only[Qa,Int.toNat_natCast] at this; exact this,HB.out.trans ((bH.out.trans (gF.out.mono bH.out.size)).mono HB.out.size)⟩
   case measure=>simp[intOf]; omega
  ·obtain rfl:i=l.length:=by omega
   have hf:=HF.out;rw[List.drop_length] at hf;have xq:f=IM:=hf;subst xq;go_wp2_with fail
   go_ret;exact⟨rfl,av.out.trans (HB.out.mono av.out.size)⟩
end Go.Proofs.YtplgdpjbkdagfaaGreat
