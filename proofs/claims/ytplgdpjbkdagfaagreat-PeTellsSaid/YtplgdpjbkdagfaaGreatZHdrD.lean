import Derived.Test.YtplgdpjbkdagfaaGreatZHdrA
import Derived.Deep.MidRow
import Derived.Laws.CopyOwn
import Derived.Test.YtplgdpjbkdagfaaGreatZOwnT
import Derived.OwnWalk
namespace Go.Proofs.YtplgdpjbkdagfaaGreat
set_option maxHeartbeats 8000000
open Lib renaming hid→Zg
set_option maxRecDepth 100000
open Go.ChangeShapes Go.WideShapes Go.ChangeAt Go.RowKit
set_option linter.unusedVariables false
set_option linter.unusedSimpArgs false
def Zw (f:Nat->Int) (p:Nat):ZX :=
 { base:=rdF f (p+48) 8,stamp:=rdF f (p+8) 4,chars:=rdF f (p+22) 2,entry:=rdF f (p+40) 4,size:=rdF f (p+80) 4,headers:=rdF f (p+84) 4,
   dirs:=fun i=>(rdF f (p+136+8 * i) 4,rdF f (p+136+8 * i+4) 4) }
def Zl (b s c e z h:Int):Array Value:= #[.int .u64 b,.int .i64 s,.int .i64 c,.int .i64 e,.int .i64 z,.int .i64 h,
 .int .i64 0,.int .i64 0,.int .i64 0,.int .i64 0,.int .i64 0,.int .i64 0,.int .i64 0,.int .i64 0,
 .int .i64 0,.int .i64 0,.int .i64 0,.int .i64 0,.int .i64 0,.int .i64 0,.int .i64 0,.int .i64 0,
 .int .i64 0,.int .i64 0,.int .i64 0,.int .i64 0,.int .i64 0,.int .i64 0,.int .i64 0,.int .i64 0,
 .int .i64 0,.int .i64 0,.int .i64 0,.int .i64 0,.int .i64 0,.int .i64 0,.int .i64 0,.int .i64 0,
 .slice none 0 0]
theorem Zhf (s c e z h:Int):Tryz.prog.built 41 [(1,.int .i64 s),(2,.int .i64 c),(3,.int .i64 e),(4,.int .i64 z),(5,.int .i64 h)]=some (Zl 0 s c e z h):=by
 kernel_rfl
theorem Yh:(#[.int .u64 0,.int .i64 0,.int .i64 0,.int .i64 0,.int .i64 0,.int .i64 0,
 .int .i64 0,.int .i64 0,.int .i64 0,.int .i64 0,.int .i64 0,.int .i64 0,.int .i64 0,.int .i64 0,
 .int .i64 0,.int .i64 0,.int .i64 0,.int .i64 0,.int .i64 0,.int .i64 0,.int .i64 0,.int .i64 0,
 .int .i64 0,.int .i64 0,.int .i64 0,.int .i64 0,.int .i64 0,.int .i64 0,.int .i64 0,.int .i64 0,
 .int .i64 0,.int .i64 0,.int .i64 0,.int .i64 0,.int .i64 0,.int .i64 0,.int .i64 0,.int .i64 0,
 .slice none 0 0]:Array Value)=Zl 0 0 0 0 0 0:=rfl
theorem ZC (b s c e z h:Int):(Zl b s c e z h).all (·.oneCell')=true:=by simp[Zl,Value.oneCell']
theorem Xh {P:Program} {ops:Array Oper} {rest:List Oper} {o:Oper} {a:Act} {w:World} {Q:Exit->Act->World->Prop} (hg:o.guard=none) (t:TypeId) (parts:Array (Nat × Operand)) (ho:o.op= .build t parts)
 (vs:List (Nat × Value)) (cs:Array Value) (hv:(parts.map fun(i,x)=>(i,a.eval x)).toList=vs) (hb:P.built t vs=some cs) (h:wpList P ops Q rest (a.put o.dst (.agg cs)) w):wpList P ops Q (o::rest) a w :=
 wpList_build hg t parts ho (by rw[hv,hb]; rfl) (by rw[hv,hb]; exact h)
structure YP (cs:Array Value) (h:ZX) (i:Nat):Prop where
 size:cs.size=39
 c0:cs[0]? =some (.int .u64 h.base)
 c1:cs[1]? =some (.int .i64 h.stamp)
 c2:cs[2]? =some (.int .i64 h.chars)
 c3:cs[3]? =some (.int .i64 h.entry)
 c4:cs[4]? =some (.int .i64 h.size)
 c5:cs[5]? =some (.int .i64 h.headers)
 dir0: ∀ j,j<i->cs[6+2 * j]? =some (.int .i64 (h.dirs j).1)
 dir1: ∀ j,j<i->cs[6+2 * j+1]? =some (.int .i64 (h.dirs j).2)
 c38:cs[38]? =some (.slice none 0 0)
 one: ∀ v∈cs,v.oneCell'=true
theorem YP.start (h:ZX):YP ((Zl 0 h.stamp h.chars h.entry h.size h.headers).setIfInBounds 0 (.int .u64 h.base)) h 0 :=
 ⟨rfl,rfl,rfl,rfl,rfl,rfl,rfl,fun j hj=>by omega,fun j hj=>by omega,rfl,by simp[Zl,Value.oneCell']⟩
theorem YP.next {cs:Array Value} {h:ZX} {i:Nat} (x:YP cs h i) (hi:i<16):YP ((cs.setIfInBounds (6+2 * i) (.int .i64 (h.dirs i).1)).setIfInBounds (6+2 * i+1) (.int .i64 (h.dirs i).2)) h (i+1):=by
 have hs:=x.size;have k: ∀ j v,j≠6+2 * i->j≠6+2 * i+1->cs[j]? =some v->((cs.setIfInBounds (6+2 * i) (.int .i64 (h.dirs i).1)).setIfInBounds (6+2 * i+1) (.int .i64 (h.dirs i).2))[j]? =some v:=fun j v h1 h2 h3=>by
  rw[Array.getElem?_setIfInBounds_ne (by omega),Array.getElem?_setIfInBounds_ne (by omega)]; exact h3
 refine⟨by simp[hs],k _ _ (by omega) (by omega) x.c0,k _ _ (by omega) (by omega) x.c1,k _ _ (by omega) (by omega) x.c2,k _ _ (by omega) (by omega) x.c3,k _ _ (by omega) (by omega) x.c4,k _ _ (by omega) (by omega) x.c5,fun j hj=> ?_,fun j hj=> ?_,k _ _ (by omega) (by omega) x.c38,fun v hv=> ?_⟩
 ·by_cases e:j=i
  ·subst e;rw[Array.getElem?_setIfInBounds_ne (by omega),Array.getElem?_setIfInBounds_self_of_lt (by omega)]
  ·exact k _ _ (by omega) (by omega) (x.dir0 j (by omega))
 ·by_cases e:j=i
  ·subst e;rw[Array.getElem?_setIfInBounds_self_of_lt (by simp; omega)]
  ·exact k _ _ (by omega) (by omega) (x.dir1 j (by omega))
 ·rcases Array.mem_or_eq_of_mem_setIfInBounds hv with hv|rfl
  ·rcases Array.mem_or_eq_of_mem_setIfInBounds hv with hv|rfl
   ·exact x.one v hv
   ·rfl
  ·rfl
theorem YP.all {cs:Array Value} {h:ZX} (x:YP cs h 16):YR cs h (.slice none 0 0):=⟨x.size,x.c0,x.c1,x.c2,x.c3,x.c4,x.c5,x.dir0,x.dir1,x.c38⟩
structure JT (w u:World) (h:ZX) (i:Nat):Prop where
 bel:Below w.heap.size w u
 res: ∃ Z:Array Value,u.heap[w.heap.size]? =some (.cells Z 41 (0,0))/\Z.size=39
 cs: ∃ cs,u.heap[w.heap.size+1]? =some (.cells cs 41 (0,0))/\YP cs h i
theorem JT.next {w u:World} {h:ZX} {i:Nat} (x:JT w u h i) (hi:i<16) (v1 v2:Int) (e1:v1=(h.dirs i).1) (e2:v2=(h.dirs i).2) :
 JT w ((u.setCell ⟨w.heap.size+1,6+i * 2,none⟩ (.int .i64 v1)).setCell ⟨w.heap.size+1,6+i * 2+1,none⟩ (.int .i64 v2)) h (i+1):=by
 subst e1 e2;rw[Nat.mul_comm i 2];obtain⟨Z,hz,r9⟩:=x.res;obtain⟨cs,hc,hp⟩:=x.cs;refine⟨(x.bel.setCell (by simp) _).setCell (by simp) _,⟨Z,?_,r9⟩,⟨_,heap_setCell_same _ _ _ _ _ _ (heap_setCell_same _ _ _ _ _ _ hc),hp.next hi⟩⟩;rw[heap_setCell_other _ _ _ _ (by simp),heap_setCell_other _ _ _ _ (by simp)];exact hz
theorem JT.start (w:World) (h:ZX):JT w ((((w.alloc (.cells (Zl 0 0 0 0 0 0) 41)).alloc (.cells (Zl 0 0 0 0 0 0) 41)).setRow (w.heap.size+1) (Zl 0 h.stamp h.chars h.entry h.size h.headers)).setCell ⟨w.heap.size+1,0,none⟩ (.int .u64 h.base)) h 0:=by
 refine⟨(below_setRow (((Below.refl _ w).alloc (Nat.le_refl _) _).alloc (by simp) _) (by simp) _).setCell (by simp) _,⟨Zl 0 0 0 0 0 0,?_,rfl⟩,⟨_,heap_setCell_same _ _ _ _ _ _ (setRow_heap _ _ _ _ _ _ (heap_alloc2_new _ _ _)),YP.start h⟩⟩;rw[heap_setCell_other _ _ _ _ (by simp),setRow_other _ _ _ _ (by simp)];exact heap_alloc2_old _ _ _
theorem Zmu (b off n cap:Nat) (f:Nat->Int) (p:Nat) (w:World) (h:Wj w b off n cap f) (hp:p+264<=n) (Fz:p<=4294967296) :
 Calls Tryz.prog 63 #[.slice (some ⟨b,off,none⟩) n cap,.int .i64 p] w fun e w'=>(∃ cs,e= .returned (.agg cs)/\YR cs (Zw f p) (.slice none 0 0))/\Below w.heap.size w w':=by
 have h8: ∀ w',Below w.heap.size w w'->_:=fun w' hb=>Zd3 b off n cap f (p+8) w' (h.below hb) (by omega);have Gj: ∀ w',Below w.heap.size w w'->_:=fun w' hb=>pn b off n cap f (p+22) w' (h.below hb) (by omega);have Gk: ∀ w',Below w.heap.size w w'->_:=fun w' hb=>Zd3 b off n cap f (p+40) w' (h.below hb) (by omega);have Gl: ∀ w',Below w.heap.size w w'->_:=fun w' hb=>Zd3 b off n cap f (p+80) w' (h.below hb) (by omega);have Gm: ∀ w',Below w.heap.size w w'->_:=fun w' hb=>Zd3 b off n cap f (p+84) w' (h.below hb) (by omega);have Gn: ∀ w',Below w.heap.size w w'->_:=fun w' hb=>Zax b off n cap f (p+48) w' (by have:=h.len; have:=h.most; omega) (by omega) h.by255 (h.below hb).row;rw[show((p+8:Nat):Int)=(p:Int)+8 by omega] at h8;rw[show((p+22:Nat):Int)=(p:Int)+22 by omega] at Gj;rw[show((p+40:Nat):Int)=(p:Int)+40 by omega] at Gk;rw[show((p+80:Nat):Int)=(p:Int)+80 by omega] at Gl;rw[show((p+84:Nat):Int)=(p:Int)+84 by omega] at Gm;rw[show((p+48:Nat):Int)=(p:Int)+48 by omega] at Gn;have HR:=Zg h;have H8:=Zg h8;have KG:=Zg Gj;have wA:=Zg Gk;have KH:=Zg Gl;have KI:=Zg Gm;have wB:=Zg Gn;clear h8 Gj Gk Gl Gm Gn h;go_enter Tryz.func63,Tryz.ntmps63;go_wp2_with fail
 refine(H8.out _ ((Below.refl _ w).alloc (Nat.le_refl _) _)).mono ?_;rintro e w' ⟨rfl,rfl⟩;go_wp2_with fail
 refine(KG.out _ ((Below.refl _ w).alloc (Nat.le_refl _) _)).mono ?_;rintro e w' ⟨rfl,rfl⟩;go_wp2_with fail
 refine(wA.out _ ((Below.refl _ w).alloc (Nat.le_refl _) _)).mono ?_;rintro e w' ⟨rfl,rfl⟩;go_wp2_with fail
 refine(KH.out _ ((Below.refl _ w).alloc (Nat.le_refl _) _)).mono ?_;rintro e w' ⟨rfl,rfl⟩;go_wp2_with fail
 refine(KI.out _ ((Below.refl _ w).alloc (Nat.le_refl _) _)).mono ?_;rintro e w' ⟨rfl,rfl⟩;rw[Yh];rename_i hK;refine hK _ _ ?_;refine Xh rfl 41 _ rfl [(1,.int .i64 (rdF f (p+8) 4)),(2,.int .i64 (rdF f (p+22) 2)),(3,.int .i64 (rdF f (p+40) 4)),(4,.int .i64 (rdF f (p+80) 4)),(5,.int .i64 (rdF f (p+84) 4))] (Zl 0 (rdF f (p+8) 4) (rdF f (p+22) 2) (rdF f (p+40) 4) (rdF f (p+80) 4) (rdF f (p+84) 4)) ?hv ?hb ?_
 case hv=>simp[go_sem]
 case hb=>exact Zhf _ _ _ _ _
 have uX:(Zl 0 (rdF f (p+8) 4) (rdF f (p+22) 2) (rdF f (p+40) 4) (rdF f (p+80) 4) (rdF f (p+84) 4)).size=39:=rfl;have tq:(Zl 0 (rdF f (p+8) 4) (rdF f (p+22) 2) (rdF f (p+40) 4) (rdF f (p+80) 4) (rdF f (p+84) 4)).all (·.oneCell')=true:=ZC _ _ _ _ _ _;have hC:=Zg (rfl:Zl 0 (rdF f (p+8) 4) (rdF f (p+22) 2) (rdF f (p+40) 4) (rdF f (p+80) 4) (rdF f (p+84) 4)=Zl 0 (rdF f (p+8) 4) (rdF f (p+22) 2) (rdF f (p+40) 4) (rdF f (p+80) 4) (rdF f (p+84) 4));have Gp:(Zl 0 (rdF f (p+8) 4) (rdF f (p+22) 2) (rdF f (p+40) 4) (rdF f (p+80) 4) (rdF f (p+84) 4))[0]? =some (.int .u64 0):=rfl;have yc:=Zg (JT.start w (Zw f p));simp only[Zw] at yc;generalize Zl 0 (rdF f (p+8) 4) (rdF f (p+22) 2) (rdF f (p+40) 4) (rdF f (p+80) 4) (rdF f (p+84) 4)=C1 at uX tq Gp yc ⊢;go_wp2_with (refine wpList_store_row rfl 41 _ _ rfl (w.heap.size+1) C1 ?hx ?hy 41 _ (heap_alloc2_new _ _ _) (by rw[uX]; rfl) ?hold tq ?_)
 rw[Yh];have ja:=setRow_heap ((w.alloc (.cells (Zl 0 0 0 0 0 0) 41)).alloc (.cells (Zl 0 0 0 0 0 0) 41)) (w.heap.size+1) _ C1 _ _ (heap_alloc2_new _ _ _);have av:=Zg (below_setRow (((Below.refl w.heap.size w).alloc (Nat.le_refl _) (.cells (Zl 0 0 0 0 0 0) 41)).alloc (by simp) (.cells (Zl 0 0 0 0 0 0) 41)) (show w.heap.size<=w.heap.size+1 by omega) C1);generalize ((w.alloc (.cells (Zl 0 0 0 0 0 0) 41)).alloc (.cells (Zl 0 0 0 0 0 0) 41)).setRow (w.heap.size+1) C1=W1 at ja av yc ⊢;have dQ:=frozen_of_row W1 (w.heap.size+1) 0 _ _ ja;have ig:W1.cell? ⟨w.heap.size+1,0,none⟩=some (.int .u64 0):=by rw[cell_of_row W1 _ 0 _ _ _ ja]; exact Gp
 clear ja Gp uX tq;refine(wB.out _ av.out).mono ?_;rintro e w' ⟨rfl,rfl⟩;clear H8 KG wA KH KI wB;go_wp2_with fail
 clear ig dQ;generalize W1.setCell ⟨w.heap.size+1,0,none⟩ (.int .u64 (rdF f (p+48) 8))=W2 at yc ⊢;clear hC;have KJ:=yc;clear av yc;go_loopw [6,7,37] (fun o6 o7 Gw wr=> ∃ i:Nat,i<=16/\Gw= .int .i64 i/\JT w wr (Zw f p) i) (fun _ _ Gw _=>16 - (intOf Gw).toNat)
 case atStart=>exact⟨0,by omega,rfl,KJ.out⟩
 case round =>
  obtain⟨i,hi,rfl,ha⟩:=hrel;have HA:=Zg ha;clear ha KJ;by_cases af:i<16
  ·obtain⟨cs,hg,hp⟩:=HA.out.cs;have h1:=Zd3 b off n cap f (p+136+8 * i) _ (HR.out.below HA.out.bel) (by omega);have h2:=Zd3 b off n cap f (p+136+8 * i+4) _ (HR.out.below HA.out.bel) (by omega);rw[show((p+136+8 * i:Nat):Int)=(p:Int)+136+8 * (i:Int) by omega] at h1;rw[show((p+136+8 * i+4:Nat):Int)=(p:Int)+136+8 * (i:Int)+4 by omega] at h2;have H1:=Zg h1;have H2:=Zg h2;clear h1 h2;have aE:(i:Int)<16:=by omega
   have aT:=hp.size;have z0:=frozen_of_row _ _ (6+i * 2) _ _ hg;have z1:=frozen_of_row _ _ (6+i * 2+1) _ _ hg;have c0:=cell_of_row _ _ (6+i * 2) _ _ _ hg;have c1:=cell_of_row _ _ (6+i * 2+1) _ _ _ hg;rw[Array.getElem?_eq_getElem (by omega)] at c0 c1;generalize cs[6+i * 2]=q0 at c0;generalize cs[6+i * 2+1]=q1 at c1;clear hg hp aT;go_wp2_with fail
   refine H1.out.mono ?_;rintro e w' ⟨rfl,rfl⟩;go_wp2_with fail
   refine H2.out.mono ?_;rintro e w' ⟨rfl,rfl⟩;go_wp2_with fail
   go_roundw
   case rel=>exact⟨i+1,by omega,by go_num,HA.out.next af _ _ rfl rfl⟩
   case measure=>simp[intOf]; omega
  ·obtain rfl:i=16:=by omega
   obtain⟨Z,hz,r9⟩:=HA.out.res;obtain⟨cs,hg,hp⟩:=HA.out.cs;have aT:=hp.size;have aZ:cs.all (·.oneCell')=true:=Array.all_eq_true_iff_forall_mem.2 hp.one;have HV:=Zg hp.all;clear hp;go_wp2_with (first
    | refine wpList_load_row rfl 41 _ rfl (w.heap.size+1) rfl 41 cs (0,0) _ hg rfl rfl (by rw[aT]; rfl) ?_
    | refine wpList_store_row rfl 41 _ _ rfl w.heap.size cs rfl rfl 41 Z hz (by rw[aT]; rfl) (by omega) aZ ?_)
   refine bodyPost_ret (v:= .agg cs) (results_cell_row rfl _ _ w.heap.size 41 cs (0,0) _ ?hp (setRow_heap _ _ _ _ _ _ hz) rfl rfl (by rw[aT]; rfl)) rfl ⟨⟨cs,rfl,HV.out⟩,below_setRow HA.out.bel (Nat.le_refl _) cs⟩;rfl
def Ye (f:Nat->Int) (o:Nat):Nat->Nat
 | 0=>0
 | n+1=>if f o=0 then 0 else Ye f (o+1) n+1
theorem Uj (f:Nat->Int) (o n:Nat):Ye f o n<=n:=by
 induction n generalizing o with
 | zero=>simp[Ye]
 | succ n ih=>unfold Ye; split; omega; have:=ih (o+1); omega
theorem UW (f:Nat->Int) (hf:Zm f) (o n:Nat):Lib.indexByte (Lib.bytesOf ((List.range n).map fun i=>f (o+i))) 0=if Ye f o n=n then -1 else(Ye f o n:Int):=by
 induction n generalizing o with
 | zero=>simp[Ye,Lib.bytesOf,Lib.indexByte]
 | succ n ih =>
   have h1:(List.range (n+1)).map (fun i=>f (o+i))=f o::(List.range n).map (fun i=>f (o+1+i)):=by
    rw[List.range_succ_eq_map,List.map_cons,List.map_map];simp only[Nat.add_zero,List.cons.injEq,true_and];exact List.map_congr_left fun i _=>by simp only[Function.comp]; congr 1; omega
   rw[h1];have h2:Lib.bytesOf (f o::(List.range n).map (fun i=>f (o+1+i)))=(f o).toNat.toUInt8::Lib.bytesOf ((List.range n).map (fun i=>f (o+1+i))):=by simp[Lib.bytesOf]
   rw[h2];unfold Lib.indexByte Ye;rw[ih (o+1)];have hl:=Uj f (o+1) n;have hb:=hf o;by_cases e:f o=0
   ·simp[e]
   ·have e2:((f o).toNat.toUInt8 == 0)=false:=by
     rw[beq_eq_false_iff_ne];intro h;have:=congrArg UInt8.toNat h;simp at this;omega
    rw[e2,if_neg e];by_cases e3:Ye f (o+1) n=n
    ·simp[e3]
    ·have e4:((Ye f (o+1) n:Int) == -1)=false:=by rw[beq_eq_false_iff_ne]; omega
     have e5: ¬ (Ye f (o+1) n+1=n+1):=by omega
     simp[e3,e4]
def Qc (f:Nat->Int) (o:Nat):ByteArray:=ZB f o (Ye f o 8)
theorem Zmv (b off n cap:Nat) (f:Nat->Int) (o c:Nat) (w:World) (h:Wj w b off n cap f) (ho:o+8<=n) (hc:8<=c) :
 Calls Tryz.prog 105 #[.slice (some ⟨b,off+o,none⟩) 8 c] w fun e w'=>e= .returned (.string (Qc f o))/\w=w':=by
 have hi:=Tryz.bytes_IndexByte b (off+o) 8 c ((List.range 8).map fun i=>f (o+i)) 0 w (by simp) (fun i hi=>by
  rw[Nat.add_assoc,h.row (o+i) (by omega)];congr 2
  simp[hi])
 have h0:((0:Int).toNat.toUInt8)=0:=rfl;rw[h0,UW f h.by255] at hi;have hl:=Uj f o 8;have hs:=QC (cap:=c) h.row (show o+Ye f o 8<=n by omega);unfold Qc;generalize Ye f o 8=k at *;have HI:=Zg hi;clear hi h h0;by_cases e:k=8
 ·subst e;rw[if_pos rfl] at HI;go_enter Tryz.func105,Tryz.ntmps105;go_wp2_with (go_fit HI.out; rintro e w' ⟨rfl,rfl⟩)
  go_ret;exact⟨rfl,rfl⟩
 ·rw[if_neg e] at HI;go_enter Tryz.func105,Tryz.ntmps105;go_wp2_with (go_fit HI.out; rintro e w' ⟨rfl,rfl⟩)
  go_ret;exact⟨rfl,rfl⟩
structure Zx where
 name:ByteArray
 vsize:Int
 rva:Int
 raw:Int
 spot:Int
 chars:Int
def Zx.cells (s:Zx):List Value:=[.string s.name,.int .i64 s.vsize,.int .i64 s.rva,.int .i64 s.raw,.int .i64 s.spot,.int .i64 s.chars]
theorem Zx.cells_len (s:Zx):s.cells.length=6:=rfl
def Zx.arr (s:Zx):Array Value:= #[.string s.name,.int .i64 s.vsize,.int .i64 s.rva,.int .i64 s.raw,.int .i64 s.spot,.int .i64 s.chars]
theorem Zx.arr_list (s:Zx):s.arr.toList=s.cells:=rfl
theorem Zx.arr_one (s:Zx):s.arr.all (·.oneCell')=true:=by simp[Zx.arr,Value.oneCell']
theorem QR (s:Zx):Tryz.prog.built 72 [(0,.string s.name),(1,.int .i64 s.vsize),(2,.int .i64 s.rva),(3,.int .i64 s.raw),(4,.int .i64 s.spot),(5,.int .i64 s.chars)]=some s.arr:=by
 kernel_rfl
def Xm (f:Nat->Int) (o:Nat):Zx:=⟨Qc f o,rdF f (o+8) 4,rdF f (o+12) 4,rdF f (o+16) 4,rdF f (o+20) 4,rdF f (o+36) 4⟩
def ZM (f:Nat->Int) (o k:Nat):List Zx:=(List.range k).map fun j=>Xm f (o+40 * j)
structure WC (w u:World) (g n:Nat) (s:Nat->Zx) (i:Nat):Prop where
 bel:Below w.heap.size w u
 lt:g<u.heap.size
 le:w.heap.size<=g
 got: ∀ j,j<i->u.rangeAt g (j * 6) (s j).cells
 there: ∀ j,j<n->u.there g (j * 6) 6
theorem Ya {B:Nat} {a:World} {g:Nat} (hg:B<=g): ∀(vs:List Value) (o:Nat) (w:World),Below B a w->Below B a (w.setCells g o vs)
 | [],_,_,h=>h
 | v::r,o,w,h=>Ya hg r (o+1) _ (h.setCell hg v)
theorem YD (g:Nat): ∀(vs:List Value) (o:Nat) (w:World),(w.setCells g o vs).heap.size=w.heap.size
 | [],_,_=>rfl
 | v::r,o,w=>by rw[World.setCells,YD g r]; simp
theorem WC.next {w u:World} {g n i:Nat} {s:Nat->Zx} (x:WC w u g n s i) (hi:i<n) (l:List Value) (hl:l=(s i).cells):WC w (u.setCells g (i * 6) l) g n s (i+1):=by
 subst hl;refine⟨Ya x.le _ _ _ x.bel,by rw[YD]; exact x.lt,x.le,fun j hj=> ?_,fun j hj=>World.there_setCells (x.there j hj) _ _ _⟩;by_cases e:j=i
 ·subst e;exact World.rangeAt_setCells_same _ _ _ _ (x.there j hi)
 ·exact World.rangeAt_setCells_apart (x.got j (by omega)) _ _ _ (.inr (.inl (by rw[Zx.cells_len]; omega)))
theorem WC.all {w u:World} {g n:Nat} {s:Nat->Zx} (x:WC w u g n s n):SlT Zx.cells 6 u (some ⟨g,0,none⟩) ((List.range n).map s) :=
 .inr ⟨g,0,rfl,x.lt,fun i hi j v hv=>by
  rw[Nat.zero_add];simp only[List.length_map,List.length_range] at hi;simp only[List.getElem_map,List.getElem_range] at hv;exact x.got i hi j v hv⟩
theorem UX {P:Program} (w:World) {ops:Array Oper} {rest:List Oper} {o:Oper} {a:Act} {Q:Exit->Act->World->Prop}
 (hg:o.guard=none) (l c:Operand) (t:TypeId) (vi:o.op=Op.makeSlice t l c)
 (e:TypeId) (z:Value) (size bytes:Nat) (ht:P.underlying t=some (.slice e)) (lj:(P.info? e).map (fun i=>(i.zero,i.size,i.bytes))=some (some z,size,bytes))
 (kl kc:IntKind) (n:Nat) (hl:a.eval l= .int kl (n:Int)) (hc:a.eval c= .int kc (n:Int)) (fJ:bytes * n<=281474976710656) (n9:n<=9223372036854775807)
 (hK:wpList P ops Q rest (a.put o.dst (.slice (some ⟨w.heap.size,0,none⟩) n n)) (w.alloc (.cells (madeCells z.cells (n * size)) e))) :
 wpList P ops Q (o::rest) a w:=by
 obtain⟨i,hi,oo⟩:=Option.map_eq_some_iff.1 lj;simp only[Prod.mk.injEq] at oo;obtain⟨hz,hs,hb⟩:=oo;refine wpList_plain hg fun K kS=> ?_;have dD:(i.bytes:Int) * (n:Int)<=281474976710656:=by
  have h:((i.bytes * n:Nat):Int)<=281474976710656:=by rw[hb]; omega
  rwa [Int.natCast_mul] at h
 have bG:=run_make (P:=P) w t e i z ht hi hz kl kc n n (by omega) (Int.le_refl _) dD (by omega);simp only[Int.toNat_natCast,hs] at bG;unfold Oper.wp;simp[execOp,vi,hl,hc,bG,Result.andThen];exact kS _ _ hK
theorem WC.start (w:World) (zc:Array Value) (e:TypeId) (n:Nat) (s:Nat->Zx):WC w (w.alloc (.cells (madeCells zc (n * 6)) e)) w.heap.size n s 0 :=
 ⟨(Below.refl _ w).alloc (Nat.le_refl _) _,by simp,Nat.le_refl _,fun j hj=>by omega,fun j hj k hk=>by
   have hh:=heap_alloc_new w (.cells (madeCells zc (n * 6)) e);refine⟨?_,frozen_of_row _ _ _ _ _ hh⟩;rw[cell_of_row _ _ _ _ _ _ hh,Array.getElem?_eq_getElem (by rw[size_madeCells]; omega)];rfl⟩
theorem Zks (b off n cap:Nat) (f:Nat->Int) (o k:Nat) (w:World) (h:Wj w b off n cap f) (hk:1<=k) (ei:k<=16) (ho:o+40 * k<=n) (dJ:o<=8589934592) :
 Calls Tryz.prog 67 #[.slice (some ⟨b,off,none⟩) n cap,.int .i64 o,.int .i64 k] w fun e w'=>e= .returned (.slice (some ⟨w.heap.size,0,none⟩) k k)/\SlT Zx.cells 6 w' (some ⟨w.heap.size,0,none⟩) (ZM f o k)/\Below w.heap.size w w':=by
 have HR:=Zg h;have RU:=h.len;have gL:=h.most;clear h;go_enter Tryz.func67,Tryz.ntmps67;go_wp2_with (at_make; refine UX _ rfl (.tmp 9) (.tmp 9) 39 rfl 72 (.agg #[.string ⟨#[]⟩,.int .i64 0,.int .i64 0,.int .i64 0,.int .i64 0,.int .i64 0]) 6 56 (by kernel_rfl) (by kernel_rfl) .i64 .i64 k (by simp[Act.eval,Act.put]) (by simp[Act.eval,Act.put]) (by omega) (by omega) ?_)
 go_loopw [1,8,13] (fun o1 o8 Gx wr=> ∃ i:Nat,i<=k/\Gx= .int .i64 i/\o1= .int .i64 ((o+40 * i:Nat):Int)/\WC w wr w.heap.size k (fun j=>Xm f (o+40 * j)) i) (fun _ _ Gx _=>k - (intOf Gx).toNat)
 case atStart=>exact⟨0,by omega,rfl,by simp,WC.start w _ _ k _⟩
 case round =>
  obtain⟨i,hi,rfl,rfl,ha⟩:=hrel;have HA:=Zg ha;clear ha;by_cases af:i<k
  ·have aE:(i:Int)<k:=by omega
   have hb:=HR.out.below HA.out.bel;have hn:=Zmv b off n cap f (o+40 * i) (cap - (o+40 * i)) _ hb (by omega) (by omega);have h1:=Zd3 b off n cap f (o+40 * i+8) _ hb (by omega);have h2:=Zd3 b off n cap f (o+40 * i+12) _ hb (by omega);have h3:=Zd3 b off n cap f (o+40 * i+16) _ hb (by omega);have h4:=Zd3 b off n cap f (o+40 * i+20) _ hb (by omega);have h5:=Zd3 b off n cap f (o+40 * i+36) _ hb (by omega);have AO:=HA.out.there i af;generalize hP:o+40 * i=p at *;rw[show((p+8:Nat):Int)=(p:Int)+8 by omega] at h1;rw[show((p+12:Nat):Int)=(p:Int)+12 by omega] at h2;rw[show((p+16:Nat):Int)=(p:Int)+16 by omega] at h3;rw[show((p+20:Nat):Int)=(p:Int)+20 by omega] at h4;rw[show((p+36:Nat):Int)=(p:Int)+36 by omega] at h5;have HN:=Zg hn;have H1:=Zg h1;have H2:=Zg h2;have H3:=Zg h3;have H4:=Zg h4;have H5:=Zg h5;have yS:p+40<=n:=by omega
   clear hn h1 h2 h3 h4 h5 hb;go_wp2_with (first|(go_fit HN.out; rintro e w' ⟨rfl,rfl⟩)|(go_fit H1.out; rintro e w' ⟨rfl,rfl⟩)|(go_fit H2.out; rintro e w' ⟨rfl,rfl⟩)|(go_fit H3.out; rintro e w' ⟨rfl,rfl⟩)|(go_fit H4.out; rintro e w' ⟨rfl,rfl⟩))
   refine H5.out.mono ?_;rintro e w' ⟨rfl,rfl⟩;rename_i hK;refine hK _ _ ?_;refine Xh rfl 72 _ rfl [(0,.string (Xm f p).name),(1,.int .i64 (Xm f p).vsize),(2,.int .i64 (Xm f p).rva),(3,.int .i64 (Xm f p).raw),(4,.int .i64 (Xm f p).spot),(5,.int .i64 (Xm f p).chars)] (Xm f p).arr ?hv ?hb ?_
   case hv=>simp[go_sem,Xm]
   case hb=>exact QR _
   have aZ:=(Xm f p).arr_one;have aT:(Xm f p).arr.size=6:=rfl;have rl:=Zg ((Xm f p).arr_list);generalize (Xm f p).arr=C1 at aZ aT rl ⊢;go_wp2_with (refine wpList_store_mid rfl 72 _ _ rfl w.heap.size (i * 6) C1 ?hx ?hy (by rw[aT]; exact AO) (by rw[aT]; rfl) aZ ?_)
   case hx=>rfl
   case hy=>rfl
   go_roundw
   case rel =>
    refine⟨i+1,by omega,by go_num,?_,HA.out.next af _ (by rw[hP]; exact rl.out)⟩;rw[show o+40 * (i+1)=p+40 by omega];go_num
   case measure=>simp[intOf]; omega
  ·obtain rfl:i=k:=by omega
   go_wp2_with fail
   go_ret;exact⟨rfl,HA.out.all,HA.out.bel⟩
def UY (size len next:Int) (s:Zx):Prop :=
 s.rva=next/\s.vsize≠0/\s.vsize<=size/\s.raw % 512=0/\s.raw<=ZS s.vsize 4096/\ ¬ (0<s.raw/\len<s.spot+s.raw)
def Yo (size len:Int):Int->List Zx->Prop
 | next,[]=>next=size
 | next,s::l=>UY size len next s/\Yo size len (next+ZS s.vsize 4096) l
structure JU (s:Zx):Prop where
 v0:0<=s.vsize
 v1:s.vsize<4294967296
 r0:0<=s.rva
 r1:s.rva<4294967296
 w0:0<=s.raw
 w1:s.raw<4294967296
 s0:0<=s.spot
 s1:s.spot<4294967296
 c0:0<=s.chars
 c1:s.chars<4294967296
theorem Uk {f:Nat->Int} (h:Zm f) (o:Nat):JU (Xm f o) :=
 ⟨(ZR f h 4 _).1,(ZR f h 4 _).2,(ZR f h 4 _).1,(ZR f h 4 _).2,(ZR f h 4 _).1,(ZR f h 4 _).2,(ZR f h 4 _).1,(ZR f h 4 _).2,(ZR f h 4 _).1,(ZR f h 4 _).2⟩
theorem XN (n:Int) (h:n<4294967296):0<=ZS n 4096/\ZS n 4096<=4294967296:=by
 unfold ZS;split
 ·omega
 ·rw[show max (4096:Int) 1=4096 by omega,show min n 1099511627776=n by omega];omega
theorem SlT.at6 {w:World} {g:Nat} {l:List Zx} (h:SlT Zx.cells 6 w (some ⟨g,0,none⟩) l) (i:Nat) (hi:i<l.length) :
 w.cell? ⟨g,i * 6,none⟩=some (.string l[i].name)/\w.cell? ⟨g,i * 6+1,none⟩=some (.int .i64 l[i].vsize)/\w.cell? ⟨g,i * 6+2,none⟩=some (.int .i64 l[i].rva) /\
 w.cell? ⟨g,i * 6+3,none⟩=some (.int .i64 l[i].raw)/\w.cell? ⟨g,i * 6+4,none⟩=some (.int .i64 l[i].spot)/\w.cell? ⟨g,i * 6+5,none⟩=some (.int .i64 l[i].chars):=by
 rcases h with rfl|⟨b,off,hb,af,hc⟩
 ·simp at hi
 ·injection hb with hb;injection hb with h1 h2;subst h1 h2;have k:=fun j v hv=>hc i hi j v hv;simp only[Nat.zero_add] at k;exact⟨k 0 _ rfl,k 1 _ rfl,k 2 _ rfl,k 3 _ rfl,k 4 _ rfl,k 5 _ rfl⟩
theorem Zkt (cs:Array Value) (h:ZX) (g c:Nat) (l:List Zx) (n:Int) (bb:Bool) (w:World) (hv:YR cs h (.slice (some ⟨g,0,none⟩) l.length c)) (hl:SlT Zx.cells 6 w (some ⟨g,0,none⟩) l) (hg:g<w.heap.size)
 (jr: ∀ s∈l,JU s) (hk:l.length<=16) (h0:0<=h.headers) (h1:h.headers<4294967296) (z0:0<=h.size) (z1:h.size<4294967296) (n0:0<=n) (n1:n<=9223372036854775807)
 (hb:bb=true↔Yo h.size n (ZS h.headers 4096) l) :
 Calls Tryz.prog 68 #[.agg cs,.int .i64 n] w fun e w'=>e= .returned (.bool bb)/\Below w.heap.size w w':=by
 have au:=Zg ((Below.refl w.heap.size w).alloc (Nat.le_refl _) (.cells cs 41));have mo:=Zg (heap_alloc_new w (.cells cs 41));have hr:=XN h.headers h1;have c4:=hv.c4;have c5:=hv.c5;have c38:=hv.c38;have HV:=Zg hv;have HL:=Zg hl;have HB:=Zg hb;clear hl hb hv;generalize h.headers=y5 at *;generalize h.size=y4 at *;go_enter Tryz.func68,Tryz.ntmps68;go_wp2_with (refine(Zbx y5 4096 _ (by omega) (by omega) (by omega) (by omega)).mono ?_; rintro e w' ⟨rfl,rfl⟩)
 generalize ZS y5 4096=N0 at *;clear c5 c38;generalize w.alloc (.cells cs 41)=w1 at au mo ⊢;go_loopw [5,7,8,15] (fun o5 _ _ AG wr=> ∃(i:Nat) (nx:Int),i<=l.length/\AG= .int .i64 i/\o5= .int .i64 nx/\0<=nx/\nx<=4294967296+i * 4294967296/\(Yo y4 n N0 l↔Yo y4 n nx (l.drop i))/\Below w.heap.size w wr/\wr.heap[w.heap.size]? =some (.cells cs 41 (0,0))) (fun _ _ _ AG _=>l.length - (intOf AG).toNat)
 case atStart=>exact⟨0,N0,by omega,rfl,rfl,by omega,by omega,by simp,au.out,mo.out⟩
 case round =>
  obtain⟨i,nx,hi,rfl,rfl,x0,x1,iB,aq,vB⟩:=hrel;clear au mo;have pL:=Zg iB;have cp:=Zg aq;have Cd:=Zg vB;have cM:=Zg (Array.getElem?_eq_some_iff.1 vB).1;have Fx:wr.cell? ⟨w.heap.size,4,none⟩=some (.int .i64 y4):=by rw[cell_of_row wr _ 4 _ _ _ vB]; exact c4
  have RV: ∀ o,(wr.alloc o).cell? ⟨w.heap.size,4,none⟩=some (.int .i64 y4):=fun o=>by rw[World.cell?_alloc_lt _ _ _ cM.out]; exact Fx
  clear iB aq vB;by_cases af:i<l.length
  ·have aE:(i:Int)<l.length:=by omega
   obtain⟨d0,d1,d2,d3,d4,d5⟩:=(HL.out.below cp.out).at6 i af;have tp:=jr l[i] (List.getElem_mem af);have mD:l.drop i=l[i]::l.drop (i+1):=List.drop_eq_getElem_cons af;have rN:=Zg mD;clear mD;generalize l[i]=s at *;obtain⟨nm,v,rva,raw,spot,ch⟩:=s;simp only at d0 d1 d2 d3 d4 d5;have qS:=XN v tp.v1;obtain⟨v0,v1,r0,r1,w0,OL,s0,s1,OM,OP⟩:=tp;simp only at v0 v1 r0 r1 w0 OL s0 s1 OM OP;have hX:bb=true↔UY y4 n nx ⟨nm,v,rva,raw,spot,ch⟩/\Yo y4 n (nx+ZS v 4096) (l.drop (i+1)):=by rw[HB.out,pL.out,rN.out]; rfl
   have HR:=Zg (fun W=>Zbx v 4096 W (by omega) (by omega) (by omega) (by omega));have bm:(rva != nx)=true/\bb=false\/(rva != nx)=false/\((v == 0)=true/\bb=false\/(v == 0)=false/\(decide (y4<v)=true/\bb=false\/decide (y4<v)=false/\((¬ raw % 512=0)/\bb=false\/raw % 512=0 /\
    (ZS v 4096<raw/\bb=false\/raw<=ZS v 4096/\(0<raw/\n<spot+raw/\bb=false\/0<raw/\spot+raw<=n/\(bb=true↔Yo y4 n (nx+ZS v 4096) (l.drop (i+1))) \/
    raw<=0/\(bb=true↔Yo y4 n (nx+ZS v 4096) (l.drop (i+1)))))))):=by
    have hf: ∀ P:Prop,(P->False)->(bb=true↔P)->bb=false:=fun P h1 h2=>by cases bb with
     | false=>rfl
     | true=>exact(h1 (h2.1 rfl)).elim
    unfold UY at hX;simp only at hX;simp only[bne_iff_ne,ne_eq,bne_eq_false_iff_eq,beq_iff_eq,beq_eq_false_iff_ne,decide_eq_true_eq,decide_eq_false_iff_not];by_cases e1:rva=nx
    ·by_cases e2:v=0
     ·exact .inr ⟨e1,.inl ⟨e2,hf _ (fun h=>h.1.2.1 e2) hX⟩⟩
     ·by_cases e3:y4<v
      ·exact .inr ⟨e1,.inr ⟨e2,.inl ⟨e3,hf _ (fun h=>by have:=h.1.2.2.1; omega) hX⟩⟩⟩
      ·by_cases e4:raw % 512=0
       ·by_cases e5:ZS v 4096<raw
        ·exact .inr ⟨e1,.inr ⟨e2,.inr ⟨e3,.inr ⟨e4,.inl ⟨e5,hf _ (fun h=>by have:=h.1.2.2.2.2.1; omega) hX⟩⟩⟩⟩⟩
        ·by_cases e6:0<raw
         ·by_cases e7:n<spot+raw
          ·exact .inr ⟨e1,.inr ⟨e2,.inr ⟨e3,.inr ⟨e4,.inr ⟨by omega,.inl ⟨e6,e7,hf _ (fun h=>h.1.2.2.2.2.2 ⟨e6,e7⟩) hX⟩⟩⟩⟩⟩⟩
          ·exact .inr ⟨e1,.inr ⟨e2,.inr ⟨e3,.inr ⟨e4,.inr ⟨by omega,.inr (.inl ⟨e6,by omega,by rw[hX]; exact⟨fun h=>h.2,fun h=>⟨⟨e1,e2,by omega,e4,by omega,fun h=>e7 h.2⟩,h⟩⟩⟩)⟩⟩⟩⟩⟩
         ·exact .inr ⟨e1,.inr ⟨e2,.inr ⟨e3,.inr ⟨e4,.inr ⟨by omega,.inr (.inr ⟨by omega,by rw[hX]; exact⟨fun h=>h.2,fun h=>⟨⟨e1,e2,by omega,e4,by omega,fun h=>e6 h.1⟩,h⟩⟩⟩)⟩⟩⟩⟩⟩
       ·exact .inr ⟨e1,.inr ⟨e2,.inr ⟨e3,.inl ⟨e4,hf _ (fun h=>e4 h.1.2.2.2.1) hX⟩⟩⟩⟩
    ·exact .inl ⟨e1,hf _ (fun h=>e1 h.1.1) hX⟩
   have gV:=Zg jr;clear hX hr h0 h1 jr;generalize ZS v 4096=R at *;rcases bm with⟨e1,rfl⟩|⟨e1,⟨e2,rfl⟩|⟨e2,⟨e3,rfl⟩|⟨e3,⟨e4,rfl⟩|⟨e4,⟨e5,rfl⟩|⟨e5,⟨e6,e7,rfl⟩|⟨e6,e7,e8⟩|⟨e6,e8⟩⟩⟩⟩⟩⟩;iterate 6
    ·go_wp2_with (go_fit (HR.out _); rintro e w' ⟨rfl,rfl⟩)
     go_ret;exact⟨rfl,cp.out.alloc cp.out.size _⟩
   all_goals
    go_wp2_with (go_fit (HR.out _); rintro e w' ⟨rfl,rfl⟩)
    go_roundw
    case rel=>exact⟨i+1,nx+R,by omega,by go_num,rfl,by omega,by omega,by rw[<-HB.out,e8],cp.out.alloc cp.out.size _,by rw[heap_alloc_old _ _ cM.out]; exact Cd.out⟩
    case measure=>simp[intOf]; omega
  ·obtain rfl:i=l.length:=by omega
   have eM:bb=decide (nx=y4):=by
    have h1:=HB.out;rw[pL.out,List.drop_length] at h1;rw[Bool.eq_iff_iff,h1,decide_eq_true_eq];rfl
   subst eM;go_wp2_with fail
   go_ret;refine⟨congrArg (fun b=>Ending.returned (.bool b)) ?_,cp.out⟩;rw[Bool.eq_iff_iff,beq_iff_eq,decide_eq_true_eq]
open Classical in
noncomputable def ZI (n:Nat) (f:Nat->Int):Int :=
 if(Zv n f).2≠0 then(Zv n f).2 else
 if Qz f (Zv n f).1.toNat≠0 then Qz f (Zv n f).1.toNat else
 if ¬ XS f (Zv n f).1.toNat (Zw f (Zv n f).1.toNat).base (Zw f (Zv n f).1.toNat).size then 6 else
 if ¬ Ys n (Zv n f).1.toNat (Zw f (Zv n f).1.toNat).headers (rdF f ((Zv n f).1.toNat+6) 2) then 7 else
 if ¬ Yo (Zw f (Zv n f).1.toNat).size n (ZS (Zw f (Zv n f).1.toNat).headers 4096) (ZM f ((Zv n f).1.toNat+264) (rdF f ((Zv n f).1.toNat+6) 2).toNat) then 7 else
 if(Zw f (Zv n f).1.toNat).size<=(Zw f (Zv n f).1.toNat).entry then 5 else 0
def headP (n:Nat) (f:Nat->Int):Nat:=(Zv n f).1.toNat
def headK (n:Nat) (f:Nat->Int):Nat:=(rdF f (headP n f+6) 2).toNat
def Ul:ZX:=⟨0,0,0,0,0,0,fun _=>(0,0)⟩
theorem ZD:YR (Zl 0 0 0 0 0 0) Ul (.slice none 0 0):=by
 refine⟨rfl,rfl,rfl,rfl,rfl,rfl,rfl,fun i hi=> ?_,fun i hi=> ?_,rfl⟩
 ·rcases(by omega:i=0\/i=1\/i=2\/i=3\/i=4\/i=5\/i=6\/i=7\/i=8\/i=9\/i=10\/i=11\/i=12\/i=13\/i=14\/i=15) with h|h|h|h|h|h|h|h|h|h|h|h|h|h|h|h <;> subst h <;> rfl
 ·rcases(by omega:i=0\/i=1\/i=2\/i=3\/i=4\/i=5\/i=6\/i=7\/i=8\/i=9\/i=10\/i=11\/i=12\/i=13\/i=14\/i=15) with h|h|h|h|h|h|h|h|h|h|h|h|h|h|h|h <;> subst h <;> rfl
theorem YR.one {cs:Array Value} {h:ZX} {sv:Value} (x:YR cs h sv) (hs:sv.oneCell'=true):cs.all (·.oneCell')=true:=by
 refine Array.all_eq_true_iff_forall_mem.2 fun v hv=> ?_;obtain⟨j,hj,rfl⟩:=Array.mem_iff_getElem.1 hv;have aT:=x.size;have k: ∀ u,cs[j]? =some u->u.oneCell'=true->cs[j].oneCell'=true:=fun u h1 h2=>by
  rw[Array.getElem?_eq_getElem hj] at h1;injection h1 with h1;rw[h1]; exact h2
 rcases(by omega:j=0\/j=1\/j=2\/j=3\/j=4\/j=5\/j=38\/((j - 6) / 2<16/\j=6+2 * ((j - 6) / 2))\/((j - 6) / 2<16/\j=6+2 * ((j - 6) / 2)+1)) with h|h|h|h|h|h|h|⟨hi,h⟩|⟨hi,h⟩
 ·exact k _ (by rw[h]; exact x.c0) rfl
 ·exact k _ (by rw[h]; exact x.c1) rfl
 ·exact k _ (by rw[h]; exact x.c2) rfl
 ·exact k _ (by rw[h]; exact x.c3) rfl
 ·exact k _ (by rw[h]; exact x.c4) rfl
 ·exact k _ (by rw[h]; exact x.c5) rfl
 ·exact k _ (by rw[h]; exact x.c38) hs
 ·exact k _ (by rw[h]; exact x.dir0 _ hi) rfl
 ·exact k _ (by rw[h]; exact x.dir1 _ hi) rfl
theorem YR.sects {cs:Array Value} {h:ZX} {sv:Value} (x:YR cs h sv) (ps:Value):YR (cs.setIfInBounds 38 ps) h ps:=by
 have hs:=x.size;have k: ∀ j v,j≠38->cs[j]? =some v->(cs.setIfInBounds 38 ps)[j]? =some v:=fun j v h1 h2=>by
  rw[Array.getElem?_setIfInBounds_ne (by omega)]; exact h2
 exact⟨by simp[hs],k _ _ (by omega) x.c0,k _ _ (by omega) x.c1,k _ _ (by omega) x.c2,k _ _ (by omega) x.c3,k _ _ (by omega) x.c4,k _ _ (by omega) x.c5,fun i hi=>k _ _ (by omega) (x.dir0 i hi),fun i hi=>k _ _ (by omega) (x.dir1 i hi),by rw[Array.getElem?_setIfInBounds_self_of_lt (by omega)]⟩
def HeadR (w:World) (n:Nat) (f:Nat->Int) (v:Value):Prop :=
 ∃ cs,v= .tuple #[.agg cs,.int .i64 (ZI n f)] /\
   ((ZI n f≠0/\YR cs Ul (.slice none 0 0)) \/
    (ZI n f=0/\ ∃ g,YR cs (Zw f (headP n f)) (.slice (some ⟨g,0,none⟩) (headK n f) (headK n f))/\SlT Zx.cells 6 w (some ⟨g,0,none⟩) (ZM f (headP n f+264) (headK n f))/\g<w.heap.size))
theorem Zj {P:Program} {fn:Func} {p q:Tmp} {ty:TypeId} (h:fn.results= #[.cell p ty,.tmp q]) (tmps:Array Value) (w:World) (g:Nat) (t:TypeId) (cs:Array Value) (fr:Nat × Nat) (d:TypeDesc) (v:Value)
 (hp:tmps.getD p undef= .pointer (some ⟨g,0,none⟩)) (hq:tmps.getD q undef=v) (hg:w.heap[g]? =some (.cells cs t fr))
 (hu:P.underlying ty=some d) (hd:(match d with| .struct _| .array _ _=>true|_=>false)=true) (hi:(P.info? ty).map (·.size)=some cs.size) :
 (results fn tmps).run P w= .ok (.tuple #[.agg cs,v]) w:=by
 have OK:tmps[p]?.getD undef= .pointer (some ⟨g,0,none⟩):=by simpa using hp
 have fl:tmps[q]?.getD undef=v:=by simpa using hq
 simp[results,h,OK,fl,asAddr,run_loadVar_row w g t ty cs fr d hg hu hd hi]
theorem Zku {n:Nat} {f:Nat->Int} (hf:Zm f) (h:(Zv n f).2=0): ∃ p:Nat,(Zv n f).1=p/\64<=p/\p % 4=0/\p+264<=n/\p<4294967296:=by
 have hb:=ZR f hf 4 60;unfold Zv at h ⊢;split at h
 ·cases h
 ·split at h
  ·cases h
  ·split at h
   ·cases h
   ·split at h
    ·cases h
    ·rename_i h1 h2 h3 h4;rw[if_neg h1,if_neg h2,if_neg h3,if_neg h4];refine⟨(rdF f 60 4).toNat,?_,?_,?_,?_,?_⟩ <;> simp only[] at * <;> omega
theorem QS (b off n cap:Nat) (f:Nat->Int) (w:World) (h:Wj w b off n cap f) :
 Calls Tryz.prog 23 #[.slice (some ⟨b,off,none⟩) n cap] w fun e w'=>(∃ v,e= .returned v/\HeadR w' n f v)/\Below w.heap.size w w':=by
 have fI:=Zjj b off n cap f;have hZ:=heap_alloc_new w (.cells (Zl 0 0 0 0 0 0) 41);have au:=Zg ((Below.refl w.heap.size w).alloc (Nat.le_refl _) (.cells (Zl 0 0 0 0 0 0) 41));have cY:(w.alloc (.cells (Zl 0 0 0 0 0 0) 41)).heap.size=w.heap.size+1:=by simp
 have sF:=Zg (h.below au.out);clear h;go_enter Tryz.func23,Tryz.ntmps23;go_wp2_with fail
 rw[Yh];generalize w.alloc (.cells (Zl 0 0 0 0 0 0) 41)=w1 at hZ au sF cY ⊢;refine(fI w1 sF.out).mono ?_;rintro e w2 ⟨rfl,aC⟩;have aj:=Zg (au.out.trans (aC.mono (by omega)));have lS:=Zg (sF.out.below aC);have oA:=(aC.block w.heap.size (by omega)).trans hZ;have bh:=Zg sF.out.by255;clear fI hZ au sF aC cY;by_cases e0:(Zv n f).2≠0
 ·have hE:ZI n f=(Zv n f).2:=by unfold ZI; rw[if_pos e0]
  have HE:=Zg hE;clear hE;generalize (Zv n f).2=x2 at *;generalize (Zv n f).1=x1 at *;have e1:(x2 != 0)=true:=by simpa using e0
  go_wp2_with (refine wpList_store_row rfl 41 _ _ rfl w.heap.size (Zl 0 0 0 0 0 0) rfl rfl 41 _ oA rfl rfl (ZC _ _ _ _ _ _) ?_)
  refine bodyPost_ret (v:= .tuple #[.agg (Zl 0 0 0 0 0 0),.int .i64 x2]) (Zj rfl _ _ w.heap.size 41 _ (0,0) _ _ rfl rfl (setRow_heap _ _ _ _ _ _ oA) rfl rfl rfl) rfl ⟨⟨_,rfl,_,by rw[HE.out],.inl ⟨by rw[HE.out]; exact e0,ZD⟩⟩,below_setRow aj.out (Nat.le_refl _) _⟩
 ·have Gq:(Zv n f).2=0:=by omega
  obtain⟨p,hp,p0,p1,p2,p3⟩:=Zku bh.out Gq;have hP:headP n f=p:=by unfold headP; rw[hp]; rfl
  have hK:headK n f=(rdF f (p+6) 2).toNat:=by unfold headK; rw[hP]
  have HP:=Zg hP;have HK:=Zg hK;have hE:ZI n f=ZI n f:=rfl;conv at hE=>rhs; unfold ZI
  rw[if_neg e0,hp,Int.toNat_natCast] at hE;have HE:=Zg hE;rw[Gq,hp];clear hE hP hK hp e0 Gq;have ho:=Zoe b off n cap f p w2 lS.out p2 (by omega);have HO:=Zg ho;clear ho;by_cases eo:Qz f p≠0
  ·have hE:ZI n f=Qz f p:=by rw[HE.out,if_pos eo]
   have eS:=Zg hE;clear hE;generalize Qz f p=x2 at *;have e1:(x2 != 0)=true:=by simpa using eo
   go_wp2_with (first|(go_fit HO.out; rintro e w' ⟨rfl,rfl⟩)|(refine wpList_store_row rfl 41 _ _ rfl w.heap.size (Zl 0 0 0 0 0 0) rfl rfl 41 _ oA rfl rfl (ZC _ _ _ _ _ _) ?_))
   refine bodyPost_ret (v:= .tuple #[.agg (Zl 0 0 0 0 0 0),.int .i64 x2]) (Zj rfl _ _ w.heap.size 41 _ (0,0) _ _ rfl rfl (setRow_heap _ _ _ _ _ _ oA) rfl rfl rfl) rfl ⟨⟨_,rfl,_,by rw[eS.out],.inl ⟨by rw[eS.out]; exact eo,ZD⟩⟩,below_setRow aj.out (Nat.le_refl _) _⟩
  ·have B4:Qz f p=0:=by omega
   rw[B4] at HO;have hE:ZI n f=_:=HE.out;rw[if_neg eo] at hE;have eS:=Zg hE;clear hE HE eo B4;go_wp2_with (go_fit HO.out; rintro e w' ⟨rfl,rfl⟩)
   refine(Zmu b off n cap f p w2 lS.out p2 (by omega)).mono ?_;rintro e w3 ⟨⟨cs,rfl,hv⟩,bJ⟩;have aN:=Zg (aj.out.trans (bJ.mono aj.out.size));have ki:=Zg (lS.out.below bJ);have aB:w.heap.size<w2.heap.size:=(Array.getElem?_eq_some_iff.1 oA).1;have zV:=(bJ.block w.heap.size aB).trans oA;have sd:w.heap.size<w3.heap.size:=Nat.lt_of_lt_of_le aB bJ.size;have aZ:=hv.one rfl;have iH:=hv.size;clear aj lS HO bJ oA aB;go_wp2_with (first
    | (refine wpList_store_row rfl 41 _ _ rfl w3.heap.size cs rfl rfl 41 _ (heap_alloc_new _ _) (by rw[iH]; rfl) (by rw[iH]; rfl) aZ ?_)
    | (refine wpList_load_row rfl 41 _ rfl w3.heap.size rfl 41 cs (0,0) _ (setRow_heap _ _ _ _ _ _ (heap_alloc_new _ _)) rfl rfl (by rw[iH]; rfl) ?_))
   rw[Yh];have Gr:=setRow_heap (w3.alloc (.cells (Zl 0 0 0 0 0 0) 41)) w3.heap.size _ cs _ _ (heap_alloc_new _ _);have CZ:((w3.alloc (.cells (Zl 0 0 0 0 0 0) 41)).setRow w3.heap.size cs).heap[w.heap.size]? =some (.cells (Zl 0 0 0 0 0 0) 41 (0,0)):=by rw[setRow_other _ _ _ _ (by omega),heap_alloc_old _ _ sd]; exact zV
   have xg:Below w3.heap.size w3 ((w3.alloc (.cells (Zl 0 0 0 0 0 0) 41)).setRow w3.heap.size cs):=below_setRow ((Below.refl _ w3).alloc (Nat.le_refl _) _) (Nat.le_refl _) _;have bH:=Zg (aN.out.trans (xg.mono aN.out.size));have fK:=Zg (ki.out.below xg);have oG:w3.heap.size<((w3.alloc (.cells (Zl 0 0 0 0 0 0) 41)).setRow w3.heap.size cs).heap.size:=by simp
   clear xg zV ki aN;generalize (w3.alloc (.cells (Zl 0 0 0 0 0 0) 41)).setRow w3.heap.size cs=w4 at *;generalize w3.heap.size=g7 at *;have HV:=Zg hv;have cM:=Zg sd;have jm:=Zg aZ;clear hv sd aZ;by_cases ea:XS f p (Zw f p).base (Zw f p).size
   ·have hE:ZI n f=_:=eS.out;rw[if_neg (fun h=>h ea)] at hE;have jC:=Zg hE;clear hE eS;have gX: ∀ k,Hid (0<=rdF f (p+k) 4/\rdF f (p+k) 4<4294967296):=fun k=>Zg (ZR f bh.out 4 _);have aC:=ZR f bh.out 2 (p+6);refine(Zcl b off n cap f p cs _ _ true w4 fK.out p2 (by omega) HV.out ⟨fun _=>ea,fun _=>rfl⟩).mono ?_;rintro e w5 ⟨rfl,cm⟩;have bp:=Zg (bH.out.trans (cm.mono bH.out.size));have ju:=Zg (fK.out.below cm);have xj:=(cm.block w.heap.size (Nat.lt_trans cM.out oG)).trans CZ;have C0:=(cm.block g7 oG).trans Gr;have qG:g7<w5.heap.size:=Nat.lt_of_lt_of_le oG cm.size;have H6:=Zg (pn b off n cap f (p+6) w5 ju.out (by omega));rw[show((p+6:Nat):Int)=(p:Int)+6 by omega] at H6;have hK:=HK.out;obtain⟨k,hk⟩: ∃ k:Nat,rdF f (p+6) 2=k:=⟨(rdF f (p+6) 2).toNat,by omega⟩;rw[hk] at hK H6 aC;rw[hk] at jC;simp only[Int.toNat_natCast] at hK jC;have pW:=Zg hK;have c5:w5.cell? ⟨g7,5,none⟩=some (.int .i64 (Zw f p).headers):=by rw[cell_of_row _ _ _ _ _ _ C0]; exact HV.out.c5
    clear cm CZ Gr oG HK hK ea bH fK;go_wp2_with (go_fit H6.out; rintro e w' ⟨rfl,rfl⟩)
    by_cases eh:Ys n p (Zw f p).headers k
    ·have hE:ZI n f=_:=jC.out;rw[if_neg (fun h=>h eh)] at hE;have gW:=Zg hE;clear hE jC;refine(JL _ n cap p _ _ true w5 (by have:=ju.out.len; have:=ju.out.most; omega) (by omega) ((gX 84).out).1 (Int.le_of_lt ((gX 84).out).2) (by omega) (by omega) ⟨fun _=>eh,fun _=>rfl⟩).mono ?_;rintro e w' ⟨rfl,rfl⟩;obtain⟨k1,k2,k3,k4,k5⟩:=eh;have Gs:=Zks b off n cap f (p+264) k w5 ju.out (by omega) (by omega) (by omega) (by omega);rw[show((p+264:Nat):Int)=(p:Int)+264 by omega] at Gs;go_wp2_with fail
     refine Gs.mono ?_;rintro e w6 ⟨rfl,dE,cF⟩;clear Gs c5 H6;have hlen:(ZM f (p+264) k).length=k:=by simp[ZM]
     have Gt:Hid ((n:Int)<=9223372036854775807):=Zg (by have:=ju.out.len; have:=ju.out.most; omega);have Gu:=Zg qG;have KK:w5.heap.size<w6.heap.size:=by
      rcases dE with h|⟨b',mw,h1,h2,_⟩
      ·rw[h] at hlen; simp at hlen; omega
      ·injection h1 with h1;injection h1 with h1;omega
     have cU:=Zg (bp.out.trans (cF.mono bp.out.size));have KM:=(cF.block w.heap.size (Nat.lt_trans cM.out qG)).trans xj;have C2:=(cF.block g7 qG).trans C0;have c38:w6.cell? ⟨g7,38,none⟩=some (.slice none 0 0):=by rw[cell_of_row _ _ _ _ _ _ C2]; exact HV.out.c38
     have z38:=frozen_of_row _ _ 38 _ _ C2;have qH:(cs.setIfInBounds 38 (.slice (some ⟨w5.heap.size,0,none⟩) k k)).size=39:=by rw[Array.size_setIfInBounds]; exact iH
     have C3:(w6.setCell ⟨g7,38,none⟩ (.slice (some ⟨w5.heap.size,0,none⟩) k k)).heap[g7]? =_:=heap_setCell_same _ _ _ _ _ _ C2;have C4:(w6.setCell ⟨g7,38,none⟩ (.slice (some ⟨w5.heap.size,0,none⟩) k k)).heap[w.heap.size]? =some (.cells (Zl 0 0 0 0 0 0) 41 (0,0)):=by
      rw[heap_setCell_other _ _ _ _ (by have:=cM.out; show w.heap.size≠g7; omega)]; exact KM
     have dS:Hid (Below w.heap.size w (w6.setCell ⟨g7,38,none⟩ (.slice (some ⟨w5.heap.size,0,none⟩) k k))):=Zg (cU.out.setCell (Nat.le_of_lt cM.out) _);have xk:Hid (SlT Zx.cells 6 (w6.setCell ⟨g7,38,none⟩ (.slice (some ⟨w5.heap.size,0,none⟩) k k)) (some ⟨w5.heap.size,0,none⟩) (ZM f (p+264) k)) :=
      Zg (dE.keep (by simp) fun b' dD=>by
       simp only[Option.map_some,Option.some.injEq] at dD;exact heap_setCell_other _ _ _ _ (by show b'≠g7; omega))
     have sY:w5.heap.size<(w6.setCell ⟨g7,38,none⟩ (.slice (some ⟨w5.heap.size,0,none⟩) k k)).heap.size:=by simpa using KK
     have Bv:=Zg (HV.out.sects (.slice (some ⟨w5.heap.size,0,none⟩) k k));clear dE cF xj C0 KM C2 cU bp ju HV iH;go_wp2_with (refine wpList_load_row rfl 41 _ rfl g7 rfl 41 _ (0,0) _ C3 rfl rfl (by rw[qH]; rfl) ?_)
     generalize w6.setCell ⟨g7,38,none⟩ (.slice (some ⟨w5.heap.size,0,none⟩) k k)=w7 at *;have qJ:g7<w7.heap.size:=by omega
     clear qG KK c38 z38;generalize w5.heap.size=gS at *;generalize cs.setIfInBounds 38 (.slice (some ⟨gS,0,none⟩) k k)=cs7 at *;have pL:=fun bb eM=>Zkt cs7 (Zw f p) gS k (ZM f (p+264) k) n bb w7 (by rw[hlen]; exact Bv.out) xk.out sY (fun s hs=>by
      simp only[ZM,List.mem_map] at hs;obtain⟨j,_,rfl⟩:=hs;exact Uk bh.out _) (by omega) ((gX 84).out).1 ((gX 84).out).2 ((gX 80).out).1 ((gX 80).out).2 (by omega) Gt.out eM
     have h3:=Bv.out.c3;have h4:=Bv.out.c4;have uk:=Bv.out.one rfl;by_cases ec:Yo (Zw f p).size n (ZS (Zw f p).headers 4096) (ZM f (p+264) k)
     ·have hE:ZI n f=_:=gW.out;rw[if_neg (fun h=>h ec)] at hE;have jQ:=Zg hE;clear hE gW;refine(pL true ⟨fun _=>ec,fun _=>rfl⟩).mono ?_;rintro e w8 ⟨rfl,j1⟩;have aV:=Zg (dS.out.trans (j1.mono dS.out.size));have xl:=(j1.block w.heap.size (Nat.lt_trans cM.out qJ)).trans C4;have C5:=(j1.block g7 qJ).trans C3;have fZ:=Zg (xk.out.below j1);have Gv:gS<w8.heap.size:=Nat.lt_of_lt_of_le sY j1.size;have c3:w8.cell? ⟨g7,3,none⟩=some (.int .i64 (Zw f p).entry):=by rw[cell_of_row _ _ _ _ _ _ C5]; exact h3
      have c4:w8.cell? ⟨g7,4,none⟩=some (.int .i64 (Zw f p).size):=by rw[cell_of_row _ _ _ _ _ _ C5]; exact h4
      clear j1 C4 C3 qJ sY xk dS pL h3 h4 ec;generalize o9:(Zw f p).entry=y3 at *;generalize pa:(Zw f p).size=y4 at *;by_cases ee:y4<=y3
      ·have hE:ZI n f=5:=by rw[jQ.out,if_pos ee]
       have pR:=Zg hE;clear hE C5;go_wp2_with (first|(refine wpList_store_row rfl 41 _ _ rfl w.heap.size (Zl 0 0 0 0 0 0) rfl rfl 41 _ xl rfl rfl (ZC _ _ _ _ _ _) ?_))
       refine bodyPost_ret (v:= .tuple #[.agg (Zl 0 0 0 0 0 0),.int .i64 5]) (Zj rfl _ _ w.heap.size 41 _ (0,0) _ _ rfl rfl (setRow_heap _ _ _ _ _ _ xl) rfl rfl rfl) rfl ⟨⟨_,rfl,_,by rw[pR.out],.inl ⟨by rw[pR.out]; omega,ZD⟩⟩,below_setRow aV.out (Nat.le_refl _) _⟩
      ·have hE:ZI n f=0:=by rw[jQ.out,if_neg ee]
       have pR:=Zg hE;clear hE;have LB:y3<y4:=by omega
       go_wp2_with (first
        | (refine wpList_load_row rfl 41 _ rfl g7 rfl 41 cs7 (0,0) _ C5 rfl rfl (by rw[qH]; rfl) ?_)
        | (refine wpList_store_row rfl 41 _ _ rfl w.heap.size cs7 rfl rfl 41 _ xl (by rw[qH]; rfl) (by rw[qH]; rfl) uk ?_))
       refine bodyPost_ret (v:= .tuple #[.agg cs7,.int .i64 0]) (Zj rfl _ _ w.heap.size 41 cs7 (0,0) _ _ rfl rfl (setRow_heap _ _ _ _ _ _ xl) rfl rfl (by rw[qH]; rfl)) rfl ⟨⟨_,rfl,cs7,by rw[pR.out],.inr ⟨pR.out,gS,?_,?_,?_⟩⟩,below_setRow aV.out (Nat.le_refl _) _⟩
       ·rw[HP.out,pW.out]; exact Bv.out
       ·rw[HP.out,pW.out];exact fZ.out.keep (by simp) fun b' dD=>by
         simp only[Option.map_some,Option.some.injEq] at dD;exact setRow_other _ _ _ _ (by have:=cM.out; have:=Gu.out; omega)
       ·simpa using Gv
     ·have hE:ZI n f=7:=by rw[gW.out,if_pos ec]
      have jQ:=Zg hE;clear hE;refine(pL false ⟨fun h=>(by cases h),fun h=>(ec h).elim⟩).mono ?_;rintro e w8 ⟨rfl,j1⟩;have aV:=Zg (dS.out.trans (j1.mono dS.out.size));have xl:=(j1.block w.heap.size (Nat.lt_trans cM.out qJ)).trans C4;clear j1 C4 C3 qJ sY pL h3 h4 ec uk;go_wp2_with (first|(refine wpList_store_row rfl 41 _ _ rfl w.heap.size (Zl 0 0 0 0 0 0) rfl rfl 41 _ xl rfl rfl (ZC _ _ _ _ _ _) ?_))
      refine bodyPost_ret (v:= .tuple #[.agg (Zl 0 0 0 0 0 0),.int .i64 7]) (Zj rfl _ _ w.heap.size 41 _ (0,0) _ _ rfl rfl (setRow_heap _ _ _ _ _ _ xl) rfl rfl rfl) rfl ⟨⟨_,rfl,_,by rw[jQ.out],.inl ⟨by rw[jQ.out]; omega,ZD⟩⟩,below_setRow aV.out (Nat.le_refl _) _⟩
    ·have hE:ZI n f=7:=by rw[jC.out,if_pos eh]
     have gW:=Zg hE;clear hE;refine(JL _ n cap p _ _ false w5 (by have:=ju.out.len; have:=ju.out.most; omega) (by omega) ((gX 84).out).1 (Int.le_of_lt ((gX 84).out).2) (by omega) (by omega) ⟨fun h=>(by cases h),fun h=>(eh h).elim⟩).mono ?_;rintro e w' ⟨rfl,rfl⟩;clear c5 C0 qG;go_wp2_with (first|(refine wpList_store_row rfl 41 _ _ rfl w.heap.size (Zl 0 0 0 0 0 0) rfl rfl 41 _ xj rfl rfl (ZC _ _ _ _ _ _) ?_))
     refine bodyPost_ret (v:= .tuple #[.agg (Zl 0 0 0 0 0 0),.int .i64 7]) (Zj rfl _ _ w.heap.size 41 _ (0,0) _ _ rfl rfl (setRow_heap _ _ _ _ _ _ xj) rfl rfl rfl) rfl ⟨⟨_,rfl,_,by rw[gW.out],.inl ⟨by rw[gW.out]; omega,ZD⟩⟩,below_setRow bp.out (Nat.le_refl _) _⟩
   ·have hE:ZI n f=6:=by rw[eS.out,if_pos ea]
    have jC:=Zg hE;clear hE;refine(Zcl b off n cap f p cs _ _ false w4 fK.out p2 (by omega) HV.out ⟨fun h=>(by cases h),fun h=>(ea h).elim⟩).mono ?_;rintro e w5 ⟨rfl,cm⟩;have bp:=Zg (bH.out.trans (cm.mono bH.out.size));have xj:=(cm.block w.heap.size (Nat.lt_trans cM.out oG)).trans CZ;clear cm CZ Gr oG;go_wp2_with (first|(refine wpList_store_row rfl 41 _ _ rfl w.heap.size (Zl 0 0 0 0 0 0) rfl rfl 41 _ xj rfl rfl (ZC _ _ _ _ _ _) ?_))
    refine bodyPost_ret (v:= .tuple #[.agg (Zl 0 0 0 0 0 0),.int .i64 6]) (Zj rfl _ _ w.heap.size 41 _ (0,0) _ _ rfl rfl (setRow_heap _ _ _ _ _ _ xj) rfl rfl rfl) rfl ⟨⟨_,rfl,_,by rw[jC.out],.inl ⟨by rw[jC.out]; omega,ZD⟩⟩,below_setRow bp.out (Nat.le_refl _) _⟩
theorem Zkv (w:World):Calls Tryz.prog 61 #[.slice none 0 0] w fun e w'=>e= .returned (.tuple #[.int .i64 0,.int .i64 2])/\w=w':=by
 go_enter Tryz.func61,Tryz.ntmps61;go_wp2_with fail
 go_ret2;exact⟨rfl,rfl⟩
theorem Zhg (w:World) :
 Calls Tryz.prog 23 #[.slice none 0 0] w fun e w'=>(∃ cs,e= .returned (.tuple #[.agg cs,.int .i64 2])/\YR cs Ul (.slice none 0 0))/\Below w.heap.size w w':=by
 have hZ:=heap_alloc_new w (.cells (Zl 0 0 0 0 0 0) 41);have au:=Zg ((Below.refl w.heap.size w).alloc (Nat.le_refl _) (.cells (Zl 0 0 0 0 0 0) 41));go_enter Tryz.func23,Tryz.ntmps23;go_wp2_with fail
 rw[Yh];generalize w.alloc (.cells (Zl 0 0 0 0 0 0) 41)=w1 at hZ au ⊢;refine(Zkv w1).mono ?_;rintro e w' ⟨rfl,rfl⟩;go_wp2_with (refine wpList_store_row rfl 41 _ _ rfl w.heap.size (Zl 0 0 0 0 0 0) rfl rfl 41 _ hZ rfl rfl (ZC _ _ _ _ _ _) ?_)
 refine bodyPost_ret (v:= .tuple #[.agg (Zl 0 0 0 0 0 0),.int .i64 2]) (Zj rfl _ _ w.heap.size 41 _ (0,0) _ _ rfl rfl (setRow_heap _ _ _ _ _ _ hZ) rfl rfl rfl) rfl ⟨⟨_,rfl,ZD⟩,below_setRow au.out (Nat.le_refl _) _⟩
end Go.Proofs.YtplgdpjbkdagfaaGreat
