import Derived.Test.YtplgdpjbkdagfaaGreatZHdrA
import Derived.Deep.MidRow
import Derived.Laws.CopyOwn
import Derived.Test.YtplgdpjbkdagfaaGreatZOwnT
import Derived.OwnWalk
namespace Go.Proofs.YtplgdpjbkdagfaaGreat
open Lib renaming hid→Zg
set_option maxRecDepth 100000
open Go.ChangeShapes Go.WideShapes Go.ChangeAt Go.RowKit
set_option linter.unusedVariables false
set_option linter.unusedSimpArgs false
def ZF (f:Nat→Int) (p:Nat):ZO :=
 { base:=rdF f (p+48) 8,stamp:=rdF f (p+8) 4,chars:=rdF f (p+22) 2,entry:=rdF f (p+40) 4,size:=rdF f (p+80) 4,headers:=rdF f (p+84) 4,
   dirs:=fun i=>(rdF f (p+136+8 * i) 4,rdF f (p+136+8 * i+4) 4) }
def Zl (b s c e z h:Int):Array Value:= #[.int .u64 b,.int .i64 s,.int .i64 c,.int .i64 e,.int .i64 z,.int .i64 h,
 .int .i64 0,.int .i64 0,.int .i64 0,.int .i64 0,.int .i64 0,.int .i64 0,.int .i64 0,.int .i64 0,
 .int .i64 0,.int .i64 0,.int .i64 0,.int .i64 0,.int .i64 0,.int .i64 0,.int .i64 0,.int .i64 0,
 .int .i64 0,.int .i64 0,.int .i64 0,.int .i64 0,.int .i64 0,.int .i64 0,.int .i64 0,.int .i64 0,
 .int .i64 0,.int .i64 0,.int .i64 0,.int .i64 0,.int .i64 0,.int .i64 0,.int .i64 0,.int .i64 0,
 .slice none 0 0]
theorem Zec (s c e z h:Int):Tryz.prog.built 41 [(1,.int .i64 s),(2,.int .i64 c),(3,.int .i64 e),(4,.int .i64 z),(5,.int .i64 h)]=some (Zl 0 s c e z h):=by
 kernel_rfl
theorem Yp:(#[.int .u64 0,.int .i64 0,.int .i64 0,.int .i64 0,.int .i64 0,.int .i64 0,
 .int .i64 0,.int .i64 0,.int .i64 0,.int .i64 0,.int .i64 0,.int .i64 0,.int .i64 0,.int .i64 0,
 .int .i64 0,.int .i64 0,.int .i64 0,.int .i64 0,.int .i64 0,.int .i64 0,.int .i64 0,.int .i64 0,
 .int .i64 0,.int .i64 0,.int .i64 0,.int .i64 0,.int .i64 0,.int .i64 0,.int .i64 0,.int .i64 0,
 .int .i64 0,.int .i64 0,.int .i64 0,.int .i64 0,.int .i64 0,.int .i64 0,.int .i64 0,.int .i64 0,
 .slice none 0 0]:Array Value)=Zl 0 0 0 0 0 0:=rfl
theorem ZC (b s c e z h:Int):(Zl b s c e z h).all (·.oneCell')=true:=by simp[Zl,Value.oneCell']
theorem Xl {P:Program} {ops:Array Oper} {rest:List Oper} {o:Oper} {a:Act} {w:World} {Q:Exit→Act→World→Prop} (hg:o.guard=none) (t:TypeId) (parts:Array (Nat × Operand)) (ho:o.op= .build t parts)
 (vs:List (Nat × Value)) (cs:Array Value) (hv:(parts.map fun(i,x)=>(i,a.eval x)).toList=vs) (hb:P.built t vs=some cs) (h:wpList P ops Q rest (a.put o.dst (.agg cs)) w):wpList P ops Q (o::rest) a w :=
 wpList_build hg t parts ho (by rw[hv,hb]; rfl) (by rw[hv,hb]; exact h)
structure YW (cs:Array Value) (h:ZO) (i:Nat):Prop where
 size:cs.size=39
 c0:cs[0]? =some (.int .u64 h.base)
 c1:cs[1]? =some (.int .i64 h.stamp)
 c2:cs[2]? =some (.int .i64 h.chars)
 c3:cs[3]? =some (.int .i64 h.entry)
 c4:cs[4]? =some (.int .i64 h.size)
 c5:cs[5]? =some (.int .i64 h.headers)
 dir0: ∀ j,j<i→cs[6+2 * j]? =some (.int .i64 (h.dirs j).1)
 dir1: ∀ j,j<i→cs[6+2 * j+1]? =some (.int .i64 (h.dirs j).2)
 c38:cs[38]? =some (.slice none 0 0)
 one: ∀ v∈cs,v.oneCell'=true
theorem YW.start (h:ZO):YW ((Zl 0 h.stamp h.chars h.entry h.size h.headers).setIfInBounds 0 (.int .u64 h.base)) h 0 :=
 ⟨rfl,rfl,rfl,rfl,rfl,rfl,rfl,fun j hj=>by omega,fun j hj=>by omega,rfl,by simp[Zl,Value.oneCell']⟩
theorem YW.next {cs:Array Value} {h:ZO} {i:Nat} (x:YW cs h i) (hi:i<16):YW ((cs.setIfInBounds (6+2 * i) (.int .i64 (h.dirs i).1)).setIfInBounds (6+2 * i+1) (.int .i64 (h.dirs i).2)) h (i+1):=by
 have hs:=x.size
 have k: ∀ j v,j≠6+2 * i→j≠6+2 * i+1→cs[j]? =some v→((cs.setIfInBounds (6+2 * i) (.int .i64 (h.dirs i).1)).setIfInBounds (6+2 * i+1) (.int .i64 (h.dirs i).2))[j]? =some v:=fun j v h1 h2 h3=>by
  rw[Array.getElem?_setIfInBounds_ne (by omega),Array.getElem?_setIfInBounds_ne (by omega)]; exact h3
 refine⟨by simp[hs],k _ _ (by omega) (by omega) x.c0,k _ _ (by omega) (by omega) x.c1,k _ _ (by omega) (by omega) x.c2,k _ _ (by omega) (by omega) x.c3,k _ _ (by omega) (by omega) x.c4,k _ _ (by omega) (by omega) x.c5,fun j hj=> ?_,fun j hj=> ?_,k _ _ (by omega) (by omega) x.c38,fun v hv=> ?_⟩
 ·by_cases e:j=i
  ·subst e
   rw[Array.getElem?_setIfInBounds_ne (by omega),Array.getElem?_setIfInBounds_self_of_lt (by omega)]
  ·exact k _ _ (by omega) (by omega) (x.dir0 j (by omega))
 ·by_cases e:j=i
  ·subst e
   rw[Array.getElem?_setIfInBounds_self_of_lt (by simp; omega)]
  ·exact k _ _ (by omega) (by omega) (x.dir1 j (by omega))
 ·rcases Array.mem_or_eq_of_mem_setIfInBounds hv with hv|rfl
  ·rcases Array.mem_or_eq_of_mem_setIfInBounds hv with hv|rfl
   ·exact x.one v hv
   ·rfl
  ·rfl
theorem YW.all {cs:Array Value} {h:ZO} (x:YW cs h 16):YR cs h (.slice none 0 0):=⟨x.size,x.c0,x.c1,x.c2,x.c3,x.c4,x.c5,x.dir0,x.dir1,x.c38⟩
structure Jh (w u:World) (h:ZO) (i:Nat):Prop where
 bel:Below w.heap.size w u
 res: ∃ Z:Array Value,u.heap[w.heap.size]? =some (.cells Z 41 (0,0))∧Z.size=39
 cs: ∃ cs,u.heap[w.heap.size+1]? =some (.cells cs 41 (0,0))∧YW cs h i
theorem Jh.next {w u:World} {h:ZO} {i:Nat} (x:Jh w u h i) (hi:i<16) (v1 v2:Int) (e1:v1=(h.dirs i).1) (e2:v2=(h.dirs i).2) :
 Jh w ((u.setCell ⟨w.heap.size+1,6+i * 2,none⟩ (.int .i64 v1)).setCell ⟨w.heap.size+1,6+i * 2+1,none⟩ (.int .i64 v2)) h (i+1):=by
 subst e1 e2
 rw[Nat.mul_comm i 2]
 obtain⟨Z,hz,hzs⟩:=x.res
 obtain⟨cs,hc,hp⟩:=x.cs
 refine⟨(x.bel.setCell (by simp) _).setCell (by simp) _,⟨Z,?_,hzs⟩,⟨_,heap_setCell_same _ _ _ _ _ _ (heap_setCell_same _ _ _ _ _ _ hc),hp.next hi⟩⟩
 rw[heap_setCell_other _ _ _ _ (by simp),heap_setCell_other _ _ _ _ (by simp)]
 exact hz
theorem Jh.start (w:World) (h:ZO):Jh w ((((w.alloc (.cells (Zl 0 0 0 0 0 0) 41)).alloc (.cells (Zl 0 0 0 0 0 0) 41)).setRow (w.heap.size+1) (Zl 0 h.stamp h.chars h.entry h.size h.headers)).setCell ⟨w.heap.size+1,0,none⟩ (.int .u64 h.base)) h 0:=by
 refine⟨(below_setRow (((Below.refl _ w).alloc (Nat.le_refl _) _).alloc (by simp) _) (by simp) _).setCell (by simp) _,⟨Zl 0 0 0 0 0 0,?_,rfl⟩,⟨_,heap_setCell_same _ _ _ _ _ _ (setRow_heap _ _ _ _ _ _ (heap_alloc2_new _ _ _)),YW.start h⟩⟩
 rw[heap_setCell_other _ _ _ _ (by simp),setRow_other _ _ _ _ (by simp)]
 exact heap_alloc2_old _ _ _
set_option maxRecDepth 100000 in
theorem Zii (b off n cap:Nat) (f:Nat→Int) (p:Nat) (w:World) (h:VF w b off n cap f) (hp:p+264≤n) (hp2:p≤4294967296) :
 Calls Tryz.prog 63 #[.slice (some ⟨b,off,none⟩) n cap,.int .i64 p] w fun e w'=>(∃ cs,e= .returned (.agg cs)∧YR cs (ZF f p) (.slice none 0 0))∧Below w.heap.size w w':=by
 have h8: ∀ w',Below w.heap.size w w'→_:=fun w' hb=>Zbe b off n cap f (p+8) w' (h.below hb) (by omega)
 have h22: ∀ w',Below w.heap.size w w'→_:=fun w' hb=>Zfe b off n cap f (p+22) w' (h.below hb) (by omega)
 have h40: ∀ w',Below w.heap.size w w'→_:=fun w' hb=>Zbe b off n cap f (p+40) w' (h.below hb) (by omega)
 have h80: ∀ w',Below w.heap.size w w'→_:=fun w' hb=>Zbe b off n cap f (p+80) w' (h.below hb) (by omega)
 have h84: ∀ w',Below w.heap.size w w'→_:=fun w' hb=>Zbe b off n cap f (p+84) w' (h.below hb) (by omega)
 have h48: ∀ w',Below w.heap.size w w'→_:=fun w' hb=>Zjr b off n cap f (p+48) w' (by have:=h.len; have:=h.most; omega) (by omega) h.by255 (h.below hb).row
 rw[show((p+8:Nat):Int)=(p:Int)+8 by omega] at h8
 rw[show((p+22:Nat):Int)=(p:Int)+22 by omega] at h22
 rw[show((p+40:Nat):Int)=(p:Int)+40 by omega] at h40
 rw[show((p+80:Nat):Int)=(p:Int)+80 by omega] at h80
 rw[show((p+84:Nat):Int)=(p:Int)+84 by omega] at h84
 rw[show((p+48:Nat):Int)=(p:Int)+48 by omega] at h48
 have HR:=Zg h
 have H8:=Zg h8
 have H22:=Zg h22
 have H40:=Zg h40
 have H80:=Zg h80
 have H84:=Zg h84
 have H48:=Zg h48
 clear h8 h22 h40 h80 h84 h48 h
 go_enter Tryz.func63,Tryz.ntmps63
 go_wp2_with fail
 refine(H8.out _ ((Below.refl _ w).alloc (Nat.le_refl _) _)).mono ?_
 rintro e w' ⟨rfl,rfl⟩
 go_wp2_with fail
 refine(H22.out _ ((Below.refl _ w).alloc (Nat.le_refl _) _)).mono ?_
 rintro e w' ⟨rfl,rfl⟩
 go_wp2_with fail
 refine(H40.out _ ((Below.refl _ w).alloc (Nat.le_refl _) _)).mono ?_
 rintro e w' ⟨rfl,rfl⟩
 go_wp2_with fail
 refine(H80.out _ ((Below.refl _ w).alloc (Nat.le_refl _) _)).mono ?_
 rintro e w' ⟨rfl,rfl⟩
 go_wp2_with fail
 refine(H84.out _ ((Below.refl _ w).alloc (Nat.le_refl _) _)).mono ?_
 rintro e w' ⟨rfl,rfl⟩
 rw[Yp]
 rename_i hK
 refine hK _ _ ?_
 refine Xl rfl 41 _ rfl [(1,.int .i64 (rdF f (p+8) 4)),(2,.int .i64 (rdF f (p+22) 2)),(3,.int .i64 (rdF f (p+40) 4)),(4,.int .i64 (rdF f (p+80) 4)),(5,.int .i64 (rdF f (p+84) 4))] (Zl 0 (rdF f (p+8) 4) (rdF f (p+22) 2) (rdF f (p+40) 4) (rdF f (p+80) 4) (rdF f (p+84) 4)) ?hv ?hb ?_
 case hv=>simp[go_sem]
 case hb=>exact Zec _ _ _ _ _
 have hCs:(Zl 0 (rdF f (p+8) 4) (rdF f (p+22) 2) (rdF f (p+40) 4) (rdF f (p+80) 4) (rdF f (p+84) 4)).size=39:=rfl
 have hC1:(Zl 0 (rdF f (p+8) 4) (rdF f (p+22) 2) (rdF f (p+40) 4) (rdF f (p+80) 4) (rdF f (p+84) 4)).all (·.oneCell')=true:=ZC _ _ _ _ _ _
 have hC:=Zg (rfl:Zl 0 (rdF f (p+8) 4) (rdF f (p+22) 2) (rdF f (p+40) 4) (rdF f (p+80) 4) (rdF f (p+84) 4)=Zl 0 (rdF f (p+8) 4) (rdF f (p+22) 2) (rdF f (p+40) 4) (rdF f (p+80) 4) (rdF f (p+84) 4))
 have hC0:(Zl 0 (rdF f (p+8) 4) (rdF f (p+22) 2) (rdF f (p+40) 4) (rdF f (p+80) 4) (rdF f (p+84) 4))[0]? =some (.int .u64 0):=rfl
 have HA0:=Zg (Jh.start w (ZF f p))
 simp only[ZF] at HA0
 generalize Zl 0 (rdF f (p+8) 4) (rdF f (p+22) 2) (rdF f (p+40) 4) (rdF f (p+80) 4) (rdF f (p+84) 4)=C1 at hCs hC1 hC0 HA0 ⊢
 go_wp2_with (refine wpList_store_row rfl 41 _ _ rfl (w.heap.size+1) C1 ?hx ?hy 41 _ (heap_alloc2_new _ _ _) (by rw[hCs]; rfl) ?hold hC1 ?_)
 rw[Yp]
 have hg1:=setRow_heap ((w.alloc (.cells (Zl 0 0 0 0 0 0) 41)).alloc (.cells (Zl 0 0 0 0 0 0) 41)) (w.heap.size+1) _ C1 _ _ (heap_alloc2_new _ _ _)
 have HB1:=Zg (below_setRow (((Below.refl w.heap.size w).alloc (Nat.le_refl _) (.cells (Zl 0 0 0 0 0 0) 41)).alloc (by simp) (.cells (Zl 0 0 0 0 0 0) 41)) (show w.heap.size≤w.heap.size+1 by omega) C1)
 generalize ((w.alloc (.cells (Zl 0 0 0 0 0 0) 41)).alloc (.cells (Zl 0 0 0 0 0 0) 41)).setRow (w.heap.size+1) C1=W1 at hg1 HB1 HA0 ⊢
 have hz0:=frozen_of_row W1 (w.heap.size+1) 0 _ _ hg1
 have hc0:W1.cell? ⟨w.heap.size+1,0,none⟩=some (.int .u64 0):=by rw[cell_of_row W1 _ 0 _ _ _ hg1]; exact hC0
 clear hg1 hC0 hCs hC1
 refine(H48.out _ HB1.out).mono ?_
 rintro e w' ⟨rfl,rfl⟩
 clear H8 H22 H40 H80 H84 H48
 go_wp2_with fail
 clear hc0 hz0
 generalize W1.setCell ⟨w.heap.size+1,0,none⟩ (.int .u64 (rdF f (p+48) 8))=W2 at HA0 ⊢
 clear hC
 have HAr:=HA0
 clear HB1 HA0
 go_loopw [6,7,37] (fun o6 o7 o37 wr=> ∃ i:Nat,i≤16∧o37= .int .i64 i∧Jh w wr (ZF f p) i) (fun _ _ o37 _=>16 - (intOf o37).toNat)
 case atStart=>exact⟨0,by omega,rfl,HAr.out⟩
 case round =>
  obtain⟨i,hi,rfl,ha⟩:=hrel
  have HA:=Zg ha
  clear ha HAr
  by_cases hlt:i<16
  ·obtain⟨cs,hg,hp⟩:=HA.out.cs
   have h1:=Zbe b off n cap f (p+136+8 * i) _ (HR.out.below HA.out.bel) (by omega)
   have h2:=Zbe b off n cap f (p+136+8 * i+4) _ (HR.out.below HA.out.bel) (by omega)
   rw[show((p+136+8 * i:Nat):Int)=(p:Int)+136+8 * (i:Int) by omega] at h1
   rw[show((p+136+8 * i+4:Nat):Int)=(p:Int)+136+8 * (i:Int)+4 by omega] at h2
   have H1:=Zg h1
   have H2:=Zg h2
   clear h1 h2
   have hlt':(i:Int)<16:=by omega
   have hsz:=hp.size
   have z0:=frozen_of_row _ _ (6+i * 2) _ _ hg
   have z1:=frozen_of_row _ _ (6+i * 2+1) _ _ hg
   have c0:=cell_of_row _ _ (6+i * 2) _ _ _ hg
   have c1:=cell_of_row _ _ (6+i * 2+1) _ _ _ hg
   rw[Array.getElem?_eq_getElem (by omega)] at c0 c1
   generalize cs[6+i * 2]=q0 at c0
   generalize cs[6+i * 2+1]=q1 at c1
   clear hg hp hsz
   go_wp2_with fail
   refine H1.out.mono ?_
   rintro e w' ⟨rfl,rfl⟩
   go_wp2_with fail
   refine H2.out.mono ?_
   rintro e w' ⟨rfl,rfl⟩
   go_wp2_with fail
   go_roundw
   case rel=>exact⟨i+1,by omega,by go_num,HA.out.next hlt _ _ rfl rfl⟩
   case measure=>simp[intOf]; omega
  ·obtain rfl:i=16:=by omega
   obtain⟨Z,hz,hzs⟩:=HA.out.res
   obtain⟨cs,hg,hp⟩:=HA.out.cs
   have hsz:=hp.size
   have hone:cs.all (·.oneCell')=true:=Array.all_eq_true_iff_forall_mem.2 hp.one
   have HV:=Zg hp.all
   clear hp
   go_wp2_with (first
    | refine wpList_load_row rfl 41 _ rfl (w.heap.size+1) rfl 41 cs (0,0) _ hg rfl rfl (by rw[hsz]; rfl) ?_
    | refine wpList_store_row rfl 41 _ _ rfl w.heap.size cs rfl rfl 41 Z hz (by rw[hsz]; rfl) (by omega) hone ?_)
   refine bodyPost_ret (v:= .agg cs) (results_cell_row rfl _ _ w.heap.size 41 cs (0,0) _ ?hp (setRow_heap _ _ _ _ _ _ hz) rfl rfl (by rw[hsz]; rfl)) rfl ⟨⟨cs,rfl,HV.out⟩,below_setRow HA.out.bel (Nat.le_refl _) cs⟩
   rfl
def ZZ (f:Nat→Int) (o:Nat):Nat→Nat
 | 0=>0
 | n+1=>if f o=0 then 0 else ZZ f (o+1) n+1
theorem VW (f:Nat→Int) (o n:Nat):ZZ f o n≤n:=by
 induction n generalizing o with
 | zero=>simp[ZZ]
 | succ n ih=>unfold ZZ; split; omega; have:=ih (o+1); omega
theorem Ut (f:Nat→Int) (hf:Zq f) (o n:Nat):Lib.indexByte (Lib.bytesOf ((List.range n).map fun i=>f (o+i))) 0=if ZZ f o n=n then -1 else(ZZ f o n:Int):=by
 induction n generalizing o with
 | zero=>simp[ZZ,Lib.bytesOf,Lib.indexByte]
 | succ n ih =>
   have h1:(List.range (n+1)).map (fun i=>f (o+i))=f o::(List.range n).map (fun i=>f (o+1+i)):=by
    rw[List.range_succ_eq_map,List.map_cons,List.map_map]
    simp only[Nat.add_zero,List.cons.injEq,true_and]
    exact List.map_congr_left fun i _=>by simp only[Function.comp]; congr 1; omega
   rw[h1]
   have h2:Lib.bytesOf (f o::(List.range n).map (fun i=>f (o+1+i)))=(f o).toNat.toUInt8::Lib.bytesOf ((List.range n).map (fun i=>f (o+1+i))):=by simp[Lib.bytesOf]
   rw[h2]
   unfold Lib.indexByte ZZ
   rw[ih (o+1)]
   have hl:=VW f (o+1) n
   have hb:=hf o
   by_cases e:f o=0
   ·simp[e]
   ·have e2:((f o).toNat.toUInt8 == 0)=false:=by
     rw[beq_eq_false_iff_ne]
     intro h
     have:=congrArg UInt8.toNat h
     simp at this
     omega
    rw[e2,if_neg e]
    by_cases e3:ZZ f (o+1) n=n
    ·simp[e3]
    ·have e4:((ZZ f (o+1) n:Int) == -1)=false:=by rw[beq_eq_false_iff_ne]; omega
     have e5: ¬ (ZZ f (o+1) n+1=n+1):=by omega
     simp[e3,e4]
def Jr (f:Nat→Int) (o:Nat):ByteArray:=ZB f o (ZZ f o 8)
theorem Zij (b off n cap:Nat) (f:Nat→Int) (o c:Nat) (w:World) (h:VF w b off n cap f) (ho:o+8≤n) (hc:8≤c) :
 Calls Tryz.prog 105 #[.slice (some ⟨b,off+o,none⟩) 8 c] w fun e w'=>e= .returned (.string (Jr f o))∧w=w':=by
 have hi:=Tryz.bytes_IndexByte b (off+o) 8 c ((List.range 8).map fun i=>f (o+i)) 0 w (by simp) (fun i hi=>by
  rw[Nat.add_assoc,h.row (o+i) (by omega)]
  congr 2
  simp[hi])
 have h0:((0:Int).toNat.toUInt8)=0:=rfl
 rw[h0,Ut f h.by255] at hi
 have hl:=VW f o 8
 have hs:=Zdu (cap:=c) h.row (show o+ZZ f o 8≤n by omega)
 unfold Jr
 generalize ZZ f o 8=k at *
 have HI:=Zg hi
 clear hi h h0
 by_cases e:k=8
 ·subst e
  rw[if_pos rfl] at HI
  go_enter Tryz.func105,Tryz.ntmps105
  go_wp2_with (go_fit HI.out; rintro e w' ⟨rfl,rfl⟩)
  go_ret
  exact⟨rfl,rfl⟩
 ·rw[if_neg e] at HI
  go_enter Tryz.func105,Tryz.ntmps105
  go_wp2_with (go_fit HI.out; rintro e w' ⟨rfl,rfl⟩)
  go_ret
  exact⟨rfl,rfl⟩
structure Zr where
 name:ByteArray
 vsize:Int
 rva:Int
 raw:Int
 spot:Int
 chars:Int
def Zr.cells (s:Zr):List Value:=[.string s.name,.int .i64 s.vsize,.int .i64 s.rva,.int .i64 s.raw,.int .i64 s.spot,.int .i64 s.chars]
theorem Zr.cells_len (s:Zr):s.cells.length=6:=rfl
def Zr.arr (s:Zr):Array Value:= #[.string s.name,.int .i64 s.vsize,.int .i64 s.rva,.int .i64 s.raw,.int .i64 s.spot,.int .i64 s.chars]
theorem Zr.arr_list (s:Zr):s.arr.toList=s.cells:=rfl
theorem Zr.arr_one (s:Zr):s.arr.all (·.oneCell')=true:=by simp[Zr.arr,Value.oneCell']
theorem JR (s:Zr):Tryz.prog.built 72 [(0,.string s.name),(1,.int .i64 s.vsize),(2,.int .i64 s.rva),(3,.int .i64 s.raw),(4,.int .i64 s.spot),(5,.int .i64 s.chars)]=some s.arr:=by
 kernel_rfl
def Xo (f:Nat→Int) (o:Nat):Zr:=⟨Jr f o,rdF f (o+8) 4,rdF f (o+12) 4,rdF f (o+16) 4,rdF f (o+20) 4,rdF f (o+36) 4⟩
def Ya (f:Nat→Int) (o k:Nat):List Zr:=(List.range k).map fun j=>Xo f (o+40 * j)
structure Wy (w u:World) (g n:Nat) (s:Nat→Zr) (i:Nat):Prop where
 bel:Below w.heap.size w u
 lt:g<u.heap.size
 le:w.heap.size≤g
 got: ∀ j,j<i→u.rangeAt g (j * 6) (s j).cells
 there: ∀ j,j<n→u.there g (j * 6) 6
theorem ZW {B:Nat} {a:World} {g:Nat} (hg:B≤g): ∀(vs:List Value) (o:Nat) (w:World),Below B a w→Below B a (w.setCells g o vs)
 | [],_,_,h=>h
 | v::r,o,w,h=>ZW hg r (o+1) _ (h.setCell hg v)
theorem YG (g:Nat): ∀(vs:List Value) (o:Nat) (w:World),(w.setCells g o vs).heap.size=w.heap.size
 | [],_,_=>rfl
 | v::r,o,w=>by rw[World.setCells,YG g r]; simp
theorem Wy.next {w u:World} {g n i:Nat} {s:Nat→Zr} (x:Wy w u g n s i) (hi:i<n) (l:List Value) (hl:l=(s i).cells):Wy w (u.setCells g (i * 6) l) g n s (i+1):=by
 subst hl
 refine⟨ZW x.le _ _ _ x.bel,by rw[YG]; exact x.lt,x.le,fun j hj=> ?_,fun j hj=>World.there_setCells (x.there j hj) _ _ _⟩
 by_cases e:j=i
 ·subst e
  exact World.rangeAt_setCells_same _ _ _ _ (x.there j hi)
 ·exact World.rangeAt_setCells_apart (x.got j (by omega)) _ _ _ (.inr (.inl (by rw[Zr.cells_len]; omega)))
theorem Wy.all {w u:World} {g n:Nat} {s:Nat→Zr} (x:Wy w u g n s n):SlT Zr.cells 6 u (some ⟨g,0,none⟩) ((List.range n).map s) :=
 .inr ⟨g,0,rfl,x.lt,fun i hi j v hv=>by
  rw[Nat.zero_add]
  simp only[List.length_map,List.length_range] at hi
  simp only[List.getElem_map,List.getElem_range] at hv
  exact x.got i hi j v hv⟩
theorem Uu {P:Program} (w:World) {ops:Array Oper} {rest:List Oper} {o:Oper} {a:Act} {Q:Exit→Act→World→Prop}
 (hg:o.guard=none) (l c:Operand) (t:TypeId) (hop:o.op=Op.makeSlice t l c)
 (e:TypeId) (z:Value) (size bytes:Nat) (ht:P.underlying t=some (.slice e)) (hinfo:(P.info? e).map (fun i=>(i.zero,i.size,i.bytes))=some (some z,size,bytes))
 (kl kc:IntKind) (n:Nat) (hl:a.eval l= .int kl (n:Int)) (hc:a.eval c= .int kc (n:Int)) (hbytes:bytes * n≤281474976710656) (h63:n≤9223372036854775807)
 (hK:wpList P ops Q rest (a.put o.dst (.slice (some ⟨w.heap.size,0,none⟩) n n)) (w.alloc (.cells (madeCells z.cells (n * size)) e))) :
 wpList P ops Q (o::rest) a w:=by
 obtain⟨i,hi,hzz⟩:=Option.map_eq_some_iff.1 hinfo
 simp only[Prod.mk.injEq] at hzz
 obtain⟨hz,hs,hb⟩:=hzz
 refine wpList_plain hg fun K hK'=> ?_
 have hb':(i.bytes:Int) * (n:Int)≤281474976710656:=by
  have h:((i.bytes * n:Nat):Int)≤281474976710656:=by rw[hb]; omega
  rwa [Int.natCast_mul] at h
 have hrun:=run_make (P:=P) w t e i z ht hi hz kl kc n n (by omega) (Int.le_refl _) hb' (by omega)
 simp only[Int.toNat_natCast,hs] at hrun
 unfold Oper.wp
 simp[execOp,hop,hl,hc,hrun,Result.andThen]
 exact hK' _ _ hK
theorem Wy.start (w:World) (zc:Array Value) (e:TypeId) (n:Nat) (s:Nat→Zr):Wy w (w.alloc (.cells (madeCells zc (n * 6)) e)) w.heap.size n s 0 :=
 ⟨(Below.refl _ w).alloc (Nat.le_refl _) _,by simp,Nat.le_refl _,fun j hj=>by omega,fun j hj k hk=>by
   have hh:=heap_alloc_new w (.cells (madeCells zc (n * 6)) e)
   refine⟨?_,frozen_of_row _ _ _ _ _ hh⟩
   rw[cell_of_row _ _ _ _ _ _ hh,Array.getElem?_eq_getElem (by rw[size_madeCells]; omega)]
   rfl⟩
set_option maxRecDepth 100000 in
set_option maxHeartbeats 400000 in
theorem Zgw (b off n cap:Nat) (f:Nat→Int) (o k:Nat) (w:World) (h:VF w b off n cap f) (hk:1≤k) (hk2:k≤16) (ho:o+40 * k≤n) (ho2:o≤8589934592) :
 Calls Tryz.prog 67 #[.slice (some ⟨b,off,none⟩) n cap,.int .i64 o,.int .i64 k] w fun e w'=>e= .returned (.slice (some ⟨w.heap.size,0,none⟩) k k)∧SlT Zr.cells 6 w' (some ⟨w.heap.size,0,none⟩) (Ya f o k)∧Below w.heap.size w w':=by
 have HR:=Zg h
 have hcn:=h.len
 have hcm:=h.most
 clear h
 go_enter Tryz.func67,Tryz.ntmps67
 go_wp2_with (at_make; refine Uu _ rfl (.tmp 9) (.tmp 9) 39 rfl 72 (.agg #[.string ⟨#[]⟩,.int .i64 0,.int .i64 0,.int .i64 0,.int .i64 0,.int .i64 0]) 6 56 (by kernel_rfl) (by kernel_rfl) .i64 .i64 k (by simp[Act.eval,Act.put]) (by simp[Act.eval,Act.put]) (by omega) (by omega) ?_)
 go_loopw [1,8,13] (fun o1 o8 o13 wr=> ∃ i:Nat,i≤k∧o13= .int .i64 i∧o1= .int .i64 ((o+40 * i:Nat):Int)∧Wy w wr w.heap.size k (fun j=>Xo f (o+40 * j)) i) (fun _ _ o13 _=>k - (intOf o13).toNat)
 case atStart=>exact⟨0,by omega,rfl,by simp,Wy.start w _ _ k _⟩
 case round =>
  obtain⟨i,hi,rfl,rfl,ha⟩:=hrel
  have HA:=Zg ha
  clear ha
  by_cases hlt:i<k
  ·have hlt':(i:Int)<k:=by omega
   have hb:=HR.out.below HA.out.bel
   have hn:=Zij b off n cap f (o+40 * i) (cap - (o+40 * i)) _ hb (by omega) (by omega)
   have h1:=Zbe b off n cap f (o+40 * i+8) _ hb (by omega)
   have h2:=Zbe b off n cap f (o+40 * i+12) _ hb (by omega)
   have h3:=Zbe b off n cap f (o+40 * i+16) _ hb (by omega)
   have h4:=Zbe b off n cap f (o+40 * i+20) _ hb (by omega)
   have h5:=Zbe b off n cap f (o+40 * i+36) _ hb (by omega)
   have hth:=HA.out.there i hlt
   generalize hP:o+40 * i=p at *
   rw[show((p+8:Nat):Int)=(p:Int)+8 by omega] at h1
   rw[show((p+12:Nat):Int)=(p:Int)+12 by omega] at h2
   rw[show((p+16:Nat):Int)=(p:Int)+16 by omega] at h3
   rw[show((p+20:Nat):Int)=(p:Int)+20 by omega] at h4
   rw[show((p+36:Nat):Int)=(p:Int)+36 by omega] at h5
   have HN:=Zg hn
   have H1:=Zg h1
   have H2:=Zg h2
   have H3:=Zg h3
   have H4:=Zg h4
   have H5:=Zg h5
   have hp1:p+40≤n:=by omega
   clear hn h1 h2 h3 h4 h5 hb
   go_wp2_with (first|(go_fit HN.out; rintro e w' ⟨rfl,rfl⟩)|(go_fit H1.out; rintro e w' ⟨rfl,rfl⟩)|(go_fit H2.out; rintro e w' ⟨rfl,rfl⟩)|(go_fit H3.out; rintro e w' ⟨rfl,rfl⟩)|(go_fit H4.out; rintro e w' ⟨rfl,rfl⟩))
   refine H5.out.mono ?_
   rintro e w' ⟨rfl,rfl⟩
   rename_i hK
   refine hK _ _ ?_
   refine Xl rfl 72 _ rfl [(0,.string (Xo f p).name),(1,.int .i64 (Xo f p).vsize),(2,.int .i64 (Xo f p).rva),(3,.int .i64 (Xo f p).raw),(4,.int .i64 (Xo f p).spot),(5,.int .i64 (Xo f p).chars)] (Xo f p).arr ?hv ?hb ?_
   case hv=>simp[go_sem,Xo]
   case hb=>exact JR _
   have hone:=(Xo f p).arr_one
   have hsz:(Xo f p).arr.size=6:=rfl
   have hcl:=Zg ((Xo f p).arr_list)
   generalize (Xo f p).arr=C1 at hone hsz hcl ⊢
   go_wp2_with (refine wpList_store_mid rfl 72 _ _ rfl w.heap.size (i * 6) C1 ?hx ?hy (by rw[hsz]; exact hth) (by rw[hsz]; rfl) hone ?_)
   case hx=>rfl
   case hy=>rfl
   go_roundw
   case rel =>
    refine⟨i+1,by omega,by go_num,?_,HA.out.next hlt _ (by rw[hP]; exact hcl.out)⟩
    rw[show o+40 * (i+1)=p+40 by omega]
    go_num
   case measure=>simp[intOf]; omega
  ·obtain rfl:i=k:=by omega
   go_wp2_with fail
   go_ret
   exact⟨rfl,HA.out.all,HA.out.bel⟩
def Uv (size len next:Int) (s:Zr):Prop :=
 s.rva=next∧s.vsize≠0∧s.vsize≤size∧s.raw % 512=0∧s.raw≤ZN s.vsize 4096∧ ¬ (0<s.raw∧len<s.spot+s.raw)
def Yw (size len:Int):Int→List Zr→Prop
 | next,[]=>next=size
 | next,s::l=>Uv size len next s∧Yw size len (next+ZN s.vsize 4096) l
structure JS (s:Zr):Prop where
 v0:0≤s.vsize
 v1:s.vsize<4294967296
 r0:0≤s.rva
 r1:s.rva<4294967296
 w0:0≤s.raw
 w1:s.raw<4294967296
 s0:0≤s.spot
 s1:s.spot<4294967296
 c0:0≤s.chars
 c1:s.chars<4294967296
theorem UI {f:Nat→Int} (h:Zq f) (o:Nat):JS (Xo f o) :=
 ⟨(ZS f h 4 _).1,(ZS f h 4 _).2,(ZS f h 4 _).1,(ZS f h 4 _).2,(ZS f h 4 _).1,(ZS f h 4 _).2,(ZS f h 4 _).1,(ZS f h 4 _).2,(ZS f h 4 _).1,(ZS f h 4 _).2⟩
theorem XM (n:Int) (h:n<4294967296):0≤ZN n 4096∧ZN n 4096≤4294967296:=by
 unfold ZN
 split
 ·omega
 ·rw[show max (4096:Int) 1=4096 by omega,show min n 1099511627776=n by omega]
  omega
theorem SlT.at6 {w:World} {g:Nat} {l:List Zr} (h:SlT Zr.cells 6 w (some ⟨g,0,none⟩) l) (i:Nat) (hi:i<l.length) :
 w.cell? ⟨g,i * 6,none⟩=some (.string l[i].name)∧w.cell? ⟨g,i * 6+1,none⟩=some (.int .i64 l[i].vsize)∧w.cell? ⟨g,i * 6+2,none⟩=some (.int .i64 l[i].rva) ∧
 w.cell? ⟨g,i * 6+3,none⟩=some (.int .i64 l[i].raw)∧w.cell? ⟨g,i * 6+4,none⟩=some (.int .i64 l[i].spot)∧w.cell? ⟨g,i * 6+5,none⟩=some (.int .i64 l[i].chars):=by
 rcases h with rfl|⟨b,off,hb,hlt,hc⟩
 ·simp at hi
 ·injection hb with hb
  injection hb with h1 h2
  subst h1 h2
  have k:=fun j v hv=>hc i hi j v hv
  simp only[Nat.zero_add] at k
  exact⟨k 0 _ rfl,k 1 _ rfl,k 2 _ rfl,k 3 _ rfl,k 4 _ rfl,k 5 _ rfl⟩
set_option maxRecDepth 100000 in
set_option maxHeartbeats 2000000 in
theorem Zgx (cs:Array Value) (h:ZO) (g c:Nat) (l:List Zr) (n:Int) (bb:Bool) (w:World) (hv:YR cs h (.slice (some ⟨g,0,none⟩) l.length c)) (hl:SlT Zr.cells 6 w (some ⟨g,0,none⟩) l) (hg:g<w.heap.size)
 (hbd: ∀ s∈l,JS s) (hk:l.length≤16) (h0:0≤h.headers) (h1:h.headers<4294967296) (z0:0≤h.size) (z1:h.size<4294967296) (n0:0≤n) (n1:n≤9223372036854775807)
 (hb:bb=true↔Yw h.size n (ZN h.headers 4096) l) :
 Calls Tryz.prog 68 #[.agg cs,.int .i64 n] w fun e w'=>e= .returned (.bool bb)∧Below w.heap.size w w':=by
 have HB0:=Zg ((Below.refl w.heap.size w).alloc (Nat.le_refl _) (.cells cs 41))
 have HG0:=Zg (heap_alloc_new w (.cells cs 41))
 have hr:=XM h.headers h1
 have c4:=hv.c4
 have c5:=hv.c5
 have c38:=hv.c38
 have HV:=Zg hv
 have HL:=Zg hl
 have HB:=Zg hb
 clear hl hb hv
 generalize h.headers=y5 at *
 generalize h.size=y4 at *
 go_enter Tryz.func68,Tryz.ntmps68
 go_wp2_with (refine(Zab y5 4096 _ (by omega) (by omega) (by omega) (by omega)).mono ?_; rintro e w' ⟨rfl,rfl⟩)
 generalize ZN y5 4096=N0 at *
 clear c5 c38
 generalize w.alloc (.cells cs 41)=w1 at HB0 HG0 ⊢
 go_loopw [5,7,8,15] (fun o5 _ _ o15 wr=> ∃(i:Nat) (nx:Int),i≤l.length∧o15= .int .i64 i∧o5= .int .i64 nx∧0≤nx∧nx≤4294967296+i * 4294967296∧(Yw y4 n N0 l↔Yw y4 n nx (l.drop i))∧Below w.heap.size w wr∧wr.heap[w.heap.size]? =some (.cells cs 41 (0,0))) (fun _ _ _ o15 _=>l.length - (intOf o15).toNat)
 case atStart=>exact⟨0,N0,by omega,rfl,rfl,by omega,by omega,by simp,HB0.out,HG0.out⟩
 case round =>
  obtain⟨i,nx,hi,rfl,rfl,x0,x1,hch,hbel,hgg⟩:=hrel
  clear HB0 HG0
  have HCH:=Zg hch
  have HBE:=Zg hbel
  have HGG:=Zg hgg
  have HLT:=Zg (Array.getElem?_eq_some_iff.1 hgg).1
  have c4':wr.cell? ⟨w.heap.size,4,none⟩=some (.int .i64 y4):=by rw[cell_of_row wr _ 4 _ _ _ hgg]; exact c4
  have c4a: ∀ o,(wr.alloc o).cell? ⟨w.heap.size,4,none⟩=some (.int .i64 y4):=fun o=>by rw[World.cell?_alloc_lt _ _ _ HLT.out]; exact c4'
  clear hch hbel hgg
  by_cases hlt:i<l.length
  ·have hlt':(i:Int)<l.length:=by omega
   obtain⟨d0,d1,d2,d3,d4,d5⟩:=(HL.out.below HBE.out).at6 i hlt
   have hsb:=hbd l[i] (List.getElem_mem hlt)
   have hdr:l.drop i=l[i]::l.drop (i+1):=List.drop_eq_getElem_cons hlt
   have HDR:=Zg hdr
   clear hdr
   generalize l[i]=s at *
   obtain⟨nm,v,rva,raw,spot,ch⟩:=s
   simp only at d0 d1 d2 d3 d4 d5
   have hrb:=XM v hsb.v1
   obtain⟨v0,v1,r0,r1,w0,w1',s0,s1,ch0,ch1⟩:=hsb
   simp only at v0 v1 r0 r1 w0 w1' s0 s1 ch0 ch1
   have hX:bb=true↔Uv y4 n nx ⟨nm,v,rva,raw,spot,ch⟩∧Yw y4 n (nx+ZN v 4096) (l.drop (i+1)):=by rw[HB.out,HCH.out,HDR.out]; rfl
   have HR:=Zg (fun W=>Zab v 4096 W (by omega) (by omega) (by omega) (by omega))
   have hcs:(rva != nx)=true∧bb=false∨(rva != nx)=false∧((v == 0)=true∧bb=false∨(v == 0)=false∧(decide (y4<v)=true∧bb=false∨decide (y4<v)=false∧((¬ raw % 512=0)∧bb=false∨raw % 512=0 ∧
    (ZN v 4096<raw∧bb=false∨raw≤ZN v 4096∧(0<raw∧n<spot+raw∧bb=false∨0<raw∧spot+raw≤n∧(bb=true↔Yw y4 n (nx+ZN v 4096) (l.drop (i+1))) ∨
    raw≤0∧(bb=true↔Yw y4 n (nx+ZN v 4096) (l.drop (i+1)))))))):=by
    have hf: ∀ P:Prop,(P→False)→(bb=true↔P)→bb=false:=fun P h1 h2=>by cases bb with
     | false=>rfl
     | true=>exact(h1 (h2.1 rfl)).elim
    unfold Uv at hX
    simp only at hX
    simp only[bne_iff_ne,ne_eq,bne_eq_false_iff_eq,beq_iff_eq,beq_eq_false_iff_ne,decide_eq_true_eq,decide_eq_false_iff_not]
    by_cases e1:rva=nx
    ·by_cases e2:v=0
     ·exact .inr ⟨e1,.inl ⟨e2,hf _ (fun h=>h.1.2.1 e2) hX⟩⟩
     ·by_cases e3:y4<v
      ·exact .inr ⟨e1,.inr ⟨e2,.inl ⟨e3,hf _ (fun h=>by have:=h.1.2.2.1; omega) hX⟩⟩⟩
      ·by_cases e4:raw % 512=0
       ·by_cases e5:ZN v 4096<raw
        ·exact .inr ⟨e1,.inr ⟨e2,.inr ⟨e3,.inr ⟨e4,.inl ⟨e5,hf _ (fun h=>by have:=h.1.2.2.2.2.1; omega) hX⟩⟩⟩⟩⟩
        ·by_cases e6:0<raw
         ·by_cases e7:n<spot+raw
          ·exact .inr ⟨e1,.inr ⟨e2,.inr ⟨e3,.inr ⟨e4,.inr ⟨by omega,.inl ⟨e6,e7,hf _ (fun h=>h.1.2.2.2.2.2 ⟨e6,e7⟩) hX⟩⟩⟩⟩⟩⟩
          ·exact .inr ⟨e1,.inr ⟨e2,.inr ⟨e3,.inr ⟨e4,.inr ⟨by omega,.inr (.inl ⟨e6,by omega,by rw[hX]; exact⟨fun h=>h.2,fun h=>⟨⟨e1,e2,by omega,e4,by omega,fun h=>e7 h.2⟩,h⟩⟩⟩)⟩⟩⟩⟩⟩
         ·exact .inr ⟨e1,.inr ⟨e2,.inr ⟨e3,.inr ⟨e4,.inr ⟨by omega,.inr (.inr ⟨by omega,by rw[hX]; exact⟨fun h=>h.2,fun h=>⟨⟨e1,e2,by omega,e4,by omega,fun h=>e6 h.1⟩,h⟩⟩⟩)⟩⟩⟩⟩⟩
       ·exact .inr ⟨e1,.inr ⟨e2,.inr ⟨e3,.inl ⟨e4,hf _ (fun h=>e4 h.1.2.2.2.1) hX⟩⟩⟩⟩
    ·exact .inl ⟨e1,hf _ (fun h=>e1 h.1.1) hX⟩
   have HBD:=Zg hbd
   clear hX hr h0 h1 hbd
   generalize ZN v 4096=R at *
   rcases hcs with⟨e1,rfl⟩|⟨e1,⟨e2,rfl⟩|⟨e2,⟨e3,rfl⟩|⟨e3,⟨e4,rfl⟩|⟨e4,⟨e5,rfl⟩|⟨e5,⟨e6,e7,rfl⟩|⟨e6,e7,e8⟩|⟨e6,e8⟩⟩⟩⟩⟩⟩
   iterate 6
    ·go_wp2_with (go_fit (HR.out _); rintro e w' ⟨rfl,rfl⟩)
     go_ret
     exact⟨rfl,HBE.out.alloc HBE.out.size _⟩
   all_goals
    go_wp2_with (go_fit (HR.out _); rintro e w' ⟨rfl,rfl⟩)
    go_roundw
    case rel=>exact⟨i+1,nx+R,by omega,by go_num,rfl,by omega,by omega,by rw[←HB.out,e8],HBE.out.alloc HBE.out.size _,by rw[heap_alloc_old _ _ HLT.out]; exact HGG.out⟩
    case measure=>simp[intOf]; omega
  ·obtain rfl:i=l.length:=by omega
   have hbb:bb=decide (nx=y4):=by
    have h1:=HB.out
    rw[HCH.out,List.drop_length] at h1
    rw[Bool.eq_iff_iff,h1,decide_eq_true_eq]
    rfl
   subst hbb
   go_wp2_with fail
   go_ret
   refine⟨congrArg (fun b=>Ending.returned (.bool b)) ?_,HBE.out⟩
   rw[Bool.eq_iff_iff,beq_iff_eq,decide_eq_true_eq]
open Classical in
noncomputable def ZT (n:Nat) (f:Nat→Int):Int :=
 if(ZA n f).2≠0 then(ZA n f).2 else
 if Qe f (ZA n f).1.toNat≠0 then Qe f (ZA n f).1.toNat else
 if ¬ XZ f (ZA n f).1.toNat (ZF f (ZA n f).1.toNat).base (ZF f (ZA n f).1.toNat).size then 6 else
 if ¬ Yt n (ZA n f).1.toNat (ZF f (ZA n f).1.toNat).headers (rdF f ((ZA n f).1.toNat+6) 2) then 7 else
 if ¬ Yw (ZF f (ZA n f).1.toNat).size n (ZN (ZF f (ZA n f).1.toNat).headers 4096) (Ya f ((ZA n f).1.toNat+264) (rdF f ((ZA n f).1.toNat+6) 2).toNat) then 7 else
 if(ZF f (ZA n f).1.toNat).size≤(ZF f (ZA n f).1.toNat).entry then 5 else 0
def headP (n:Nat) (f:Nat→Int):Nat:=(ZA n f).1.toNat
def headK (n:Nat) (f:Nat→Int):Nat:=(rdF f (headP n f+6) 2).toNat
def Za0:ZO:=⟨0,0,0,0,0,0,fun _=>(0,0)⟩
theorem ZE:YR (Zl 0 0 0 0 0 0) Za0 (.slice none 0 0):=by
 refine⟨rfl,rfl,rfl,rfl,rfl,rfl,rfl,fun i hi=> ?_,fun i hi=> ?_,rfl⟩
 ·rcases(by omega:i=0∨i=1∨i=2∨i=3∨i=4∨i=5∨i=6∨i=7∨i=8∨i=9∨i=10∨i=11∨i=12∨i=13∨i=14∨i=15) with h|h|h|h|h|h|h|h|h|h|h|h|h|h|h|h <;> subst h <;> rfl
 ·rcases(by omega:i=0∨i=1∨i=2∨i=3∨i=4∨i=5∨i=6∨i=7∨i=8∨i=9∨i=10∨i=11∨i=12∨i=13∨i=14∨i=15) with h|h|h|h|h|h|h|h|h|h|h|h|h|h|h|h <;> subst h <;> rfl
theorem YR.one {cs:Array Value} {h:ZO} {sv:Value} (x:YR cs h sv) (hs:sv.oneCell'=true):cs.all (·.oneCell')=true:=by
 refine Array.all_eq_true_iff_forall_mem.2 fun v hv=> ?_
 obtain⟨j,hj,rfl⟩:=Array.mem_iff_getElem.1 hv
 have hsz:=x.size
 have k: ∀ u,cs[j]? =some u→u.oneCell'=true→cs[j].oneCell'=true:=fun u h1 h2=>by
  rw[Array.getElem?_eq_getElem hj] at h1
  injection h1 with h1
  rw[h1]; exact h2
 rcases(by omega:j=0∨j=1∨j=2∨j=3∨j=4∨j=5∨j=38∨((j - 6) / 2<16∧j=6+2 * ((j - 6) / 2))∨((j - 6) / 2<16∧j=6+2 * ((j - 6) / 2)+1)) with h|h|h|h|h|h|h|⟨hi,h⟩|⟨hi,h⟩
 ·exact k _ (by rw[h]; exact x.c0) rfl
 ·exact k _ (by rw[h]; exact x.c1) rfl
 ·exact k _ (by rw[h]; exact x.c2) rfl
 ·exact k _ (by rw[h]; exact x.c3) rfl
 ·exact k _ (by rw[h]; exact x.c4) rfl
 ·exact k _ (by rw[h]; exact x.c5) rfl
 ·exact k _ (by rw[h]; exact x.c38) hs
 ·exact k _ (by rw[h]; exact x.dir0 _ hi) rfl
 ·exact k _ (by rw[h]; exact x.dir1 _ hi) rfl
theorem YR.sects {cs:Array Value} {h:ZO} {sv:Value} (x:YR cs h sv) (sv':Value):YR (cs.setIfInBounds 38 sv') h sv':=by
 have hs:=x.size
 have k: ∀ j v,j≠38→cs[j]? =some v→(cs.setIfInBounds 38 sv')[j]? =some v:=fun j v h1 h2=>by
  rw[Array.getElem?_setIfInBounds_ne (by omega)]; exact h2
 exact⟨by simp[hs],k _ _ (by omega) x.c0,k _ _ (by omega) x.c1,k _ _ (by omega) x.c2,k _ _ (by omega) x.c3,k _ _ (by omega) x.c4,k _ _ (by omega) x.c5,fun i hi=>k _ _ (by omega) (x.dir0 i hi),fun i hi=>k _ _ (by omega) (x.dir1 i hi),by rw[Array.getElem?_setIfInBounds_self_of_lt (by omega)]⟩
def HeadR (w:World) (n:Nat) (f:Nat→Int) (v:Value):Prop :=
 ∃ cs,v= .tuple #[.agg cs,.int .i64 (ZT n f)] ∧
   ((ZT n f≠0∧YR cs Za0 (.slice none 0 0)) ∨
    (ZT n f=0∧ ∃ g,YR cs (ZF f (headP n f)) (.slice (some ⟨g,0,none⟩) (headK n f) (headK n f))∧SlT Zr.cells 6 w (some ⟨g,0,none⟩) (Ya f (headP n f+264) (headK n f))∧g<w.heap.size))
theorem Zj {P:Program} {fn:Func} {p q:Tmp} {ty:TypeId} (h:fn.results= #[.cell p ty,.tmp q]) (tmps:Array Value) (w:World) (g:Nat) (t:TypeId) (cs:Array Value) (fr:Nat × Nat) (d:TypeDesc) (v:Value)
 (hp:tmps.getD p undef= .pointer (some ⟨g,0,none⟩)) (hq:tmps.getD q undef=v) (hg:w.heap[g]? =some (.cells cs t fr))
 (hu:P.underlying ty=some d) (hd:(match d with| .struct _| .array _ _=>true|_=>false)=true) (hi:(P.info? ty).map (·.size)=some cs.size) :
 (results fn tmps).run P w= .ok (.tuple #[.agg cs,v]) w:=by
 have hp':tmps[p]?.getD undef= .pointer (some ⟨g,0,none⟩):=by simpa using hp
 have hq':tmps[q]?.getD undef=v:=by simpa using hq
 simp[results,h,hp',hq',asAddr,run_loadVar_row w g t ty cs fr d hg hu hd hi]
theorem Zgy {n:Nat} {f:Nat→Int} (hf:Zq f) (h:(ZA n f).2=0): ∃ p:Nat,(ZA n f).1=p∧64≤p∧p % 4=0∧p+264≤n∧p<4294967296:=by
 have hb:=ZS f hf 4 60
 unfold ZA at h ⊢
 split at h
 ·cases h
 ·split at h
  ·cases h
  ·split at h
   ·cases h
   ·split at h
    ·cases h
    ·rename_i h1 h2 h3 h4
     rw[if_neg h1,if_neg h2,if_neg h3,if_neg h4]
     refine⟨(rdF f 60 4).toNat,?_,?_,?_,?_,?_⟩ <;> simp only[] at * <;> omega
set_option maxRecDepth 100000 in
set_option maxHeartbeats 4000000 in
theorem Zed (b off n cap:Nat) (f:Nat→Int) (w:World) (h:VF w b off n cap f) :
 Calls Tryz.prog 23 #[.slice (some ⟨b,off,none⟩) n cap] w fun e w'=>(∃ v,e= .returned v∧HeadR w' n f v)∧Below w.heap.size w w':=by
 have hbx:=Zfg b off n cap f
 have hZ:=heap_alloc_new w (.cells (Zl 0 0 0 0 0 0) 41)
 have HB0:=Zg ((Below.refl w.heap.size w).alloc (Nat.le_refl _) (.cells (Zl 0 0 0 0 0 0) 41))
 have hs1:(w.alloc (.cells (Zl 0 0 0 0 0 0) 41)).heap.size=w.heap.size+1:=by simp
 have HR1:=Zg (h.below HB0.out)
 clear h
 go_enter Tryz.func23,Tryz.ntmps23
 go_wp2_with fail
 rw[Yp]
 generalize w.alloc (.cells (Zl 0 0 0 0 0 0) 41)=w1 at hZ HB0 HR1 hs1 ⊢
 refine(hbx w1 HR1.out).mono ?_
 rintro e w2 ⟨rfl,hb2⟩
 have HB2:=Zg (HB0.out.trans (hb2.mono (by omega)))
 have HR2:=Zg (HR1.out.below hb2)
 have hZ2:=(hb2.block w.heap.size (by omega)).trans hZ
 have H255:=Zg HR1.out.by255
 clear hbx hZ HB0 HR1 hb2 hs1
 by_cases e0:(ZA n f).2≠0
 ·have hE:ZT n f=(ZA n f).2:=by unfold ZT; rw[if_pos e0]
  have HE:=Zg hE
  clear hE
  generalize (ZA n f).2=x2 at *
  generalize (ZA n f).1=x1 at *
  have e1:(x2 != 0)=true:=by simpa using e0
  go_wp2_with (refine wpList_store_row rfl 41 _ _ rfl w.heap.size (Zl 0 0 0 0 0 0) rfl rfl 41 _ hZ2 rfl rfl (ZC _ _ _ _ _ _) ?_)
  refine bodyPost_ret (v:= .tuple #[.agg (Zl 0 0 0 0 0 0),.int .i64 x2]) (Zj rfl _ _ w.heap.size 41 _ (0,0) _ _ rfl rfl (setRow_heap _ _ _ _ _ _ hZ2) rfl rfl rfl) rfl ⟨⟨_,rfl,_,by rw[HE.out],.inl ⟨by rw[HE.out]; exact e0,ZE⟩⟩,below_setRow HB2.out (Nat.le_refl _) _⟩
 ·have e0':(ZA n f).2=0:=by omega
  obtain⟨p,hp,p0,p1,p2,p3⟩:=Zgy H255.out e0'
  have hP:headP n f=p:=by unfold headP; rw[hp]; rfl
  have hK:headK n f=(rdF f (p+6) 2).toNat:=by unfold headK; rw[hP]
  have HP:=Zg hP
  have HK:=Zg hK
  have hE:ZT n f=ZT n f:=rfl
  conv at hE=>rhs; unfold ZT
  rw[if_neg e0,hp,Int.toNat_natCast] at hE
  have HE:=Zg hE
  rw[e0',hp]
  clear hE hP hK hp e0 e0'
  have ho:=Zjc b off n cap f p w2 HR2.out p2 (by omega)
  have HO:=Zg ho
  clear ho
  by_cases eo:Qe f p≠0
  ·have hE:ZT n f=Qe f p:=by rw[HE.out,if_pos eo]
   have HE2:=Zg hE
   clear hE
   generalize Qe f p=x2 at *
   have e1:(x2 != 0)=true:=by simpa using eo
   go_wp2_with (first|(go_fit HO.out; rintro e w' ⟨rfl,rfl⟩)|(refine wpList_store_row rfl 41 _ _ rfl w.heap.size (Zl 0 0 0 0 0 0) rfl rfl 41 _ hZ2 rfl rfl (ZC _ _ _ _ _ _) ?_))
   refine bodyPost_ret (v:= .tuple #[.agg (Zl 0 0 0 0 0 0),.int .i64 x2]) (Zj rfl _ _ w.heap.size 41 _ (0,0) _ _ rfl rfl (setRow_heap _ _ _ _ _ _ hZ2) rfl rfl rfl) rfl ⟨⟨_,rfl,_,by rw[HE2.out],.inl ⟨by rw[HE2.out]; exact eo,ZE⟩⟩,below_setRow HB2.out (Nat.le_refl _) _⟩
  ·have eo':Qe f p=0:=by omega
   rw[eo'] at HO
   have hE:ZT n f=_:=HE.out
   rw[if_neg eo] at hE
   have HE2:=Zg hE
   clear hE HE eo eo'
   go_wp2_with (go_fit HO.out; rintro e w' ⟨rfl,rfl⟩)
   refine(Zii b off n cap f p w2 HR2.out p2 (by omega)).mono ?_
   rintro e w3 ⟨⟨cs,rfl,hv⟩,hb3⟩
   have HB3:=Zg (HB2.out.trans (hb3.mono HB2.out.size))
   have HR3:=Zg (HR2.out.below hb3)
   have hlt2:w.heap.size<w2.heap.size:=(Array.getElem?_eq_some_iff.1 hZ2).1
   have hZ3:=(hb3.block w.heap.size hlt2).trans hZ2
   have hlt3:w.heap.size<w3.heap.size:=Nat.lt_of_lt_of_le hlt2 hb3.size
   have hone:=hv.one rfl
   have hcz:=hv.size
   clear HB2 HR2 HO hb3 hZ2 hlt2
   go_wp2_with (first
    | (refine wpList_store_row rfl 41 _ _ rfl w3.heap.size cs rfl rfl 41 _ (heap_alloc_new _ _) (by rw[hcz]; rfl) (by rw[hcz]; rfl) hone ?_)
    | (refine wpList_load_row rfl 41 _ rfl w3.heap.size rfl 41 cs (0,0) _ (setRow_heap _ _ _ _ _ _ (heap_alloc_new _ _)) rfl rfl (by rw[hcz]; rfl) ?_))
   rw[Yp]
   have h74:=setRow_heap (w3.alloc (.cells (Zl 0 0 0 0 0 0) 41)) w3.heap.size _ cs _ _ (heap_alloc_new _ _)
   have hZ4:((w3.alloc (.cells (Zl 0 0 0 0 0 0) 41)).setRow w3.heap.size cs).heap[w.heap.size]? =some (.cells (Zl 0 0 0 0 0 0) 41 (0,0)):=by rw[setRow_other _ _ _ _ (by omega),heap_alloc_old _ _ hlt3]; exact hZ3
   have hB34:Below w3.heap.size w3 ((w3.alloc (.cells (Zl 0 0 0 0 0 0) 41)).setRow w3.heap.size cs):=below_setRow ((Below.refl _ w3).alloc (Nat.le_refl _) _) (Nat.le_refl _) _
   have HB4:=Zg (HB3.out.trans (hB34.mono HB3.out.size))
   have HR4:=Zg (HR3.out.below hB34)
   have hsz4:w3.heap.size<((w3.alloc (.cells (Zl 0 0 0 0 0 0) 41)).setRow w3.heap.size cs).heap.size:=by simp
   clear hB34 hZ3 HR3 HB3
   generalize (w3.alloc (.cells (Zl 0 0 0 0 0 0) 41)).setRow w3.heap.size cs=w4 at *
   generalize w3.heap.size=g7 at *
   have HV:=Zg hv
   have HLT:=Zg hlt3
   have HONE:=Zg hone
   clear hv hlt3 hone
   by_cases ea:XZ f p (ZF f p).base (ZF f p).size
   ·have hE:ZT n f=_:=HE2.out
    rw[if_neg (fun h=>h ea)] at hE
    have HE3:=Zg hE
    clear hE HE2
    have hbs: ∀ k,Hid (0≤rdF f (p+k) 4∧rdF f (p+k) 4<4294967296):=fun k=>Zg (ZS f H255.out 4 _)
    have hb2:=ZS f H255.out 2 (p+6)
    refine(QT b off n cap f p cs _ _ true w4 HR4.out p2 (by omega) HV.out ⟨fun _=>ea,fun _=>rfl⟩).mono ?_
    rintro e w5 ⟨rfl,hb5⟩
    have HB5:=Zg (HB4.out.trans (hb5.mono HB4.out.size))
    have HR5:=Zg (HR4.out.below hb5)
    have hZ5:=(hb5.block w.heap.size (Nat.lt_trans HLT.out hsz4)).trans hZ4
    have h75:=(hb5.block g7 hsz4).trans h74
    have hsz5:g7<w5.heap.size:=Nat.lt_of_lt_of_le hsz4 hb5.size
    have H6:=Zg (Zfe b off n cap f (p+6) w5 HR5.out (by omega))
    rw[show((p+6:Nat):Int)=(p:Int)+6 by omega] at H6
    have hK:=HK.out
    obtain⟨k,hk⟩: ∃ k:Nat,rdF f (p+6) 2=k:=⟨(rdF f (p+6) 2).toNat,by omega⟩
    rw[hk] at hK H6 hb2
    rw[hk] at HE3
    simp only[Int.toNat_natCast] at hK HE3
    have HK2:=Zg hK
    have c5:w5.cell? ⟨g7,5,none⟩=some (.int .i64 (ZF f p).headers):=by rw[cell_of_row _ _ _ _ _ _ h75]; exact HV.out.c5
    clear hb5 hZ4 h74 hsz4 HK hK ea HB4 HR4
    go_wp2_with (go_fit H6.out; rintro e w' ⟨rfl,rfl⟩)
    by_cases eh:Yt n p (ZF f p).headers k
    ·have hE:ZT n f=_:=HE3.out
     rw[if_neg (fun h=>h eh)] at hE
     have HE4:=Zg hE
     clear hE HE3
     refine(UT _ n cap p _ _ true w5 (by have:=HR5.out.len; have:=HR5.out.most; omega) (by omega) ((hbs 84).out).1 (Int.le_of_lt ((hbs 84).out).2) (by omega) (by omega) ⟨fun _=>eh,fun _=>rfl⟩).mono ?_
     rintro e w' ⟨rfl,rfl⟩
     obtain⟨k1,k2,k3,k4,k5⟩:=eh
     have hsx:=Zgw b off n cap f (p+264) k w5 HR5.out (by omega) (by omega) (by omega) (by omega)
     rw[show((p+264:Nat):Int)=(p:Int)+264 by omega] at hsx
     go_wp2_with fail
     refine hsx.mono ?_
     rintro e w6 ⟨rfl,hsl,hb6⟩
     clear hsx c5 H6
     have hlen:(Ya f (p+264) k).length=k:=by simp[Ya]
     have HN63:Hid ((n:Int)≤9223372036854775807):=Zg (by have:=HR5.out.len; have:=HR5.out.most; omega)
     have HG75:=Zg hsz5
     have hgS:w5.heap.size<w6.heap.size:=by
      rcases hsl with h|⟨b',off',h1,h2,_⟩
      ·rw[h] at hlen; simp at hlen; omega
      ·injection h1 with h1
       injection h1 with h1
       omega
     have HB6:=Zg (HB5.out.trans (hb6.mono HB5.out.size))
     have hZ6:=(hb6.block w.heap.size (Nat.lt_trans HLT.out hsz5)).trans hZ5
     have h76:=(hb6.block g7 hsz5).trans h75
     have c38:w6.cell? ⟨g7,38,none⟩=some (.slice none 0 0):=by rw[cell_of_row _ _ _ _ _ _ h76]; exact HV.out.c38
     have z38:=frozen_of_row _ _ 38 _ _ h76
     have hcz7:(cs.setIfInBounds 38 (.slice (some ⟨w5.heap.size,0,none⟩) k k)).size=39:=by rw[Array.size_setIfInBounds]; exact hcz
     have h77:(w6.setCell ⟨g7,38,none⟩ (.slice (some ⟨w5.heap.size,0,none⟩) k k)).heap[g7]? =_:=heap_setCell_same _ _ _ _ _ _ h76
     have hZ7:(w6.setCell ⟨g7,38,none⟩ (.slice (some ⟨w5.heap.size,0,none⟩) k k)).heap[w.heap.size]? =some (.cells (Zl 0 0 0 0 0 0) 41 (0,0)):=by
      rw[heap_setCell_other _ _ _ _ (by have:=HLT.out; show w.heap.size≠g7; omega)]; exact hZ6
     have HB7:Hid (Below w.heap.size w (w6.setCell ⟨g7,38,none⟩ (.slice (some ⟨w5.heap.size,0,none⟩) k k))):=Zg (HB6.out.setCell (Nat.le_of_lt HLT.out) _)
     have HSL7:Hid (SlT Zr.cells 6 (w6.setCell ⟨g7,38,none⟩ (.slice (some ⟨w5.heap.size,0,none⟩) k k)) (some ⟨w5.heap.size,0,none⟩) (Ya f (p+264) k)) :=
      Zg (hsl.keep (by simp) fun b' hb'=>by
       simp only[Option.map_some,Option.some.injEq] at hb'
       exact heap_setCell_other _ _ _ _ (by show b'≠g7; omega))
     have hgS7:w5.heap.size<(w6.setCell ⟨g7,38,none⟩ (.slice (some ⟨w5.heap.size,0,none⟩) k k)).heap.size:=by simpa using hgS
     have HV7:=Zg (HV.out.sects (.slice (some ⟨w5.heap.size,0,none⟩) k k))
     clear hsl hb6 hZ5 h75 hZ6 h76 HB6 HB5 HR5 HV hcz
     go_wp2_with (refine wpList_load_row rfl 41 _ rfl g7 rfl 41 _ (0,0) _ h77 rfl rfl (by rw[hcz7]; rfl) ?_)
     generalize w6.setCell ⟨g7,38,none⟩ (.slice (some ⟨w5.heap.size,0,none⟩) k k)=w7 at *
     have hsz7:g7<w7.heap.size:=by omega
     clear hsz5 hgS c38 z38
     generalize w5.heap.size=gS at *
     generalize cs.setIfInBounds 38 (.slice (some ⟨gS,0,none⟩) k k)=cs7 at *
     have HCH:=fun bb hbb=>Zgx cs7 (ZF f p) gS k (Ya f (p+264) k) n bb w7 (by rw[hlen]; exact HV7.out) HSL7.out hgS7 (fun s hs=>by
      simp only[Ya,List.mem_map] at hs
      obtain⟨j,_,rfl⟩:=hs
      exact UI H255.out _) (by omega) ((hbs 84).out).1 ((hbs 84).out).2 ((hbs 80).out).1 ((hbs 80).out).2 (by omega) HN63.out hbb
     have h3:=HV7.out.c3
     have h4:=HV7.out.c4
     have hone7:=HV7.out.one rfl
     by_cases ec:Yw (ZF f p).size n (ZN (ZF f p).headers 4096) (Ya f (p+264) k)
     ·have hE:ZT n f=_:=HE4.out
      rw[if_neg (fun h=>h ec)] at hE
      have HE5:=Zg hE
      clear hE HE4
      refine(HCH true ⟨fun _=>ec,fun _=>rfl⟩).mono ?_
      rintro e w8 ⟨rfl,hb8⟩
      have HB8:=Zg (HB7.out.trans (hb8.mono HB7.out.size))
      have hZ8:=(hb8.block w.heap.size (Nat.lt_trans HLT.out hsz7)).trans hZ7
      have h78:=(hb8.block g7 hsz7).trans h77
      have HSL8:=Zg (HSL7.out.below hb8)
      have hgS8:gS<w8.heap.size:=Nat.lt_of_lt_of_le hgS7 hb8.size
      have c3:w8.cell? ⟨g7,3,none⟩=some (.int .i64 (ZF f p).entry):=by rw[cell_of_row _ _ _ _ _ _ h78]; exact h3
      have c4:w8.cell? ⟨g7,4,none⟩=some (.int .i64 (ZF f p).size):=by rw[cell_of_row _ _ _ _ _ _ h78]; exact h4
      clear hb8 hZ7 h77 hsz7 hgS7 HSL7 HB7 HCH h3 h4 ec
      generalize hy3:(ZF f p).entry=y3 at *
      generalize hy4:(ZF f p).size=y4 at *
      by_cases ee:y4≤y3
      ·have hE:ZT n f=5:=by rw[HE5.out,if_pos ee]
       have HE6:=Zg hE
       clear hE h78
       go_wp2_with (first|(refine wpList_store_row rfl 41 _ _ rfl w.heap.size (Zl 0 0 0 0 0 0) rfl rfl 41 _ hZ8 rfl rfl (ZC _ _ _ _ _ _) ?_))
       refine bodyPost_ret (v:= .tuple #[.agg (Zl 0 0 0 0 0 0),.int .i64 5]) (Zj rfl _ _ w.heap.size 41 _ (0,0) _ _ rfl rfl (setRow_heap _ _ _ _ _ _ hZ8) rfl rfl rfl) rfl ⟨⟨_,rfl,_,by rw[HE6.out],.inl ⟨by rw[HE6.out]; omega,ZE⟩⟩,below_setRow HB8.out (Nat.le_refl _) _⟩
      ·have hE:ZT n f=0:=by rw[HE5.out,if_neg ee]
       have HE6:=Zg hE
       clear hE
       have ee':y3<y4:=by omega
       go_wp2_with (first
        | (refine wpList_load_row rfl 41 _ rfl g7 rfl 41 cs7 (0,0) _ h78 rfl rfl (by rw[hcz7]; rfl) ?_)
        | (refine wpList_store_row rfl 41 _ _ rfl w.heap.size cs7 rfl rfl 41 _ hZ8 (by rw[hcz7]; rfl) (by rw[hcz7]; rfl) hone7 ?_))
       refine bodyPost_ret (v:= .tuple #[.agg cs7,.int .i64 0]) (Zj rfl _ _ w.heap.size 41 cs7 (0,0) _ _ rfl rfl (setRow_heap _ _ _ _ _ _ hZ8) rfl rfl (by rw[hcz7]; rfl)) rfl ⟨⟨_,rfl,cs7,by rw[HE6.out],.inr ⟨HE6.out,gS,?_,?_,?_⟩⟩,below_setRow HB8.out (Nat.le_refl _) _⟩
       ·rw[HP.out,HK2.out]; exact HV7.out
       ·rw[HP.out,HK2.out]
        exact HSL8.out.keep (by simp) fun b' hb'=>by
         simp only[Option.map_some,Option.some.injEq] at hb'
         exact setRow_other _ _ _ _ (by have:=HLT.out; have:=HG75.out; omega)
       ·simpa using hgS8
     ·have hE:ZT n f=7:=by rw[HE4.out,if_pos ec]
      have HE5:=Zg hE
      clear hE
      refine(HCH false ⟨fun h=>(by cases h),fun h=>(ec h).elim⟩).mono ?_
      rintro e w8 ⟨rfl,hb8⟩
      have HB8:=Zg (HB7.out.trans (hb8.mono HB7.out.size))
      have hZ8:=(hb8.block w.heap.size (Nat.lt_trans HLT.out hsz7)).trans hZ7
      clear hb8 hZ7 h77 hsz7 hgS7 HCH h3 h4 ec hone7
      go_wp2_with (first|(refine wpList_store_row rfl 41 _ _ rfl w.heap.size (Zl 0 0 0 0 0 0) rfl rfl 41 _ hZ8 rfl rfl (ZC _ _ _ _ _ _) ?_))
      refine bodyPost_ret (v:= .tuple #[.agg (Zl 0 0 0 0 0 0),.int .i64 7]) (Zj rfl _ _ w.heap.size 41 _ (0,0) _ _ rfl rfl (setRow_heap _ _ _ _ _ _ hZ8) rfl rfl rfl) rfl ⟨⟨_,rfl,_,by rw[HE5.out],.inl ⟨by rw[HE5.out]; omega,ZE⟩⟩,below_setRow HB8.out (Nat.le_refl _) _⟩
    ·have hE:ZT n f=7:=by rw[HE3.out,if_pos eh]
     have HE4:=Zg hE
     clear hE
     refine(UT _ n cap p _ _ false w5 (by have:=HR5.out.len; have:=HR5.out.most; omega) (by omega) ((hbs 84).out).1 (Int.le_of_lt ((hbs 84).out).2) (by omega) (by omega) ⟨fun h=>(by cases h),fun h=>(eh h).elim⟩).mono ?_
     rintro e w' ⟨rfl,rfl⟩
     clear c5 h75 hsz5
     go_wp2_with (first|(refine wpList_store_row rfl 41 _ _ rfl w.heap.size (Zl 0 0 0 0 0 0) rfl rfl 41 _ hZ5 rfl rfl (ZC _ _ _ _ _ _) ?_))
     refine bodyPost_ret (v:= .tuple #[.agg (Zl 0 0 0 0 0 0),.int .i64 7]) (Zj rfl _ _ w.heap.size 41 _ (0,0) _ _ rfl rfl (setRow_heap _ _ _ _ _ _ hZ5) rfl rfl rfl) rfl ⟨⟨_,rfl,_,by rw[HE4.out],.inl ⟨by rw[HE4.out]; omega,ZE⟩⟩,below_setRow HB5.out (Nat.le_refl _) _⟩
   ·have hE:ZT n f=6:=by rw[HE2.out,if_pos ea]
    have HE3:=Zg hE
    clear hE
    refine(QT b off n cap f p cs _ _ false w4 HR4.out p2 (by omega) HV.out ⟨fun h=>(by cases h),fun h=>(ea h).elim⟩).mono ?_
    rintro e w5 ⟨rfl,hb5⟩
    have HB5:=Zg (HB4.out.trans (hb5.mono HB4.out.size))
    have hZ5:=(hb5.block w.heap.size (Nat.lt_trans HLT.out hsz4)).trans hZ4
    clear hb5 hZ4 h74 hsz4
    go_wp2_with (first|(refine wpList_store_row rfl 41 _ _ rfl w.heap.size (Zl 0 0 0 0 0 0) rfl rfl 41 _ hZ5 rfl rfl (ZC _ _ _ _ _ _) ?_))
    refine bodyPost_ret (v:= .tuple #[.agg (Zl 0 0 0 0 0 0),.int .i64 6]) (Zj rfl _ _ w.heap.size 41 _ (0,0) _ _ rfl rfl (setRow_heap _ _ _ _ _ _ hZ5) rfl rfl rfl) rfl ⟨⟨_,rfl,_,by rw[HE3.out],.inl ⟨by rw[HE3.out]; omega,ZE⟩⟩,below_setRow HB5.out (Nat.le_refl _) _⟩
theorem Zgz (w:World):Calls Tryz.prog 61 #[.slice none 0 0] w fun e w'=>e= .returned (.tuple #[.int .i64 0,.int .i64 2])∧w=w':=by
 go_enter Tryz.func61,Tryz.ntmps61
 go_wp2_with fail
 go_ret2
 exact⟨rfl,rfl⟩
set_option maxRecDepth 100000 in
theorem Zee (w:World) :
 Calls Tryz.prog 23 #[.slice none 0 0] w fun e w'=>(∃ cs,e= .returned (.tuple #[.agg cs,.int .i64 2])∧YR cs Za0 (.slice none 0 0))∧Below w.heap.size w w':=by
 have hZ:=heap_alloc_new w (.cells (Zl 0 0 0 0 0 0) 41)
 have HB0:=Zg ((Below.refl w.heap.size w).alloc (Nat.le_refl _) (.cells (Zl 0 0 0 0 0 0) 41))
 go_enter Tryz.func23,Tryz.ntmps23
 go_wp2_with fail
 rw[Yp]
 generalize w.alloc (.cells (Zl 0 0 0 0 0 0) 41)=w1 at hZ HB0 ⊢
 refine(Zgz w1).mono ?_
 rintro e w' ⟨rfl,rfl⟩
 go_wp2_with (refine wpList_store_row rfl 41 _ _ rfl w.heap.size (Zl 0 0 0 0 0 0) rfl rfl 41 _ hZ rfl rfl (ZC _ _ _ _ _ _) ?_)
 refine bodyPost_ret (v:= .tuple #[.agg (Zl 0 0 0 0 0 0),.int .i64 2]) (Zj rfl _ _ w.heap.size 41 _ (0,0) _ _ rfl rfl (setRow_heap _ _ _ _ _ _ hZ) rfl rfl rfl) rfl ⟨⟨_,rfl,ZE⟩,below_setRow HB0.out (Nat.le_refl _) _⟩
end Go.Proofs.YtplgdpjbkdagfaaGreat
