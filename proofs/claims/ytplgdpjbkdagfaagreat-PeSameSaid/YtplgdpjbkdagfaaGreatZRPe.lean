import Derived.Test.YtplgdpjbkdagfaaGreatZPeC
import Derived.Test.YtplgdpjbkdagfaaGreatZRNou
import Derived.Test.YtplgdpjbkdagfaaGreatZPeV
import Derived.Test.YtplgdpjbkdagfaaGreatRLayB
import Derived.Test.YtplgdpjbkdagfaaGreatRefE
import Derived.Test.YtplgdpjbkdagfaaGreatZRelApart
import Derived.Test.YtplgdpjbkdagfaaGreatZRefB
namespace Go.Proofs.YtplgdpjbkdagfaaGreat
open Lib renaming hid→Zg
open Go.ChangeShapes Go.WideShapes Go.ChangeAt Go.RowKit
set_option linter.unusedVariables false
set_option linter.unusedSimpArgs false
set_option maxRecDepth 100000
def RR1 (w:World) (f:Nat) (args:Array Value) (er:Int) (S:Value→World→Prop):Prop :=
 ∀ W,Below w.heap.size w W→Calls Tryz.prog f args W fun e W'=> ∃ v,e= .returned (.tuple #[v,.int .i64 er])∧v.oneCell'=true∧Below W.heap.size W W'∧ZM W.heap.size (S v) W'
def RR3 (w:World) (f:Nat) (args:Array Value) (er:Int) (S:Value→Value→Value→World→Prop):Prop :=
 ∀ W,Below w.heap.size w W→Calls Tryz.prog f args W fun e W'=> ∃ a b c,e= .returned (.tuple #[.agg #[a,b,c],.int .i64 er])∧(a.oneCell'=true∧b.oneCell'=true∧c.oneCell'=true)∧Below W.heap.size W W'∧ZM W.heap.size (S a b c) W'
inductive Wx (w:World) (N:Nat) (IM:Nat→Int) (HG:World→Array Value→Prop) (FE:Int) (SE:Value→Value→Value→World→Prop) (SI SR:Value→World→Prop) (ST:Value→Value→Value→World→Prop) (SB SD:Value→World→Prop):Ending→World→Prop
 | bad {u:World} (h: ¬ FE=0):Wx w N IM HG FE SE SI SR ST SB SD (.returned (.tuple #[.agg (peC peZ),.int .i64 FE])) u
 | good {u:World} (h:FE=0) (y:PeV) (cs:Array Value) (gi C W:Nat) (hk: ∃ wb,HG wb cs∧wb.heap[w.heap.size]? =some (.cells (peC peZ) 50 (0,0))∧Xg (fun k=>k<wb.heap.size∧k≠w.heap.size) wb u) (hh: ∀ j,j<39→cs[j]? =some (y.hd j)) (hi:y.img= .slice (some ⟨gi,0,none⟩) N C) (ho:YD u w.heap.size gi N C IM) (hW:w.heap.size≤W)
    (lE:ZM W (SE y.e0 y.e1 y.e2) u) (lI:ZM W (SI y.im) u) (lR:ZM W (SR y.re) u) (lT:ZM W (ST y.t0 y.t1 y.t2) u) (lB:ZM W (SB y.bo) u) (lD:ZM W (SD y.de) u) :
    Wx w N IM HG FE SE SI SR ST SB SD (.returned (.tuple #[.agg (peC y),.int .i64 0])) u
structure RSt (w wb:World) (h P gi N C:Nat) (cs:Array Value) (IM:Nat→Int) (hd:Nat→Value) (W:World) (y:PeV):Prop where
 bel:Below w.heap.size w W
 kept:Xg (fun k=>k<wb.heap.size) wb W
 hh:W.heap[h]? =some (.cells cs 41 (0,0))
 pe:YV W P y
 hd:y.hd=hd
 img:y.img= .slice (some ⟨gi,0,none⟩) N C
 ho:YD W w.heap.size gi N C IM
 h1:w.heap.size+1<wb.heap.size
 h2:wb.heap.size≤h
 h3:h<P
 h4:gi≠P
 h5:wb.heap.size≤gi
namespace RSt
variable {w wb:World} {h P gi N C:Nat} {cs:Array Value} {IM:Nat→Int} {hd:Nat→Value} {W W':World} {y:PeV}
theorem below (x:RSt w wb h P gi N C cs IM hd W y) (hb:Below W.heap.size W W'):RSt w wb h P gi N C cs IM hd W' y :=
 ⟨x.bel.trans (hb.mono x.bel.size),x.kept.trans (Xg.of_below hb (fun k hk=>Nat.lt_of_lt_of_le hk x.kept.size)),(hb.block h (Zi x.hh)).trans x.hh,Own.of_block x.pe (hb.block P x.pe.1) hb.size,x.hd,x.img,x.ho.below hb,x.h1,x.h2,x.h3,x.h4,x.h5⟩
theorem lt (x:RSt w wb h P gi N C cs IM hd W y):P<W.heap.size:=x.pe.1
theorem base (x:RSt w wb h P gi N C cs IM hd W y) {v:Value} (hv:cs[0]? =some v):W.cell? ⟨h,0,none⟩=some v:=by rw[Zh x.hh]; exact hv
theorem dir (x:RSt w wb h P gi N C cs IM hd W y) {rv sz:Nat→Int} (hv: ∀ i,i<16→cs[6+2 * i]? =some (.int .i64 (rv i))∧cs[6+2 * i+1]? =some (.int .i64 (sz i))) (i:Nat) (hi:i<16):W.rangeAt h (6+2 * i) [.int .i64 (rv i),.int .i64 (sz i)]:=fun j v hj=>by
 rw[Zh x.hh]
 rcases j with _|_|j
 ·simp at hj; subst hj; exact(hv i hi).1
 ·simp at hj; subst hj; exact(hv i hi).2
 ·simp at hj
theorem wrote (x:RSt w wb h P gi N C cs IM hd W y) {y':PeV} (hk:Xg (fun k=>k≠P) W W') (hp:YV W' P y') (h1:y'.hd=y.hd) (h2:y'.img=y.img):RSt w wb h P gi N C cs IM hd W' y' :=
 ⟨⟨hk.os.trans x.bel.os,hk.tape.trans x.bel.tape,hk.output.trans x.bel.output,Nat.le_trans x.bel.size hk.size,fun k h=>(hk.block k (by have:=x.h1; have:=x.h2; have:=x.h3; omega)).trans (x.bel.block k h)⟩,x.kept.trans (hk.mono (fun k hk=>by have:=x.h2; have:=x.h3; omega)),(hk.block h (by have:=x.h3; omega)).trans x.hh,hp,h1.trans x.hd,h2.trans x.img,x.ho.of_block hk.size (hk.block gi x.h4),x.h1,x.h2,x.h3,x.h4,x.h5⟩
end RSt
theorem Vp {P:Program} {ops:Array Oper} {rest:List Oper} {o:Oper} {a:Act} {w:World} {Q:Exit→Act→World→Prop} (hgd:o.guard=none) (ty:TypeId) (x y:Operand) (ho:o.op= .store ty x y)
 (b off:Nat) (cells:Array Value) (hx:a.eval x= .pointer (some ⟨b,off,none⟩)) (hy:a.eval y= .agg cells) (ht:w.there b off cells.size) (hi:(P.info? ty).map (·.size)=some cells.size) (h1:cells.all (·.oneCell')=true)
 (h:wpList P ops Q rest (a.put o.dst undef) (w.setCells b off cells.toList)):wpList P ops Q (o::rest) a w :=
 wpList_step fun K hK=>Wd hgd ty x y ho b off cells hx hy ht hi h1 (hK _ _ h)
theorem Xk {P:Program} {ops:Array Oper} {rest:List Oper} {o:Oper} {a:Act} {w:World} {Q:Exit→Act→World→Prop} (hgd:o.guard=none) (ty:TypeId) (x y:Operand) (ho:o.op= .store ty x y)
 (b off:Nat) (v:Value) (hx:a.eval x= .pointer (some ⟨b,off,none⟩)) (hy:a.eval y=v) (ht:w.there b off 1) (hi:(P.info? ty).map (·.size)=some 1) (h1:v.oneCell'=true)
 (h:wpList P ops Q rest (a.put o.dst undef) (w.setCell ⟨b,off,none⟩ v)):wpList P ops Q (o::rest) a w :=
 wpList_step fun K hK=>Xz hgd ty x y ho b off v hx hy ht hi h1 (hK _ _ h)
theorem Wq (w:World) (g:Nat) (x:PeV) (h: ∀ j,j<50→w.cell? ⟨g,j,none⟩=some (peF x j)):w.rangeAt g 0 ((List.range 50).map (peF x)):=fun j v hv=>by
 have hj:j<50:=by
  rcases Nat.lt_or_ge j 50 with hj|hj
  ·exact hj
  ·simp[hj] at hv
 simp[hj] at hv
 subst hv
 rw[Nat.zero_add,h j hj]
set_option maxHeartbeats 8000000 in
theorem Zib (S L:ByteArray) (N:Nat) (IM:Nat→Int) (HG:World→Array Value→Prop) (rv sz:Nat→Int) (base:Int) (w:World) (hLN:L.size=N) (hN:N≤1000000) (hIM:PlainAid.bt L=IM)
 (hH: ∀ W,Below w.heap.size w W→Calls Tryz.prog 26 #[.string S] W fun e u=>(∃ cs,e= .returned (.tuple #[.agg cs,.int .i64 0])∧HG u cs)∧Below W.heap.size W u)
 (hsz: ∀ W cs,HG W cs→cs.size=39∧cs.all (·.oneCell')=true∧(∀ i,i<16→cs[6+2 * i]? =some (.int .i64 (rv i))∧cs[6+2 * i+1]? =some (.int .i64 (sz i)))∧cs[0]? =some (.int .u64 base))
 (hst: ∀ W U cs,HG W cs→Below W.heap.size W U→HG U cs)
 (hLay: ∀ W cs,Below w.heap.size w W→HG W cs→Calls Tryz.prog 37 #[.agg cs,.string S] W fun e u=>e= .returned (.string L)∧Below W.heap.size W u)
 (eE eI eR eT eB eD:Int) (SE:Value→Value→Value→World→Prop) (SI SR:Value→World→Prop) (ST:Value→Value→Value→World→Prop) (SB SD:Value→World→Prop)
 (hE:RR3 w 38 #[.string L,.agg #[.int .i64 (rv 0),.int .i64 (sz 0)]] eE SE)
 (hI:RR1 w 39 #[.string L,.agg #[.int .i64 (rv 1),.int .i64 (sz 1)],.bool false] eI SI)
 (hR:RR1 w 40 #[.string L,.agg #[.int .i64 (rv 5),.int .i64 (sz 5)]] eR SR)
 (hT:RR3 w 41 #[.string L,.agg #[.int .i64 (rv 9),.int .i64 (sz 9)],.int .u64 base] eT ST)
 (hB:RR1 w 42 #[.string L,.agg #[.int .i64 (rv 11),.int .i64 (sz 11)]] eB SB)
 (hD:RR1 w 39 #[.string L,.agg #[.int .i64 (rv 13),.int .i64 (sz 13)],.bool true] eD SD)
 : Calls Tryz.prog 19 #[.string S] w fun x u=>Below w.heap.size w u∧Wx w N IM HG (ZK eE eI eR eT eB eD) SE SI SR ST SB SD x u:=by
 have HE:=Zg hE
 have HI:=Zg hI
 have HR:=Zg hR
 have HT:=Zg hT
 have HB:=Zg hB
 have HD:=Zg hD
 have HHD:=Zg hH
 have HSZ:=Zg hsz
 have HST:=Zg hst
 have HLY:=Zg hLay
 have HNN:=Zg (And.intro hLN (And.intro hN hIM))
 clear hE hI hR hT hB hD hH hsz hst hLay hLN hN hIM
 have hb0:Below w.heap.size w ((w.alloc (.cells (peC peZ) 50)).alloc (.cells (peC peZ) 50)):=((Below.refl w.heap.size w).alloc (Nat.le_refl _) _).alloc (by simp) _
 have hg0:=heap_alloc2_old w (.cells (peC peZ) 50) (.cells (peC peZ) 50)
 have hg1:=heap_alloc2_new w (.cells (peC peZ) 50) (.cells (peC peZ) 50)
 go_enter Tryz.func19,Tryz.ntmps19
 go_upto_region 2 with(first|(refine wpList_store_row rfl 50 (.tmp 4) (.tmp 9) rfl (w.heap.size+1) (peC peZ) rfl rfl 50 (peC peZ) hg1 (by kernel_rfl) (Zu _) Ww ?_)|fail)
 rw[Xt]
 have hb1:=below_setRow hb0 (show w.heap.size≤w.heap.size+1 by omega) (peC peZ)
 have hz1:=setRow_heap _ _ _ (peC peZ) _ _ hg1
 have hz0:=(setRow_other ((w.alloc (.cells (peC peZ) 50)).alloc (.cells (peC peZ) 50)) (w.heap.size+1) w.heap.size (peC peZ) (by omega)).trans hg0
 generalize ((w.alloc (.cells (peC peZ) 50)).alloc (.cells (peC peZ) 50)).setRow (w.heap.size+1) (peC peZ)=w1 at *
 have HB1:=Zg hb1
 have HZ0:=Zg hz0
 have HZ1:=Zg hz1
 clear hb0 hg0 hg1 hb1 hz0 hz1
 go_wp2_with fail
 refine(HHD.out w1 HB1.out).mono ?_
 rintro e w2 ⟨⟨cs,rfl,hg⟩,hb⟩
 have HB2:=Zg (HB1.out.trans (hb.mono HB1.out.size))
 have HZ2:=Zg ((hb.block _ (Zi HZ0.out)).trans HZ0.out)
 have HZ3:=Zg ((hb.block _ (Zi HZ1.out)).trans HZ1.out)
 obtain⟨hcz,hone,hdirs,hbase⟩:=HSZ.out _ _ hg
 obtain⟨hd,hhd⟩: ∃ hd:Nat→Value,((List.range 39).map hd).toArray=cs:=⟨_,Zar cs 39 hcz⟩
 subst hhd
 have HONE:=Zg (show ∀ j,j<39→(hd j).oneCell'=true from fun j hj=>by
  have h:=Array.all_eq_true_iff_forall_mem.1 hone (hd j) (by simp; exact⟨j,hj,rfl⟩)
  exact h)
 have hsz:(Tryz.prog.info? 41).map (·.size)=some ((List.range 39).map hd).toArray.size:=by rw[hcz]; kernel_rfl
 have hsz2:(Zl 0 0 0 0 0 0).size=((List.range 39).map hd).toArray.size:=by rw[hcz]; kernel_rfl
 have hb23:Below w2.heap.size w2 ((w2.alloc (.cells (Zl 0 0 0 0 0 0) 41)).setRow w2.heap.size ((List.range 39).map hd).toArray):=below_setRow ((Below.refl _ w2).alloc (Nat.le_refl _) _) (Nat.le_refl _) _
 have HG2:=Zg hg
 have HB23:=Zg hb23
 have HB3:=Zg (HB2.out.trans (hb23.mono HB2.out.size))
 have HG3:=Zg (HST.out _ _ _ hg hb23)
 have HH3:=Zg (setRow_heap (w2.alloc (.cells (Zl 0 0 0 0 0 0) 41)) w2.heap.size _ ((List.range 39).map hd).toArray _ _ (heap_alloc_new _ _))
 have HDI:=Zg hdirs
 have HBA:=Zg hbase
 have HLT:=Zg (show w.heap.size+1<w2.heap.size from Zi HZ3.out)
 clear hb hg hdirs hbase hb23 hcz
 go_upto_region 3 with(first|(refine wpList_store_row rfl 41 (.tmp 5) (.tmp 13) rfl w2.heap.size ((List.range 39).map hd).toArray rfl rfl 41 (Zl 0 0 0 0 0 0) (heap_alloc_new _ _) hsz hsz2 hone ?_; rw[Yp]; generalize hw3:(w2.alloc (.cells (Zl 0 0 0 0 0 0) 41)).setRow w2.heap.size ((List.range 39).map hd).toArray=w3 at *; generalize hgh:w2.heap.size=h at *)|fail)
 clear hsz hsz2 hone hw3
 have HGH:=Zg hgh
 clear hgh
 have hrg:w3.rangeAt h 0 ((List.range 39).map hd):=fun j v hv=>by
  rw[Nat.zero_add,Zh HH3.out]
  simpa using hv
 have HRG:=Zg hrg
 clear hrg
 go_wp2_with (first|(refine wpList_load_mid rfl 41 (.tmp 5) rfl h 0 rfl ((List.range 39).map hd) _ HRG.out Tryz.underlying41 rfl (by rw[List.length_map,List.length_range]; kernel_rfl) ?_)|fail)
 refine(HLY.out w3 _ HB3.out HG3.out).mono ?_
 rintro e w4 ⟨rfl,hb⟩
 have HB34:=Zg hb
 have HRG4:=Zg (show w4.rangeAt h 0 ((List.range 39).map hd) from fun j v hv=>by
  rw[Nat.zero_add,Zh ((hb.block _ (Zi HH3.out)).trans HH3.out)]
  simpa using hv)
 have HH4:=Zg ((hb.block _ (Zi HH3.out)).trans HH3.out)
 clear hb
 obtain⟨C,w5,hcv,ho5,hb45⟩:=UG w4 L (by rw[HNN.out.1]; exact HNN.out.2.1)
 rw[HNN.out.1,HNN.out.2.2] at ho5
 rw[HNN.out.1] at hcv
 have HO5:=Zg ho5
 have HB45:=Zg hb45
 clear ho5 hb45
 have hbp:=Qv hd (some ⟨w4.heap.size,0,none⟩) N C
 have honep:(peC (pe0 hd (.slice (some ⟨w4.heap.size,0,none⟩) N C))).all (·.oneCell')=true:=Zbu HONE.out rfl
 go_upto_region 7 with(first
  | (refine wpList_load_mid rfl 41 (.tmp 5) rfl h 0 rfl ((List.range 39).map hd) _ HRG4.out Tryz.underlying41 rfl (by rw[List.length_map,List.length_range]; kernel_rfl) ?_)
  | (refine wpList_store_row rfl 50 (.tmp 8) (.tmp 25) rfl w5.heap.size (peC (pe0 hd (.slice (some ⟨w4.heap.size,0,none⟩) N C))) rfl rfl 50 (peC peZ) (heap_alloc_new _ _) (by kernel_rfl) rfl honep ?_; rw[Xt])
  | fail)
 clear hbp honep
 have HX0:=Zg (show RSt w w2 h w5.heap.size w4.heap.size N C ((List.range 39).map hd).toArray IM hd ((w5.alloc (.cells (peC peZ) 50)).setRow w5.heap.size (peC (pe0 hd (.slice (some ⟨w4.heap.size,0,none⟩) N C)))) (pe0 hd (.slice (some ⟨w4.heap.size,0,none⟩) N C)) from by
  have s34:=HB34.out.size
  have s45:=HB45.out.size
  have hh:=Zi HH3.out
  have hgh:=HGH.out
  have hlt:=HLT.out
  have s2:=HB23.out.size
  have o5:=HO5.out.lt
  have hb6:Below w5.heap.size w5 ((w5.alloc (.cells (peC peZ) 50)).setRow w5.heap.size (peC (pe0 hd (.slice (some ⟨w4.heap.size,0,none⟩) N C)))):=below_setRow ((Below.refl _ w5).alloc (Nat.le_refl _) _) (Nat.le_refl _) _
  have hb26:Below w2.heap.size w2 ((w5.alloc (.cells (peC peZ) 50)).setRow w5.heap.size (peC (pe0 hd (.slice (some ⟨w4.heap.size,0,none⟩) N C)))):=(show Below w2.heap.size w2 w3 from by have q:=HB23.out; rw[←HGH.out] at q; exact q).trans (((HB34.out.trans ((HB45.out.trans (hb6.mono s45)).mono s34))).mono (by omega))
  refine⟨HB2.out.trans (hb26.mono (by omega)),Xg.of_below hb26 (fun k hk=>hk),?_,?_,rfl,rfl,?_,by omega,by omega,by omega,by omega,by omega⟩
  ·exact((HB45.out.trans (hb6.mono s45)).block _ (Zi HH4.out)).trans HH4.out
  ·exact Vd (setRow_heap _ _ _ _ _ _ (heap_alloc_new _ _))
  ·exact(HO5.out.below hb6).weaken (by omega))
 generalize hP:w5.heap.size=P at *
 generalize hgi:w4.heap.size=gi at *
 generalize (w5.alloc (.cells (peC peZ) 50)).setRow P (peC (pe0 hd (.slice (some ⟨gi,0,none⟩) N C)))=v0 at *
 clear hP hgi hcv
 obtain⟨y0,hy0⟩: ∃ y,pe0 hd (.slice (some ⟨gi,0,none⟩) N C)=y:=⟨_,rfl⟩
 rw[hy0] at HX0
 have HY0:=Zg hy0
 clear hy0
 have HQ:=Zg (show ∀ W y,RSt w w2 h P gi N C ((List.range 39).map hd).toArray IM hd W y→W.heap[w.heap.size]? =some (.cells (peC peZ) 50 (0,0))∧W.rangeAt (w.heap.size+1) 0 ((List.range 50).map (peF peZ)) from fun W y x=>by
  have hlt:=x.h1
  refine⟨(x.kept.block w.heap.size (by omega)).trans HZ2.out,Wq W _ peZ fun j hj=> ?_⟩
  rw[Zh ((x.kept.block (w.heap.size+1) (by omega)).trans HZ3.out)]
  exact ZJ peZ hj)
 clear HB1 HZ0 HZ1 HB3 HG3 HH3 HRG HB34 HRG4 HH4 HO5 HB45 HB23
 have hR:=HX0.out.dir HDI.out 0 (by omega)
 have HRD:=Zg hR
 clear hR
 go_wp2_with (first|(refine wpList_load_mid rfl 37 (.tmp 29) rfl h 6 rfl [.int .i64 (rv 0),.int .i64 (sz 0)] _ HRD.out Tryz.underlying37 rfl (by kernel_rfl) ?_)|fail)
 refine(HE.out v0 HX0.out.bel).mono ?_
 rintro e u0 ⟨a0,b0,c0,rfl,ho0,hb0,hl0⟩
 have hxx:=HX0.out.below hb0
 have HU0:=Zg hxx
 have HL0:=Zg (show ZM (P+1) (SE a0 b0 c0) u0 from hl0.less HX0.out.lt)
 have HO0:=Zg ho0
 clear hxx hl0 ho0 hb0 HRD
 go_upto_region 8 with(first|(refine Vp rfl 45 (.tmp 34) (.tmp 32) rfl P 40 #[a0,b0,c0] (by first|rfl|simp[Act.eval]) (by first|rfl|simp[Act.eval]) (HU0.out.pe.there 40 3 (by omega)) (by kernel_rfl) (by simp[HO0.out.1,HO0.out.2.1,HO0.out.2.2]) ?_)|fail)
 have hk0:Xg (fun k=>k≠P) u0 (u0.setCells P 40 [a0,b0,c0]):=WU _ P 40 _ _ _
 obtain⟨y1,hy1⟩: ∃ y:PeV,{ y0 with e0:=a0,e1:=b0,e2:=c0 }=y:=⟨_,rfl⟩
 have hxx:=HU0.out.wrote (y':=y1) hk0 (by rw[←hy1]; exact HU0.out.pe.ex a0 b0 c0) (by rw[←hy1]) (by rw[←hy1])
 have HL0:=Zg (HL0.out.wrote (Nat.lt_succ_self P) hk0)
 generalize u0.setCells P 40 [a0,b0,c0]=v1 at *
 have HX1:=Zg hxx
 have HY1:=Zg hy1
 clear hxx hk0 hy1 HU0 HX0
 by_cases he0: ¬ eE=0
 ·have hfe:=Zcn eE eI eR eT eB eD he0
  have HFE:=Zg (And.intro hfe (show ¬ ZK eE eI eR eT eB eD=0 from by rw[hfe]; exact he0))
  have hbe:(eE != 0)=true:=bne_iff_ne.2 he0
  clear hfe he0
  have hq:=HQ.out _ _ HX1.out
  have HZR:=Zg hq.1
  have HNR:=Zg hq.2
  have HBE:=Zg HX1.out.bel
  clear hq
  go_wp2_with (first
   | (refine wpList_load_mid rfl 50 (.tmp 4) rfl (w.heap.size+1) 0 rfl ((List.range 50).map (peF peZ)) _ HNR.out Tryz.underlying50 rfl (by rw[List.length_map,List.length_range]; kernel_rfl) ?_)
   | (refine wpList_store_row rfl 50 (.tmp 2) (.tmp 37) rfl w.heap.size (peC peZ) rfl rfl 50 (peC peZ) HZR.out (by kernel_rfl) (Zu _) Ww ?_)
   | fail)
  refine bodyPost_ret (v:= .tuple #[.agg (peC peZ),.int .i64 eE]) (Zj rfl _ _ w.heap.size 50 _ (0,0) _ _ rfl rfl (setRow_heap _ _ _ _ _ _ HZR.out) Tryz.underlying50 rfl (by rw[Zu]; kernel_rfl)) rfl ⟨below_setRow HBE.out (Nat.le_refl _) _,?_⟩
  have key: ∀ z U,ZK eE eI eR eT eB eD=z→Wx w N IM HG (ZK eE eI eR eT eB eD) SE SI SR ST SB SD (.returned (.tuple #[.agg (peC peZ),.int .i64 z])) U:=fun z U hz=>by subst hz; exact .bad HFE.out.2
  exact key _ _ HFE.out.1
 replace he0:eE=0:=Decidable.not_not.1 he0
 have hbe:(eE != 0)=false:=bne_eq_false_iff_eq.2 he0
 go_upto_region 10 with(fail)
 clear hbe
 have hR:=HX1.out.dir HDI.out 1 (by omega)
 have HRD:=Zg hR
 clear hR
 go_wp2_with (first|(refine wpList_load_mid rfl 37 (.tmp 42) rfl h 8 rfl [.int .i64 (rv 1),.int .i64 (sz 1)] _ HRD.out Tryz.underlying37 rfl (by kernel_rfl) ?_)|fail)
 refine(HI.out v1 HX1.out.bel).mono ?_
 rintro e u1 ⟨v1v,rfl,ho1,hb1,hl1⟩
 have hxx:=HX1.out.below hb1
 have HU1:=Zg hxx
 have HL1:=Zg (show ZM (P+1) (SI v1v) u1 from hl1.less HX1.out.lt)
 have HO1:=Zg ho1
 have HL0:=Zg (HL0.out.below hb1)
 clear hxx hl1 ho1 hb1 HRD
 go_upto_region 11 with(first|(refine Xk rfl 46 (.tmp 47) (.tmp 45) rfl P 43 v1v (by first|rfl|simp[Act.eval]) (by first|rfl|simp[Act.eval]) (HU1.out.pe.there 43 1 (by omega)) (by kernel_rfl) HO1.out ?_)|fail)
 have hk1:Xg (fun k=>k≠P) u1 (u1.setCell ⟨P,43,none⟩ v1v):=YQ _ P 43 _
 obtain⟨y2,hy2⟩: ∃ y:PeV,{ y1 with im:=v1v }=y:=⟨_,rfl⟩
 have hxx:=HU1.out.wrote (y':=y2) hk1 (by rw[←hy2]; exact HU1.out.pe.im v1v) (by rw[←hy2]) (by rw[←hy2])
 have HL0:=Zg (HL0.out.wrote (Nat.lt_succ_self P) hk1)
 have HL1:=Zg (HL1.out.wrote (Nat.lt_succ_self P) hk1)
 generalize u1.setCell ⟨P,43,none⟩ v1v=v2 at *
 have HX2:=Zg hxx
 have HY2:=Zg hy2
 clear hxx hk1 hy2 HU1 HX1
 by_cases he1: ¬ eI=0
 ·have hfe:=Zco eE eI eR eT eB eD he0 he1
  have HFE:=Zg (And.intro hfe (show ¬ ZK eE eI eR eT eB eD=0 from by rw[hfe]; exact he1))
  have hbe:(eI != 0)=true:=bne_iff_ne.2 he1
  clear hfe he0 he1
  have hq:=HQ.out _ _ HX2.out
  have HZR:=Zg hq.1
  have HNR:=Zg hq.2
  have HBE:=Zg HX2.out.bel
  clear hq
  go_wp2_with (first
   | (refine wpList_load_mid rfl 50 (.tmp 4) rfl (w.heap.size+1) 0 rfl ((List.range 50).map (peF peZ)) _ HNR.out Tryz.underlying50 rfl (by rw[List.length_map,List.length_range]; kernel_rfl) ?_)
   | (refine wpList_store_row rfl 50 (.tmp 2) (.tmp 50) rfl w.heap.size (peC peZ) rfl rfl 50 (peC peZ) HZR.out (by kernel_rfl) (Zu _) Ww ?_)
   | fail)
  refine bodyPost_ret (v:= .tuple #[.agg (peC peZ),.int .i64 eI]) (Zj rfl _ _ w.heap.size 50 _ (0,0) _ _ rfl rfl (setRow_heap _ _ _ _ _ _ HZR.out) Tryz.underlying50 rfl (by rw[Zu]; kernel_rfl)) rfl ⟨below_setRow HBE.out (Nat.le_refl _) _,?_⟩
  have key: ∀ z U,ZK eE eI eR eT eB eD=z→Wx w N IM HG (ZK eE eI eR eT eB eD) SE SI SR ST SB SD (.returned (.tuple #[.agg (peC peZ),.int .i64 z])) U:=fun z U hz=>by subst hz; exact .bad HFE.out.2
  exact key _ _ HFE.out.1
 replace he1:eI=0:=Decidable.not_not.1 he1
 have hbe:(eI != 0)=false:=bne_eq_false_iff_eq.2 he1
 go_upto_region 13 with(fail)
 clear hbe
 have hR:=HX2.out.dir HDI.out 5 (by omega)
 have HRD:=Zg hR
 clear hR
 go_wp2_with (first|(refine wpList_load_mid rfl 37 (.tmp 55) rfl h 16 rfl [.int .i64 (rv 5),.int .i64 (sz 5)] _ HRD.out Tryz.underlying37 rfl (by kernel_rfl) ?_)|fail)
 refine(HR.out v2 HX2.out.bel).mono ?_
 rintro e u2 ⟨v2v,rfl,ho2,hb2,hl2⟩
 have hxx:=HX2.out.below hb2
 have HU2:=Zg hxx
 have HL2:=Zg (show ZM (P+1) (SR v2v) u2 from hl2.less HX2.out.lt)
 have HO2:=Zg ho2
 have HL0:=Zg (HL0.out.below hb2)
 have HL1:=Zg (HL1.out.below hb2)
 clear hxx hl2 ho2 hb2 HRD
 go_upto_region 14 with(first|(refine Xk rfl 29 (.tmp 60) (.tmp 58) rfl P 46 v2v (by first|rfl|simp[Act.eval]) (by first|rfl|simp[Act.eval]) (HU2.out.pe.there 46 1 (by omega)) (by kernel_rfl) HO2.out ?_)|fail)
 have hk2:Xg (fun k=>k≠P) u2 (u2.setCell ⟨P,46,none⟩ v2v):=YQ _ P 46 _
 obtain⟨y3,hy3⟩: ∃ y:PeV,{ y2 with re:=v2v }=y:=⟨_,rfl⟩
 have hxx:=HU2.out.wrote (y':=y3) hk2 (by rw[←hy3]; exact HU2.out.pe.re v2v) (by rw[←hy3]) (by rw[←hy3])
 have HL0:=Zg (HL0.out.wrote (Nat.lt_succ_self P) hk2)
 have HL1:=Zg (HL1.out.wrote (Nat.lt_succ_self P) hk2)
 have HL2:=Zg (HL2.out.wrote (Nat.lt_succ_self P) hk2)
 generalize u2.setCell ⟨P,46,none⟩ v2v=v3 at *
 have HX3:=Zg hxx
 have HY3:=Zg hy3
 clear hxx hk2 hy3 HU2 HX2
 by_cases he2: ¬ eR=0
 ·have hfe:=Zcp eE eI eR eT eB eD he0 he1 he2
  have HFE:=Zg (And.intro hfe (show ¬ ZK eE eI eR eT eB eD=0 from by rw[hfe]; exact he2))
  have hbe:(eR != 0)=true:=bne_iff_ne.2 he2
  clear hfe he0 he1 he2
  have hq:=HQ.out _ _ HX3.out
  have HZR:=Zg hq.1
  have HNR:=Zg hq.2
  have HBE:=Zg HX3.out.bel
  clear hq
  go_wp2_with (first
   | (refine wpList_load_mid rfl 50 (.tmp 4) rfl (w.heap.size+1) 0 rfl ((List.range 50).map (peF peZ)) _ HNR.out Tryz.underlying50 rfl (by rw[List.length_map,List.length_range]; kernel_rfl) ?_)
   | (refine wpList_store_row rfl 50 (.tmp 2) (.tmp 63) rfl w.heap.size (peC peZ) rfl rfl 50 (peC peZ) HZR.out (by kernel_rfl) (Zu _) Ww ?_)
   | fail)
  refine bodyPost_ret (v:= .tuple #[.agg (peC peZ),.int .i64 eR]) (Zj rfl _ _ w.heap.size 50 _ (0,0) _ _ rfl rfl (setRow_heap _ _ _ _ _ _ HZR.out) Tryz.underlying50 rfl (by rw[Zu]; kernel_rfl)) rfl ⟨below_setRow HBE.out (Nat.le_refl _) _,?_⟩
  have key: ∀ z U,ZK eE eI eR eT eB eD=z→Wx w N IM HG (ZK eE eI eR eT eB eD) SE SI SR ST SB SD (.returned (.tuple #[.agg (peC peZ),.int .i64 z])) U:=fun z U hz=>by subst hz; exact .bad HFE.out.2
  exact key _ _ HFE.out.1
 replace he2:eR=0:=Decidable.not_not.1 he2
 have hbe:(eR != 0)=false:=bne_eq_false_iff_eq.2 he2
 go_upto_region 16 with(fail)
 clear hbe
 have hR:=HX3.out.dir HDI.out 9 (by omega)
 have HRD:=Zg hR
 clear hR
 have hbs:=HX3.out.base HBA.out
 go_wp2_with (first|(refine wpList_load_mid rfl 37 (.tmp 68) rfl h 24 rfl [.int .i64 (rv 9),.int .i64 (sz 9)] _ HRD.out Tryz.underlying37 rfl (by kernel_rfl) ?_)|fail)
 refine(HT.out v3 HX3.out.bel).mono ?_
 rintro e u3 ⟨a3,b3,c3,rfl,ho3,hb3,hl3⟩
 have hxx:=HX3.out.below hb3
 have HU3:=Zg hxx
 have HL3:=Zg (show ZM (P+1) (ST a3 b3 c3) u3 from hl3.less HX3.out.lt)
 have HO3:=Zg ho3
 have HL0:=Zg (HL0.out.below hb3)
 have HL1:=Zg (HL1.out.below hb3)
 have HL2:=Zg (HL2.out.below hb3)
 clear hbs
 clear hxx hl3 ho3 hb3 HRD
 go_upto_region 17 with(first|(refine Vp rfl 48 (.tmp 75) (.tmp 73) rfl P 47 #[a3,b3,c3] (by first|rfl|simp[Act.eval]) (by first|rfl|simp[Act.eval]) (HU3.out.pe.there 47 3 (by omega)) (by kernel_rfl) (by simp[HO3.out.1,HO3.out.2.1,HO3.out.2.2]) ?_)|fail)
 have hk3:Xg (fun k=>k≠P) u3 (u3.setCells P 47 [a3,b3,c3]):=WU _ P 47 _ _ _
 obtain⟨y4,hy4⟩: ∃ y:PeV,{ y3 with t0:=a3,t1:=b3,t2:=c3 }=y:=⟨_,rfl⟩
 have hxx:=HU3.out.wrote (y':=y4) hk3 (by rw[←hy4]; exact HU3.out.pe.tl a3 b3 c3) (by rw[←hy4]) (by rw[←hy4])
 have HL0:=Zg (HL0.out.wrote (Nat.lt_succ_self P) hk3)
 have HL1:=Zg (HL1.out.wrote (Nat.lt_succ_self P) hk3)
 have HL2:=Zg (HL2.out.wrote (Nat.lt_succ_self P) hk3)
 have HL3:=Zg (HL3.out.wrote (Nat.lt_succ_self P) hk3)
 generalize u3.setCells P 47 [a3,b3,c3]=v4 at *
 have HX4:=Zg hxx
 have HY4:=Zg hy4
 clear hxx hk3 hy4 HU3 HX3
 by_cases he3: ¬ eT=0
 ·have hfe:=Zcq eE eI eR eT eB eD he0 he1 he2 he3
  have HFE:=Zg (And.intro hfe (show ¬ ZK eE eI eR eT eB eD=0 from by rw[hfe]; exact he3))
  have hbe:(eT != 0)=true:=bne_iff_ne.2 he3
  clear hfe he0 he1 he2 he3
  have hq:=HQ.out _ _ HX4.out
  have HZR:=Zg hq.1
  have HNR:=Zg hq.2
  have HBE:=Zg HX4.out.bel
  clear hq
  go_wp2_with (first
   | (refine wpList_load_mid rfl 50 (.tmp 4) rfl (w.heap.size+1) 0 rfl ((List.range 50).map (peF peZ)) _ HNR.out Tryz.underlying50 rfl (by rw[List.length_map,List.length_range]; kernel_rfl) ?_)
   | (refine wpList_store_row rfl 50 (.tmp 2) (.tmp 78) rfl w.heap.size (peC peZ) rfl rfl 50 (peC peZ) HZR.out (by kernel_rfl) (Zu _) Ww ?_)
   | fail)
  refine bodyPost_ret (v:= .tuple #[.agg (peC peZ),.int .i64 eT]) (Zj rfl _ _ w.heap.size 50 _ (0,0) _ _ rfl rfl (setRow_heap _ _ _ _ _ _ HZR.out) Tryz.underlying50 rfl (by rw[Zu]; kernel_rfl)) rfl ⟨below_setRow HBE.out (Nat.le_refl _) _,?_⟩
  have key: ∀ z U,ZK eE eI eR eT eB eD=z→Wx w N IM HG (ZK eE eI eR eT eB eD) SE SI SR ST SB SD (.returned (.tuple #[.agg (peC peZ),.int .i64 z])) U:=fun z U hz=>by subst hz; exact .bad HFE.out.2
  exact key _ _ HFE.out.1
 replace he3:eT=0:=Decidable.not_not.1 he3
 have hbe:(eT != 0)=false:=bne_eq_false_iff_eq.2 he3
 go_upto_region 19 with(fail)
 clear hbe
 have hR:=HX4.out.dir HDI.out 11 (by omega)
 have HRD:=Zg hR
 clear hR
 go_wp2_with (first|(refine wpList_load_mid rfl 37 (.tmp 83) rfl h 28 rfl [.int .i64 (rv 11),.int .i64 (sz 11)] _ HRD.out Tryz.underlying37 rfl (by kernel_rfl) ?_)|fail)
 refine(HB.out v4 HX4.out.bel).mono ?_
 rintro e u4 ⟨v4v,rfl,ho4,hb4,hl4⟩
 have hxx:=HX4.out.below hb4
 have HU4:=Zg hxx
 have HL4:=Zg (show ZM (P+1) (SB v4v) u4 from hl4.less HX4.out.lt)
 have HO4:=Zg ho4
 have HL0:=Zg (HL0.out.below hb4)
 have HL1:=Zg (HL1.out.below hb4)
 have HL2:=Zg (HL2.out.below hb4)
 have HL3:=Zg (HL3.out.below hb4)
 clear hxx hl4 ho4 hb4 HRD
 go_upto_region 20 with(first|(refine Xk rfl 30 (.tmp 88) (.tmp 86) rfl P 45 v4v (by first|rfl|simp[Act.eval]) (by first|rfl|simp[Act.eval]) (HU4.out.pe.there 45 1 (by omega)) (by kernel_rfl) HO4.out ?_)|fail)
 have hk4:Xg (fun k=>k≠P) u4 (u4.setCell ⟨P,45,none⟩ v4v):=YQ _ P 45 _
 obtain⟨y5,hy5⟩: ∃ y:PeV,{ y4 with bo:=v4v }=y:=⟨_,rfl⟩
 have hxx:=HU4.out.wrote (y':=y5) hk4 (by rw[←hy5]; exact HU4.out.pe.bo v4v) (by rw[←hy5]) (by rw[←hy5])
 have HL0:=Zg (HL0.out.wrote (Nat.lt_succ_self P) hk4)
 have HL1:=Zg (HL1.out.wrote (Nat.lt_succ_self P) hk4)
 have HL2:=Zg (HL2.out.wrote (Nat.lt_succ_self P) hk4)
 have HL3:=Zg (HL3.out.wrote (Nat.lt_succ_self P) hk4)
 have HL4:=Zg (HL4.out.wrote (Nat.lt_succ_self P) hk4)
 generalize u4.setCell ⟨P,45,none⟩ v4v=v5 at *
 have HX5:=Zg hxx
 have HY5:=Zg hy5
 clear hxx hk4 hy5 HU4 HX4
 by_cases he4: ¬ eB=0
 ·have hfe:=Zcr eE eI eR eT eB eD he0 he1 he2 he3 he4
  have HFE:=Zg (And.intro hfe (show ¬ ZK eE eI eR eT eB eD=0 from by rw[hfe]; exact he4))
  have hbe:(eB != 0)=true:=bne_iff_ne.2 he4
  clear hfe he0 he1 he2 he3 he4
  have hq:=HQ.out _ _ HX5.out
  have HZR:=Zg hq.1
  have HNR:=Zg hq.2
  have HBE:=Zg HX5.out.bel
  clear hq
  go_wp2_with (first
   | (refine wpList_load_mid rfl 50 (.tmp 4) rfl (w.heap.size+1) 0 rfl ((List.range 50).map (peF peZ)) _ HNR.out Tryz.underlying50 rfl (by rw[List.length_map,List.length_range]; kernel_rfl) ?_)
   | (refine wpList_store_row rfl 50 (.tmp 2) (.tmp 91) rfl w.heap.size (peC peZ) rfl rfl 50 (peC peZ) HZR.out (by kernel_rfl) (Zu _) Ww ?_)
   | fail)
  refine bodyPost_ret (v:= .tuple #[.agg (peC peZ),.int .i64 eB]) (Zj rfl _ _ w.heap.size 50 _ (0,0) _ _ rfl rfl (setRow_heap _ _ _ _ _ _ HZR.out) Tryz.underlying50 rfl (by rw[Zu]; kernel_rfl)) rfl ⟨below_setRow HBE.out (Nat.le_refl _) _,?_⟩
  have key: ∀ z U,ZK eE eI eR eT eB eD=z→Wx w N IM HG (ZK eE eI eR eT eB eD) SE SI SR ST SB SD (.returned (.tuple #[.agg (peC peZ),.int .i64 z])) U:=fun z U hz=>by subst hz; exact .bad HFE.out.2
  exact key _ _ HFE.out.1
 replace he4:eB=0:=Decidable.not_not.1 he4
 have hbe:(eB != 0)=false:=bne_eq_false_iff_eq.2 he4
 go_upto_region 22 with(fail)
 clear hbe
 have hR:=HX5.out.dir HDI.out 13 (by omega)
 have HRD:=Zg hR
 clear hR
 go_wp2_with (first|(refine wpList_load_mid rfl 37 (.tmp 96) rfl h 32 rfl [.int .i64 (rv 13),.int .i64 (sz 13)] _ HRD.out Tryz.underlying37 rfl (by kernel_rfl) ?_)|fail)
 refine(HD.out v5 HX5.out.bel).mono ?_
 rintro e u5 ⟨v5v,rfl,ho5,hb5,hl5⟩
 have hxx:=HX5.out.below hb5
 have HU5:=Zg hxx
 have HL5:=Zg (show ZM (P+1) (SD v5v) u5 from hl5.less HX5.out.lt)
 have HO5:=Zg ho5
 have HL0:=Zg (HL0.out.below hb5)
 have HL1:=Zg (HL1.out.below hb5)
 have HL2:=Zg (HL2.out.below hb5)
 have HL3:=Zg (HL3.out.below hb5)
 have HL4:=Zg (HL4.out.below hb5)
 clear hxx hl5 ho5 hb5 HRD
 go_upto_region 23 with(first|(refine Xk rfl 46 (.tmp 101) (.tmp 99) rfl P 44 v5v (by first|rfl|simp[Act.eval]) (by first|rfl|simp[Act.eval]) (HU5.out.pe.there 44 1 (by omega)) (by kernel_rfl) HO5.out ?_)|fail)
 have hk5:Xg (fun k=>k≠P) u5 (u5.setCell ⟨P,44,none⟩ v5v):=YQ _ P 44 _
 obtain⟨y6,hy6⟩: ∃ y:PeV,{ y5 with de:=v5v }=y:=⟨_,rfl⟩
 have hxx:=HU5.out.wrote (y':=y6) hk5 (by rw[←hy6]; exact HU5.out.pe.de v5v) (by rw[←hy6]) (by rw[←hy6])
 have HL0:=Zg (HL0.out.wrote (Nat.lt_succ_self P) hk5)
 have HL1:=Zg (HL1.out.wrote (Nat.lt_succ_self P) hk5)
 have HL2:=Zg (HL2.out.wrote (Nat.lt_succ_self P) hk5)
 have HL3:=Zg (HL3.out.wrote (Nat.lt_succ_self P) hk5)
 have HL4:=Zg (HL4.out.wrote (Nat.lt_succ_self P) hk5)
 have HL5:=Zg (HL5.out.wrote (Nat.lt_succ_self P) hk5)
 generalize u5.setCell ⟨P,44,none⟩ v5v=v6 at *
 have HX6:=Zg hxx
 have HY6:=Zg hy6
 clear hxx hk5 hy6 HU5 HX5
 by_cases he5: ¬ eD=0
 ·have hfe:=Qc eE eI eR eT eB eD he0 he1 he2 he3 he4
  have HFE:=Zg (And.intro hfe (show ¬ ZK eE eI eR eT eB eD=0 from by rw[hfe]; exact he5))
  have hbe:(eD != 0)=true:=bne_iff_ne.2 he5
  clear hfe he0 he1 he2 he3 he4 he5
  have hq:=HQ.out _ _ HX6.out
  have HZR:=Zg hq.1
  have HNR:=Zg hq.2
  have HBE:=Zg HX6.out.bel
  clear hq
  go_wp2_with (first
   | (refine wpList_load_mid rfl 50 (.tmp 4) rfl (w.heap.size+1) 0 rfl ((List.range 50).map (peF peZ)) _ HNR.out Tryz.underlying50 rfl (by rw[List.length_map,List.length_range]; kernel_rfl) ?_)
   | (refine wpList_store_row rfl 50 (.tmp 2) (.tmp 104) rfl w.heap.size (peC peZ) rfl rfl 50 (peC peZ) HZR.out (by kernel_rfl) (Zu _) Ww ?_)
   | fail)
  refine bodyPost_ret (v:= .tuple #[.agg (peC peZ),.int .i64 eD]) (Zj rfl _ _ w.heap.size 50 _ (0,0) _ _ rfl rfl (setRow_heap _ _ _ _ _ _ HZR.out) Tryz.underlying50 rfl (by rw[Zu]; kernel_rfl)) rfl ⟨below_setRow HBE.out (Nat.le_refl _) _,?_⟩
  have key: ∀ z U,ZK eE eI eR eT eB eD=z→Wx w N IM HG (ZK eE eI eR eT eB eD) SE SI SR ST SB SD (.returned (.tuple #[.agg (peC peZ),.int .i64 z])) U:=fun z U hz=>by subst hz; exact .bad HFE.out.2
  exact key _ _ HFE.out.1
 replace he5:eD=0:=Decidable.not_not.1 he5
 have hbe:(eD != 0)=false:=bne_eq_false_iff_eq.2 he5
 have HFE:=Zg (show ZK eE eI eR eT eB eD=0 from by exact(Qc eE eI eR eT eB eD he0 he1 he2 he3 he4).trans he5)
 clear he0 he1 he2 he3 he4 he5
 have hq:=HQ.out _ _ HX6.out
 have HZR:=Zg hq.1
 clear hq
 have HNR:=Zg (Wq v6 P y6 fun j hj=>Own.cell HX6.out.pe hj)
 have hone6:(peC y6).all (·.oneCell')=true:=Qw y6 (fun j hj=>by rw[HX6.out.hd]; exact HONE.out j hj) (by rw[HX6.out.img]; rfl) (by
  rw[←HY6.out,←HY5.out,←HY4.out,←HY3.out,←HY2.out,←HY1.out]; exact⟨HO0.out,HO1.out,HO2.out,HO3.out,HO4.out,HO5.out⟩)
 go_wp2_with (first
  | (refine wpList_load_mid rfl 50 (.tmp 8) rfl P 0 rfl ((List.range 50).map (peF y6)) _ HNR.out Tryz.underlying50 rfl (by rw[List.length_map,List.length_range]; kernel_rfl) ?_)
  | (refine wpList_store_row rfl 50 (.tmp 2) (.tmp 106) rfl w.heap.size (peC y6) rfl rfl 50 (peC peZ) HZR.out (by kernel_rfl) (by rw[Zu,Zu]) hone6 ?_)
  | fail)
 refine bodyPost_ret (v:= .tuple #[.agg (peC y6),.int .i64 0]) (Zj rfl _ _ w.heap.size 50 _ (0,0) _ _ rfl rfl (setRow_heap _ _ _ _ _ _ HZR.out) Tryz.underlying50 rfl (by rw[Zu]; kernel_rfl)) rfl ⟨below_setRow HX6.out.bel (Nat.le_refl _) _,?_⟩
 have hk:=Xg.setRow_ne v6 w.heap.size (peC y6)
 have hlt:=HX6.out.h1
 have hlp:w.heap.size<P+1:=by have:=HX6.out.h2; have:=HX6.out.h3; omega
 refine .good HFE.out y6 ((List.range 39).map hd).toArray gi C (P+1) ⟨w2,HG2.out,HZ2.out,(HX6.out.kept.mono (fun k hk=>hk.1)).trans (hk.mono (fun k hk=>hk.2))⟩ (fun j hj=>by simp[hj,HX6.out.hd]) HX6.out.img (HX6.out.ho.of_block hk.size (hk.block gi (by have:=HX6.out.h5; omega))) (by omega) ?_ ?_ ?_ ?_ ?_ ?_
 ·have hq:SE y6.e0 y6.e1 y6.e2=SE a0 b0 c0:=by first|(rw[←HY6.out,←HY5.out,←HY4.out,←HY3.out,←HY2.out,←HY1.out]; done)|(rw[←HY6.out,←HY5.out,←HY4.out,←HY3.out,←HY2.out,←HY1.out]; rfl)
  rw[hq]; exact HL0.out.wrote hlp hk
 ·have hq:SI y6.im=SI v1v:=by first|(rw[←HY6.out,←HY5.out,←HY4.out,←HY3.out,←HY2.out]; done)|(rw[←HY6.out,←HY5.out,←HY4.out,←HY3.out,←HY2.out]; rfl)
  rw[hq]; exact HL1.out.wrote hlp hk
 ·have hq:SR y6.re=SR v2v:=by first|(rw[←HY6.out,←HY5.out,←HY4.out,←HY3.out]; done)|(rw[←HY6.out,←HY5.out,←HY4.out,←HY3.out]; rfl)
  rw[hq]; exact HL2.out.wrote hlp hk
 ·have hq:ST y6.t0 y6.t1 y6.t2=ST a3 b3 c3:=by first|(rw[←HY6.out,←HY5.out,←HY4.out]; done)|(rw[←HY6.out,←HY5.out,←HY4.out]; rfl)
  rw[hq]; exact HL3.out.wrote hlp hk
 ·have hq:SB y6.bo=SB v4v:=by first|(rw[←HY6.out,←HY5.out]; done)|(rw[←HY6.out,←HY5.out]; rfl)
  rw[hq]; exact HL4.out.wrote hlp hk
 ·have hq:SD y6.de=SD v5v:=by first|(rw[←HY6.out]; done)|(rw[←HY6.out]; rfl)
  rw[hq]; exact HL5.out.wrote hlp hk
theorem JM {b:List Nat} {rva size at':Nat}: ∀(k i:Nat) (acc l:List FnV),Wz b rva size at' k i acc=some l→l.length=acc.length+k
 | 0,_,acc,l,h=>by simp only[Wz,Option.some.injEq] at h; subst h; rfl
 | k+1,i,acc,l,h=>by
   simp only[Wz] at h
   split at h
   ·exact absurd h (by simp)
   ·have:=JM k (i+1) _ l h
    simp at this
    omega
theorem JN {b:List Nat} {atN atI funcs:Nat}: ∀(k i:Nat) (last:List Nat) (acc l:List NmV),WC b atN atI funcs k i last acc=some l→l.length=acc.length+k
 | 0,_,_,acc,l,h=>by simp only[WC,Option.some.injEq] at h; subst h; rfl
 | k+1,i,last,acc,l,h=>by
   simp only[WC] at h
   split at h
   ·exact absurd h (by simp)
   ·split at h
    ·split at h
     ·exact absurd h (by simp)
     ·split at h
      ·have:=JN k (i+1) _ _ l h
       simp at this
       omega
      ·exact absurd h (by simp)
    ·exact absurd h (by simp)
theorem Zea {b:List Nat} {rva size:Int} {x:Zg6} (h:Uh b rva size=some x):x.2.1.length≤256∧x.2.2.length≤256:=by
 unfold Uh at h
 split at h
 ·simp only[Option.some.injEq] at h; subst h; simp
 ·split at h
  ·exact absurd h (by simp)
  ·rename_i r hr
   have hk:=Zdj hr
   split at h
   ·exact absurd h (by simp)
   ·rename_i f hf
    split at h
    ·exact absurd h (by simp)
    ·rename_i n hn
     simp only[Option.some.injEq] at h
     subst h
     have h1:=JM _ _ _ _ hf
     have h2:=JN _ _ _ _ _ hn
     simp at h1 h2
     exact⟨by simp only; omega,by simp only; omega⟩
theorem Zav {b:List Nat} {at' iat:Nat}: ∀(n:Nat) (acc l:List Wg),VY b at' iat n acc=some l→l.length≤acc.length+n
 | 0,acc,l,h=>by simp[VY] at h
 | n+1,acc,l,h=>by
   simp only[VY] at h
   split at h
   ·split at h
    ·simp only[Option.some.injEq] at h; subst h; omega
    ·split at h
     ·split at h
      ·exact absurd h (by simp)
      ·have:=Zav n _ l h
       simp at this
       omega
     ·exact absurd h (by simp)
   ·exact absurd h (by simp)
theorem Zic {b:List Nat} {x:Ds} {v:Za7} (h:Zg8 b x=some v):v.syms.length≤66:=by
 unfold Zg8 at h
 split at h
 ·exact absurd h (by simp)
 ·split at h
  ·split at h
   ·exact absurd h (by simp)
   ·split at h
    ·exact absurd h (by simp)
    ·rename_i l hl
     simp only[Option.some.injEq] at h
     subst h
     have:=Zav _ _ _ hl
     simpa using this
  ·exact absurd h (by simp)
theorem Zaw {b:List Nat} {n:Nat} {rd:List Nat→Nat→Ds}: ∀(k o:Nat) (acc l:List Za7),JW b n rd k o acc=some l→l.length≤acc.length+k∧ ∀ v∈l,v∈acc∨v.syms.length≤66
 | 0,_,acc,l,h=>by simp[JW] at h
 | k+1,o,acc,l,h=>by
   simp only[JW] at h
   split at h
   ·simp only[Option.some.injEq] at h; subst h; exact⟨by omega,fun v hv=> .inl hv⟩
   ·split at h
    ·split at h
     ·exact absurd h (by simp)
     ·rename_i v hv
      obtain⟨h1,h2⟩:=Zaw k _ _ l h
      refine⟨by simp at h1; omega,fun u hu=> ?_⟩
      rcases h2 u hu with q|q
      ·rcases List.mem_append.1 q with q|q
       ·exact .inl q
       ·simp at q; subst q; exact .inr (Zic hv)
      ·exact .inr q
    ·exact absurd h (by simp)
theorem JO {b:List Nat} {rva n:Nat} {rd:List Nat→Nat→Ds} {l:List Za7} (h:XX b rva n rd=some l):l.length≤18∧ ∀ v∈l,v.syms.length≤66:=by
 unfold XX at h
 split at h
 ·simp only[Option.some.injEq] at h; subst h; simp
 ·obtain⟨h1,h2⟩:=Zaw _ _ _ _ h
  exact⟨by simpa using h1,fun v hv=>(h2 v hv).elim (fun q=>by simp at q) (fun q=>q)⟩
theorem JP {b:List Nat} {rva:Nat}: ∀(k o bl:Nat) (acc l:List Jm),UU b rva k o bl acc=some l→l.length≤acc.length+k
 | 0,_,_,acc,l,h=>by simp[UU] at h
 | k+1,o,bl,acc,l,h=>by
   simp only[UU] at h
   split at h
   ·simp only[Option.some.injEq] at h; subst h; omega
   ·split at h
    ·exact absurd h (by simp)
    ·split at h
     ·exact absurd h (by simp)
     ·have:=JP k _ _ _ l h
      simp at this
      omega
theorem Zeb {b:List Nat} {rva:Nat} {l:List Jm} (h:Uo b rva=some l):l.length≤33:=by
 unfold Uo at h
 split at h
 ·simp only[Option.some.injEq] at h; subst h; simp
 ·have:=JP _ _ _ _ _ h
  simpa using this
theorem JQ {n:Nat} {f:Nat→Int} {base:Int} {D:Nat}: ∀(k:Nat) (acc l:List Int),Jg n f base D k acc=some l→l.length≤acc.length+k
 | 0,acc,l,h=>by simp[Jg] at h
 | k+1,acc,l,h=>by
   simp only[Jg] at h
   split at h
   ·exact absurd h (by simp)
   ·split at h
    ·simp only[Option.some.injEq] at h; subst h; omega
    ·split at h
     ·exact absurd h (by simp)
     ·have:=JQ k _ l h
      simp at this
      omega
theorem Zid {n:Nat} {f:Nat→Int} {rva:Nat} {base:Int} {x:Bool × Int × List Int} (h:Zix n f rva base=some x):x.2.2.length≤9:=by
 unfold Zix at h
 split at h
 ·simp only[Option.some.injEq] at h; subst h; simp
 ·split at h
  ·exact absurd h (by simp)
  ·split at h
   ·exact absurd h (by simp)
   ·split at h
    ·exact absurd h (by simp)
    ·rename_i l hl
     simp only[Option.some.injEq] at h
     subst h
     split at hl
     ·simp only[Option.some.injEq] at hl; subst hl; simp
     ·have:=JQ _ _ _ hl
      simpa using this
theorem Vf {α :Type} {R:Option α} {e:Int} (h:erO R e=0) (he:e≠0): ∃ x,R=some x:=by
 cases R with
 | none=>exact absurd h he
 | some x=>exact⟨x,rfl⟩
theorem Zb1 {a b c d e f:Int} (h:ZK a b c d e f=0):a=0∧b=0∧c=0∧d=0∧e=0∧f=0:=by
 unfold ZK at h
 split at h
 ·contradiction
 ·split at h
  ·contradiction
  ·split at h
   ·contradiction
   ·split at h
    ·contradiction
    ·split at h
     ·contradiction
     ·exact⟨by omega,by omega,by omega,by omega,by omega,h⟩
theorem Zie (n:Nat) (f:Nat→Int) (h:Zq f): ∃ D:Nat→Nat × Nat,∀ i,(ZF f (headP n f)).dirs i=(((D i).1:Int),((D i).2:Int))∧(D i).1<4294967296∧(D i).2<4294967296:=by
 refine⟨fun i=>(((ZF f (headP n f)).dirs i).1.toNat,((ZF f (headP n f)).dirs i).2.toNat),fun i=> ?_⟩
 have h1:=ZS f h 4 (headP n f+136+8 * i)
 have h2:=ZS f h 4 (headP n f+136+8 * i+4)
 rw[show(256:Int) ^ 4=4294967296 by rfl] at h1 h2
 refine⟨Prod.ext ?_ ?_,?_,?_⟩
 ·exact(Int.toNat_of_nonneg h1.1).symm
 ·exact(Int.toNat_of_nonneg h2.1).symm
 ·show(rdF f (headP n f+136+8 * i) 4).toNat<_
  omega
 ·show(rdF f (headP n f+136+8 * i+4) 4).toNat<_
  omega
noncomputable def Us:Code:=(Tryz.f26.body).getD .skip
open Classical in
noncomputable def Zde (n:Nat) (f:Nat→Int) (P K:Nat) (h:ZO):Int :=
 if ¬ Yw h.size n (ZN h.headers 4096) (Ya f (P+264) K) then 7 else if h.size≤h.entry then 5 else 0
open Classical in
noncomputable def Zdf (n:Nat) (f:Nat→Int) (P:Nat) (h:ZO):Int :=
 if ¬ Yt n P h.headers (rdF f (P+6) 2) then 7 else Zde n f P (rdF f (P+6) 2).toNat h
open Classical in
noncomputable def Zax (n:Nat) (f:Nat→Int) (P:Nat) (h:ZO):Int :=
 if ¬ XZ f P h.base h.size then 6 else Zdf n f P h
theorem Zgt {n:Nat} {f:Nat→Int} {P:Nat} {e:Int} (h1:ZA n f=((P:Int),0)) (h2:Qe f P=e) (h3:e≠0):ZT n f=e:=by
 unfold ZT
 rw[if_neg (by rw[h1]; simp),if_pos (by rw[h1]; simp[h2,h3]),h1]
 exact h2
noncomputable def VU (n:Nat) (f:Nat→Int) (P:Nat) (h:ZO):Int:=Zax n f P h
theorem Zgu {n:Nat} {f:Nat→Int} {P:Nat} {h:ZO} (k:XZ f P h.base h.size):VU n f P h=Zdf n f P h:=by
 unfold VU Zax; rw[if_neg (fun hn=>hn k)]
theorem Zif {n:Nat} {f:Nat→Int} {P:Nat} {h:ZO} (k: ¬ XZ f P h.base h.size):VU n f P h=6:=by
 unfold VU Zax; rw[if_pos k]
theorem Zj4 {n:Nat} {f:Nat→Int} {P:Nat} (h1:ZA n f=((P:Int),0)) (h2:Qe f P=0):ZT n f=Zax n f P (ZF f P):=by
 unfold ZT
 rw[if_neg (by rw[h1]; simp),if_neg (by rw[h1]; simp[h2])]
 rw[h1]
 rfl
def QF (S:ByteArray) (f:Nat→Int) (w:World):Exit→Act→World→Prop :=
 bodyPost Tryz.prog Tryz.f26 fun e w'=>(∃ v,e= .returned v∧Zjx w' S.size f v)∧Below w.heap.size w w'
structure RC (S:ByteArray) (f:Nat→Int) (h:ZO) (nx N0:Int) (SL TK:List Zr) (s:Zr) (P K i o:Nat):Prop where
 hs:S.size≤1000000
 hf:PlainAid.bt S=f
 f255:Zq f
 e8: ¬ Yw h.size S.size N0 SL→ZT S.size f=7
 ch:Yw h.size S.size N0 SL↔Yw h.size S.size nx (SL.drop i)
 dr:SL.drop i=s::SL.drop (i+1)
 tk:SL.take (i+1)=TK++[s]
 len:TK.length=i
 ss:Xo f o=s
 sb:JS s
 oS:o+40≤S.size
 ho:P+264+40 * i=o
 x0:0≤nx
 x1:nx≤4294967296+i * 4294967296
 lt:i<K
 k16:K≤16
 hp:P<4294967296
noncomputable def lp2:Code:=Zfq (UZ (ZY 1 (YJ (ZY 16 Us))))
noncomputable def bl3:Code:=UZ (YJ (ZY 1 lp2))
end Go.Proofs.YtplgdpjbkdagfaaGreat
