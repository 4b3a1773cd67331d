import Derived.Test.YtplgdpjbkdagfaaGreatZPeE
import Derived.Test.YtplgdpjbkdagfaaGreatZRNou
import Derived.Test.YtplgdpjbkdagfaaGreatZPeV
import Derived.Test.YtplgdpjbkdagfaaGreatZSameHead
import Derived.Test.YtplgdpjbkdagfaaGreatZImpD
import Derived.Test.YtplgdpjbkdagfaaGreatZRelApart
import Derived.Test.YtplgdpjbkdagfaaGreatZExpM
namespace Go.Proofs.YtplgdpjbkdagfaaGreat
set_option maxHeartbeats 8000000
open Lib renaming hid→Zg
open Go.ChangeShapes Go.WideShapes Go.ChangeAt Go.RowKit
set_option linter.unusedVariables false
set_option linter.unusedSimpArgs false
set_option maxRecDepth 100000
def RR1 (w:World) (f:Nat) (args:Array Value) (er:Int) (S:Value->World->Prop):Prop :=
 ∀ W,Below w.heap.size w W->Calls Tryz.prog f args W fun e W'=> ∃ v,e= .returned (.tuple #[v,.int .i64 er])/\v.oneCell'=true/\Below W.heap.size W W'/\ZE W.heap.size (S v) W'
def RR3 (w:World) (f:Nat) (args:Array Value) (er:Int) (S:Value->Value->Value->World->Prop):Prop :=
 ∀ W,Below w.heap.size w W->Calls Tryz.prog f args W fun e W'=> ∃ a b c,e= .returned (.tuple #[.agg #[a,b,c],.int .i64 er])/\(a.oneCell'=true/\b.oneCell'=true/\c.oneCell'=true)/\Below W.heap.size W W'/\ZE W.heap.size (S a b c) W'
inductive WA (w:World) (N:Nat) (IM:Nat->Int) (HG:World->Array Value->Prop) (FE:Int) (SE:Value->Value->Value->World->Prop) (SI SR:Value->World->Prop) (ST:Value->Value->Value->World->Prop) (SB SD:Value->World->Prop):Ending->World->Prop
 | bad {u:World} (h: ¬ FE=0):WA w N IM HG FE SE SI SR ST SB SD (.returned (.tuple #[.agg (peC peZ),.int .i64 FE])) u
 | good {u:World} (h:FE=0) (y:PeV) (cs:Array Value) (gi C W:Nat) (hk: ∃ wb,HG wb cs/\wb.heap[w.heap.size]? =some (.cells (peC peZ) 50 (0,0))/\Xl (fun k=>k<wb.heap.size/\k≠w.heap.size) wb u) (hh: ∀ j,j<39->cs[j]? =some (y.hd j)) (hi:y.img= .slice (some ⟨gi,0,none⟩) N C) (ho:YA u w.heap.size gi N C IM) (hW:w.heap.size<=W)
    (lE:ZE W (SE y.e0 y.e1 y.e2) u) (lI:ZE W (SI y.im) u) (lR:ZE W (SR y.re) u) (lT:ZE W (ST y.t0 y.t1 y.t2) u) (lB:ZE W (SB y.bo) u) (lD:ZE W (SD y.de) u) :
    WA w N IM HG FE SE SI SR ST SB SD (.returned (.tuple #[.agg (peC y),.int .i64 0])) u
structure RSt (w wb:World) (h P gi N C:Nat) (cs:Array Value) (IM:Nat->Int) (hd:Nat->Value) (W:World) (y:PeV):Prop where
 bel:Below w.heap.size w W
 kept:Xl (fun k=>k<wb.heap.size) wb W
 hh:W.heap[h]? =some (.cells cs 41 (0,0))
 pe:VB W P y
 hd:y.hd=hd
 img:y.img= .slice (some ⟨gi,0,none⟩) N C
 ho:YA W w.heap.size gi N C IM
 h1:w.heap.size+1<wb.heap.size
 h2:wb.heap.size<=h
 h3:h<P
 h4:gi≠P
 h5:wb.heap.size<=gi
namespace RSt
variable {w wb:World} {h P gi N C:Nat} {cs:Array Value} {IM:Nat->Int} {hd:Nat->Value} {W W':World} {y:PeV}
theorem below (x:RSt w wb h P gi N C cs IM hd W y) (hb:Below W.heap.size W W'):RSt w wb h P gi N C cs IM hd W' y :=
 ⟨x.bel.trans (hb.mono x.bel.size),x.kept.trans (Xl.of_below hb (fun k hk=>Nat.lt_of_lt_of_le hk x.kept.size)),(hb.block h (Zi x.hh)).trans x.hh,Own.of_block x.pe (hb.block P x.pe.1) hb.size,x.hd,x.img,x.ho.below hb,x.h1,x.h2,x.h3,x.h4,x.h5⟩
theorem lt (x:RSt w wb h P gi N C cs IM hd W y):P<W.heap.size:=x.pe.1
theorem base (x:RSt w wb h P gi N C cs IM hd W y) {v:Value} (hv:cs[0]? =some v):W.cell? ⟨h,0,none⟩=some v:=by rw[Zh x.hh]; exact hv
theorem dir (x:RSt w wb h P gi N C cs IM hd W y) {rv sz:Nat->Int} (hv: ∀ i,i<16->cs[6+2 * i]? =some (.int .i64 (rv i))/\cs[6+2 * i+1]? =some (.int .i64 (sz i))) (i:Nat) (hi:i<16):W.rangeAt h (6+2 * i) [.int .i64 (rv i),.int .i64 (sz i)]:=fun j v hj=>by
 rw[Zh x.hh];rcases j with _|_|j
 ·simp at hj; subst hj; exact(hv i hi).1
 ·simp at hj; subst hj; exact(hv i hi).2
 ·simp at hj
theorem wrote (x:RSt w wb h P gi N C cs IM hd W y) {y':PeV} (hk:Xl (fun k=>k≠P) W W') (hp:VB W' P y') (h1:y'.hd=y.hd) (h2:y'.img=y.img):RSt w wb h P gi N C cs IM hd W' y' :=
 ⟨⟨hk.os.trans x.bel.os,hk.tape.trans x.bel.tape,hk.output.trans x.bel.output,Nat.le_trans x.bel.size hk.size,fun k h=>(hk.block k (by have:=x.h1; have:=x.h2; have:=x.h3; omega)).trans (x.bel.block k h)⟩,x.kept.trans (hk.mono (fun k hk=>by have:=x.h2; have:=x.h3; omega)),(hk.block h (by have:=x.h3; omega)).trans x.hh,hp,h1.trans x.hd,h2.trans x.img,x.ho.of_block hk.size (hk.block gi x.h4),x.h1,x.h2,x.h3,x.h4,x.h5⟩
end RSt
theorem Vt {P:Program} {ops:Array Oper} {rest:List Oper} {o:Oper} {a:Act} {w:World} {Q:Exit->Act->World->Prop} (eu:o.guard=none) (ty:TypeId) (x y:Operand) (ho:o.op= .store ty x y)
 (b off:Nat) (cells:Array Value) (hx:a.eval x= .pointer (some ⟨b,off,none⟩)) (hy:a.eval y= .agg cells) (ht:w.there b off cells.size) (hi:(P.info? ty).map (·.size)=some cells.size) (h1:cells.all (·.oneCell')=true)
 (h:wpList P ops Q rest (a.put o.dst undef) (w.setCells b off cells.toList)):wpList P ops Q (o::rest) a w :=
 wpList_step fun K hK=>Wg eu ty x y ho b off cells hx hy ht hi h1 (hK _ _ h)
theorem Xf {P:Program} {ops:Array Oper} {rest:List Oper} {o:Oper} {a:Act} {w:World} {Q:Exit->Act->World->Prop} (eu:o.guard=none) (ty:TypeId) (x y:Operand) (ho:o.op= .store ty x y)
 (b off:Nat) (v:Value) (hx:a.eval x= .pointer (some ⟨b,off,none⟩)) (hy:a.eval y=v) (ht:w.there b off 1) (hi:(P.info? ty).map (·.size)=some 1) (h1:v.oneCell'=true)
 (h:wpList P ops Q rest (a.put o.dst undef) (w.setCell ⟨b,off,none⟩ v)):wpList P ops Q (o::rest) a w :=
 wpList_step fun K hK=>Xz eu ty x y ho b off v hx hy ht hi h1 (hK _ _ h)
theorem WV (w:World) (g:Nat) (x:PeV) (h: ∀ j,j<50->w.cell? ⟨g,j,none⟩=some (peF x j)):w.rangeAt g 0 ((List.range 50).map (peF x)):=fun j v hv=>by
 have hj:j<50:=by
  rcases Nat.lt_or_ge j 50 with hj|hj
  ·exact hj
  ·simp[hj] at hv
 simp[hj] at hv;subst hv;rw[Nat.zero_add,h j hj]
theorem Zmo (S L:ByteArray) (N:Nat) (IM:Nat->Int) (HG:World->Array Value->Prop) (rv sz:Nat->Int) (base:Int) (w:World) (Kr:L.size=N) (hN:N<=1000000) (pb:PlainAid.bt L=IM)
 (hH: ∀ W,Below w.heap.size w W->Calls Tryz.prog 26 #[.string S] W fun e u=>(∃ cs,e= .returned (.tuple #[.agg cs,.int .i64 0])/\HG u cs)/\Below W.heap.size W u)
 (aT: ∀ W cs,HG W cs->cs.size=39/\cs.all (·.oneCell')=true/\(∀ i,i<16->cs[6+2 * i]? =some (.int .i64 (rv i))/\cs[6+2 * i+1]? =some (.int .i64 (sz i)))/\cs[0]? =some (.int .u64 base))
 (aQ: ∀ W U cs,HG W cs->Below W.heap.size W U->HG U cs)
 (Bp: ∀ W cs,Below w.heap.size w W->HG W cs->Calls Tryz.prog 37 #[.agg cs,.string S] W fun e u=>e= .returned (.string L)/\Below W.heap.size W u)
 (eE eI eR eT eB eD:Int) (SE:Value->Value->Value->World->Prop) (SI SR:Value->World->Prop) (ST:Value->Value->Value->World->Prop) (SB SD:Value->World->Prop)
 (hE:RR3 w 38 #[.string L,.agg #[.int .i64 (rv 0),.int .i64 (sz 0)]] eE SE)
 (hI:RR1 w 39 #[.string L,.agg #[.int .i64 (rv 1),.int .i64 (sz 1)],.bool false] eI SI)
 (hR:RR1 w 40 #[.string L,.agg #[.int .i64 (rv 5),.int .i64 (sz 5)]] eR SR)
 (hT:RR3 w 41 #[.string L,.agg #[.int .i64 (rv 9),.int .i64 (sz 9)],.int .u64 base] eT ST)
 (hB:RR1 w 42 #[.string L,.agg #[.int .i64 (rv 11),.int .i64 (sz 11)]] eB SB)
 (hD:RR1 w 39 #[.string L,.agg #[.int .i64 (rv 13),.int .i64 (sz 13)],.bool true] eD SD)
 : Calls Tryz.prog 19 #[.string S] w fun x u=>Below w.heap.size w u/\WA w N IM HG (ZL eE eI eR eT eB eD) SE SI SR ST SB SD x u:=by
 have HE:=Zg hE;have HI:=Zg hI;have HR:=Zg hR;have HT:=Zg hT;have HB:=Zg hB;have HD:=Zg hD;have oZ:=Zg hH;have eV:=Zg aT;have bF:=Zg aQ;have Ot:=Zg Bp;have nt:=Zg (And.intro Kr (And.intro hN pb));clear hE hI hR hT hB hD hH aT aQ Bp Kr hN pb;have bO:Below w.heap.size w ((w.alloc (.cells (peC peZ) 50)).alloc (.cells (peC peZ) 50)):=((Below.refl w.heap.size w).alloc (Nat.le_refl _) _).alloc (by simp) _;have jL:=heap_alloc2_old w (.cells (peC peZ) 50) (.cells (peC peZ) 50);have ja:=heap_alloc2_new w (.cells (peC peZ) 50) (.cells (peC peZ) 50);go_enter Tryz.func19,Tryz.ntmps19;go_upto_region 2 with(first|(refine wpList_store_row rfl 50 (.tmp 4) (.tmp 9) rfl (w.heap.size+1) (peC peZ) rfl rfl 50 (peC peZ) ja (by kernel_rfl) (Zu _) Wh ?_)|fail)
 rw[Xs];have az:=below_setRow bO (show w.heap.size<=w.heap.size+1 by omega) (peC peZ);have bw:=setRow_heap _ _ _ (peC peZ) _ _ ja;have dQ:=(setRow_other ((w.alloc (.cells (peC peZ) 50)).alloc (.cells (peC peZ) 50)) (w.heap.size+1) w.heap.size (peC peZ) (by omega)).trans jL;generalize ((w.alloc (.cells (peC peZ) 50)).alloc (.cells (peC peZ) 50)).setRow (w.heap.size+1) (peC peZ)=w1 at *;have av:=Zg az;have bq:=Zg dQ;have dL:=Zg bw;clear bO jL ja az dQ bw;go_wp2_with fail
 refine(oZ.out w1 av.out).mono ?_;rintro e w2 ⟨⟨cs,rfl,hg⟩,hb⟩;have aj:=Zg (av.out.trans (hb.mono av.out.size));have jA:=Zg ((hb.block _ (Zi bq.out)).trans bq.out);have eX:=Zg ((hb.block _ (Zi dL.out)).trans dL.out);obtain⟨iH,aZ,uj,aH⟩:=eV.out _ _ hg;obtain⟨hd,jj⟩: ∃ hd:Nat->Value,((List.range 39).map hd).toArray=cs:=⟨_,Ku cs 39 iH⟩;subst jj;have jm:=Zg (show ∀ j,j<39->(hd j).oneCell'=true from fun j hj=>by
  have h:=Array.all_eq_true_iff_forall_mem.1 aZ (hd j) (by simp; exact⟨j,hj,rfl⟩);exact h)
 have aT:(Tryz.prog.info? 41).map (·.size)=some ((List.range 39).map hd).toArray.size:=by rw[iH]; kernel_rfl
 have fp:(Zl 0 0 0 0 0 0).size=((List.range 39).map hd).toArray.size:=by rw[iH]; kernel_rfl
 have gu:Below w2.heap.size w2 ((w2.alloc (.cells (Zl 0 0 0 0 0 0) 41)).setRow w2.heap.size ((List.range 39).map hd).toArray):=below_setRow ((Below.refl _ w2).alloc (Nat.le_refl _) _) (Nat.le_refl _) _;have FX:=Zg hg;have mV:=Zg gu;have aN:=Zg (aj.out.trans (gu.mono aj.out.size));have cj:=Zg (bF.out _ _ _ hg gu);have ri:=Zg (setRow_heap (w2.alloc (.cells (Zl 0 0 0 0 0 0) 41)) w2.heap.size _ ((List.range 39).map hd).toArray _ _ (heap_alloc_new _ _));have sw:=Zg uj;have ff:=Zg aH;have cM:=Zg (show w.heap.size+1<w2.heap.size from Zi eX.out);clear hb hg uj aH gu iH;go_upto_region 3 with(first|(refine wpList_store_row rfl 41 (.tmp 5) (.tmp 13) rfl w2.heap.size ((List.range 39).map hd).toArray rfl rfl 41 (Zl 0 0 0 0 0 0) (heap_alloc_new _ _) aT fp aZ ?_; rw[Yh]; generalize dn:(w2.alloc (.cells (Zl 0 0 0 0 0 0) 41)).setRow w2.heap.size ((List.range 39).map hd).toArray=w3 at *; generalize Ge:w2.heap.size=h at *)|fail)
 clear aT fp aZ dn;have Ks:=Zg Ge;clear Ge;have lp:w3.rangeAt h 0 ((List.range 39).map hd):=fun j v hv=>by
  rw[Nat.zero_add,Zh ri.out];simpa using hv
 have vU:=Zg lp;clear lp;go_wp2_with (first|(refine wpList_load_mid rfl 41 (.tmp 5) rfl h 0 rfl ((List.range 39).map hd) _ vU.out Tryz.underlying41 rfl (by rw[List.length_map,List.length_range]; kernel_rfl) ?_)|fail)
 refine(Ot.out w3 _ aN.out cj.out).mono ?_;rintro e w4 ⟨rfl,hb⟩;have wZ:=Zg hb;have Bm:=Zg (show w4.rangeAt h 0 ((List.range 39).map hd) from fun j v hv=>by
  rw[Nat.zero_add,Zh ((hb.block _ (Zi ri.out)).trans ri.out)];simpa using hv)
 have Gf:=Zg ((hb.block _ (Zi ri.out)).trans ri.out);clear hb;obtain⟨C,w5,dI,gG,Bq⟩:=Je w4 L (by rw[nt.out.1]; exact nt.out.2.1);rw[nt.out.1,nt.out.2.2] at gG;rw[nt.out.1] at dI;have cx:=Zg gG;have ew:=Zg Bq;clear gG Bq;have Ou:=Zat hd (some ⟨w4.heap.size,0,none⟩) N C;have uh:(peC (pe0 hd (.slice (some ⟨w4.heap.size,0,none⟩) N C))).all (·.oneCell')=true:=Zd0 jm.out rfl;go_upto_region 7 with(first
  | (refine wpList_load_mid rfl 41 (.tmp 5) rfl h 0 rfl ((List.range 39).map hd) _ Bm.out Tryz.underlying41 rfl (by rw[List.length_map,List.length_range]; kernel_rfl) ?_)
  | (refine wpList_store_row rfl 50 (.tmp 8) (.tmp 25) rfl w5.heap.size (peC (pe0 hd (.slice (some ⟨w4.heap.size,0,none⟩) N C))) rfl rfl 50 (peC peZ) (heap_alloc_new _ _) (by kernel_rfl) rfl uh ?_; rw[Xs])
  | fail)
 clear Ou uh;have jb:=Zg (show RSt w w2 h w5.heap.size w4.heap.size N C ((List.range 39).map hd).toArray IM hd ((w5.alloc (.cells (peC peZ) 50)).setRow w5.heap.size (peC (pe0 hd (.slice (some ⟨w4.heap.size,0,none⟩) N C)))) (pe0 hd (.slice (some ⟨w4.heap.size,0,none⟩) N C)) from by
  have Ov:=wZ.out.size;have Kt:=ew.out.size;have hh:=Zi ri.out;have Ge:=Ks.out;have af:=cM.out;have s2:=mV.out.size;have o5:=cx.out.lt;have cF:Below w5.heap.size w5 ((w5.alloc (.cells (peC peZ) 50)).setRow w5.heap.size (peC (pe0 hd (.slice (some ⟨w4.heap.size,0,none⟩) N C)))):=below_setRow ((Below.refl _ w5).alloc (Nat.le_refl _) _) (Nat.le_refl _) _;have Bn:Below w2.heap.size w2 ((w5.alloc (.cells (peC peZ) 50)).setRow w5.heap.size (peC (pe0 hd (.slice (some ⟨w4.heap.size,0,none⟩) N C)))):=(show Below w2.heap.size w2 w3 from by have q:=mV.out; rw[<-Ks.out] at q; exact q).trans (((wZ.out.trans ((ew.out.trans (cF.mono Kt)).mono Ov))).mono (by omega));refine⟨aj.out.trans (Bn.mono (by omega)),Xl.of_below Bn (fun k hk=>hk),?_,?_,rfl,rfl,?_,by omega,by omega,by omega,by omega,by omega⟩
  ·exact((ew.out.trans (cF.mono Kt)).block _ (Zi Gf.out)).trans Gf.out
  ·exact Uz (setRow_heap _ _ _ _ _ _ (heap_alloc_new _ _))
  ·exact(cx.out.below cF).weaken (by omega))
 generalize hP:w5.heap.size=P at *;generalize uR:w4.heap.size=gi at *;generalize (w5.alloc (.cells (peC peZ) 50)).setRow P (peC (pe0 hd (.slice (some ⟨gi,0,none⟩) N C)))=v0 at *;clear hP uR dI;obtain⟨y0,ox⟩: ∃ y,pe0 hd (.slice (some ⟨gi,0,none⟩) N C)=y:=⟨_,rfl⟩;rw[ox] at jb;have zD:=Zg ox;clear ox;have HQ:=Zg (show ∀ W y,RSt w w2 h P gi N C ((List.range 39).map hd).toArray IM hd W y->W.heap[w.heap.size]? =some (.cells (peC peZ) 50 (0,0))/\W.rangeAt (w.heap.size+1) 0 ((List.range 50).map (peF peZ)) from fun W y x=>by
  have af:=x.h1;refine⟨(x.kept.block w.heap.size (by omega)).trans jA.out,WV W _ peZ fun j hj=> ?_⟩;rw[Zh ((x.kept.block (w.heap.size+1) (by omega)).trans eX.out)];exact Yv peZ hj)
 clear av bq dL aN cj ri vU wZ Bm Gf cx ew mV;have hR:=jb.out.dir sw.out 0 (by omega);have cZ:=Zg hR;clear hR;go_wp2_with (first|(refine wpList_load_mid rfl 37 (.tmp 29) rfl h 6 rfl [.int .i64 (rv 0),.int .i64 (sz 0)] _ cZ.out Tryz.underlying37 rfl (by kernel_rfl) ?_)|fail)
 refine(HE.out v0 jb.out.bel).mono ?_;rintro e u0 ⟨a0,b0,c0,rfl,zY,bO,lQ⟩;have dW:=jb.out.below bO;have iS:=Zg dW;have dp:=Zg (show ZE (P+1) (SE a0 b0 c0) u0 from lQ.less jb.out.lt);have ft:=Zg zY;clear dW lQ zY bO cZ;go_upto_region 8 with(first|(refine Vt rfl 45 (.tmp 34) (.tmp 32) rfl P 40 #[a0,b0,c0] (by first|rfl|simp[Act.eval]) (by first|rfl|simp[Act.eval]) (iS.out.pe.there 40 3 (by omega)) (by kernel_rfl) (by simp[ft.out.1,ft.out.2.1,ft.out.2.2]) ?_)|fail)
 have mu:Xl (fun k=>k≠P) u0 (u0.setCells P 40 [a0,b0,c0]):=Vg _ P 40 _ _ _;obtain⟨y1,gN⟩: ∃ y:PeV,{ y0 with e0:=a0,e1:=b0,e2:=c0 }=y:=⟨_,rfl⟩;have dW:=iS.out.wrote (y':=y1) mu (by rw[<-gN]; exact iS.out.pe.ex a0 b0 c0) (by rw[<-gN]) (by rw[<-gN]);have dp:=Zg (dp.out.wrote (Nat.lt_succ_self P) mu);generalize u0.setCells P 40 [a0,b0,c0]=v1 at *;have dw:=Zg dW;have cK:=Zg gN;clear dW mu gN iS jb;by_cases eP: ¬ eE=0
 ·have cV:=Zfm eE eI eR eT eB eD eP;have eC:=Zg (And.intro cV (show ¬ ZL eE eI eR eT eB eD=0 from by rw[cV]; exact eP));have fO:(eE != 0)=true:=bne_iff_ne.2 eP;clear cV eP;have hq:=HQ.out _ _ dw.out;have jN:=Zg hq.1;have mT:=Zg hq.2;have cp:=Zg dw.out.bel;clear hq;go_wp2_with (first
   | (refine wpList_load_mid rfl 50 (.tmp 4) rfl (w.heap.size+1) 0 rfl ((List.range 50).map (peF peZ)) _ mT.out Tryz.underlying50 rfl (by rw[List.length_map,List.length_range]; kernel_rfl) ?_)
   | (refine wpList_store_row rfl 50 (.tmp 2) (.tmp 37) rfl w.heap.size (peC peZ) rfl rfl 50 (peC peZ) jN.out (by kernel_rfl) (Zu _) Wh ?_)
   | fail)
  refine bodyPost_ret (v:= .tuple #[.agg (peC peZ),.int .i64 eE]) (Zj rfl _ _ w.heap.size 50 _ (0,0) _ _ rfl rfl (setRow_heap _ _ _ _ _ _ jN.out) Tryz.underlying50 rfl (by rw[Zu]; kernel_rfl)) rfl ⟨below_setRow cp.out (Nat.le_refl _) _,?_⟩;have key: ∀ z U,ZL eE eI eR eT eB eD=z->WA w N IM HG (ZL eE eI eR eT eB eD) SE SI SR ST SB SD (.returned (.tuple #[.agg (peC peZ),.int .i64 z])) U:=fun z U hz=>by subst hz; exact .bad eC.out.2
  exact key _ _ eC.out.1
 replace eP:eE=0:=Decidable.not_not.1 eP;have fO:(eE != 0)=false:=bne_eq_false_iff_eq.2 eP;go_upto_region 10 with(fail)
 clear fO;have hR:=dw.out.dir sw.out 1 (by omega);have cZ:=Zg hR;clear hR;go_wp2_with (first|(refine wpList_load_mid rfl 37 (.tmp 42) rfl h 8 rfl [.int .i64 (rv 1),.int .i64 (sz 1)] _ cZ.out Tryz.underlying37 rfl (by kernel_rfl) ?_)|fail)
 refine(HI.out v1 dw.out.bel).mono ?_;rintro e u1 ⟨xb,rfl,cG,az,dP⟩;have dW:=dw.out.below az;have mn:=Zg dW;have aO:=Zg (show ZE (P+1) (SI xb) u1 from dP.less dw.out.lt);have cW:=Zg cG;have dp:=Zg (dp.out.below az);clear dW dP cG az cZ;go_upto_region 11 with(first|(refine Xf rfl 46 (.tmp 47) (.tmp 45) rfl P 43 xb (by first|rfl|simp[Act.eval]) (by first|rfl|simp[Act.eval]) (mn.out.pe.there 43 1 (by omega)) (by kernel_rfl) cW.out ?_)|fail)
 have n':Xl (fun k=>k≠P) u1 (u1.setCell ⟨P,43,none⟩ xb):=YK _ P 43 _;obtain⟨y2,jR⟩: ∃ y:PeV,{ y1 with im:=xb }=y:=⟨_,rfl⟩;have dW:=mn.out.wrote (y':=y2) n' (by rw[<-jR]; exact mn.out.pe.im xb) (by rw[<-jR]) (by rw[<-jR]);have dp:=Zg (dp.out.wrote (Nat.lt_succ_self P) n');have aO:=Zg (aO.out.wrote (Nat.lt_succ_self P) n');generalize u1.setCell ⟨P,43,none⟩ xb=v2 at *;have gZ:=Zg dW;have rh:=Zg jR;clear dW n' jR mn dw;by_cases eQ: ¬ eI=0
 ·have cV:=Zfn eE eI eR eT eB eD eP eQ;have eC:=Zg (And.intro cV (show ¬ ZL eE eI eR eT eB eD=0 from by rw[cV]; exact eQ));have fO:(eI != 0)=true:=bne_iff_ne.2 eQ;clear cV eP eQ;have hq:=HQ.out _ _ gZ.out;have jN:=Zg hq.1;have mT:=Zg hq.2;have cp:=Zg gZ.out.bel;clear hq;go_wp2_with (first
   | (refine wpList_load_mid rfl 50 (.tmp 4) rfl (w.heap.size+1) 0 rfl ((List.range 50).map (peF peZ)) _ mT.out Tryz.underlying50 rfl (by rw[List.length_map,List.length_range]; kernel_rfl) ?_)
   | (refine wpList_store_row rfl 50 (.tmp 2) (.tmp 50) rfl w.heap.size (peC peZ) rfl rfl 50 (peC peZ) jN.out (by kernel_rfl) (Zu _) Wh ?_)
   | fail)
  refine bodyPost_ret (v:= .tuple #[.agg (peC peZ),.int .i64 eI]) (Zj rfl _ _ w.heap.size 50 _ (0,0) _ _ rfl rfl (setRow_heap _ _ _ _ _ _ jN.out) Tryz.underlying50 rfl (by rw[Zu]; kernel_rfl)) rfl ⟨below_setRow cp.out (Nat.le_refl _) _,?_⟩;have key: ∀ z U,ZL eE eI eR eT eB eD=z->WA w N IM HG (ZL eE eI eR eT eB eD) SE SI SR ST SB SD (.returned (.tuple #[.agg (peC peZ),.int .i64 z])) U:=fun z U hz=>by subst hz; exact .bad eC.out.2
  exact key _ _ eC.out.1
 replace eQ:eI=0:=Decidable.not_not.1 eQ;have fO:(eI != 0)=false:=bne_eq_false_iff_eq.2 eQ;go_upto_region 13 with(fail)
 clear fO;have hR:=gZ.out.dir sw.out 5 (by omega);have cZ:=Zg hR;clear hR;go_wp2_with (first|(refine wpList_load_mid rfl 37 (.tmp 55) rfl h 16 rfl [.int .i64 (rv 5),.int .i64 (sz 5)] _ cZ.out Tryz.underlying37 rfl (by kernel_rfl) ?_)|fail)
 refine(HR.out v2 gZ.out.bel).mono ?_;rintro e u2 ⟨xc,rfl,dJ,aC,fw⟩;have dW:=gZ.out.below aC;have nh:=Zg dW;have bM:=Zg (show ZE (P+1) (SR xc) u2 from fw.less gZ.out.lt);have bQ:=Zg dJ;have dp:=Zg (dp.out.below aC);have aO:=Zg (aO.out.below aC);clear dW fw dJ aC cZ;go_upto_region 14 with(first|(refine Xf rfl 29 (.tmp 60) (.tmp 58) rfl P 46 xc (by first|rfl|simp[Act.eval]) (by first|rfl|simp[Act.eval]) (nh.out.pe.there 46 1 (by omega)) (by kernel_rfl) bQ.out ?_)|fail)
 have ei:Xl (fun k=>k≠P) u2 (u2.setCell ⟨P,46,none⟩ xc):=YK _ P 46 _;obtain⟨y3,o9⟩: ∃ y:PeV,{ y2 with re:=xc }=y:=⟨_,rfl⟩;have dW:=nh.out.wrote (y':=y3) ei (by rw[<-o9]; exact nh.out.pe.re xc) (by rw[<-o9]) (by rw[<-o9]);have dp:=Zg (dp.out.wrote (Nat.lt_succ_self P) ei);have aO:=Zg (aO.out.wrote (Nat.lt_succ_self P) ei);have bM:=Zg (bM.out.wrote (Nat.lt_succ_self P) ei);generalize u2.setCell ⟨P,46,none⟩ xc=v3 at *;have iw:=Zg dW;have oz:=Zg o9;clear dW ei o9 nh gZ;by_cases fP: ¬ eR=0
 ·have cV:=Zfo eE eI eR eT eB eD eP eQ fP;have eC:=Zg (And.intro cV (show ¬ ZL eE eI eR eT eB eD=0 from by rw[cV]; exact fP));have fO:(eR != 0)=true:=bne_iff_ne.2 fP;clear cV eP eQ fP;have hq:=HQ.out _ _ iw.out;have jN:=Zg hq.1;have mT:=Zg hq.2;have cp:=Zg iw.out.bel;clear hq;go_wp2_with (first
   | (refine wpList_load_mid rfl 50 (.tmp 4) rfl (w.heap.size+1) 0 rfl ((List.range 50).map (peF peZ)) _ mT.out Tryz.underlying50 rfl (by rw[List.length_map,List.length_range]; kernel_rfl) ?_)
   | (refine wpList_store_row rfl 50 (.tmp 2) (.tmp 63) rfl w.heap.size (peC peZ) rfl rfl 50 (peC peZ) jN.out (by kernel_rfl) (Zu _) Wh ?_)
   | fail)
  refine bodyPost_ret (v:= .tuple #[.agg (peC peZ),.int .i64 eR]) (Zj rfl _ _ w.heap.size 50 _ (0,0) _ _ rfl rfl (setRow_heap _ _ _ _ _ _ jN.out) Tryz.underlying50 rfl (by rw[Zu]; kernel_rfl)) rfl ⟨below_setRow cp.out (Nat.le_refl _) _,?_⟩;have key: ∀ z U,ZL eE eI eR eT eB eD=z->WA w N IM HG (ZL eE eI eR eT eB eD) SE SI SR ST SB SD (.returned (.tuple #[.agg (peC peZ),.int .i64 z])) U:=fun z U hz=>by subst hz; exact .bad eC.out.2
  exact key _ _ eC.out.1
 replace fP:eR=0:=Decidable.not_not.1 fP;have fO:(eR != 0)=false:=bne_eq_false_iff_eq.2 fP;go_upto_region 16 with(fail)
 clear fO;have hR:=iw.out.dir sw.out 9 (by omega);have cZ:=Zg hR;clear hR;have gX:=iw.out.base ff.out;go_wp2_with (first|(refine wpList_load_mid rfl 37 (.tmp 68) rfl h 24 rfl [.int .i64 (rv 9),.int .i64 (sz 9)] _ cZ.out Tryz.underlying37 rfl (by kernel_rfl) ?_)|fail)
 refine(HT.out v3 iw.out.bel).mono ?_;rintro e u3 ⟨a3,b3,c3,rfl,j3,bJ,gl⟩;have dW:=iw.out.below bJ;have CW:=Zg dW;have dY:=Zg (show ZE (P+1) (ST a3 b3 c3) u3 from gl.less iw.out.lt);have cT:=Zg j3;have dp:=Zg (dp.out.below bJ);have aO:=Zg (aO.out.below bJ);have bM:=Zg (bM.out.below bJ);clear gX;clear dW gl j3 bJ cZ;go_upto_region 17 with(first|(refine Vt rfl 48 (.tmp 75) (.tmp 73) rfl P 47 #[a3,b3,c3] (by first|rfl|simp[Act.eval]) (by first|rfl|simp[Act.eval]) (CW.out.pe.there 47 3 (by omega)) (by kernel_rfl) (by simp[cT.out.1,cT.out.2.1,cT.out.2.2]) ?_)|fail)
 have ey:Xl (fun k=>k≠P) u3 (u3.setCells P 47 [a3,b3,c3]):=Vg _ P 47 _ _ _;obtain⟨y4,pa⟩: ∃ y:PeV,{ y3 with t0:=a3,t1:=b3,t2:=c3 }=y:=⟨_,rfl⟩;have dW:=CW.out.wrote (y':=y4) ey (by rw[<-pa]; exact CW.out.pe.tl a3 b3 c3) (by rw[<-pa]) (by rw[<-pa]);have dp:=Zg (dp.out.wrote (Nat.lt_succ_self P) ey);have aO:=Zg (aO.out.wrote (Nat.lt_succ_self P) ey);have bM:=Zg (bM.out.wrote (Nat.lt_succ_self P) ey);have dY:=Zg (dY.out.wrote (Nat.lt_succ_self P) ey);generalize u3.setCells P 47 [a3,b3,c3]=v4 at *;have jd:=Zg dW;have me:=Zg pa;clear dW ey pa CW iw;by_cases gP: ¬ eT=0
 ·have cV:=Zfp eE eI eR eT eB eD eP eQ fP gP;have eC:=Zg (And.intro cV (show ¬ ZL eE eI eR eT eB eD=0 from by rw[cV]; exact gP));have fO:(eT != 0)=true:=bne_iff_ne.2 gP;clear cV eP eQ fP gP;have hq:=HQ.out _ _ jd.out;have jN:=Zg hq.1;have mT:=Zg hq.2;have cp:=Zg jd.out.bel;clear hq;go_wp2_with (first
   | (refine wpList_load_mid rfl 50 (.tmp 4) rfl (w.heap.size+1) 0 rfl ((List.range 50).map (peF peZ)) _ mT.out Tryz.underlying50 rfl (by rw[List.length_map,List.length_range]; kernel_rfl) ?_)
   | (refine wpList_store_row rfl 50 (.tmp 2) (.tmp 78) rfl w.heap.size (peC peZ) rfl rfl 50 (peC peZ) jN.out (by kernel_rfl) (Zu _) Wh ?_)
   | fail)
  refine bodyPost_ret (v:= .tuple #[.agg (peC peZ),.int .i64 eT]) (Zj rfl _ _ w.heap.size 50 _ (0,0) _ _ rfl rfl (setRow_heap _ _ _ _ _ _ jN.out) Tryz.underlying50 rfl (by rw[Zu]; kernel_rfl)) rfl ⟨below_setRow cp.out (Nat.le_refl _) _,?_⟩;have key: ∀ z U,ZL eE eI eR eT eB eD=z->WA w N IM HG (ZL eE eI eR eT eB eD) SE SI SR ST SB SD (.returned (.tuple #[.agg (peC peZ),.int .i64 z])) U:=fun z U hz=>by subst hz; exact .bad eC.out.2
  exact key _ _ eC.out.1
 replace gP:eT=0:=Decidable.not_not.1 gP;have fO:(eT != 0)=false:=bne_eq_false_iff_eq.2 gP;go_upto_region 19 with(fail)
 clear fO;have hR:=jd.out.dir sw.out 11 (by omega);have cZ:=Zg hR;clear hR;go_wp2_with (first|(refine wpList_load_mid rfl 37 (.tmp 83) rfl h 28 rfl [.int .i64 (rv 11),.int .i64 (sz 11)] _ cZ.out Tryz.underlying37 rfl (by kernel_rfl) ?_)|fail)
 refine(HB.out v4 jd.out.bel).mono ?_;rintro e u4 ⟨xe,rfl,dj,bP,iZ⟩;have dW:=jd.out.below bP;have jc:=Zg dW;have fV:=Zg (show ZE (P+1) (SB xe) u4 from iZ.less jd.out.lt);have bV:=Zg dj;have dp:=Zg (dp.out.below bP);have aO:=Zg (aO.out.below bP);have bM:=Zg (bM.out.below bP);have dY:=Zg (dY.out.below bP);clear dW iZ dj bP cZ;go_upto_region 20 with(first|(refine Xf rfl 30 (.tmp 88) (.tmp 86) rfl P 45 xe (by first|rfl|simp[Act.eval]) (by first|rfl|simp[Act.eval]) (jc.out.pe.there 45 1 (by omega)) (by kernel_rfl) bV.out ?_)|fail)
 have mU:Xl (fun k=>k≠P) u4 (u4.setCell ⟨P,45,none⟩ xe):=YK _ P 45 _;obtain⟨y5,qj⟩: ∃ y:PeV,{ y4 with bo:=xe }=y:=⟨_,rfl⟩;have dW:=jc.out.wrote (y':=y5) mU (by rw[<-qj]; exact jc.out.pe.bo xe) (by rw[<-qj]) (by rw[<-qj]);have dp:=Zg (dp.out.wrote (Nat.lt_succ_self P) mU);have aO:=Zg (aO.out.wrote (Nat.lt_succ_self P) mU);have bM:=Zg (bM.out.wrote (Nat.lt_succ_self P) mU);have dY:=Zg (dY.out.wrote (Nat.lt_succ_self P) mU);have fV:=Zg (fV.out.wrote (Nat.lt_succ_self P) mU);generalize u4.setCell ⟨P,45,none⟩ xe=v5 at *;have qk:=Zg dW;have gQ:=Zg qj;clear dW mU qj jc jd;by_cases jt: ¬ eB=0
 ·have cV:=Zfq eE eI eR eT eB eD eP eQ fP gP jt;have eC:=Zg (And.intro cV (show ¬ ZL eE eI eR eT eB eD=0 from by rw[cV]; exact jt));have fO:(eB != 0)=true:=bne_iff_ne.2 jt;clear cV eP eQ fP gP jt;have hq:=HQ.out _ _ qk.out;have jN:=Zg hq.1;have mT:=Zg hq.2;have cp:=Zg qk.out.bel;clear hq;go_wp2_with (first
   | (refine wpList_load_mid rfl 50 (.tmp 4) rfl (w.heap.size+1) 0 rfl ((List.range 50).map (peF peZ)) _ mT.out Tryz.underlying50 rfl (by rw[List.length_map,List.length_range]; kernel_rfl) ?_)
   | (refine wpList_store_row rfl 50 (.tmp 2) (.tmp 91) rfl w.heap.size (peC peZ) rfl rfl 50 (peC peZ) jN.out (by kernel_rfl) (Zu _) Wh ?_)
   | fail)
  refine bodyPost_ret (v:= .tuple #[.agg (peC peZ),.int .i64 eB]) (Zj rfl _ _ w.heap.size 50 _ (0,0) _ _ rfl rfl (setRow_heap _ _ _ _ _ _ jN.out) Tryz.underlying50 rfl (by rw[Zu]; kernel_rfl)) rfl ⟨below_setRow cp.out (Nat.le_refl _) _,?_⟩;have key: ∀ z U,ZL eE eI eR eT eB eD=z->WA w N IM HG (ZL eE eI eR eT eB eD) SE SI SR ST SB SD (.returned (.tuple #[.agg (peC peZ),.int .i64 z])) U:=fun z U hz=>by subst hz; exact .bad eC.out.2
  exact key _ _ eC.out.1
 replace jt:eB=0:=Decidable.not_not.1 jt;have fO:(eB != 0)=false:=bne_eq_false_iff_eq.2 jt;go_upto_region 22 with(fail)
 clear fO;have hR:=qk.out.dir sw.out 13 (by omega);have cZ:=Zg hR;clear hR;go_wp2_with (first|(refine wpList_load_mid rfl 37 (.tmp 96) rfl h 32 rfl [.int .i64 (rv 13),.int .i64 (sz 13)] _ cZ.out Tryz.underlying37 rfl (by kernel_rfl) ?_)|fail)
 refine(HD.out v5 qk.out.bel).mono ?_;rintro e u5 ⟨xf,rfl,gG,cm,nO⟩;have dW:=qk.out.below cm;have CX:=Zg dW;have vV:=Zg (show ZE (P+1) (SD xf) u5 from nO.less qk.out.lt);have cx:=Zg gG;have dp:=Zg (dp.out.below cm);have aO:=Zg (aO.out.below cm);have bM:=Zg (bM.out.below cm);have dY:=Zg (dY.out.below cm);have fV:=Zg (fV.out.below cm);clear dW nO gG cm cZ;go_upto_region 23 with(first|(refine Xf rfl 46 (.tmp 101) (.tmp 99) rfl P 44 xf (by first|rfl|simp[Act.eval]) (by first|rfl|simp[Act.eval]) (CX.out.pe.there 44 1 (by omega)) (by kernel_rfl) cx.out ?_)|fail)
 have lr:Xl (fun k=>k≠P) u5 (u5.setCell ⟨P,44,none⟩ xf):=YK _ P 44 _;obtain⟨y6,Br⟩: ∃ y:PeV,{ y5 with de:=xf }=y:=⟨_,rfl⟩;have dW:=CX.out.wrote (y':=y6) lr (by rw[<-Br]; exact CX.out.pe.de xf) (by rw[<-Br]) (by rw[<-Br]);have dp:=Zg (dp.out.wrote (Nat.lt_succ_self P) lr);have aO:=Zg (aO.out.wrote (Nat.lt_succ_self P) lr);have bM:=Zg (bM.out.wrote (Nat.lt_succ_self P) lr);have dY:=Zg (dY.out.wrote (Nat.lt_succ_self P) lr);have fV:=Zg (fV.out.wrote (Nat.lt_succ_self P) lr);have vV:=Zg (vV.out.wrote (Nat.lt_succ_self P) lr);generalize u5.setCell ⟨P,44,none⟩ xf=v6 at *;have ke:=Zg dW;have lv:=Zg Br;clear dW lr Br CX qk;by_cases ui: ¬ eD=0
 ·have cV:=Zas eE eI eR eT eB eD eP eQ fP gP jt;have eC:=Zg (And.intro cV (show ¬ ZL eE eI eR eT eB eD=0 from by rw[cV]; exact ui));have fO:(eD != 0)=true:=bne_iff_ne.2 ui;clear cV eP eQ fP gP jt ui;have hq:=HQ.out _ _ ke.out;have jN:=Zg hq.1;have mT:=Zg hq.2;have cp:=Zg ke.out.bel;clear hq;go_wp2_with (first
   | (refine wpList_load_mid rfl 50 (.tmp 4) rfl (w.heap.size+1) 0 rfl ((List.range 50).map (peF peZ)) _ mT.out Tryz.underlying50 rfl (by rw[List.length_map,List.length_range]; kernel_rfl) ?_)
   | (refine wpList_store_row rfl 50 (.tmp 2) (.tmp 104) rfl w.heap.size (peC peZ) rfl rfl 50 (peC peZ) jN.out (by kernel_rfl) (Zu _) Wh ?_)
   | fail)
  refine bodyPost_ret (v:= .tuple #[.agg (peC peZ),.int .i64 eD]) (Zj rfl _ _ w.heap.size 50 _ (0,0) _ _ rfl rfl (setRow_heap _ _ _ _ _ _ jN.out) Tryz.underlying50 rfl (by rw[Zu]; kernel_rfl)) rfl ⟨below_setRow cp.out (Nat.le_refl _) _,?_⟩;have key: ∀ z U,ZL eE eI eR eT eB eD=z->WA w N IM HG (ZL eE eI eR eT eB eD) SE SI SR ST SB SD (.returned (.tuple #[.agg (peC peZ),.int .i64 z])) U:=fun z U hz=>by subst hz; exact .bad eC.out.2
  exact key _ _ eC.out.1
 replace ui:eD=0:=Decidable.not_not.1 ui;have fO:(eD != 0)=false:=bne_eq_false_iff_eq.2 ui;have eC:=Zg (show ZL eE eI eR eT eB eD=0 from by exact(Zas eE eI eR eT eB eD eP eQ fP gP jt).trans ui);clear eP eQ fP gP jt ui;have hq:=HQ.out _ _ ke.out;have jN:=Zg hq.1;clear hq;have mT:=Zg (WV v6 P y6 fun j hj=>Own.cell ke.out.pe hj);have Bo:(peC y6).all (·.oneCell')=true:=Zau y6 (fun j hj=>by rw[ke.out.hd]; exact jm.out j hj) (by rw[ke.out.img]; rfl) (by
  rw[<-lv.out,<-gQ.out,<-me.out,<-oz.out,<-rh.out,<-cK.out]; exact⟨ft.out,cW.out,bQ.out,cT.out,bV.out,cx.out⟩)
 go_wp2_with (first
  | (refine wpList_load_mid rfl 50 (.tmp 8) rfl P 0 rfl ((List.range 50).map (peF y6)) _ mT.out Tryz.underlying50 rfl (by rw[List.length_map,List.length_range]; kernel_rfl) ?_)
  | (refine wpList_store_row rfl 50 (.tmp 2) (.tmp 106) rfl w.heap.size (peC y6) rfl rfl 50 (peC peZ) jN.out (by kernel_rfl) (by rw[Zu,Zu]) Bo ?_)
  | fail)
 refine bodyPost_ret (v:= .tuple #[.agg (peC y6),.int .i64 0]) (Zj rfl _ _ w.heap.size 50 _ (0,0) _ _ rfl rfl (setRow_heap _ _ _ _ _ _ jN.out) Tryz.underlying50 rfl (by rw[Zu]; kernel_rfl)) rfl ⟨below_setRow ke.out.bel (Nat.le_refl _) _,?_⟩;have hk:=Xl.setRow_ne v6 w.heap.size (peC y6);have af:=ke.out.h1;have yb:w.heap.size<P+1:=by have:=ke.out.h2; have:=ke.out.h3; omega
 refine .good eC.out y6 ((List.range 39).map hd).toArray gi C (P+1) ⟨w2,FX.out,jA.out,(ke.out.kept.mono (fun k hk=>hk.1)).trans (hk.mono (fun k hk=>hk.2))⟩ (fun j hj=>by simp[hj,ke.out.hd]) ke.out.img (ke.out.ho.of_block hk.size (hk.block gi (by have:=ke.out.h5; omega))) (by omega) ?_ ?_ ?_ ?_ ?_ ?_
 ·have hq:SE y6.e0 y6.e1 y6.e2=SE a0 b0 c0:=by first|(rw[<-lv.out,<-gQ.out,<-me.out,<-oz.out,<-rh.out,<-cK.out]; done)|(rw[<-lv.out,<-gQ.out,<-me.out,<-oz.out,<-rh.out,<-cK.out]; rfl)
  rw[hq]; exact dp.out.wrote yb hk
 ·have hq:SI y6.im=SI xb:=by first|(rw[<-lv.out,<-gQ.out,<-me.out,<-oz.out,<-rh.out]; done)|(rw[<-lv.out,<-gQ.out,<-me.out,<-oz.out,<-rh.out]; rfl)
  rw[hq]; exact aO.out.wrote yb hk
 ·have hq:SR y6.re=SR xc:=by first|(rw[<-lv.out,<-gQ.out,<-me.out,<-oz.out]; done)|(rw[<-lv.out,<-gQ.out,<-me.out,<-oz.out]; rfl)
  rw[hq]; exact bM.out.wrote yb hk
 ·have hq:ST y6.t0 y6.t1 y6.t2=ST a3 b3 c3:=by first|(rw[<-lv.out,<-gQ.out,<-me.out]; done)|(rw[<-lv.out,<-gQ.out,<-me.out]; rfl)
  rw[hq]; exact dY.out.wrote yb hk
 ·have hq:SB y6.bo=SB xe:=by first|(rw[<-lv.out,<-gQ.out]; done)|(rw[<-lv.out,<-gQ.out]; rfl)
  rw[hq]; exact fV.out.wrote yb hk
 ·have hq:SD y6.de=SD xf:=by first|(rw[<-lv.out]; done)|(rw[<-lv.out]; rfl)
  rw[hq]; exact vV.out.wrote yb hk
theorem QL {b:List Nat} {rva size ak:Nat}: ∀(k i:Nat) (acc l:List FnV),YV b rva size ak k i acc=some l->l.length=acc.length+k
 | 0,_,acc,l,h=>by simp only[YV,Option.some.injEq] at h; subst h; rfl
 | k+1,i,acc,l,h=>by
   simp only[YV] at h;split at h
   ·exact absurd h (by simp)
   ·have:=QL k (i+1) _ l h;simp at this;omega
theorem QM {b:List Nat} {atN atI funcs:Nat}: ∀(k i:Nat) (last:List Nat) (acc l:List NmV),Xw b atN atI funcs k i last acc=some l->l.length=acc.length+k
 | 0,_,_,acc,l,h=>by simp only[Xw,Option.some.injEq] at h; subst h; rfl
 | k+1,i,last,acc,l,h=>by
   simp only[Xw] at h;split at h
   ·exact absurd h (by simp)
   ·split at h
    ·split at h
     ·exact absurd h (by simp)
     ·split at h
      ·have:=QM k (i+1) _ _ l h;simp at this;omega
      ·exact absurd h (by simp)
    ·exact absurd h (by simp)
theorem QN {b:List Nat} {rva size:Int} {x:Zib} (h:Xc b rva size=some x):x.2.1.length<=256/\x.2.2.length<=256:=by
 unfold Xc at h;split at h
 ·simp only[Option.some.injEq] at h; subst h; simp
 ·split at h
  ·exact absurd h (by simp)
  ·rename_i r hr;have hk:=Qk hr;split at h
   ·exact absurd h (by simp)
   ·rename_i f hf;split at h
    ·exact absurd h (by simp)
    ·rename_i n hn;simp only[Option.some.injEq] at h;subst h;have h1:=QL _ _ _ _ hf;have h2:=QM _ _ _ _ _ hn;simp at h1 h2;exact⟨by simp only; omega,by simp only; omega⟩
theorem Zc1 {b:List Nat} {ak iat:Nat}: ∀(n:Nat) (acc l:List XV),WM b ak iat n acc=some l->l.length<=acc.length+n
 | 0,acc,l,h=>by simp[WM] at h
 | n+1,acc,l,h=>by
   simp only[WM] at h;split at h
   ·split at h
    ·simp only[Option.some.injEq] at h; subst h; omega
    ·split at h
     ·split at h
      ·exact absurd h (by simp)
      ·have:=Zc1 n _ l h;simp at this;omega
     ·exact absurd h (by simp)
   ·exact absurd h (by simp)
theorem Zmp {b:List Nat} {x:Ds} {v:Jf} (h:Zda b x=some v):v.syms.length<=66:=by
 unfold Zda at h;split at h
 ·exact absurd h (by simp)
 ·split at h
  ·split at h
   ·exact absurd h (by simp)
   ·split at h
    ·exact absurd h (by simp)
    ·rename_i l hl;simp only[Option.some.injEq] at h;subst h;have:=Zc1 _ _ _ hl;simpa using this
  ·exact absurd h (by simp)
theorem Zc2 {b:List Nat} {n:Nat} {rd:List Nat->Nat->Ds}: ∀(k o:Nat) (acc l:List Jf),WE b n rd k o acc=some l->l.length<=acc.length+k/\ ∀ v∈l,v∈acc\/v.syms.length<=66
 | 0,_,acc,l,h=>by simp[WE] at h
 | k+1,o,acc,l,h=>by
   simp only[WE] at h;split at h
   ·simp only[Option.some.injEq] at h; subst h; exact⟨by omega,fun v hv=> .inl hv⟩
   ·split at h
    ·split at h
     ·exact absurd h (by simp)
     ·rename_i v hv;obtain⟨h1,h2⟩:=Zc2 k _ _ l h;refine⟨by simp at h1; omega,fun u hu=> ?_⟩;rcases h2 u hu with q|q
      ·rcases List.mem_append.1 q with q|q
       ·exact .inl q
       ·simp at q; subst q; exact .inr (Zmp hv)
      ·exact .inr q
    ·exact absurd h (by simp)
theorem UD {b:List Nat} {rva n:Nat} {rd:List Nat->Nat->Ds} {l:List Jf} (h:ZU b rva n rd=some l):l.length<=18/\ ∀ v∈l,v.syms.length<=66:=by
 unfold ZU at h;split at h
 ·simp only[Option.some.injEq] at h; subst h; simp
 ·obtain⟨h1,h2⟩:=Zc2 _ _ _ _ h;exact⟨by simpa using h1,fun v hv=>(h2 v hv).elim (fun q=>by simp at q) (fun q=>q)⟩
theorem QO {b:List Nat} {rva:Nat}: ∀(k o bl:Nat) (acc l:List Zge),XW b rva k o bl acc=some l->l.length<=acc.length+k
 | 0,_,_,acc,l,h=>by simp[XW] at h
 | k+1,o,bl,acc,l,h=>by
   simp only[XW] at h;split at h
   ·simp only[Option.some.injEq] at h; subst h; omega
   ·split at h
    ·exact absurd h (by simp)
    ·split at h
     ·exact absurd h (by simp)
     ·have:=QO k _ _ _ l h;simp at this;omega
theorem Zhd {b:List Nat} {rva:Nat} {l:List Zge} (h:Xa b rva=some l):l.length<=33:=by
 unfold Xa at h;split at h
 ·simp only[Option.some.injEq] at h; subst h; simp
 ·have:=QO _ _ _ _ _ h;simpa using this
theorem QP {n:Nat} {f:Nat->Int} {base:Int} {D:Nat}: ∀(k:Nat) (acc l:List Int),WW n f base D k acc=some l->l.length<=acc.length+k
 | 0,acc,l,h=>by simp[WW] at h
 | k+1,acc,l,h=>by
   simp only[WW] at h;split at h
   ·exact absurd h (by simp)
   ·split at h
    ·simp only[Option.some.injEq] at h; subst h; omega
    ·split at h
     ·exact absurd h (by simp)
     ·have:=QP k _ l h;simp at this;omega
theorem Zmq {n:Nat} {f:Nat->Int} {rva:Nat} {base:Int} {x:Bool × Int × List Int} (h:rf n f rva base=some x):x.2.2.length<=9:=by
 unfold rf at h;split at h
 ·simp only[Option.some.injEq] at h; subst h; simp
 ·split at h
  ·exact absurd h (by simp)
  ·split at h
   ·exact absurd h (by simp)
   ·split at h
    ·exact absurd h (by simp)
    ·rename_i l hl;simp only[Option.some.injEq] at h;subst h;split at hl
     ·simp only[Option.some.injEq] at hl; subst hl; simp
     ·have:=QP _ _ _ hl;simpa using this
theorem Vn {α :Type} {R:Option α} {e:Int} (h:erO R e=0) (he:e≠0): ∃ x,R=some x:=by
 cases R with
 | none=>exact absurd h he
 | some x=>exact⟨x,rfl⟩
theorem Zel {a b c d e f:Int} (h:ZL a b c d e f=0):a=0/\b=0/\c=0/\d=0/\e=0/\f=0:=by
 unfold ZL at h;split at h
 ·contradiction
 ·split at h
  ·contradiction
  ·split at h
   ·contradiction
   ·split at h
    ·contradiction
    ·split at h
     ·contradiction
     ·exact⟨by omega,by omega,by omega,by omega,by omega,h⟩
def peE (N:Nat) (IM:Nat->Int) (D:Nat->Nat × Nat) (B:Int):Int :=
 ZL (erO (Xc (Xj N IM) (D 0).1 (D 0).2) 11) (erO (ZU (Xj N IM) (D 1).1 20 ZT) 10) (erO (YU N IM (D 5).1 (D 5).2) 9) (erO (qF N IM (D 9).1 B) 12) (erO (Xa (Xj N IM) (D 11).1) 8) (erO (ZU (Xj N IM) (D 13).1 32 Yl) 10)
theorem Zem (b off n cap:Nat) (f:Nat->Int) (w:World) (h:Wj w b off n cap f) (hE:ZI n f=0) (N hd:Nat) (hN:(Zw f (headP n f)).size=N) (jj:(Zw f (headP n f)).headers=hd)
 (IM:Nat->Int) (pb:Znf N f n hd (ZM f (headP n f+264) (headK n f))=IM) (D:Nat->Nat × Nat) (hD: ∀ i,(Zw f (headP n f)).dirs i=(((D i).1:Int),((D i).2:Int))/\(D i).1<4294967296/\(D i).2<4294967296) (B:Int) (hB:(Zw f (headP n f)).base=B) :
 Calls Tryz.prog 11 #[.slice (some ⟨b,off,none⟩) n cap] w fun x u=>Below w.heap.size w u/\Zck w N IM (Zld n f) (peE N IM D B) (ExpS w.heap.size (Xc (Xj N IM) (D 0).1 (D 0).2)) (Znh w.heap.size (ZU (Xj N IM) (D 1).1 20 ZT)) (Zc6 Wk 2 82 w.heap.size (YU N IM (D 5).1 (D 5).2)) (TlsS w.heap.size (qF N IM (D 9).1 B)) (Zc6 bC 2 80 w.heap.size (Xa (Xj N IM) (D 11).1)) (Znh w.heap.size (ZU (Xj N IM) (D 13).1 32 Yl)) x u:=by
 obtain⟨gx,hk⟩:=Zbs b off n cap f w h hE N hd hN jj;have jr:=ZR f h.by255 8 (headP n f+48);rw[show(256:Int) ^ 8=18446744073709551616 by rfl] at jr;have aC:(Zw f (headP n f)).base=rdF f (headP n f+48) 8:=rfl;rw[hB] at aC;rw[pb,hB] at hk;unfold peE;refine UL _ N IM (Zld n f) _ _ B w hk _ _ _ _ _ _ _ _ _ _ _ _ ?_ ?_ ?_ ?_ ?_ ?_
 ·simp only[(hD 0).1]; exact Zkl w N IM gx _ _ (by omega) (by have:=(hD 0).2.1; omega) (by omega) (by have:=(hD 0).2.2; omega)
 ·simp only[(hD 1).1]; exact Zkm w N IM gx _ _ (hD 1).2.1
 ·simp only[(hD 5).1]; exact Zko w N IM gx _ _ (by omega) (by have:=(hD 5).2.1; omega) (by omega) (by have:=(hD 5).2.2; omega)
 ·simp only[(hD 9).1]; exact Zkq w N IM gx _ _ _ (hD 9).2.1 (by omega) (by omega)
 ·simp only[(hD 11).1]; exact Zkp w N IM gx _ _ (hD 11).2.1
 ·simp only[(hD 13).1]; exact Zkn w N IM gx _ _ (hD 13).2.1
noncomputable def UV:Code:=(Tryz.f26.body).getD .skip
open Classical in
noncomputable def Zf5 (n:Nat) (f:Nat->Int) (P K:Nat) (h:ZX):Int :=
 if ¬ Yo h.size n (ZS h.headers 4096) (ZM f (P+264) K) then 7 else if h.size<=h.entry then 5 else 0
open Classical in
noncomputable def Zf6 (n:Nat) (f:Nat->Int) (P:Nat) (h:ZX):Int :=
 if ¬ Ys n P h.headers (rdF f (P+6) 2) then 7 else Zf5 n f P (rdF f (P+6) 2).toNat h
open Classical in
noncomputable def Zc3 (n:Nat) (f:Nat->Int) (P:Nat) (h:ZX):Int :=
 if ¬ XS f P h.base h.size then 6 else Zf6 n f P h
theorem Zkh {n:Nat} {f:Nat->Int} {P:Nat} {e:Int} (h1:Zv n f=((P:Int),0)) (h2:Qz f P=e) (h3:e≠0):ZI n f=e:=by
 unfold ZI;rw[if_neg (by rw[h1]; simp),if_pos (by rw[h1]; simp[h2,h3]),h1];exact h2
noncomputable def Ui (n:Nat) (f:Nat->Int) (P:Nat) (h:ZX):Int:=Zc3 n f P h
theorem Zki {n:Nat} {f:Nat->Int} {P:Nat} {h:ZX} (k:XS f P h.base h.size):Ui n f P h=Zf6 n f P h:=by
 unfold Ui Zc3; rw[if_neg (fun hn=>hn k)]
theorem Zmr {n:Nat} {f:Nat->Int} {P:Nat} {h:ZX} (k: ¬ XS f P h.base h.size):Ui n f P h=6:=by
 unfold Ui Zc3; rw[if_pos k]
theorem Zot {n:Nat} {f:Nat->Int} {P:Nat} (h1:Zv n f=((P:Int),0)) (h2:Qz f P=0):ZI n f=Zc3 n f P (Zw f P):=by
 unfold ZI;rw[if_neg (by rw[h1]; simp),if_neg (by rw[h1]; simp[h2])];rw[h1];rfl
def QF (S:ByteArray) (f:Nat->Int) (w:World):Exit->Act->World->Prop :=
 bodyPost Tryz.prog Tryz.f26 fun e w'=>(∃ v,e= .returned v/\Zog w' S.size f v)/\Below w.heap.size w w'
structure RC (S:ByteArray) (f:Nat->Int) (h:ZX) (nx N0:Int) (SL TK:List Zx) (s:Zx) (P K i o:Nat):Prop where
 hs:S.size<=1000000
 hf:PlainAid.bt S=f
 f255:Zm f
 e8: ¬ Yo h.size S.size N0 SL->ZI S.size f=7
 ch:Yo h.size S.size N0 SL↔Yo h.size S.size nx (SL.drop i)
 dr:SL.drop i=s::SL.drop (i+1)
 tk:SL.take (i+1)=TK++[s]
 len:TK.length=i
 ss:Xm f o=s
 sb:JU s
 oS:o+40<=S.size
 ho:P+264+40 * i=o
 x0:0<=nx
 x1:nx<=4294967296+i * 4294967296
 lt:i<K
 k16:K<=16
 hp:P<4294967296
noncomputable def lp2:Code:=Zi4 (JB (Yc 1 (YF (Yc 16 UV))))
noncomputable def bl3:Code:=JB (YF (Yc 1 lp2))
def Zc4 (h:ZX):Prop:= ∀ i,i<16->0<=(h.dirs i).1/\(h.dirs i).1<=4294967296/\0<=(h.dirs i).2/\(h.dirs i).2<=4294967296
def Zen (h h':ZX):Prop:= ∀ i,i<16->h.dirs i=h'.dirs i
def Zkj (h h':ZX):Prop:=h.base=h'.base/\h.stamp=h'.stamp/\h.chars=h'.chars/\h.entry=h'.entry/\h.size=h'.size/\h.headers=h'.headers/\Zen h h'
def Zf7 (h:ZX):List Lit:=[.int .i64 (h.dirs 0).1,.int .i64 (h.dirs 0).2,.int .i64 (h.dirs 1).1,.int .i64 (h.dirs 1).2,.int .i64 (h.dirs 2).1,.int .i64 (h.dirs 2).2,.int .i64 (h.dirs 3).1,.int .i64 (h.dirs 3).2,.int .i64 (h.dirs 4).1,.int .i64 (h.dirs 4).2,.int .i64 (h.dirs 5).1,.int .i64 (h.dirs 5).2,.int .i64 (h.dirs 6).1,.int .i64 (h.dirs 6).2,.int .i64 (h.dirs 7).1,.int .i64 (h.dirs 7).2,.int .i64 (h.dirs 8).1,.int .i64 (h.dirs 8).2,.int .i64 (h.dirs 9).1,.int .i64 (h.dirs 9).2,.int .i64 (h.dirs 10).1,.int .i64 (h.dirs 10).2,.int .i64 (h.dirs 11).1,.int .i64 (h.dirs 11).2,.int .i64 (h.dirs 12).1,.int .i64 (h.dirs 12).2,.int .i64 (h.dirs 13).1,.int .i64 (h.dirs 13).2,.int .i64 (h.dirs 14).1,.int .i64 (h.dirs 14).2,.int .i64 (h.dirs 15).1,.int .i64 (h.dirs 15).2]
theorem Zf8 (h:ZX) (hb:Zc4 h):Tryz.prog.keyLits 10 38 (Value.agg (Ub h).toArray).cells.toList=some (Zf7 h):=by
 have hw: ∀ z:Int,0<=z->z<=4294967296->(Lit.int .i64 z).wf=true:=fun z h0 h1=>by
  simp[Lit.wf,IntKind.min,IntKind.max,IntKind.bits,IntKind.signed];omega
 have hp: ∀ i,i<16->Tryz.prog.keyLits 9 37 [.int .i64 (h.dirs i).1,.int .i64 (h.dirs i).2]=some [.int .i64 (h.dirs i).1,.int .i64 (h.dirs i).2]:=fun i hi=>by
  obtain⟨h1,h2,h3,h4⟩:=hb i hi;exact Zcm _ _ 7 (hw _ h1 h2) (hw _ h3 h4)
 have Ap:Tryz.prog.cellsOf 37=2:=by kernel_rfl
 have FA:Tryz.prog.cellsOf 38=32:=by kernel_rfl
 have hr:List.range 16=[0,1,2,3,4,5,6,7,8,9,10,11,12,13,14,15]:=rfl;have hc:(Value.agg (Ub h).toArray).cells.toList=Ub h:=rfl;rw[hc];unfold Program.keyLits;rw[Tryz.underlying38];simp only[FA,Ap,hr];rw[if_pos (by rfl)];simp only[List.mapM_cons,List.mapM_nil,Ub,List.drop_zero,List.drop_succ_cons,List.take_succ_cons,List.take_zero,Nat.zero_mul,Nat.one_mul,Nat.reduceMul];rw[hp 0 (by omega),hp 1 (by omega),hp 2 (by omega),hp 3 (by omega),hp 4 (by omega),hp 5 (by omega),hp 6 (by omega),hp 7 (by omega),hp 8 (by omega),hp 9 (by omega),hp 10 (by omega),hp 11 (by omega),hp 12 (by omega),hp 13 (by omega),hp 14 (by omega),hp 15 (by omega)];rfl
theorem Zc5 (h h':ZX):Zf7 h=Zf7 h'↔Zen h h':=by
 unfold Zf7 Zen;simp only[List.cons.injEq,Lit.int.injEq,true_and,and_true];constructor
 ·intro q i hi;obtain⟨a0,b0,a1,b1,a2,b2,a3,b3,a4,b4,a5,b5,a6,b6,a7,b7,a8,b8,a9,b9,Ow,sW,Ox,Oy,a12,Oz,OA,OB,OC,OD,OE,OG⟩:=q;rcases(by omega:i=0\/i=1\/i=2\/i=3\/i=4\/i=5\/i=6\/i=7\/i=8\/i=9\/i=10\/i=11\/i=12\/i=13\/i=14\/i=15) with rfl|rfl|rfl|rfl|rfl|rfl|rfl|rfl|rfl|rfl|rfl|rfl|rfl|rfl|rfl|rfl
  ·exact Prod.ext a0 b0
  ·exact Prod.ext a1 b1
  ·exact Prod.ext a2 b2
  ·exact Prod.ext a3 b3
  ·exact Prod.ext a4 b4
  ·exact Prod.ext a5 b5
  ·exact Prod.ext a6 b6
  ·exact Prod.ext a7 b7
  ·exact Prod.ext a8 b8
  ·exact Prod.ext a9 b9
  ·exact Prod.ext Ow sW
  ·exact Prod.ext Ox Oy
  ·exact Prod.ext a12 Oz
  ·exact Prod.ext OA OB
  ·exact Prod.ext OC OD
  ·exact Prod.ext OE OG
 ·intro q;have k:=fun i (hi:i<16)=>Prod.ext_iff.1 (q i hi);exact⟨(k 0 (by omega)).1,(k 0 (by omega)).2,(k 1 (by omega)).1,(k 1 (by omega)).2,(k 2 (by omega)).1,(k 2 (by omega)).2,(k 3 (by omega)).1,(k 3 (by omega)).2,(k 4 (by omega)).1,(k 4 (by omega)).2,(k 5 (by omega)).1,(k 5 (by omega)).2,(k 6 (by omega)).1,(k 6 (by omega)).2,(k 7 (by omega)).1,(k 7 (by omega)).2,(k 8 (by omega)).1,(k 8 (by omega)).2,(k 9 (by omega)).1,(k 9 (by omega)).2,(k 10 (by omega)).1,(k 10 (by omega)).2,(k 11 (by omega)).1,(k 11 (by omega)).2,(k 12 (by omega)).1,(k 12 (by omega)).2,(k 13 (by omega)).1,(k 13 (by omega)).2,(k 14 (by omega)).1,(k 14 (by omega)).2,(k 15 (by omega)).1,(k 15 (by omega)).2⟩
theorem Zms (h h':ZX) (hb:Zc4 h) (dD:Zc4 h'): ∃ r:Bool,(∀ W,(Op.equalIn 10000 38 (.agg (Ub h).toArray) (.agg (Ub h').toArray)).run Tryz.prog W= .ok r W)/\(r=true↔Zen h h'):=by
 have hf: ∀ h:ZX,(Value.agg (Ub h).toArray).formed Tryz.prog 38=true:=fun h=>by rfl
 have hk:=Zf8 h hb;have gH:=Zf8 h' dD;classical
 by_cases c:Zen h h'
 ·refine⟨true,fun W=> ?_,by simp[c]⟩;obtain⟨r,hr,hi⟩:=run_equalIn_deep (P:=Tryz.prog) 9990 10 38 (by kernel_rfl) W 10 10 _ _ _ _ (hf h) (hf h') hk gH;rw[hi.2 ((Zc5 h h').2 c)] at hr;exact hr
 ·refine⟨false,fun W=> ?_,by simp[c]⟩;obtain⟨r,hr,hi⟩:=run_equalIn_deep (P:=Tryz.prog) 9990 10 38 (by kernel_rfl) W 10 10 _ _ _ _ (hf h) (hf h') hk gH;have:r=false:=by
   cases r
   ·rfl
   ·exact absurd ((Zc5 h h').1 (hi.1 rfl)) c
  rw[this] at hr;exact hr
end Go.Proofs.YtplgdpjbkdagfaaGreat
