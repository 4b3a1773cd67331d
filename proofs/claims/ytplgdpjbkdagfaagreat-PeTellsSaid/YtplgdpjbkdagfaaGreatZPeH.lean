import Derived.Test.YtplgdpjbkdagfaaGreatZPeE
import Derived.Test.YtplgdpjbkdagfaaGreatZMd
import Derived.Test.YtplgdpjbkdagfaaGreatZRHdB6
import Derived.Test.YtplgdpjbkdagfaaGreatZOwnT
import Derived.Deep.Cut
import Derived.Deep.Upon
import Derived.Test.YtplgdpjbkdagfaaGreatZAwake1
import Derived.Test.YtplgdpjbkdagfaaGreatZPeEqB
namespace Go.Proofs.YtplgdpjbkdagfaaGreat
set_option maxHeartbeats 8000000
open List renaming getElem?_toArray→Za, setIfInBounds_toArray→Zd, set_cons_zero→Ze, set_cons_succ→Zf
open Lib renaming hid→Zg
open Go.ChangeShapes Go.WideShapes Go.ChangeAt Go.RowKit
set_option linter.unusedVariables false
set_option linter.unusedSimpArgs false
set_option maxRecDepth 100000
def Zjg:Value:= .agg #[.int .i64 0,.slice none 0 0,.slice none 0 0,.slice none 0 0,.slice none 0 0,.slice none 0 0,.slice none 0 0,.int .i64 0,.slice none 0 0]
theorem Znc {w:World} {n:Nat} {f F:Nat->Int} {v:Value} (h:Zog w n f v) (x:Vx L12 1 F) (hs:YB 1 F f) (hn:8704<=n) :
 ∃ cs b off c,v= .tuple #[.agg cs,.int .i64 0]/\cs.size=39/\cs.all (·.oneCell')=true/\cs[38]? =some (.slice (some ⟨b,off,none⟩) 1 c)/\b<w.heap.size/\w.cell? ⟨b,off+4,none⟩=some (.int .i64 1024):=by
 have h0:=hs.ok x n (by rw[at12]; exact hn) (by omega) (by omega);have hp:=hs.headP x n (by omega);have hk:=hs.headK x n (by omega);obtain⟨cs,hv,⟨k,_⟩|⟨_,sv,h1,A,c,rfl,h3,_⟩⟩:=h
 ·exact absurd h0 k
 rw[h0] at hv;rw[hp,hk] at h1 h3;rw[show 64+264=328 by rfl,hs.sects] at h1 h3;have hl:(ZM F 328 1)=[Xm F 328]:=rfl;have tN:=x.all.sect (i:=0) (by omega);rw[show 328+40 * 0=328 by rfl] at tN;rw[hl] at h1 h3;rcases h3 with h3|⟨b,off,rfl,af,hc⟩
 ·simp at h3
 have hq:=hc 0 (by simp) 4 (.int .i64 1024) (by
  show(Xm F 328).cells[4]? =_
  rw[tN]; rfl)
 exact⟨cs,b,off,c,hv,h1.size,h1.one rfl,h1.c38,af,by rw[show off+4=off+(0 * 6+4) by omega]; exact hq⟩
theorem Zgz (w:World):Calls Tryz.prog 8 #[Zjg,.int .i64 15] w fun e u =>
 ∃ g c F,e= .returned (.slice (some ⟨g,0,none⟩) 8704 c)/\YA u w.heap.size g 8704 c (XH F 1024 64 (fun _=>0))/\Vx L12 1 F/\Below w.heap.size w u:=by
 unfold Zjg;go_enter Tryz.func8,Tryz.ntmps8;go_wp2_with fail
 have bO:Below w.heap.size w ((w.alloc (.cells #[.int .i64 0,.slice none 0 0,.slice none 0 0,.slice none 0 0,.slice none 0 0,.slice none 0 0,.slice none 0 0,.int .i64 0,.slice none 0 0] 32)).alloc (.cells #[.int .i64 12287,.int .i64 8191,.int .i64 7] 88)):=((Below.refl w.heap.size w).alloc (Nat.le_refl _) _).alloc (by simp) _;have pJ:SlT Zg3 3 ((w.alloc (.cells #[.int .i64 0,.slice none 0 0,.slice none 0 0,.slice none 0 0,.slice none 0 0,.slice none 0 0,.slice none 0 0,.int .i64 0,.slice none 0 0] 32)).alloc (.cells #[.int .i64 12287,.int .i64 8191,.int .i64 7] 88)) (some ⟨w.heap.size+1,0,none⟩) [(12287,8191,7)]:=by
  refine .inr ⟨w.heap.size+1,0,rfl,by simp,fun i hi j v hv=> ?_⟩;obtain rfl:i=0:=by simp at hi; exact hi
  have hz:=heap_alloc_new (w.alloc (.cells #[.int .i64 0,.slice none 0 0,.slice none 0 0,.slice none 0 0,.slice none 0 0,.slice none 0 0,.slice none 0 0,.int .i64 0,.slice none 0 0] 32)) (.cells #[.int .i64 12287,.int .i64 8191,.int .i64 7] 88);rw[show(w.alloc (.cells #[.int .i64 0,.slice none 0 0,.slice none 0 0,.slice none 0 0,.slice none 0 0,.slice none 0 0,.slice none 0 0,.int .i64 0,.slice none 0 0] 32)).heap.size=w.heap.size+1 by simp] at hz;rw[Zh hz];rw[show 0+(0 * 3+j)=j by omega];simpa [Zg3] using hv
 have nL:=Zg (show((w.alloc (.cells #[.int .i64 0,.slice none 0 0,.slice none 0 0,.slice none 0 0,.slice none 0 0,.slice none 0 0,.slice none 0 0,.int .i64 0,.slice none 0 0] 32)).alloc (.cells #[.int .i64 12287,.int .i64 8191,.int .i64 7] 88)).cell? ⟨w.heap.size,0,none⟩=some (.int .i64 0) from by
  rw[Zh ((((Below.refl _ _).alloc (Nat.le_refl _) _).block w.heap.size (by simp)).trans (heap_alloc_new w _))]; rfl)
 have ao:w.heap.size<((w.alloc (.cells #[.int .i64 0,.slice none 0 0,.slice none 0 0,.slice none 0 0,.slice none 0 0,.slice none 0 0,.slice none 0 0,.int .i64 0,.slice none 0 0] 32)).alloc (.cells #[.int .i64 12287,.int .i64 8191,.int .i64 7] 88)).heap.size:=by simp; omega
 generalize ((w.alloc (.cells #[.int .i64 0,.slice none 0 0,.slice none 0 0,.slice none 0 0,.slice none 0 0,.slice none 0 0,.slice none 0 0,.int .i64 0,.slice none 0 0] 32)).alloc (.cells #[.int .i64 12287,.int .i64 8191,.int .i64 7] 88))=w1 at *;have au:=Zg bO;refine(Zfv (some ⟨w.heap.size+1,0,none⟩) [(12287,8191,7)] 1 L12 (fun i=>by rcases i with _|i; exact .inl rfl; exact .inr (by simp)) w1 (by simp) pJ).mono ?_;rintro e w2 ⟨g,c,F,rfl,ho,hm,hb⟩;rw[show min [((12287,8191,7):VF)].length 6=1 by rfl] at ho hm ⊢;rw[at12] at ho ⊢;have bQ:=Zg (ho.weaken (base':=w.heap.size) bO.size);have HM:=Zg hm;have aj:=Zg (au.out.trans (hb.mono au.out.size));have tm:=Zg ((hb.cell (p:=⟨w.heap.size,0,none⟩) ao).trans nL.out);have bM:=Zg (show w.heap.size<w2.heap.size by have:=hb.size; omega);have dI:=YL (cap:=c) ho.row;have vz:=Zg (show YB 1 F (PlainAid.bt (ZB F 0 8704)) from fun q h1 h2=>by rw[XO ho.by255 (by omega),Nat.zero_add]);have eV:=Zg (Zr F 0 8704);generalize ZB F 0 8704=S at dI vz eV;clear pJ bO nL hb ho hm au ao;go_wp2_with fail
 refine(VP S w2 (by rw[eV.out]; omega)).mono ?_;rintro e w3 ⟨⟨v,rfl,hq⟩,hb⟩;obtain⟨cs,bs,off,c3,rfl,hz,aZ,zE,af,br⟩:=Znc hq HM.out vz.out (Nat.le_of_eq eV.out.symm);have cT:=Zg (bQ.out.below hb);have aN:=Zg (aj.out.trans (hb.mono aj.out.size));have tG:=Zg ((hb.cell (p:=⟨w.heap.size,0,none⟩) bM.out).trans tm.out);have dY:=Zg (show w.heap.size<w3.heap.size by have:=hb.size; have:=bM.out; omega);have nJ:=Zg (And.intro af br);have fm:=Zg zE;clear hq hb bQ aj tm vz eV dI zE af br bM;go_upto_region 3 with(refine wpList_store_row rfl 41 _ _ rfl w3.heap.size cs rfl rfl 41 _ (heap_alloc_new _ _) (by rw[hz]; rfl) (by rw[hz]; rfl) aZ ?_)
 rw[Yh];have j5:=setRow_heap (w3.alloc (.cells (Zl 0 0 0 0 0 0) 41)) w3.heap.size _ cs _ _ (heap_alloc_new _ _);have jq:Below w3.heap.size w3 ((w3.alloc (.cells (Zl 0 0 0 0 0 0) 41)).setRow w3.heap.size cs):=below_setRow ((Below.refl _ w3).alloc (Nat.le_refl _) _) (Nat.le_refl _) _;have bV:=Zg (cT.out.below jq);have bH:=Zg (aN.out.trans (jq.mono aN.out.size));have CB:=Zg ((jq.cell (p:=⟨w.heap.size,0,none⟩) dY.out).trans tG.out);have p9:=Zg ((jq.cell (p:=⟨bs,off+4,none⟩) nJ.out.1).trans nJ.out.2);have fV:=Zg (show bs<w3.heap.size/\w3.heap.size<((w3.alloc (.cells (Zl 0 0 0 0 0 0) 41)).setRow w3.heap.size cs).heap.size from⟨nJ.out.1,Zi j5⟩);have qK:=(cell_of_row _ _ 38 _ _ _ j5).trans fm.out;clear jq cT aN tG nJ fm hz aZ j5;generalize (w3.alloc (.cells (Zl 0 0 0 0 0 0) 41)).setRow w3.heap.size cs=w4 at *;generalize w3.heap.size=G at *;go_wp2_with (at_make; refine Yx rfl _ _ rfl w4.heap.size .i64 .i64 4160 rfl rfl (by omega) (Nat.le_refl _) ?_; intro w5 ho hb hs; have xV:=Zg ho; have ew:=Zg hb; clear ho hb hs)
 have cx:=Zg (bV.out.below ew.out);have bp:=Zg (bH.out.trans (ew.out.mono bH.out.size));have p5:=(ew.out.cell (p:=⟨w.heap.size,0,none⟩) (by have:=dY.out; have:=fV.out; show w.heap.size<w4.heap.size; omega)).trans CB.out;have Eu:=Zg ((ew.out.cell (p:=⟨G,38,none⟩) fV.out.2).trans qK);have Ev:=Zg ((ew.out.cell (p:=⟨bs,off+4,none⟩) (by have:=fV.out; show bs<w4.heap.size; omega)).trans p9.out);have KL:=Zg (show bs<w5.heap.size/\G<w5.heap.size from by have:=fV.out; have:=ew.out.size; omega);clear qK bV bH CB p9 fV dY;obtain⟨GA,Cf⟩: ∃ q,w4.heap.size=q:=⟨_,rfl⟩;rw[Cf] at xV ⊢;go_loopw [5,8,9] (fun v5 v8 v9 wr=> ∃ i:Nat,i<=6/\v9= .int .i64 i/\v5= .slice (some ⟨g,0,none⟩) 8704 c/\v8= .slice (some ⟨GA,0,none⟩) 4160 4160/\wr=w5) (fun _ _ v9 _=>6 - (intOf v9).toNat)
 case atStart=>exact⟨0,by omega,rfl,rfl,rfl,rfl⟩
 case round =>
  obtain⟨i,hi,rfl,rfl,rfl,rfl⟩:=hrel;rcases(by omega:i=6\/i=0\/i=1\/i=2\/i=3\/i=4\/i=5) with rfl|rfl|rfl|rfl|rfl|rfl|rfl
  ·
   go_upto_region 31 with fail
   have yo:=Zg (show Wj wr GA 4096 64 64 (fun _=>0) from⟨fun j hj=>by have:=xV.out.row (4096+j) (by omega); rw[Nat.zero_add] at this; exact this,fun _=>by omega,xV.out.lt,by omega,by omega⟩);have EE:=Zg (fun W (hW:Below wr.heap.size wr W)=>Zag g 0 8704 c F 1024 GA 4096 64 64 (fun _=>0) W (cx.out.below hW).rowB (yo.out.below hW) (by omega) (by omega) (by omega));have HS:=Zg (show Below wr.heap.size wr wr.drew from(Below.refl _ _).drew);refine wp_region_noPanic ?_;refine Zt (fun W=>Below wr.heap.size wr W) (fun _=>True) 99 (by kernel_rfl) ?_;refine wU (i:=0) HS.out ?_;refine wU (i:=1) HS.out ?_;refine wU (i:=2) HS.out ?_ (hy:=by refine Or.inl ⟨by rfl,?_⟩; intro W aL; have hk:=(aL.cell (p:=⟨G,38,none⟩) KL.out.2).trans Eu.out; clear aL; go_simp; try with_reducible rfl);refine wU (i:=3) HS.out ?_;refine wU (i:=4) HS.out ?_;refine wU (i:=5) HS.out ?_ (hy:=by refine Or.inl ⟨by rfl,?_⟩; intro W aL; have hk:=(aL.cell (p:=⟨bs,off+4,none⟩) KL.out.1).trans Ev.out; clear aL; go_simp; try with_reducible rfl);refine wU (i:=6) HS.out ?_;refine wU (i:=7) HS.out ?_;refine wO (i:=8) (fun K hK=> ?_);go_simp;go_at_call 9;refine(EE.out _ HS.out).mono ?_;rintro e w6 ⟨g6,c6,rfl,ho,hb⟩;have aF:=Zg (HS.out.trans (hb.mono HS.out.size));have dk:=Zg ho;refine hK.out _ _ aF.out (fun _=>trivial) ?_;clear hK K;try simp only[Act.put,Zd,Ze,Zf]
   refine wU (i:=9) aF.out ?_;refine Zo (by kernel_rfl) ?_ _;refine NoPanic.normal ?_;go_wp2_with fail
   go_ret;exact⟨g6,c6,F,rfl,dk.out.weaken (by have:=bp.out.size; have:=HS.out.size; omega),HM.out,bp.out.trans (aF.out.mono bp.out.size)⟩
  all_goals
   go_wp2_with fail
   go_roundw
   case rel=>exact⟨_,by decide,rfl,rfl,rfl,by first|trivial|rfl⟩
   case measure=>simp[intOf]
theorem JX {w:World} {ops:Array Oper} {rest:List Oper} {o:Oper} {a:Act} {Q:Exit->Act->World->Prop} (eu:o.guard=none) (s x:Operand)
 (ho:o.op= .call { callee:= .builtin .append,args:= #[s,x],argTypes:= #[25,25] })
 {base g n cap m c:Nat} {A:Option Addr} {f h:Nat->Int} (ae:YA w base g n cap f) (dE:SlB w A m h) (dF:Zm h) (oV:n+m<=1000000) (aH:base<=w.heap.size)
 (hv:a.eval s= .slice (some ⟨g,0,none⟩) n cap) (hx:a.eval x= .slice A m c)
 (hK: ∀ g' aA w',YA w' base g' (n+m) aA (VQ n f h)->Below base w w'->(∀ b,b<w.heap.size->b≠g->w'.heap[b]? =w.heap[b]?)->wpList Tryz.prog ops Q rest (a.put o.dst (.slice (some ⟨g',0,none⟩) (n+m) aA)) w'):wpList Tryz.prog ops Q (o::rest) a w:=by
 obtain⟨i0,hi,dQ,bw,ed⟩:=info_parts Ws;have hs:Src Tryz.prog i0.size 25 (.slice A m c) m (Zs m h) w:=by rw[bw]; exact Wp dE
 have bG: ∃ g' aA w',(Builtin.append_ #[25,25] o.type #[.slice (some ⟨g,0,none⟩) n cap,.slice A m c]).run Tryz.prog w= .ok (.slice (some ⟨g',0,none⟩) (n+m) aA) w'/\YA w' base g' (n+m) aA (VQ n f h)/\Below base w w'/\(∀ b,b<w.heap.size->b≠g->w'.heap[b]? =w.heap[b]?):=by
  by_cases cQ:n+m<=cap
  ·have aU: ∀ j,j<(Zs m h).length->(w.cell? ⟨g,n+j,none⟩).isSome=true:=fun j hj=>(ae.wr (n+j) (by rw[Zn] at hj; omega)).1;have hr:=run_append_room_src (P:=Tryz.prog) w 25 25 o.type 5 i0 Tryz.underlying25 hi g 0 n cap (.slice A m c) m _ hs cQ
    (fun j hj=>by rw[bw,Nat.mul_one,Nat.zero_add]; exact aU j hj) (fun j hj=>by rw[bw,Nat.mul_one,Nat.zero_add]; exact(ae.wr (n+j) (by rw[Zn] at hj; omega)).2)
   rw[bw,Nat.mul_one,Nat.zero_add] at hr;refine⟨_,_,_,hr,⟨ae.le,by rw[YD]; exact ae.lt,fun i hi=> ?_,Ze5 ae.by255 dF,cQ,ae.most,fun j hj=>⟨World.isSome_setCells _ _ _ _ _ (ae.wr j hj).1,by rw[World.frozen?_setCells]; exact(ae.wr j hj).2⟩⟩,Ya ae.le _ _ _ (Below.refl base w),fun b hb bK=>World.heap_setCells_other _ _ _ _ hb bK⟩;unfold VQ;rw[Nat.zero_add];by_cases e:i<n
   ·rw[if_pos e,World.cell?_setCells_out _ _ _ _ _ (fun _ _=> .inl e)];have:=ae.row i e;rwa [Nat.zero_add] at this
   ·rw[if_neg e];have:=World.cell?_setCells_in g (Zs m h) n w aU (i - n) (by rw[Zn]; omega);rw[show n+(i - n)=i by omega] at this;rw[this];simp[Zs]
  ·have hold:(Builtin.firstCells i0.size n (.slice (some ⟨g,0,none⟩) n cap)).run Tryz.prog w.drew= .ok (Zs n f).toArray w.drew:=by
    rw[bw];refine run_firstCells_some w.drew 1 n ⟨g,0,none⟩ n cap (Zs n f) (by rw[Zn,Nat.mul_one]) fun j u hu=> ?_;have hj:j<n:=by
     rcases Nat.lt_or_ge j n with hj|hj
     ·exact hj
     ·rw[List.getElem?_eq_none (by rw[Zn]; omega)] at hu; cases hu
    rw[ZN n f hj] at hu;injection hu with hu;subst hu;have cJ:(⟨g,0,none⟩:Addr).add j=⟨g,0+j,none⟩:=by unfold Addr.add; split <;> simp_all
    rw[cJ];exact ae.row j hj
   have hr:=run_append_grow_src (P:=Tryz.prog) w 25 25 o.type 5 i0 (.int .u8 0) Tryz.underlying25 hi dQ (some ⟨g,0,none⟩) n cap (Zs n f) hold (.slice A m c) m _ hs (by omega) (by omega) (growslice_fits (by omega) (by rw[ed]; omega));have dK:=grownCap_ge w (n+m) cap 5;have gL:=grownCap_le_maxLen w (n+m) cap 5 (by simp only[maxLen]; omega);simp only[maxLen] at gL;have hz:(Value.int .u8 0).cells= #[.int .u8 0]:=rfl;have hh:=heap_alloc_new w.drew (.cells ((Zs n f++Zs m h).toArray++Builtin.zeroCells (Value.int .u8 0).cells (grownCap w (n+m) cap 5 - (n+m))) 5);have aT:((Zs n f++Zs m h).toArray++Builtin.zeroCells (Value.int .u8 0).cells (grownCap w (n+m) cap 5 - (n+m))).size=grownCap w (n+m) cap 5:=by
    rw[Array.size_append,size_zeroCells,hz];simp[Zn];omega
   refine⟨_,_,_,hr,⟨aH,by simp,fun i hi=> ?_,Ze5 ae.by255 dF,dK,by omega,fun j hj=>⟨?_,frozen_of_row _ _ _ _ _ hh⟩⟩,((Below.refl base w).drew).alloc (by simpa using aH) _,fun b hb _=>(((Below.refl w.heap.size w).drew).alloc (by simp) _).block b hb⟩
   ·rw[Nat.zero_add];have:=cell_of_row _ _ i _ _ _ hh;refine Eq.trans this ?_;rw[Wo,Array.getElem?_append_left (by simpa [Zn] using hi),Za,ZN _ _ hi]
   ·have:=cell_of_row _ _ j _ _ _ hh;refine Eq.trans (congrArg Option.isSome this) ?_;rw[Array.getElem?_eq_getElem (by omega)];rfl
 refine wpList_plain eu fun K kS=> ?_;obtain⟨g',aA,w',bG,r1,r2,r3⟩:=bG;unfold Oper.wp execOp;simp only[ho,resolve,invoke,builtin,Sem.run_bind,Sem.run_pure,Result.andThen_ok,List.map_toArray,List.map_cons,List.map_nil,hv,hx,bG];exact kS _ _ (hK g' aA w' r1 r2 r3)
theorem Zjh {wb u:World} {z:Nat} {cs:Array Value} {hd:ZX} {g c:Nat} {l:List Zx} (x:Zg4 wb cs hd g c l) (hz:wb.heap[z]? =some (.cells (peC peZ) 50 (0,0))) (hk:Xl (fun k=>k<wb.heap.size/\k≠z) wb u) :
 Ua u (.slice (some ⟨g,0,none⟩) l.length c) l:=by
 refine⟨_,_,rfl,?_,x.len⟩;rcases x.sl with h|⟨b,off,hb,af,hc⟩
 ·exact .inl h
 by_cases hl:l=[]
 ·exact .inl hl
 injection hb with hb;injection hb with h1 h2;subst h1 h2;have h0:0<l.length:=List.length_pos_iff.2 hl;have bK:g≠z:=by
  intro e;subst e;have k1:=hc 0 h0 0 (.string l[0].name) rfl;rw[Zh hz,Nat.zero_add,Nat.zero_mul,Yv peZ (by omega)] at k1;have k2:peF peZ 0= .int .u64 0:=rfl;rw[k2] at k1;injection k1 with k1;cases k1
 have IE:=hk.block g ⟨x.lt,bK⟩;refine .inr ⟨g,0,rfl,Zi (IE.trans (Array.getElem?_eq_getElem x.lt)),fun i hi j v hv=> ?_⟩;rw[World.cell?_of_block (a:=⟨g,_,none⟩) IE];exact hc i hi j v hv
theorem Zd1 (w:World):Calls Tryz.prog 12 #[] w fun e w'=>e= .returned (.bool true)/\Below w.heap.size w w':=by
 go_enter Tryz.func12,Tryz.ntmps12;go_wp2_with fail
 refine(Zgz w).mono ?_;rintro e w1 ⟨g,c,F,rfl,ho,hm,hb⟩;have vW:YB 1 F (XH F 1024 64 (fun _=>0)):=YB.over F 1024 64 _ (.inr (by omega));have hp:=vW.headP hm 8704 (by omega);have hK:=vW.headK hm 8704 (by omega);have hE:=vW.ok hm 8704 (by rw[at12]; exact Nat.le_refl _) (by omega) (by omega);have vX:=Zdl g 0 8704 c (XH F 1024 64 (fun _=>0)) w1 ho.rowB hE 16384 1024 (by rw[hp,vW.size hm,rva12]; rfl) (by rw[hp,vW.hdrs hm]; rfl) (fun _=>false) (fun i hi _=>by rw[hp]; exact(Zdn F _ 1024 64 i (by omega) hi).trans (hm.dirs0 i hi));rw[show ZL (erB false 11) (erB false 10) (erB false 9) (erB false 12) (erB false 8) (erB false 10)=0 by rfl] at vX;have ff:=Zg (show(Zw (XH F 1024 64 (fun _=>0)) (headP 8704 (XH F 1024 64 (fun _=>0)))).base=65536 by rw[hp]; exact vW.base hm);have bh:=Zg (Zid ho.by255 ho.by255 0 0);have CC:=Zg (ho.by255);have av:=Zg hb;have IF:=Zg vX;generalize XH F 1024 64 (fun _=>0)=f at *;clear vW hp hK hE vX hb ho hm bh;go_wp2_with fail
 refine IF.out.mono ?_;rintro e w2 ⟨hb,hq⟩;cases hq with
 | bad h=>exact absurd rfl h
 | good h0 y cs gi W0 hk hh hi ho hW lE lI lR lT lB lD =>
   obtain⟨wb,⟨gh,hl⟩,hz,rF⟩:=hk;have eJ:Bare y:=by
    obtain⟨a,b,d⟩:=lE.now;obtain⟨p,q,r⟩:=lT.now;exact⟨a,b,d,lI.now,lD.now,lB.now,lR.now,p,q,r⟩
   have bm:((List.range 39).map y.hd).toArray=cs:=by
    apply Array.ext
    ·simp[hl.hv.size]
    ·intro i h1 h2;have h3:=hh i (by simpa using h1);rw[Array.getElem?_eq_getElem h2] at h3;simpa using (Option.some.inj h3).symm
   have dE:=Zjh hl hz rF;have hv:=hl.hv;have hd0:y.hd 0= .int .u64 65536:=by
    have h1:=hv.c0;rw[hh 0 (by omega),ff.out] at h1;exact Option.some.inj h1
   rw[<-bm] at hv;have s':Zl3 (Zw f (headP 8704 f)):=fun i hi=>⟨(ZR f CC.out 4 _).1,(ZR f CC.out 4 _).2,(ZR f CC.out 4 _).1,(ZR f CC.out 4 _).2⟩;have aZ:(peC y).all (·.oneCell')=true:=by
    refine Zau y (fun j hj=> ?_) (by rw[hi]; rfl) ⟨⟨by rw[eJ.e0]; rfl,by rw[eJ.e1]; rfl,by rw[eJ.e2]; rfl⟩,by rw[eJ.im]; rfl,by rw[eJ.re]; rfl,⟨by rw[eJ.t0]; rfl,by rw[eJ.t1]; rfl,by rw[eJ.t2]; rfl⟩,by rw[eJ.bo]; rfl,by rw[eJ.de]; rfl⟩;have h1:=hl.hv.one rfl;have h2:=Array.all_eq_true_iff_forall_mem.1 h1 (y.hd j) (Array.mem_of_getElem? (hh j hj));exact h2
   have rS:=Zg aZ;have aj:=Zg (av.out.trans (hb.mono av.out.size));have bQ:=Zg ho;have df:=Zg dE;have HV:=Zg hv;have CD:=Zg s';have kL:=Zg eJ;have HI:=Zg hi;have sD:=Zg hd0;clear hl hz rF lE lI lR lT lB lD hW hh bm dE hv s' aZ eJ hi hd0 ho hb h0 av IF ff;simp only[];go_upto_region 2 with(refine wpList_store_row rfl 50 _ _ rfl w2.heap.size (peC y) rfl rfl 50 _ (heap_alloc_new _ _) (by rw[Zu]; kernel_rfl) (by rw[Zu]; rfl) rS.out ?_)
   rw[Xs];have lO:=setRow_heap (w2.alloc (.cells (peC peZ) 50)) w2.heap.size _ (peC y) _ _ (heap_alloc_new _ _);have bJ:Below w2.heap.size w2 ((w2.alloc (.cells (peC peZ) 50)).setRow w2.heap.size (peC y)):=below_setRow ((Below.refl _ w2).alloc (Nat.le_refl _) _) (Nat.le_refl _) _;generalize (w2.alloc (.cells (peC peZ) 50)).setRow w2.heap.size (peC y)=w3 at *;obtain⟨P1,qQ⟩: ∃ q,w2.heap.size=q:=⟨_,rfl⟩;rw[qQ] at lO ⊢;have eX:=Zg lO;have mV:=Zg bJ;clear lO bJ;go_wp2_with fail
   refine(VC (.slice none 0 0) 2 (by decide) w3 (fun W _=>Zhg W)).mono ?_;rintro e w4 ⟨rfl,bP⟩;have nU:=Zg ((bP.block P1 (Zi eX.out)).trans eX.out);have vY:=Zg (mV.out.trans (bP.mono mV.out.size));clear bP eX mV;go_upto_region 3 with(refine wpList_store_row rfl 50 _ _ rfl w4.heap.size (peC peZ) rfl rfl 50 _ (heap_alloc_new _ _) (by rw[Zu]; kernel_rfl) (by rw[Zu]; rfl) Wh ?_)
   rw[Xs];have cm:Below w4.heap.size w4 ((w4.alloc (.cells (peC peZ) 50)).setRow w4.heap.size (peC peZ)):=below_setRow ((Below.refl _ w4).alloc (Nat.le_refl _) _) (Nat.le_refl _) _;generalize (w4.alloc (.cells (peC peZ) 50)).setRow w4.heap.size (peC peZ)=w5 at *;have fW:=Zg ((cm.block P1 (Zi nU.out)).trans nU.out);have sE:=Zg (vY.out.trans (cm.mono vY.out.size));clear cm nU vY;generalize w4.heap.size=P2 at *;have k0:w5.cell? ⟨P1,0,none⟩=some (.int .u64 65536):=by rw[Zh fW.out,Yv y (by omega),JJ y (by omega),sD.out]
   have MO:w5.cell? ⟨P1,39,none⟩=some (.slice (some ⟨gi,0,none⟩) 16384 16384):=by rw[Zh fW.out,Yv y (by omega)]; exact congrArg some HI.out
   have zp:w5.cell? ⟨P1,43,none⟩=some (.slice none 0 0):=by rw[Zh fW.out,Yv y (by omega)]; exact congrArg some kL.out.im
   have rj:=Zg (Zek y kL.out _ _ _ w5 HV.out (by
    obtain⟨A,c,k1,k2,k3⟩:=df.out;exact⟨A,c,k1,k2.below sE.out,k3⟩) CD.out gi 16384 16384 _ HI.out (bQ.out.below sE.out).rowB)
   go_wp2_with (first
    | (refine Wn (by rfl) 50 _ rfl P1 rfl 50 (peC y) (0,0) _ fW.out Tryz.underlying50 rfl (by rw[Zu]; kernel_rfl) ?_)
    | fail)
   refine rj.out.mono ?_;rintro e w6 ⟨rfl,cF⟩;have zW:=Zg ((cF.block P1 (Zi fW.out)).trans fW.out);have zZ:=Zg (sE.out.trans (cF.mono sE.out.size));clear cF rj k0 MO zp;go_wp2_with (first
    | (refine Wn (by rfl) 50 _ rfl P1 rfl 50 (peC y) (0,0) _ zW.out Tryz.underlying50 rfl (by rw[Zu]; kernel_rfl) ?_)
    | fail)
   refine(Zhb y kL.out w6).mono ?_;rintro e w7 ⟨⟨A,c',rfl⟩,jB⟩;go_wp2_with fail
   go_ret;exact⟨rfl,aj.out.trans ((zZ.out.trans (jB.mono zZ.out.size)).mono aj.out.size)⟩
end Go.Proofs.YtplgdpjbkdagfaaGreat
