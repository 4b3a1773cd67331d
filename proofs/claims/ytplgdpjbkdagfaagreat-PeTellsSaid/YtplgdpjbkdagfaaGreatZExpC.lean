import Derived.Test.YtplgdpjbkdagfaaGreatZPMap
import Derived.Test.YtplgdpjbkdagfaaGreatZExpM
import Derived.Test.YtplgdpjbkdagfaaGreatZOwnT
import Derived.Test.YtplgdpjbkdagfaaGreatZAwake1
import Derived.Deep.AppendSrc
import Derived.Laws.CopyOwn
namespace Go.Proofs.YtplgdpjbkdagfaaGreat
set_option maxHeartbeats 8000000
open List renaming getElem?_toArray→Za, getElem?_cons_succ→Zb, getElem?_cons_zero→Zc, setIfInBounds_toArray→Zd, set_cons_zero→Ze, set_cons_succ→Zf
open Lib renaming hid→Zg
set_option maxRecDepth 100000
open Go.ChangeShapes Go.WideShapes Go.ChangeAt Go.RowKit
set_option linter.unusedVariables false
set_option linter.unusedSimpArgs false
section
variable {α :Type} {C: α ->List Value} {sz:Nat}
theorem UP {P:Program} {w:World} {ops:Array Oper} {rest:List Oper} {o:Oper} {a:Act} {Q:Exit->Act->World->Prop} (eu:o.guard=none) (l c:Operand) (t:TypeId) (ho:o.op= .makeSlice t l c)
 (base:Nat) (e:TypeId) (z:Value) (bytes:Nat) (ht:P.underlying t=some (.slice e)) (lj:(P.info? e).map (fun i=>(i.zero,i.size,i.bytes))=some (some z,sz,bytes))
 (kl kc:IntKind) (n:Nat) (hl:a.eval l= .int kl 0) (hc:a.eval c= .int kc n) (hb:bytes * n<=281474976710656) (n9:n<=maxLen) (aH:base<=w.heap.size)
 (hK: ∀ w',ZJ C sz w' base e (.slice (some ⟨w.heap.size,0,none⟩) 0 n) []->Below w.heap.size w w'->wpList P ops Q rest (a.put o.dst (.slice (some ⟨w.heap.size,0,none⟩) 0 n)) w') :
 wpList P ops Q (o::rest) a w:=by
 obtain⟨i0,hi,dQ,bw,ed⟩:=info_parts lj;obtain⟨w',hr,ae,hg⟩:=run_make_own (P:=P) w base t e i0 z sz ht hi dQ bw kl kc n (by rw[ed]; exact hb) n9 aH;refine wpList_plain eu fun K kS=> ?_;unfold Oper.wp execOp;simp only[ho,hl,hc,Sem.run_bind,hr,Sem.run_pure,Result.andThen_ok];exact kS _ _ (hK w' ae ⟨hg.os,hg.tape,hg.output,hg.size,fun k hk=>hg.block k hk (by simp)⟩)
end
def gC (x:FnV):List Value:=[.int .i64 x.1,.string (txt x.2)]
theorem QJ (x:FnV):(gC x).length=2:=rfl
theorem Zcw (x:FnV): ∀ u∈gC x,u.oneCell'=true:=by
 intro u hu;simp[gC] at hu;rcases hu with rfl|rfl <;> rfl
theorem Vk:(Tryz.prog.info? 74).map (fun i=>(i.zero,i.size,i.bytes))=some (some (.agg #[.int .i64 0,.string ByteArray.empty]),2,24):=by kernel_rfl
def YV (b:List Nat) (rva size ak:Nat):Nat->Nat->List FnV->Option (List FnV)
 | 0,_,acc=>some acc
 | k+1,i,acc=>match UJ b rva size (Yg (b.drop (ak+4 * i)) 4) with
   | none=>none
   | some f=>YV b rva size ak k (i+1) (acc++[f])
def FuncsQ (w w':World) (r:Option (List FnV)) (e:Ending):Prop:=match r with
 | none=>e= .returned (.tuple #[.slice none 0 0,.bool false])
 | some l=> ∃ A cap,e= .returned (.tuple #[.slice A l.length cap,.bool true])/\ZJ gC 2 w' w.heap.size 74 (.slice A l.length cap) l
theorem WU (x:Nat) (t:List Nat) (w:World): ∀ j u,(gC (x,t))[j]? =some u->(w.alloc (.cells #[.int .i64 x,.string (txt t)] 74)).cell? ⟨w.heap.size,j,none⟩=some u:=by
 intro j u hu;rcases j with _|_|j
 ·simp[gC] at hu; subst hu; simp[go_sem]
 ·simp[gC] at hu; subst hu; simp[go_sem]
 ·simp[gC] at hu
theorem Za7 (A:Option Addr) (cap:Nat) (bs:List Nat) (rva size b0 b1 b2 b3 b4 b5:Nat) (w:World) (hb:Lb bs) (hl:bs.length<=cap) (hc:cap<=9223372036854775807) (hlen:bs.length<=1099511627776) (hs:SlB w A bs.length (lF bs)) (hr:rva<=9223372036854775807) (hz:size<=9223372036854775807)
 (hn:b1<=256) (aU:b1=0\/b3+4 * b1<=bs.length) :
 Calls Tryz.prog 109 #[.slice A bs.length cap,.agg #[.int .i64 rva,.int .i64 size],.agg #[.int .i64 b0,.int .i64 b1,.int .i64 b2,.int .i64 b3,.int .i64 b4,.int .i64 b5]] w fun e w'=>FuncsQ w w' (YV bs rva size b3 b1 0 []) e/\Below w.heap.size w w':=by
 have HS:=Zg (fun W (hW:Below w.heap.size w W)=>SlB.below hs hW);have aJ:=Zg hb;have ax:=Zg aU;have kh:=Zg (And.intro hl (And.intro hc hlen));have nw:=Zg (And.intro hr hz);obtain⟨R,hR⟩: ∃ R,YV bs rva size b3 b1 0 []=R:=⟨_,rfl⟩;rw[hR];have HR:=Zg hR;clear hR hs aU;go_enter Tryz.func109,Tryz.ntmps109;have HD:=Zg (show((w.alloc (.cells #[.int .i64 rva,.int .i64 size] 37)).alloc (.cells #[.int .i64 b0,.int .i64 b1,.int .i64 b2,.int .i64 b3,.int .i64 b4,.int .i64 b5] 187)).heap[w.heap.size]? =some (.cells #[.int .i64 rva,.int .i64 size] 37 (0,0)) from
  (Below.heap_alloc _ _ w.heap.size (by simp)).trans (heap_alloc_new w _))
 have jw:=Zg (show((w.alloc (.cells #[.int .i64 rva,.int .i64 size] 37)).alloc (.cells #[.int .i64 b0,.int .i64 b1,.int .i64 b2,.int .i64 b3,.int .i64 b4,.int .i64 b5] 187)).heap[w.heap.size+1]? =some (.cells #[.int .i64 b0,.int .i64 b1,.int .i64 b2,.int .i64 b3,.int .i64 b4,.int .i64 b5] 187 (0,0)) from by
  have h:=heap_alloc_new (w.alloc (.cells #[.int .i64 rva,.int .i64 size] 37)) (.cells #[.int .i64 b0,.int .i64 b1,.int .i64 b2,.int .i64 b3,.int .i64 b4,.int .i64 b5] 187);rwa [show(w.alloc (.cells #[.int .i64 rva,.int .i64 size] 37)).heap.size=w.heap.size+1 by simp] at h)
 have dU:=Zg (show Below w.heap.size w ((w.alloc (.cells #[.int .i64 rva,.int .i64 size] 37)).alloc (.cells #[.int .i64 b0,.int .i64 b1,.int .i64 b2,.int .i64 b3,.int .i64 b4,.int .i64 b5] 187)) from((Below.refl w.heap.size w).alloc (Nat.le_refl _) _).alloc (by simp) _);have aT:((w.alloc (.cells #[.int .i64 rva,.int .i64 size] 37)).alloc (.cells #[.int .i64 b0,.int .i64 b1,.int .i64 b2,.int .i64 b3,.int .i64 b4,.int .i64 b5] 187)).heap.size=w.heap.size+2:=by simp
 have eV:=Zg aT;have FJ:24 * b1<=281474976710656:=by omega
 have Kf:b1<=maxLen:=by unfold maxLen; omega
 have yu:=Zg FJ;have tg:=Zg Kf;have yv:=Zg (show w.heap.size+2<=((w.alloc (.cells #[.int .i64 rva,.int .i64 size] 37)).alloc (.cells #[.int .i64 b0,.int .i64 b1,.int .i64 b2,.int .i64 b3,.int .i64 b4,.int .i64 b5] 187)).heap.size from by rw[aT]; exact Nat.le_refl _);clear aT FJ Kf;go_upto_region 2 with(first
  | (refine UP (C:=gC) (sz:=2) rfl _ _ 42 rfl (w.heap.size+2) 74 _ 24 rfl Vk .i64 .i64 b1 rfl rfl yu.out tg.out yv.out ?_; intro w1 kM ao; have cW:=Zg kM; have fg:=Zg ao; clear kM ao)
  | fail)
 have xw:=Zg ((fg.out.block w.heap.size (by rw[eV.out]; omega)).trans HD.out);have pC:=Zg ((fg.out.block (w.heap.size+1) (by rw[eV.out]; omega)).trans jw.out);have av:=Zg (dU.out.trans (fg.out.mono dU.out.size));have uE:=cW.out;rw[eV.out] at uE;have qN:=Zg uE;clear HD jw dU yu tg yv cW fg eV uE;have fF:w1.cell? ⟨w.heap.size+1,1,none⟩=some (.int .i64 b1):=by rw[Zh pC.out]; rfl
 go_wp2_with fail
 go_loopw [8,17] (fun v8 v17 wr=> ∃(i k:Nat) (l:List FnV) (A':Option Addr) (c':Nat),i+k=b1/\l.length=i/\v17= .int .i64 i/\v8= .slice A' i c'/\ZJ gC 2 wr (w.heap.size+2) 74 (.slice A' i c') l/\Below w.heap.size w wr/\wr.heap[w.heap.size]? =some (.cells #[.int .i64 rva,.int .i64 size] 37 (0,0))/\wr.heap[w.heap.size+1]? =some (.cells #[.int .i64 b0,.int .i64 b1,.int .i64 b2,.int .i64 b3,.int .i64 b4,.int .i64 b5] 187 (0,0))/\YV bs rva size b3 k i l=R) (fun _ v17 _=>b1 - (intOf v17).toNat)
 case atStart=>exact⟨0,b1,[],_,_,by omega,rfl,rfl,rfl,qN.out,av.out,xw.out,pC.out,HR.out⟩
 case round =>
  obtain⟨i,k,l,A',c',jD,lV,rfl,rfl,ae,aq,mD,aY,hR⟩:=hrel;have HO:=Zg ae;have aw:=Zg aq;have rN:=Zg mD;have cd:=Zg aY;have bk:=Zg hR;have bg:=Zg lV;clear ae aq mD aY hR lV;by_cases af:i<b1
  ·obtain⟨k,rfl⟩: ∃ q,k=q+1:=⟨k - 1,by omega⟩;obtain⟨m4,jE⟩: ∃ m,4 * i=m:=⟨_,rfl⟩;obtain⟨o,ho⟩: ∃ o,b3+m4=o:=⟨_,rfl⟩;have iv:o+4<=bs.length:=by have:=ax.out; omega
   have em:(4:Int) * (i:Int)=(m4:Int):=by omega
   have wm:IntKind.i64.wrap (m4:Int)=(m4:Int):=by rw[IntKind.wrap_i64]; omega
   have eo:(b3:Int)+(m4:Int)=(o:Int):=by omega
   have wo:IntKind.i64.wrap (o:Int)=(o:Int):=by have:=kh.out; rw[IntKind.wrap_i64]; omega
   have HU:=Zg (fun W (hW:Below w.heap.size w W)=>Wa A cap bs o W (by have:=kh.out; omega) aJ.out iv (HS.out W hW));have hv:=ZG (aJ.out.drop o) 4;have aa:=bk.out;simp only[YV] at aa;rw[jE,ho] at aa;obtain⟨v,fj⟩: ∃ v,Yg (bs.drop o) 4=v:=⟨_,rfl⟩;rw[fj] at HU hv aa;rw[show(256:Nat) ^ 4=4294967296 from rfl] at hv;have HF:=Zg (fun W (hW:Below w.heap.size w W)=>Zgv A cap bs rva size v W aJ.out kh.out.1 (by have:=kh.out; omega) (HS.out W hW) nw.out.1 nw.out.2 hv);have ar:=Zg aa;have HC:=Zg (fun W (hW:Below wr.heap.size wr W)=>show W.cell? ⟨w.heap.size,0,none⟩=some (.int .i64 rva)/\W.cell? ⟨w.heap.size,1,none⟩=some (.int .i64 size)/\W.cell? ⟨w.heap.size+1,3,none⟩=some (.int .i64 b3) from by
    have h1:=(hW.block w.heap.size (Zi rN.out)).trans rN.out;have h2:=(hW.block (w.heap.size+1) (Zi cd.out)).trans cd.out;refine⟨?_,?_,?_⟩
    ·rw[cell_of_row _ _ _ _ _ _ h1]; rfl
    ·rw[cell_of_row _ _ _ _ _ _ h1]; rfl
    ·rw[cell_of_row _ _ _ _ _ _ h2]; rfl)
   clear aa fj jE ho hv iv;go_upto_region 5 with(fail)
   obtain⟨B,wY⟩: ∃ q,wr.heap.size=q:=⟨_,rfl⟩;have HS:=Zg (show Below B wr wr.drew from by rw[<-wY]; exact(Below.refl _ _).drew);have cp:=Zg wY;clear wY;refine wp_region_noPanic ?_;refine Zt (fun W=>Below B wr W) (fun _=>True) 99 (by kernel_rfl) ?_;refine wU (i:=0) HS.out ?_;refine wU (i:=1) HS.out ?_ (hy:=by refine Or.inl ⟨by rfl,?_⟩; intro W aL; obtain⟨mb,dO,ej⟩:=HC.out W (by rw[cp.out]; exact aL); clear aL; go_simp; try with_reducible rfl);refine wU (i:=2) HS.out ?_;refine wU (i:=3) HS.out ?_;refine wU (i:=4) HS.out ?_ (hy:=by refine Or.inl ⟨by rfl,?_⟩; intro W aL; obtain⟨mb,dO,ej⟩:=HC.out W (by rw[cp.out]; exact aL); clear aL; go_simp; try with_reducible rfl);refine wU (i:=5) HS.out ?_;refine wU (i:=6) HS.out ?_;refine wU (i:=7) HS.out ?_;refine Zz (i:=8) (oi:= ?_) (v:= .int .i64 v) ?_ (by kernel_rfl) (by kernel_rfl) (by kernel_rfl) (fun _ _ _ h=>h) (by decide) ?_ HS.out (fun _=>trivial) ?_;rotate_left 1
   ·(simp only[Za,Zb,Zc]; rfl)
   ·refine⟨by rfl,fun W hW=>⟨132,#[.slice A bs.length cap,.int .i64 o],?_,HU.out W (aw.out.trans (hW.mono (by have:=aw.out.size; rw[<-cp.out]; exact this)))⟩⟩;first|kernel_rfl|(go_simp; done)|rfl
   try simp only[Act.put,Zd,Ze,Zf]
   have fi:=Zg (show w.heap.size<=B from by rw[<-cp.out]; exact aw.out.size);have su:=Zg (fun W (hW:Below B wr W)=>show B<=W.heap.size from by rw[<-cp.out]; exact hW.size);have sM:=Zg (fun W (hW:Below B wr W)=>aw.out.trans (hW.mono fi.out));have ma:=Zg (fun W (hW:Below B wr W)=>HO.out.below (by rw[cp.out]; exact hW));have CD:=Zg (fun W (hW:Below B wr W)=>(hW.block w.heap.size (by rw[<-cp.out]; exact Zi rN.out)).trans rN.out);have rG:=Zg (fun W (hW:Below B wr W)=>(hW.block (w.heap.size+1) (by rw[<-cp.out]; exact Zi cd.out)).trans cd.out);refine XM (i:=9) (j:=13) (o:= ?_) (o2:= ?_) (by kernel_rfl) ?_ ?_ (fun K hK=> ?callA) (fun K hK=> ?allocA);rotate_left 2
   ·(simp only[Za,Zb,Zc]; rfl)
   ·(simp only[Za,Zb,Zc]; rfl)
   case' callA =>
    go_simp;go_at_call 134;refine(HF.out _ (sM.out _ HS.out)).mono ?_;rintro e w2 ⟨⟨x,S,ok,rfl,dO,ej⟩,aR⟩;have aF:=Zg (HS.out.trans (aR.mono (su.out _ HS.out)));clear aR;refine hK.out _ _ aF.out (fun _=>trivial) ?_;clear hK K;try simp only[Act.put,Zd,Ze,Zf]
    refine wU (i:=10) aF.out ?_;refine wU (i:=11) aF.out ?_;refine wU (i:=12) aF.out ?_;refine wO (i:=13) (fun K hK=> ?_);go_simp;have bY:=Zg (aF.out.alloc (su.out _ aF.out) (.cells #[.int .i64 0,.string ⟨#[]⟩] 74));have eX:=Zg (heap_alloc_new w2 (.cells #[.int .i64 0,.string ⟨#[]⟩] 74));have cj:=Zg (su.out _ aF.out);refine hK.out _ _ bY.out (fun _=>trivial) ?_;clear hK K;try simp only[Act.put,Zd,Ze,Zf]
    generalize w2.alloc (.cells #[.int .i64 0,.string ⟨#[]⟩] 74)=w3 at *;generalize w2.heap.size=sW at *
   case' allocA =>
    go_simp;have aF:=Zg (show Below B wr (wr.alloc (.cells #[.int .i64 0,.string ⟨#[]⟩] 74)).drew from HS.out.alloc (su.out _ HS.out) (.cells #[.int .i64 0,.string ⟨#[]⟩] 74));have jA:=Zg (show(wr.alloc (.cells #[.int .i64 0,.string ⟨#[]⟩] 74)).drew.heap[wr.heap.size]? =some (.cells #[.int .i64 0,.string ⟨#[]⟩] 74 (0,0)) from heap_alloc_new wr (.cells #[.int .i64 0,.string ⟨#[]⟩] 74));have cj:=Zg (show B<=wr.heap.size from su.out _ (Below.refl _ _));refine hK.out _ _ aF.out (fun _=>trivial) ?_;clear hK K;try simp only[Act.put,Zd,Ze,Zf]
    generalize (wr.alloc (.cells #[.int .i64 0,.string ⟨#[]⟩] 74)).drew=w2 at *;generalize wr.heap.size=sW at *;refine wO (i:=9) (fun K hK=> ?_);go_simp;go_at_call 134;refine(HF.out _ (sM.out _ aF.out)).mono ?_;rintro e w3 ⟨⟨x,S,ok,rfl,dO,ej⟩,dn⟩;have bY:=Zg (aF.out.trans (dn.mono (su.out _ aF.out)));have eX:=Zg ((dn.block sW (Zi jA.out)).trans jA.out);clear dn;refine hK.out _ _ bY.out (fun _=>trivial) ?_;clear hK K;try simp only[Act.put,Zd,Ze,Zf]
    refine wU (i:=10) bY.out ?_;refine wU (i:=11) bY.out ?_;refine wU (i:=12) bY.out ?_
   all_goals
    refine wO (i:=14) (fun K hK=> ?_);refine Yd rfl 74 _ _ rfl sW #[.int .i64 x,.string S] ?_ ?_ 74 #[.int .i64 0,.string ⟨#[]⟩] eX.out (by kernel_rfl) rfl (by simp[Value.oneCell']) ?_
    ·first|rfl|simp[Act.eval]
    ·first|rfl|simp[Act.eval]
    have lY:=Zg (below_setRow bY.out cj.out #[.int .i64 x,.string S]);have fK:=Zg (setRow_heap w3 sW _ #[.int .i64 x,.string S] _ _ eX.out);refine hK.out _ _ lY.out (fun _=>trivial) ?_;clear hK K;try simp only[Act.put,Zd,Ze,Zf]
    refine wO (i:=15) (fun K hK=> ?_);go_simp;refine hK.out _ _ lY.out (fun _=>trivial) ?_;clear hK K;try simp only[Act.put,Zd,Ze,Zf]
    refine Zo (by kernel_rfl) ?_ _;refine NoPanic.normal ?_;generalize w3.setRow sW #[.int .i64 x,.string S]=w7 at *;rcases du:UJ bs rva size v with _|f
    ·obtain rfl:=dO du;have aa:=ar.out;rw[du] at aa;simp only at aa;subst aa;clear dO ej du;go_wp2_with fail
     go_ret2;exact⟨rfl,sM.out _ lY.out⟩
    ·obtain⟨fx,t⟩:=f;obtain⟨rfl,rfl,rfl⟩:=ej _ du;have aa:=ar.out;rw[du] at aa;simp only at aa fK ⊢;have bS:=Zg aa;clear dO ej du aa;have c0:w7.cell? ⟨sW,0,none⟩=some (.int .i64 x):=by rw[Zh fK.out]; rfl
     have c1:w7.cell? ⟨sW,1,none⟩=some (.string (txt t)):=by rw[Zh fK.out]; rfl
     have aK:=Zg ((ma.out w7 lY.out).alloc (.cells #[.int .i64 x,.string (txt t)] 74));have cK:=Zg (WU x t w7);have dS:=Zg (sM.out _ lY.out);have aV:=Zg (dS.out.alloc dS.out.size (.cells #[.int .i64 x,.string (txt t)] 74));have Kg:=Zg (show(w7.alloc (.cells #[.int .i64 x,.string (txt t)] 74)).heap[w.heap.size]? =_ from(Below.heap_alloc _ _ _ (Zi (CD.out _ lY.out))).trans (CD.out _ lY.out));have uF:=Zg (show(w7.alloc (.cells #[.int .i64 x,.string (txt t)] 74)).heap[w.heap.size+1]? =_ from(Below.heap_alloc _ _ _ (Zi (rG.out _ lY.out))).trans (rG.out _ lY.out));have H3:=Zg (show w.heap.size+2<=(w7.alloc (.cells #[.int .i64 x,.string (txt t)] 74)).heap.size from Zi uF.out);have H4:=Zg (show l.length+1<=maxLen from by rw[bg.out]; unfold maxLen; omega);have H5:=Zg (show(l.length+1) * 24<=140737488355328 from by rw[bg.out]; omega);have iY:l.length<256:=by have:=bg.out; omega
     have mz:l.length+1<=b1:=by have:=bg.out; omega
     rw[<-bg.out] at aK ⊢;go_wp2_with (first
      | (at_builtin; refine Zq rfl (.tmp 35) (.tmp 37) 42 rfl (w.heap.size+2) 74 _ 24 rfl Vk rfl (by omega) QJ Zcw _ l rfl aK.out w7.heap.size 1 rfl (x,t) cK.out H4.out H5.out H3.out ?_; intro g5 aG w8 ag aI aD)
      | fail)
     have ay:=Zg (aK.out.grew aV.out (by omega) aV.out.size aI);have NX:=Zg ((aI.block w.heap.size (Zi Kg.out) (fun h=>by have:=(aK.out.lt _ h.symm).1; omega)).trans Kg.out);have ai:=Zg ((aI.block (w.heap.size+1) (Zi uF.out) (fun h=>by have:=(aK.out.lt _ h.symm).1; omega)).trans uF.out);have di:=Zg ag;clear ag aI aD c0 c1;go_roundw
     case rel=>exact⟨l.length+1,k,l++[(x,t)],_,aG,by have:=bg.out; omega,by simp,by go_num,rfl,di.out,ay.out,NX.out,ai.out,by rw[bg.out]; exact bS.out⟩
     case measure=>simp[intOf]; have:=bg.out; omega
  ·obtain rfl:k=0:=by omega
   have aa:=bk.out;simp only[YV] at aa;subst aa;go_wp2_with fail
   go_ret2;refine⟨⟨A',c',?_,?_⟩,aw.out⟩
   ·rw[bg.out]; rfl
   ·rw[bg.out]; exact Joins.ownsRow_le HO.out (by omega)
theorem Vl {f:Nat->Int}: ∀(k:Nat),(∀ i,i<k->48<=f i/\f i<=57)->0<=YW f k/\YW f k<10 ^ k
 | 0,_=>by simp[YW]
 | k+1,h=>by
   have h1:=Vl k (fun i hi=>h i (by omega));have h2:=h k (by omega);rw[Int.pow_succ];simp only[YW];omega
theorem Zf4 {f:Nat->Int}: ∀(k:Nat),1<=k->(∀ i,i<k->48<=f i/\f i<=57)->(f 0=48->k=1)->ZB f 0 k=Qh (YW f k).toNat
 | 0,h,_,_=>absurd h (by omega)
 | k+1,_,hd,h0=>by
   have h2:=hd k (by omega);obtain⟨d,rE⟩: ∃ d:Nat,f k=48+d:=⟨(f k - 48).toNat,by omega⟩;have F5:d<10:=by omega
   have e1:ZB f k 1=Zhy d:=by
    apply ByteArray.ext;apply Array.ext';unfold ZB Zhy;rw[strOfNums_data];simp only[List.range_one,List.map_cons,List.map_nil];congr 1
    rw[Nat.add_zero,rE];congr 1
   by_cases hk:k=0
   ·subst hk;have e2:(YW f (0+1)).toNat=d:=by simp only[YW]; omega
    rw[e2,WY F5,<-e1]
   ·have ik:f 0≠48:=fun q=>by have:=h0 q; omega
    have ih:=Zf4 k (by omega) (fun i hi=>hd i (by omega)) (fun q=>absurd q ik);have hb:=Vl k (fun i hi=>hd i (by omega));have wE:1<=YW f k:=by
     have: ∀ j,1<=j->j<=k->1<=YW f j:=by
      intro j;induction j with
      | zero=>intro h; omega
      | succ j ihj =>
        intro _ tP;by_cases hj:j=0
        ·subst hj;have:=hd 0 (by omega);simp only[YW];omega
        ·have h3:=ihj (by omega) (by omega);have:=hd j (by omega);simp only[YW];omega
     exact this k (by omega) (Nat.le_refl _)
    have e2:(YW f (k+1)).toNat=(YW f k).toNat * 10+d:=by simp only[YW]; omega
    rw[e2,Zaa (by omega)];rw[show((YW f k).toNat * 10+d) / 10=(YW f k).toNat by omega,show((YW f k).toNat * 10+d) % 10=d by omega,<-ih,<-e1];rw[show ZB f k 1=ZB f (0+k) 1 by rw[Nat.zero_add],XY]
theorem Zoq {t:List Nat} (h:Lb t) (h1:1<=t.length) (hd: ∀ i,i<t.length->48<=lF t i/\lF t i<=57) (n:Nat) (hn:YW (lF t) t.length=n) (h6:n<=65535):((Qh n).toList == (txt t).toList)=YT t:=by
 rw[Bool.eq_iff_iff,beq_iff_eq];constructor
 ·intro q;have q2:Qh n=txt t:=by
   have q3:=congrArg List.toByteArray q;apply ByteArray.ext;rw[ByteArray.toList_eq,ByteArray.toList_eq] at q;exact Array.toList_inj.mp q
  refine(XR h).1 ⟨by rw[Zk]; exact h1,?_,?_,?_,?_⟩
  ·rw[<-q2]; exact Zbk (by omega)
  ·intro z;rw[<-q2] at z ⊢;by_cases n0:n=0
   ·subst n0; rw[WY (by omega)]; rfl
   ·exact absurd z (Zhz (by omega))
  ·intro i hi;rw[Zk] at hi;rw[Yb h hi];exact hd i hi
  ·rw[Zk,WX (g:=lF t) t.length (fun i hi=>Yb h hi),hn];omega
 ·intro q;obtain⟨o1,o2,o3,o4,o5⟩:=(XR h).2 q;rw[Zk] at o1 o2 o3 o4 o5;have e:=Zf4 (f:=lF t) t.length h1 hd (fun z=>by
   refine o3 ?_;rw[Yb h (by omega)];exact z)
  rw[hn,Int.toNat_natCast] at e;rw[<-e];rfl
theorem QK {t:List Nat} (h: ¬ (1<=t.length/\t.length<=5)):YT t=false:=by
 unfold YT;rw[Bool.eq_false_iff];intro q;simp only[Bool.and_eq_true,decide_eq_true_eq] at q;omega
theorem Zeh {t:List Nat} (hb:Lb t) (h:YT t=true): ∀ i,i<t.length->48<=lF t i/\lF t i<=57:=by
 intro i hi;have:=((XR hb).2 h).dig i (by rw[Zk]; exact hi);rwa [Yb hb hi] at this
theorem Zei (t:List Nat) (w:World) (h:Lb t) (hl:t.length<=1000000) :
 Calls Tryz.prog 98 #[.string (txt t),.int .i64 65535] w fun e w'=>(∃ N,e= .returned (.tuple #[.int .i64 N,.bool (YT t)]))/\Below w.heap.size w w':=by
 by_cases h0:t.length<1
 ·have d1:=Zan (S:=txt t) (by rw[Zk]; exact h0);rw[QK (by omega)];generalize txt t=S at *;go_enter Tryz.func98,Tryz.ntmps98;go_wp2
  go_ret2;exact⟨⟨0,rfl⟩,Below.refl _ _⟩
 have d1:=VT (S:=txt t) (by rw[Zk]; omega);have aT:=Zk t;have wV: ∀ i,i<t.length->PlainAid.bt (txt t) i=lF t i:=fun i hi=>Yb h hi;by_cases yU:15<t.length
 ·rw[QK (by omega)];have d2:(15:Int)<(txt t).size:=by omega
  clear wV;generalize txt t=S at *;go_enter Tryz.func98,Tryz.ntmps98;go_wp2
  go_ret2;exact⟨⟨0,rfl⟩,Below.refl _ _⟩
 have d2: ¬ (15:Int)<(txt t).size:=by omega
 have qx: ∀ k,k<=15->(10:Int) ^ k<=1000000000000000:=by
  intro k hk;rcases(by omega:k=0\/k=1\/k=2\/k=3\/k=4\/k=5\/k=6\/k=7\/k=8\/k=9\/k=10\/k=11\/k=12\/k=13\/k=14\/k=15) with rfl|rfl|rfl|rfl|rfl|rfl|rfl|rfl|rfl|rfl|rfl|rfl|rfl|rfl|rfl|rfl <;> decide
 by_cases lK: ∀ i,i<t.length->48<=lF t i/\lF t i<=57
 ·obtain⟨n,hn⟩: ∃ n:Nat,YW (lF t) t.length=n:=⟨(YW (lF t) t.length).toNat,by have:=Vl t.length lK; omega⟩;have xN:YW (PlainAid.bt (txt t)) (txt t).size=n:=by rw[aT,WX (g:=lF t) t.length wV,hn]
  have HB:=Zg (show n<=65535->((Qh n).toList == (txt t).toList)=YT t from fun q=>Zoq h (by omega) lK n hn q);have wW:=Zg (show 65535<n->YT t=false from fun q=>by
   rw[Bool.eq_false_iff];intro z;have:=((XR h).2 z).num;rw[xN] at this;omega)
  have HD:=Zg (show ∀ i,i<(txt t).size->48<=PlainAid.bt (txt t) i/\PlainAid.bt (txt t) i<=57 from fun i hi=>by rw[wV i (by omega)]; exact lK i (by omega));have AY:(n:Int)<1000000000000000:=by
   have:=Vl t.length lK;have:=qx t.length (by omega);omega
  have HV:=Zg (show ∀ k,k<=(txt t).size->0<=YW (PlainAid.bt (txt t)) k/\YW (PlainAid.bt (txt t)) k<1000000000000000 from fun k hk=>by
   have h1:=Vl (f:=PlainAid.bt (txt t)) k (fun i hi=>HD.out i (by omega));have h2:=qx k (by omega);omega)
  have fH:=Zg xN;obtain⟨B,hB⟩: ∃ B,YT t=B:=⟨_,rfl⟩;rw[hB] at HB wW ⊢;have AZ:(txt t).size<=15:=by omega
  have F6:=Zg AY;clear lK hn xN wV qx hB h aT hl h0 yU AY;have gb:=PlainAid.get_bt (txt t);generalize txt t=S at *;go_enter Tryz.func98,Tryz.ntmps98;go_wp2
  go_loop [6,7] (fun v i=> ∃ k:Nat,k<=S.size/\i= .int .i64 k/\v= .int .i64 (YW (PlainAid.bt S) k)) (fun _ i=>S.size - (intOf i).toNat)
  case atStart=>exact⟨0,by omega,rfl,rfl⟩
  case round =>
   obtain⟨k,hk,rfl,rfl⟩:=hrel;obtain⟨bO,az⟩:=HV.out k hk;by_cases af:k<S.size
   ·obtain⟨ik,il⟩:=HD.out k af;have ud:YW (PlainAid.bt S) (k+1)=10 * YW (PlainAid.bt S) k+(PlainAid.bt S k - 48):=by show YW (PlainAid.bt S) k * 10+(PlainAid.bt S k - 48)=_; omega
    have dN:=Zg ud;clear ud;generalize YW (PlainAid.bt S) k=V at *;clear HB wW fH F6 HV HD AZ;go_wp2
    go_round
    case rel=>exact⟨k+1,by omega,by go_num,by rw[dN.out]⟩
    case measure=>simp[intOf]; omega
   ·obtain rfl:k=S.size:=by omega
    rw[fH.out];clear HV HD fH bO az;by_cases F7:65535<n
    ·obtain rfl:=wW.out F7;have d5:(65535:Int)<(n:Int):=by omega
     go_wp2
     go_ret2;exact⟨⟨0,rfl⟩,Below.refl _ _⟩
    ·have d5: ¬ (65535:Int)<(n:Int):=by omega
     have hq:=HB.out (by omega);go_wp2_with fail
     refine(Zgb n _ (by omega)).mono ?_;rintro e w1 ⟨rfl,ao⟩;rcases B with _|_
     ·go_wp2
      go_ret2;exact⟨⟨0,rfl⟩,ao⟩
     ·go_wp2
      go_ret2;exact⟨⟨_,rfl⟩,ao⟩
 ·obtain⟨z,bw,ed,lO⟩:=JA (fun i=>48<=lF t i/\lF t i<=57) t.length lK;rw[show YT t=false from by
   rw[Bool.eq_false_iff];exact fun q=>lK (Zeh h q)]
  have HD:=Zg (show ∀ i,i<z->48<=PlainAid.bt (txt t) i/\PlainAid.bt (txt t) i<=57 from fun i hi=>by rw[wV i (by omega)]; exact lO i hi);have HZ:=Zg (show ¬ (48<=PlainAid.bt (txt t) z/\PlainAid.bt (txt t) z<=57) from by rw[wV z bw]; exact ed);have HV:=Zg (show ∀ k,k<=z->0<=YW (PlainAid.bt (txt t)) k/\YW (PlainAid.bt (txt t)) k<1000000000000000 from fun k hk=>by
   have h1:=Vl (f:=PlainAid.bt (txt t)) k (fun i hi=>HD.out i (by omega));have h2:=qx k (by omega);omega)
  have AZ:(txt t).size<=15:=by omega
  have r9:z<(txt t).size:=by omega
  clear lK wV qx h aT hl ed lO bw h0 yU;have gb:=PlainAid.get_bt (txt t);generalize txt t=S at *;go_enter Tryz.func98,Tryz.ntmps98;go_wp2
  go_loop [6,7] (fun v i=> ∃ k:Nat,k<=z/\i= .int .i64 k/\v= .int .i64 (YW (PlainAid.bt S) k)) (fun _ i=>z - (intOf i).toNat)
  case atStart=>exact⟨0,by omega,rfl,rfl⟩
  case round =>
   obtain⟨k,hk,rfl,rfl⟩:=hrel;obtain⟨bO,az⟩:=HV.out k hk;have oN:k<S.size:=by omega
   by_cases af:k<z
   ·obtain⟨ik,il⟩:=HD.out k af;have ud:YW (PlainAid.bt S) (k+1)=10 * YW (PlainAid.bt S) k+(PlainAid.bt S k - 48):=by show YW (PlainAid.bt S) k * 10+(PlainAid.bt S k - 48)=_; omega
    have dN:=Zg ud;clear ud;generalize YW (PlainAid.bt S) k=V at *;go_wp2
    go_round
    case rel=>exact⟨k+1,by omega,by go_num,by rw[dN.out]⟩
    case measure=>simp[intOf]; omega
   ·obtain rfl:k=z:=by omega
    generalize YW (PlainAid.bt S) k=V at *;have hz:=HZ.out;by_cases f1:PlainAid.bt S k<48
    ·go_wp2
     go_ret2;exact⟨⟨0,rfl⟩,Below.refl _ _⟩
    ·have f2:57<PlainAid.bt S k:=by omega
     clear hz;go_wp2
     go_ret2;exact⟨⟨0,rfl⟩,Below.refl _ _⟩
theorem JQ {n:Int} {S T:ByteArray} {b:Bool}:(#[.string S,.string T,.int .i64 n,.bool b]:Array Value).all (·.oneCell')=true:=by simp[Value.oneCell']
theorem VH {x y z u:Value}:(Tryz.prog.info? 125).map (·.size)=some (#[x,y,z,u]:Array Value).size:=by kernel_rfl
def WayQ (ok:Bool) (T:ByteArray) (e:Ending):Prop:= ∃ D S O B,e= .returned (.tuple #[.agg #[.string D,.string S,.int .i64 O,.bool B],.bool ok])/\(ok=true->D=T)
theorem WayQ.mk {ok:Bool} {T D S:ByteArray} {O:Int} {B:Bool} (h:ok=true->D=T):WayQ ok T (.returned (.tuple #[.agg #[.string D,.string S,.int .i64 O,.bool B],.bool ok])):=⟨D,S,O,B,rfl,h⟩
theorem JR (t:List Nat) (w:World) (h:Lb t) (hl:t.length<=1000000) (p:Nat) (hp:Xq t=some p) :
 Calls Tryz.prog 51 #[.string (txt t)] w fun e w' =>
 WayQ (ZH t) (txt (t.take p)) e/\Below w.heap.size w w':=by
 obtain⟨xL,iU,gq⟩:=WO hp;have qy:ZH t=(Un (t.take p)&&(Yu (t.drop (p+1))||((t.drop (p+1)).headD 0 == 35&&YT (t.drop (p+1)).tail))):=by unfold ZH; rw[hp]
 have e1:(txt t).extract 0 p=txt (t.take p):=by
  have:=XZ h 0 p (by omega);rwa [Nat.zero_add,List.drop_zero] at this
 have e2:(txt t).extract (p+1) (txt t).size=txt (t.drop (p+1)):=by
  have:=XZ h (p+1) (t.length - (p+1)) (by omega);rw[show p+1+(t.length - (p+1))=t.length by omega] at this;rw[Zk,this,List.take_of_length_le (by simp)]
 have fq:=Zg (fun W=>Ve (t.take p) W (h.take p) (by rw[List.length_take]; omega));have aT:=Zk t;have HP:=Zg (show PlainAid.bt (txt t) p=46 from by rw[Yb h xL]; exact iU);have wX:=Zg (show ∀ j,p<j->j<(txt t).size->(PlainAid.bt (txt t) j == 46)=false from fun j h1 h2=>beq_eq_false_iff_ne.mpr (by rw[Yb h (by omega)]; exact gq j h1 (by omega)));have qu:(txt (t.drop (p+1))).size=t.length - (p+1):=by rw[Zk,List.length_drop]
 have nY:=Zg qu;have fM:=h.drop (p+1);have cO:=Zg (fun W=>VU (t.drop (p+1)) W fM (by rw[List.length_drop]; omega));have hlen:t.length - (p+1)=(t.drop (p+1)).length:=by rw[List.length_drop]
 have mZ:=Zg qy;have cu:=Zg e1;have eS:=Zg e2;have Ro:p<(txt t).size:=by omega
 have cY:(txt t).size<=1000000:=by omega
 have dU:=Zg (show Below w.heap.size w (w.alloc (.cells #[.string ⟨#[]⟩,.string ⟨#[]⟩,.int .i64 0,.bool false] 125)) from(Below.refl w.heap.size w).alloc (Nat.le_refl _) _);have jb:=Zg (heap_alloc_new w (.cells #[.string ⟨#[]⟩,.string ⟨#[]⟩,.int .i64 0,.bool false] 125));obtain⟨R,hR⟩: ∃ R,t.drop (p+1)=R:=⟨_,rfl⟩;obtain⟨D,hD⟩: ∃ D,t.take p=D:=⟨_,rfl⟩;rw[hR] at nY cO mZ eS fM hlen;rw[hD] at fq mZ cu ⊢;obtain⟨L,hL⟩: ∃ L,ZH t=L:=⟨_,rfl⟩;rw[hL] at mZ ⊢;have cM:=Zg (show(txt t).size=p+1+R.length from by omega);clear qy e1 e2 qu hR hD hL iU gq hp h aT xL hlen hl;have gb:=PlainAid.get_bt (txt t);generalize txt t=S at *;go_enter Tryz.func51,Tryz.ntmps51;generalize ve:w.alloc (.cells #[.string ⟨#[]⟩,.string ⟨#[]⟩,.int .i64 0,.bool false] 125)=w0 at *;go_wp2
 go_loop [4] (fun v=> ∃ k:Nat,p<=k/\k<S.size/\v= .int .i64 k) (fun v=>(intOf v).toNat)
 case atStart=>exact⟨S.size - 1,by omega,by omega,by congr 1; omega⟩
 case round =>
  obtain⟨k,hk,oN,rfl⟩:=hrel;by_cases af:p<k
  ·have hf:=wX.out k af oN;go_wp2
   go_round
   case rel=>exact⟨k - 1,by omega,by omega,by congr 1; omega⟩
   case measure=>simp[intOf]; omega
  ·obtain rfl:k=p:=by omega
   have hf:=HP.out;have EB:(0:Int)<=k:=by omega
   have ao:IntKind.i64.wrap ((k:Int)+1)=(k:Int)+1:=by rw[IntKind.wrap_i64]; omega
   have xv:=cu.out;have pv:=eS.out;rcases hD:Un D with _|_
   ·have hL:=mZ.out;rw[hD] at hL fq;simp only[Bool.false_and] at hL;subst hL;clear mZ cO eS pv HP wX;go_wp2_with fail
    refine(fq.out _).mono ?_;rintro e w' ⟨rfl,rfl⟩;obtain⟨w9,ah⟩: ∃ w9,w0.setRow w.heap.size #[.string ⟨#[]⟩,.string ⟨#[]⟩,.int .i64 0,.bool false]=w9:=⟨_,rfl⟩;have aP:=Zg ah;have ai:=Zg (show w9.heap[w.heap.size]? =some (.cells #[.string ⟨#[]⟩,.string ⟨#[]⟩,.int .i64 0,.bool false] 125 (0,0)) from by rw[<-ah]; exact setRow_heap _ _ _ _ _ _ jb.out);have ay:=Zg (show Below w.heap.size w w9 from by rw[<-ah]; exact below_setRow dU.out (Nat.le_refl _) _);have k0:w9.cell? ⟨w.heap.size,0,none⟩=some (.string ⟨#[]⟩):=by rw[Zh ai.out]; rfl
    have k1:w9.cell? ⟨w.heap.size,1,none⟩=some (.string ⟨#[]⟩):=by rw[Zh ai.out]; rfl
    have k2:w9.cell? ⟨w.heap.size,2,none⟩=some (.int .i64 0):=by rw[Zh ai.out]; rfl
    have k3:w9.cell? ⟨w.heap.size,3,none⟩=some (.bool false):=by rw[Zh ai.out]; rfl
    clear ah;go_wp2_with (first|(refine wpList_store_row rfl 125 _ _ rfl w.heap.size #[.string ⟨#[]⟩,.string ⟨#[]⟩,.int .i64 0,.bool false] rfl rfl 125 #[.string ⟨#[]⟩,.string ⟨#[]⟩,.int .i64 0,.bool false] jb.out VH rfl JQ ?_; refine(congrArg _ aP.out).mpr ?_)|fail)
    refine bodyPost_ret (v:= .tuple #[.agg #[.string ⟨#[]⟩,.string ⟨#[]⟩,.int .i64 0,.bool false],.bool false]) (by simp[results,Tryz.results51,go_sem,k0,k1,k2,k3]) rfl ⟨.mk (fun h=>(by first|exact absurd h (by decide)|rfl)),ay.out⟩
   ·have hL:=mZ.out;rw[hD] at hL fq;simp only[Bool.true_and] at hL;clear mZ;rcases R with _|⟨c,r⟩
    ·have Ba:L=false:=by rw[hL]; rfl
     subst Ba;have aB:=cM.out;simp only[List.length_nil,Nat.add_zero] at aB;have dl:((k:Int) == (S.size:Int) - 1)=true:=by rw[beq_iff_eq]; omega
     clear cO eS pv HP wX hL fM aB;go_wp2_with fail
     refine(fq.out _).mono ?_;rintro e w' ⟨rfl,rfl⟩;obtain⟨w9,ah⟩: ∃ w9,w0.setRow w.heap.size #[.string ⟨#[]⟩,.string ⟨#[]⟩,.int .i64 0,.bool false]=w9:=⟨_,rfl⟩;have aP:=Zg ah;have ai:=Zg (show w9.heap[w.heap.size]? =some (.cells #[.string ⟨#[]⟩,.string ⟨#[]⟩,.int .i64 0,.bool false] 125 (0,0)) from by rw[<-ah]; exact setRow_heap _ _ _ _ _ _ jb.out);have ay:=Zg (show Below w.heap.size w w9 from by rw[<-ah]; exact below_setRow dU.out (Nat.le_refl _) _);have k0:w9.cell? ⟨w.heap.size,0,none⟩=some (.string ⟨#[]⟩):=by rw[Zh ai.out]; rfl
     have k1:w9.cell? ⟨w.heap.size,1,none⟩=some (.string ⟨#[]⟩):=by rw[Zh ai.out]; rfl
     have k2:w9.cell? ⟨w.heap.size,2,none⟩=some (.int .i64 0):=by rw[Zh ai.out]; rfl
     have k3:w9.cell? ⟨w.heap.size,3,none⟩=some (.bool false):=by rw[Zh ai.out]; rfl
     clear ah;go_wp2_with (first|(refine wpList_store_row rfl 125 _ _ rfl w.heap.size #[.string ⟨#[]⟩,.string ⟨#[]⟩,.int .i64 0,.bool false] rfl rfl 125 #[.string ⟨#[]⟩,.string ⟨#[]⟩,.int .i64 0,.bool false] jb.out VH rfl JQ ?_; refine(congrArg _ aP.out).mpr ?_)|fail)
     refine bodyPost_ret (v:= .tuple #[.agg #[.string ⟨#[]⟩,.string ⟨#[]⟩,.int .i64 0,.bool false],.bool false]) (by simp[results,Tryz.results51,go_sem,k0,k1,k2,k3]) rfl ⟨.mk (fun h=>(by first|exact absurd h (by decide)|rfl)),ay.out⟩
    ·have aB:=cM.out;simp only[List.length_cons] at aB;have dl:((k:Int) == (S.size:Int) - 1)=false:=beq_eq_false_iff_ne.mpr (by omega);have bO:PlainAid.bt (txt (c::r)) 0=c:=by rw[Yb fM (by simp),Jz (by simp)]; rfl
     have zK:=Zk (c::r);rw[List.length_cons] at zK;have tL:Lb r:=fun v hv=>fM v (List.mem_cons_of_mem _ hv);by_cases hc:c=35
     ·subst hc;have Ba:L=YT r:=by rw[hL]; simp[Yu]
      have eQ:(txt (35::r)).extract 1 (txt (35::r)).size=txt r:=by
       have:=XZ fM 1 r.length (by rw[List.length_cons]; omega);rw[zK,Nat.add_comm,this];simp
      have oF:=fun W=>Zei r W tL (by omega);have NY:=Zg oF;have jy:(k:Int)+1<=S.size:=by omega
      have gT:=PlainAid.get_bt (txt (35::r));have NZ:0<(txt (35::r)).size:=by omega
      have Rp:(1:Int)<=(txt (35::r)).size:=by omega
      have db:(PlainAid.bt (txt (35::r)) 0 == 35)=true:=by rw[bO]; rfl
      clear cO HP wX hL fM tL oF bO zK eS aB;generalize txt (35::r)=T at *;generalize YT r=O at *;subst Ba;go_wp2_with fail
      refine(fq.out _).mono ?_;rintro e w' ⟨rfl,rfl⟩;go_wp2_with fail
      refine(NY.out _).mono ?_;rintro e w1 ⟨⟨N,rfl⟩,ao⟩;have fg:=Zg (dU.out.trans (ao.mono dU.out.size));have dw:=Zg ((ao.block w.heap.size (Zi jb.out)).trans jb.out);clear ao;rcases L with _|_
      ·obtain⟨w9,ah⟩: ∃ w9,w1.setRow w.heap.size #[.string ⟨#[]⟩,.string ⟨#[]⟩,.int .i64 0,.bool false]=w9:=⟨_,rfl⟩;have aP:=Zg ah;have ai:=Zg (show w9.heap[w.heap.size]? =some (.cells #[.string ⟨#[]⟩,.string ⟨#[]⟩,.int .i64 0,.bool false] 125 (0,0)) from by rw[<-ah]; exact setRow_heap _ _ _ _ _ _ dw.out);have ay:=Zg (show Below w.heap.size w w9 from by rw[<-ah]; exact below_setRow fg.out (Nat.le_refl _) _);have k0:w9.cell? ⟨w.heap.size,0,none⟩=some (.string ⟨#[]⟩):=by rw[Zh ai.out]; rfl
       have k1:w9.cell? ⟨w.heap.size,1,none⟩=some (.string ⟨#[]⟩):=by rw[Zh ai.out]; rfl
       have k2:w9.cell? ⟨w.heap.size,2,none⟩=some (.int .i64 0):=by rw[Zh ai.out]; rfl
       have k3:w9.cell? ⟨w.heap.size,3,none⟩=some (.bool false):=by rw[Zh ai.out]; rfl
       clear ah;go_wp2_with (first|(refine wpList_store_row rfl 125 _ _ rfl w.heap.size #[.string ⟨#[]⟩,.string ⟨#[]⟩,.int .i64 0,.bool false] rfl rfl 125 #[.string ⟨#[]⟩,.string ⟨#[]⟩,.int .i64 0,.bool false] dw.out VH rfl JQ ?_; refine(congrArg _ aP.out).mpr ?_)|fail)
       refine bodyPost_ret (v:= .tuple #[.agg #[.string ⟨#[]⟩,.string ⟨#[]⟩,.int .i64 0,.bool false],.bool false]) (by simp[results,Tryz.results51,go_sem,k0,k1,k2,k3]) rfl ⟨.mk (fun h=>(by first|exact absurd h (by decide)|rfl)),ay.out⟩
      ·obtain⟨w9,ah⟩: ∃ w9,w1.setRow w.heap.size #[.string (txt D),.string ⟨#[]⟩,.int .i64 N,.bool true]=w9:=⟨_,rfl⟩;have aP:=Zg ah;have ai:=Zg (show w9.heap[w.heap.size]? =some (.cells #[.string (txt D),.string ⟨#[]⟩,.int .i64 N,.bool true] 125 (0,0)) from by rw[<-ah]; exact setRow_heap _ _ _ _ _ _ dw.out);have ay:=Zg (show Below w.heap.size w w9 from by rw[<-ah]; exact below_setRow fg.out (Nat.le_refl _) _);have k0:w9.cell? ⟨w.heap.size,0,none⟩=some (.string (txt D)):=by rw[Zh ai.out]; rfl
       have k1:w9.cell? ⟨w.heap.size,1,none⟩=some (.string ⟨#[]⟩):=by rw[Zh ai.out]; rfl
       have k2:w9.cell? ⟨w.heap.size,2,none⟩=some (.int .i64 N):=by rw[Zh ai.out]; rfl
       have k3:w9.cell? ⟨w.heap.size,3,none⟩=some (.bool true):=by rw[Zh ai.out]; rfl
       clear ah;go_wp2_with (first|(refine wpList_store_row rfl 125 _ _ rfl w.heap.size #[.string (txt D),.string ⟨#[]⟩,.int .i64 N,.bool true] rfl rfl 125 #[.string ⟨#[]⟩,.string ⟨#[]⟩,.int .i64 0,.bool false] dw.out VH rfl JQ ?_; refine(congrArg _ aP.out).mpr ?_)|fail)
       refine bodyPost_ret (v:= .tuple #[.agg #[.string (txt D),.string ⟨#[]⟩,.int .i64 N,.bool true],.bool true]) (by simp[results,Tryz.results51,go_sem,k0,k1,k2,k3]) rfl ⟨.mk (fun h=>(by first|exact absurd h (by decide)|rfl)),ay.out⟩
     ·have Ba:L=Yu (c::r):=by rw[hL]; simp[hc]
      have gT:=PlainAid.get_bt (txt (c::r));have NZ:0<(txt (c::r)).size:=by omega
      have db:(PlainAid.bt (txt (c::r)) 0 == 35)=false:=by rw[bO]; exact beq_eq_false_iff_ne.mpr (by omega)
      have jy:(k:Int)+1<=S.size:=by omega
      clear HP wX hL fM tL bO zK eS aB;generalize txt (c::r)=T at *;generalize Yu (c::r)=O at *;subst Ba;go_wp2_with fail
      refine(fq.out _).mono ?_;rintro e w' ⟨rfl,rfl⟩;go_wp2_with fail
      refine(cO.out _).mono ?_;rintro e w' ⟨rfl,rfl⟩;rcases L with _|_
      ·obtain⟨w9,ah⟩: ∃ w9,w0.setRow w.heap.size #[.string ⟨#[]⟩,.string ⟨#[]⟩,.int .i64 0,.bool false]=w9:=⟨_,rfl⟩;have aP:=Zg ah;have ai:=Zg (show w9.heap[w.heap.size]? =some (.cells #[.string ⟨#[]⟩,.string ⟨#[]⟩,.int .i64 0,.bool false] 125 (0,0)) from by rw[<-ah]; exact setRow_heap _ _ _ _ _ _ jb.out);have ay:=Zg (show Below w.heap.size w w9 from by rw[<-ah]; exact below_setRow dU.out (Nat.le_refl _) _);have k0:w9.cell? ⟨w.heap.size,0,none⟩=some (.string ⟨#[]⟩):=by rw[Zh ai.out]; rfl
       have k1:w9.cell? ⟨w.heap.size,1,none⟩=some (.string ⟨#[]⟩):=by rw[Zh ai.out]; rfl
       have k2:w9.cell? ⟨w.heap.size,2,none⟩=some (.int .i64 0):=by rw[Zh ai.out]; rfl
       have k3:w9.cell? ⟨w.heap.size,3,none⟩=some (.bool false):=by rw[Zh ai.out]; rfl
       clear ah;go_wp2_with (first|(refine wpList_store_row rfl 125 _ _ rfl w.heap.size #[.string ⟨#[]⟩,.string ⟨#[]⟩,.int .i64 0,.bool false] rfl rfl 125 #[.string ⟨#[]⟩,.string ⟨#[]⟩,.int .i64 0,.bool false] jb.out VH rfl JQ ?_; refine(congrArg _ aP.out).mpr ?_)|fail)
       refine bodyPost_ret (v:= .tuple #[.agg #[.string ⟨#[]⟩,.string ⟨#[]⟩,.int .i64 0,.bool false],.bool false]) (by simp[results,Tryz.results51,go_sem,k0,k1,k2,k3]) rfl ⟨.mk (fun h=>(by first|exact absurd h (by decide)|rfl)),ay.out⟩
      ·obtain⟨w9,ah⟩: ∃ w9,w0.setRow w.heap.size #[.string (txt D),.string T,.int .i64 0,.bool false]=w9:=⟨_,rfl⟩;have aP:=Zg ah;have ai:=Zg (show w9.heap[w.heap.size]? =some (.cells #[.string (txt D),.string T,.int .i64 0,.bool false] 125 (0,0)) from by rw[<-ah]; exact setRow_heap _ _ _ _ _ _ jb.out);have ay:=Zg (show Below w.heap.size w w9 from by rw[<-ah]; exact below_setRow dU.out (Nat.le_refl _) _);have k0:w9.cell? ⟨w.heap.size,0,none⟩=some (.string (txt D)):=by rw[Zh ai.out]; rfl
       have k1:w9.cell? ⟨w.heap.size,1,none⟩=some (.string T):=by rw[Zh ai.out]; rfl
       have k2:w9.cell? ⟨w.heap.size,2,none⟩=some (.int .i64 0):=by rw[Zh ai.out]; rfl
       have k3:w9.cell? ⟨w.heap.size,3,none⟩=some (.bool false):=by rw[Zh ai.out]; rfl
       clear ah;go_wp2_with (first|(refine wpList_store_row rfl 125 _ _ rfl w.heap.size #[.string (txt D),.string T,.int .i64 0,.bool false] rfl rfl 125 #[.string ⟨#[]⟩,.string ⟨#[]⟩,.int .i64 0,.bool false] jb.out VH rfl JQ ?_; refine(congrArg _ aP.out).mpr ?_)|fail)
       refine bodyPost_ret (v:= .tuple #[.agg #[.string (txt D),.string T,.int .i64 0,.bool false],.bool true]) (by simp[results,Tryz.results51,go_sem,k0,k1,k2,k3]) rfl ⟨.mk (fun h=>(by first|exact absurd h (by decide)|rfl)),ay.out⟩
theorem Zg7 (t:List Nat) (w:World) (h:Lb t) (hl:t.length<=1000000) (p:Nat) (hp:Xq t=some p) :
 Calls Tryz.prog 51 #[.string (txt t)] w fun e w' =>
 (∃ D S O B,e= .returned (.tuple #[.agg #[.string D,.string S,.int .i64 O,.bool B],.bool (ZH t)]))/\Below w.heap.size w w':=by
 refine(JR t w h hl p hp).mono ?_;rintro e u ⟨⟨D,S,O,B,rfl,_⟩,hb⟩;exact⟨⟨D,S,O,B,rfl⟩,hb⟩
theorem UQ (t:List Nat) (w:World) (h:Lb t) (hl:t.length<=1000000) (hp:Xq t=none) :
 Calls Tryz.prog 51 #[.string (txt t)] w fun e w' =>
 (∃ D S O B,e= .returned (.tuple #[.agg #[.string D,.string S,.int .i64 O,.bool B],.bool (ZH t)]))/\Below w.heap.size w w':=by
 have mc:=UI hp;have qy:ZH t=false:=by unfold ZH; rw[hp]
 rw[qy];have aT:=Zk t;have wX:=Zg (show ∀ j,j<(txt t).size->(PlainAid.bt (txt t) j == 46)=false from fun j h2=>beq_eq_false_iff_ne.mpr (by rw[Yb h (by omega)]; exact mc j (by omega)));have dU:=Zg (show Below w.heap.size w (w.alloc (.cells #[.string ⟨#[]⟩,.string ⟨#[]⟩,.int .i64 0,.bool false] 125)) from(Below.refl w.heap.size w).alloc (Nat.le_refl _) _);have jb:=Zg (heap_alloc_new w (.cells #[.string ⟨#[]⟩,.string ⟨#[]⟩,.int .i64 0,.bool false] 125));have cY:(txt t).size<=1000000:=by omega
 clear qy aT mc hp h hl;have gb:=PlainAid.get_bt (txt t);generalize txt t=S at *;go_enter Tryz.func51,Tryz.ntmps51;generalize ve:w.alloc (.cells #[.string ⟨#[]⟩,.string ⟨#[]⟩,.int .i64 0,.bool false] 125)=w0 at *;go_wp2
 go_loop [4] (fun v=> ∃ k:Nat,k<=S.size/\v= .int .i64 ((k:Int) - 1)) (fun v=>(intOf v+1).toNat)
 case atStart=>exact⟨S.size,by omega,rfl⟩
 case round =>
  obtain⟨k,hk,rfl⟩:=hrel;rcases k with _|k
  ·have e0:(((0:Nat):Int) - 1)= -1:=by omega
   rw[e0];obtain⟨w9,ah⟩: ∃ w9,w0.setRow w.heap.size #[.string ⟨#[]⟩,.string ⟨#[]⟩,.int .i64 0,.bool false]=w9:=⟨_,rfl⟩;have aP:=Zg ah;have ai:=Zg (show w9.heap[w.heap.size]? =some (.cells #[.string ⟨#[]⟩,.string ⟨#[]⟩,.int .i64 0,.bool false] 125 (0,0)) from by rw[<-ah]; exact setRow_heap _ _ _ _ _ _ jb.out);have ay:=Zg (show Below w.heap.size w w9 from by rw[<-ah]; exact below_setRow dU.out (Nat.le_refl _) _);have k0:w9.cell? ⟨w.heap.size,0,none⟩=some (.string ⟨#[]⟩):=by rw[Zh ai.out]; rfl
   have k1:w9.cell? ⟨w.heap.size,1,none⟩=some (.string ⟨#[]⟩):=by rw[Zh ai.out]; rfl
   have k2:w9.cell? ⟨w.heap.size,2,none⟩=some (.int .i64 0):=by rw[Zh ai.out]; rfl
   have k3:w9.cell? ⟨w.heap.size,3,none⟩=some (.bool false):=by rw[Zh ai.out]; rfl
   clear ah;go_wp2_with (first|(refine wpList_store_row rfl 125 _ _ rfl w.heap.size #[.string ⟨#[]⟩,.string ⟨#[]⟩,.int .i64 0,.bool false] rfl rfl 125 #[.string ⟨#[]⟩,.string ⟨#[]⟩,.int .i64 0,.bool false] jb.out VH rfl JQ ?_; refine(congrArg _ aP.out).mpr ?_)|fail)
   refine bodyPost_ret (v:= .tuple #[.agg #[.string ⟨#[]⟩,.string ⟨#[]⟩,.int .i64 0,.bool false],.bool false]) (by simp[results,Tryz.results51,go_sem,k0,k1,k2,k3]) rfl ?_;first|exact⟨⟨_,_,_,.inl rfl⟩,ay.out⟩|exact⟨⟨_,_,_,_,rfl⟩,ay.out⟩
  ·have e0:(((k+1:Nat):Int) - 1)=(k:Int):=by omega
   rw[e0];have oN:k<S.size:=by omega
   have hf:=wX.out k oN;go_wp2
   go_round
   case rel=>exact⟨k,by omega,rfl⟩
   case measure=>simp[intOf]
theorem Zg8 (t:List Nat) (w:World) (h:Lb t) (hl:t.length<=1000000) :
 Calls Tryz.prog 51 #[.string (txt t)] w fun e w' =>
 (∃ D S O B,e= .returned (.tuple #[.agg #[.string D,.string S,.int .i64 O,.bool B],.bool (ZH t)]))/\Below w.heap.size w w':=by
 rcases hp:Xq t with _|p
 ·exact UQ t w h hl hp
 ·exact Zg7 t w h hl p hp
theorem Qb {P:Program} {ops:Array Oper} {o:Oper} {a:Act} {w:World} {K:Act->World->Prop} {Q:Exit->Act->World->Prop} {E:Prop} (eu:o.guard=none) (ty:TypeId) (x y:Operand) (ho:o.op= .store ty x y)
 (g:Nat) (cells:Array Value) (hx:a.eval x= .pointer (some ⟨g,0,none⟩)) (hy:a.eval y= .agg cells)
 (t:TypeId) (old:Array Value) (hg:w.heap[g]? =some (.cells old t (0,0))) (hi:(P.info? ty).map (·.size)=some cells.size)
 (hold:old.size=cells.size) (h1:cells.all (·.oneCell')=true)
 (h:K (a.put o.dst undef) (w.setRow g cells)):if Region.wanted o (yielded ops a.tmps)=true then Oper.wp P o a w K Q else E:=by
 rw[if_pos (by simp[Region.wanted,eu])];exact wp_store_row ty x y ho g cells hx hy t old hg hi hold h1 h
abbrev Rw.zero:Rw:=⟨0,0,0,0,0,0⟩
theorem Rw.info (r:Rw):(Tryz.prog.info? 187).map (·.size)=some r.cells.size:=by kernel_rfl
theorem Rw.one (r:Rw):r.cells.all (·.oneCell')=true:=by simp[Rw.cells,Value.oneCell']
def FindQ (r:Option Rw) (e:Ending):Prop:=match r with
 | some r=>e= .returned (.tuple #[.agg r.cells,.bool true])
 | none=> ∃ r:Rw,e= .returned (.tuple #[.agg r.cells,.bool false])
theorem Zmk (A:Option Addr) (cap:Nat) (bs:List Nat) (rva size:Int) (w:World) (hb:Lb bs) (hl:bs.length<=cap) (hc:cap<=9223372036854775807) (hlen:bs.length<=1099511627776) (hs:SlB w A bs.length (lF bs)) (hr: -9223372036854775808<=rva) (tj:rva<=9223372036854775807) (hz: -9223372036854775808<=size) (qM:size<=9223372036854775807) :
 Calls Tryz.prog 108 #[.slice A bs.length cap,.agg #[.int .i64 rva,.int .i64 size]] w fun e w'=>FindQ (Uv bs rva size) e/\Below w.heap.size w w':=by
 have HS:=Zg (fun W (hW:Below w.heap.size w W)=>SlB.below hs hW);have aJ:=Zg hb;obtain⟨R,hR⟩: ∃ R,Uv bs rva size=R:=⟨_,rfl⟩;rw[hR];unfold Uv at hR;by_cases c0:40<=size
 case neg =>
  rw[if_neg (by omega)] at hR;subst hR;have d0:size<40:=by omega
  clear hs c0;go_enter Tryz.func108,Tryz.ntmps108;go_wp2_with fail
  refine bodyPost_ret (v:= .tuple #[.agg Rw.zero.cells,.bool false]) (by simp[results,Tryz.results108,go_sem,Rw.cells]) rfl ⟨⟨Rw.zero,rfl⟩,by go_grown⟩
 have d0: ¬ size<40:=by omega
 by_cases c1:0<=rva/\rva<=bs.length - size
 case neg =>
  have HI:=Zg (fun W=>ZV A bs.length cap rva size false W (by omega) hz qM (by simp; omega));rw[if_neg (by omega)] at hR;subst hR;clear hs c0 c1;go_enter Tryz.func108,Tryz.ntmps108;go_wp2_with fail
  refine(HI.out _).mono ?_;rintro e w' ⟨rfl,rfl⟩;go_wp2_with fail
  refine bodyPost_ret (v:= .tuple #[.agg Rw.zero.cells,.bool false]) (by simp[results,Tryz.results108,go_sem,Rw.cells]) rfl ⟨⟨Rw.zero,rfl⟩,by go_grown⟩
 rw[if_pos (by omega)] at hR;have HI:=Zg (fun W=>ZV A bs.length cap rva size true W (by omega) hz qM (by simp; omega));obtain⟨o,rfl⟩: ∃ o:Nat,rva=(o:Int):=⟨rva.toNat,by omega⟩;rw[Int.toNat_natCast] at hR;have iv:o+40<=bs.length:=by omega
 have dA:=Zg (fun W (hW:Below w.heap.size w W)=>Wa A cap bs (o+16) W (by omega) aJ.out (by omega) (HS.out W hW));have jV:=Zg (fun W (hW:Below w.heap.size w W)=>Wa A cap bs (o+20) W (by omega) aJ.out (by omega) (HS.out W hW));have jW:=Zg (fun W (hW:Below w.heap.size w W)=>Wa A cap bs (o+24) W (by omega) aJ.out (by omega) (HS.out W hW));have fB:=Zg (fun W (hW:Below w.heap.size w W)=>Wa A cap bs (o+28) W (by omega) aJ.out (by omega) (HS.out W hW));have jX:=Zg (fun W (hW:Below w.heap.size w W)=>Wa A cap bs (o+32) W (by omega) aJ.out (by omega) (HS.out W hW));have jY:=Zg (fun W (hW:Below w.heap.size w W)=>Wa A cap bs (o+36) W (by omega) aJ.out (by omega) (HS.out W hW));have sO:=ZG (hb.drop (o+16)) 4;have sP:=ZG (hb.drop (o+20)) 4;have sQ:=ZG (hb.drop (o+24)) 4;have sR:=ZG (hb.drop (o+28)) 4;have sS:=ZG (hb.drop (o+32)) 4;have sU:=ZG (hb.drop (o+36)) 4;obtain⟨r,xz⟩: ∃ r,Zgu bs o=r:=⟨_,rfl⟩;rw[xz] at hR;obtain⟨b0,b1,b2,b3,b4,b5⟩:=r;unfold Zgu at xz;injection xz with h0 h1 h2 h3 h4 h5;rw[h0] at dA sO;rw[h1] at jV sP;rw[h2] at jW sQ;rw[h3] at fB sR;rw[h4] at jX sS;rw[h5] at jY sU;obtain⟨cg,cq⟩: ∃ q,o+16=q:=⟨_,rfl⟩;obtain⟨kp,kU⟩: ∃ q,o+20=q:=⟨_,rfl⟩;obtain⟨kq,kV⟩: ∃ q,o+24=q:=⟨_,rfl⟩;obtain⟨eG,eY⟩: ∃ q,o+28=q:=⟨_,rfl⟩;obtain⟨kr,kW⟩: ∃ q,o+32=q:=⟨_,rfl⟩;obtain⟨jZ,kX⟩: ∃ q,o+36=q:=⟨_,rfl⟩;rw[cq] at dA;rw[kU] at jV;rw[kV] at jW;rw[eY] at fB;rw[kW] at jX;rw[kX] at jY;have nf:(o:Int)+16=(cg:Int):=by omega
 have N1:(o:Int)+20=(kp:Int):=by omega
 have N2:(o:Int)+24=(kq:Int):=by omega
 have N3:(o:Int)+28=(eG:Int):=by omega
 have uz:(o:Int)+32=(kr:Int):=by omega
 have N4:(o:Int)+36=(jZ:Int):=by omega
 have N5:IntKind.i64.wrap (cg:Int)=(cg:Int):=by rw[IntKind.wrap_i64]; omega
 have N6:IntKind.i64.wrap (kp:Int)=(kp:Int):=by rw[IntKind.wrap_i64]; omega
 have N7:IntKind.i64.wrap (kq:Int)=(kq:Int):=by rw[IntKind.wrap_i64]; omega
 have N8:IntKind.i64.wrap (eG:Int)=(eG:Int):=by rw[IntKind.wrap_i64]; omega
 have N9:IntKind.i64.wrap (kr:Int)=(kr:Int):=by rw[IntKind.wrap_i64]; omega
 have Oa:IntKind.i64.wrap (jZ:Int)=(jZ:Int):=by rw[IntKind.wrap_i64]; omega
 have uz:(256:Nat) ^ 4=4294967296:=rfl;rw[uz] at sO sP sQ sR sS sU;have HR:=Zg hR;have HB:=Zg (And.intro sO (And.intro sP (And.intro sQ (And.intro sR (And.intro sS sU)))));clear h0 h1 h2 h3 h4 h5 cq kU kV eY kW kX uz hR hs sO sP sQ sR sS sU c0 c1 iv;go_enter Tryz.func108,Tryz.ntmps108;go_upto_region 3 with(first|(refine(HI.out _).mono ?_; rintro e w' ⟨rfl,rfl⟩)|fail)
 have uc:Below w.heap.size w ((w.alloc (.cells #[.int .i64 o,.int .i64 size] 37)).alloc (.cells #[.int .i64 0,.int .i64 0,.int .i64 0,.int .i64 0,.int .i64 0,.int .i64 0] 187)):=((Below.refl w.heap.size w).alloc (Nat.le_refl _) _).alloc (by simp) _;have cE:((w.alloc (.cells #[.int .i64 o,.int .i64 size] 37)).alloc (.cells #[.int .i64 0,.int .i64 0,.int .i64 0,.int .i64 0,.int .i64 0,.int .i64 0] 187)).heap[w.heap.size+1]? =some (.cells #[.int .i64 0,.int .i64 0,.int .i64 0,.int .i64 0,.int .i64 0,.int .i64 0] 187 (0,0)):=by
  have h:=heap_alloc_new (w.alloc (.cells #[.int .i64 o,.int .i64 size] 37)) (.cells #[.int .i64 0,.int .i64 0,.int .i64 0,.int .i64 0,.int .i64 0,.int .i64 0] 187);rwa [show(w.alloc (.cells #[.int .i64 o,.int .i64 size] 37)).heap.size=w.heap.size+1 by simp] at h
 have so:((w.alloc (.cells #[.int .i64 o,.int .i64 size] 37)).alloc (.cells #[.int .i64 0,.int .i64 0,.int .i64 0,.int .i64 0,.int .i64 0,.int .i64 0] 187)).heap[w.heap.size]? =some (.cells #[.int .i64 o,.int .i64 size] 37 (0,0)) :=
  (Below.heap_alloc _ _ w.heap.size (by simp)).trans (heap_alloc_new w _)
 have aT:((w.alloc (.cells #[.int .i64 o,.int .i64 size] 37)).alloc (.cells #[.int .i64 0,.int .i64 0,.int .i64 0,.int .i64 0,.int .i64 0,.int .i64 0] 187)).heap.size=w.heap.size+2:=by simp
 have dU:=Zg uc;have lJ:=Zg cE;have Bb:=Zg so;have eV:=Zg aT;clear uc cE so aT;generalize (w.alloc (.cells #[.int .i64 o,.int .i64 size] 37)).alloc (.cells #[.int .i64 0,.int .i64 0,.int .i64 0,.int .i64 0,.int .i64 0,.int .i64 0] 187)=wc at *;have sD:=Zg (fun W (hW:Below wc.heap.size wc W)=>show W.cell? ⟨w.heap.size,0,none⟩=some (.int .i64 o) from by
  rw[Zh ((hW.block w.heap.size (by rw[eV.out]; omega)).trans Bb.out)]; rfl)
 have HS:=Zg (show Below wc.heap.size wc wc.drew from(Below.refl _ _).drew);refine wp_region_noPanic ?_;refine Zt (fun W=>Below wc.heap.size wc W) (fun _=>True) 99 (by kernel_rfl) ?_;replace dA:=Zg (fun W (hW:Below wc.heap.size wc W)=>dA.out W (dU.out.trans (hW.mono dU.out.size)));replace jV:=Zg (fun W (hW:Below wc.heap.size wc W)=>jV.out W (dU.out.trans (hW.mono dU.out.size)));replace jW:=Zg (fun W (hW:Below wc.heap.size wc W)=>jW.out W (dU.out.trans (hW.mono dU.out.size)));replace fB:=Zg (fun W (hW:Below wc.heap.size wc W)=>fB.out W (dU.out.trans (hW.mono dU.out.size)));replace jX:=Zg (fun W (hW:Below wc.heap.size wc W)=>jX.out W (dU.out.trans (hW.mono dU.out.size)));replace jY:=Zg (fun W (hW:Below wc.heap.size wc W)=>jY.out W (dU.out.trans (hW.mono dU.out.size)));refine wU (i:=0) HS.out ?_;refine wU (i:=1) HS.out ?_;refine wU (i:=2) HS.out ?_ (hy:=by refine Or.inl ⟨by rfl,?_⟩; intro W aL; have hq:=sD.out W aL; clear aL; go_simp; try with_reducible rfl);refine wU (i:=3) HS.out ?_;refine Zz (i:=4) (oi:= ?_) (v:= .int .i64 b0) ?_ (by kernel_rfl) (by kernel_rfl) (by kernel_rfl) (fun _ _ _ h=>h) (by decide) ?_ HS.out (fun _=>trivial) ?_;rotate_left 1
 ·(simp only[Za,Zb,Zc]; rfl)
 ·refine⟨by rfl,fun W hW=>⟨132,#[.slice A bs.length cap,.int .i64 cg],?_,dA.out W hW⟩⟩;first|kernel_rfl|(go_simp; done)|rfl
 try simp only[Act.put,Zd,Ze,Zf]
 refine wU (i:=5) HS.out ?_;refine wU (i:=6) HS.out ?_;refine wU (i:=7) HS.out ?_ (hy:=by refine Or.inl ⟨by rfl,?_⟩; intro W aL; have hq:=sD.out W aL; clear aL; go_simp; try with_reducible rfl);refine wU (i:=8) HS.out ?_;refine Zz (i:=9) (oi:= ?_) (v:= .int .i64 b1) ?_ (by kernel_rfl) (by kernel_rfl) (by kernel_rfl) (fun _ _ _ h=>h) (by decide) ?_ HS.out (fun _=>trivial) ?_;rotate_left 1
 ·(simp only[Za,Zb,Zc]; rfl)
 ·refine⟨by rfl,fun W hW=>⟨132,#[.slice A bs.length cap,.int .i64 kp],?_,jV.out W hW⟩⟩;first|kernel_rfl|(go_simp; done)|rfl
 try simp only[Act.put,Zd,Ze,Zf]
 refine wU (i:=10) HS.out ?_;refine wU (i:=11) HS.out ?_;refine wU (i:=12) HS.out ?_ (hy:=by refine Or.inl ⟨by rfl,?_⟩; intro W aL; have hq:=sD.out W aL; clear aL; go_simp; try with_reducible rfl);refine wU (i:=13) HS.out ?_;refine Zz (i:=14) (oi:= ?_) (v:= .int .i64 b2) ?_ (by kernel_rfl) (by kernel_rfl) (by kernel_rfl) (fun _ _ _ h=>h) (by decide) ?_ HS.out (fun _=>trivial) ?_;rotate_left 1
 ·(simp only[Za,Zb,Zc]; rfl)
 ·refine⟨by rfl,fun W hW=>⟨132,#[.slice A bs.length cap,.int .i64 kq],?_,jW.out W hW⟩⟩;first|kernel_rfl|(go_simp; done)|rfl
 try simp only[Act.put,Zd,Ze,Zf]
 refine wU (i:=15) HS.out ?_;refine wU (i:=16) HS.out ?_;refine wU (i:=17) HS.out ?_ (hy:=by refine Or.inl ⟨by rfl,?_⟩; intro W aL; have hq:=sD.out W aL; clear aL; go_simp; try with_reducible rfl);refine wU (i:=18) HS.out ?_;refine Zz (i:=19) (oi:= ?_) (v:= .int .i64 b3) ?_ (by kernel_rfl) (by kernel_rfl) (by kernel_rfl) (fun _ _ _ h=>h) (by decide) ?_ HS.out (fun _=>trivial) ?_;rotate_left 1
 ·(simp only[Za,Zb,Zc]; rfl)
 ·refine⟨by rfl,fun W hW=>⟨132,#[.slice A bs.length cap,.int .i64 eG],?_,fB.out W hW⟩⟩;first|kernel_rfl|(go_simp; done)|rfl
 try simp only[Act.put,Zd,Ze,Zf]
 refine wU (i:=20) HS.out ?_;refine wU (i:=21) HS.out ?_;refine wU (i:=22) HS.out ?_ (hy:=by refine Or.inl ⟨by rfl,?_⟩; intro W aL; have hq:=sD.out W aL; clear aL; go_simp; try with_reducible rfl);refine wU (i:=23) HS.out ?_;refine Zz (i:=24) (oi:= ?_) (v:= .int .i64 b4) ?_ (by kernel_rfl) (by kernel_rfl) (by kernel_rfl) (fun _ _ _ h=>h) (by decide) ?_ HS.out (fun _=>trivial) ?_;rotate_left 1
 ·(simp only[Za,Zb,Zc]; rfl)
 ·refine⟨by rfl,fun W hW=>⟨132,#[.slice A bs.length cap,.int .i64 kr],?_,jX.out W hW⟩⟩;first|kernel_rfl|(go_simp; done)|rfl
 try simp only[Act.put,Zd,Ze,Zf]
 refine wU (i:=25) HS.out ?_;refine wU (i:=26) HS.out ?_;refine wU (i:=27) HS.out ?_ (hy:=by refine Or.inl ⟨by rfl,?_⟩; intro W aL; have hq:=sD.out W aL; clear aL; go_simp; try with_reducible rfl);refine wU (i:=28) HS.out ?_;refine Zz (i:=29) (oi:= ?_) (v:= .int .i64 b5) ?_ (by kernel_rfl) (by kernel_rfl) (by kernel_rfl) (fun _ _ _ h=>h) (by decide) ?_ HS.out (fun _=>trivial) ?_;rotate_left 1
 ·(simp only[Za,Zb,Zc]; rfl)
 ·refine⟨by rfl,fun W hW=>⟨132,#[.slice A bs.length cap,.int .i64 jZ],?_,jY.out W hW⟩⟩;first|kernel_rfl|(go_simp; done)|rfl
 try simp only[Act.put,Zd,Ze,Zf]
 refine wU (i:=30) HS.out ?_;refine wO (i:=31) (fun K hK=> ?_);go_simp;have aF:=Zg (HS.out.alloc HS.out.size (.cells #[.int .i64 0,.int .i64 0,.int .i64 0,.int .i64 0,.int .i64 0,.int .i64 0] 187));refine hK.out _ _ aF.out (fun _=>trivial) ?_;clear hK K;try simp only[Act.put,Zd,Ze,Zf]
 refine wO (i:=32) (fun K hK=> ?_);refine Qb rfl 187 _ _ rfl wc.heap.size (Rw.cells ⟨b0,b1,b2,b3,b4,b5⟩) ?_ ?_ 187 Rw.zero.cells (heap_alloc_new wc.drew _) (Rw.info _) rfl (Rw.one _) ?_
 ·first|rfl|simp[Act.eval]
 ·first|rfl|simp[Act.eval]
 have bY:=Zg (show Below wc.heap.size wc ((wc.alloc (.cells #[.int .i64 0,.int .i64 0,.int .i64 0,.int .i64 0,.int .i64 0,.int .i64 0] 187)).drew.setRow wc.heap.size (Rw.cells ⟨b0,b1,b2,b3,b4,b5⟩)) from below_setRow aF.out (Nat.le_refl _) (Rw.cells ⟨b0,b1,b2,b3,b4,b5⟩));have ki:=Zg (show((wc.alloc (.cells #[.int .i64 0,.int .i64 0,.int .i64 0,.int .i64 0,.int .i64 0,.int .i64 0] 187)).drew.setRow wc.heap.size (Rw.cells ⟨b0,b1,b2,b3,b4,b5⟩)).heap[wc.heap.size]? =some (.cells (Rw.cells ⟨b0,b1,b2,b3,b4,b5⟩) 187 (0,0)) from setRow_heap (wc.drew.alloc (.cells #[.int .i64 0,.int .i64 0,.int .i64 0,.int .i64 0,.int .i64 0,.int .i64 0] 187)) wc.heap.size _ (Rw.cells ⟨b0,b1,b2,b3,b4,b5⟩) _ _ (heap_alloc_new wc.drew (.cells #[.int .i64 0,.int .i64 0,.int .i64 0,.int .i64 0,.int .i64 0,.int .i64 0] 187)));refine hK.out _ _ bY.out (fun _=>trivial) ?_;clear hK K;try simp only[Act.put,Zd,Ze,Zf]
 refine Zo (by kernel_rfl) ?_ _;refine NoPanic.normal ?_;have iP:=Zg ((bY.out.block (w.heap.size+1) (by rw[eV.out]; omega)).trans lJ.out);have lg:=Zg (dU.out.trans (bY.out.mono dU.out.size));generalize (wc.alloc (.cells #[.int .i64 0,.int .i64 0,.int .i64 0,.int .i64 0,.int .i64 0,.int .i64 0] 187)).drew.setRow wc.heap.size (Rw.cells ⟨b0,b1,b2,b3,b4,b5⟩)=w3 at *;generalize wc.heap.size=b6 at *;have c0:w3.cell? ⟨b6,0,none⟩=some (.int .i64 b0):=by rw[Zh ki.out]; rfl
 have c1:w3.cell? ⟨b6,1,none⟩=some (.int .i64 b1):=by rw[Zh ki.out]; rfl
 have c2:w3.cell? ⟨b6,2,none⟩=some (.int .i64 b2):=by rw[Zh ki.out]; rfl
 have c3:w3.cell? ⟨b6,3,none⟩=some (.int .i64 b3):=by rw[Zh ki.out]; rfl
 have c4:w3.cell? ⟨b6,4,none⟩=some (.int .i64 b4):=by rw[Zh ki.out]; rfl
 have c5:w3.cell? ⟨b6,5,none⟩=some (.int .i64 b5):=by rw[Zh ki.out]; rfl
 obtain⟨w4,cX⟩: ∃ w4,w3.setRow (w.heap.size+1) Rw.zero.cells=w4:=⟨_,rfl⟩;have eX:=Zg (show w4.heap[w.heap.size+1]? =some (.cells Rw.zero.cells 187 (0,0)) from by rw[<-cX]; exact setRow_heap w3 (w.heap.size+1) _ Rw.zero.cells _ _ iP.out);have fY:=Zg (show Below w.heap.size w w4 from by rw[<-cX]; exact below_setRow lg.out (Nat.le_succ _) _);have gW:=Zg cX;have k0:w4.cell? ⟨w.heap.size+1,0,none⟩=some (.int .i64 0):=by rw[Zh eX.out]; rfl
 have k1:w4.cell? ⟨w.heap.size+1,1,none⟩=some (.int .i64 0):=by rw[Zh eX.out]; rfl
 have k2:w4.cell? ⟨w.heap.size+1,2,none⟩=some (.int .i64 0):=by rw[Zh eX.out]; rfl
 have k3:w4.cell? ⟨w.heap.size+1,3,none⟩=some (.int .i64 0):=by rw[Zh eX.out]; rfl
 have k4:w4.cell? ⟨w.heap.size+1,4,none⟩=some (.int .i64 0):=by rw[Zh eX.out]; rfl
 have k5:w4.cell? ⟨w.heap.size+1,5,none⟩=some (.int .i64 0):=by rw[Zh eX.out]; rfl
 clear cX HS aF bY sD HI aJ nf N1 N2 N3 uz N4 N5 N6 N7 N8 N9 Oa dA jV jW fB jX jY eV Bb;by_cases g4:b0<65536/\b1<=256/\b2<=256/\b0+b1<=65536
 case neg =>
  have sk:=Zg (show R=none from by
   rw[<-HR.out];refine if_neg fun h=>g4 ?_;simp only[Rw.ok,Bool.and_eq_true,decide_eq_true_eq] at h;exact⟨h.1.1.1.1.1.1,h.1.1.1.1.1.2,h.1.1.1.1.2,h.1.1.1.2⟩)
  have Ob:(65536:Int)<=b0\/((b0:Int)<65536/\(256:Int)<b1)\/((b0:Int)<65536/\(b1:Int)<=256/\(256:Int)<b2)\/((b0:Int)<65536/\(b1:Int)<=256/\(b2:Int)<=256/\(65536:Int)<(b0:Int)+(b1:Int)):=by omega
  clear g4 c3 c4 c5;rcases Ob with i1|⟨i1,i2⟩|⟨i1,i2,i3⟩|⟨i1,i2,i3,i4⟩;all_goals
   go_wp2_with (first|(refine wpList_store_row rfl 187 _ _ rfl (w.heap.size+1) Rw.zero.cells rfl rfl 187 Rw.zero.cells iP.out (Rw.info _) rfl (Rw.one _) ?_; rw[gW.out])|fail)
   refine bodyPost_ret (v:= .tuple #[.agg Rw.zero.cells,.bool false]) (by simp[results,Tryz.results108,go_sem,Rw.cells,k0,k1,k2,k3,k4,k5]) rfl ⟨?_,fY.out⟩;rw[sk.out];exact⟨Rw.zero,rfl⟩
 obtain⟨q1,dO⟩: ∃ q,4 * b1=q:=⟨_,rfl⟩;obtain⟨q2,ej⟩: ∃ q,4 * b2=q:=⟨_,rfl⟩;obtain⟨q3,Kh⟩: ∃ q,2 * b2=q:=⟨_,rfl⟩;have Rq:(4:Int) * (b1:Int)=(q1:Int):=by omega
 have GN:(4:Int) * (b2:Int)=(q2:Int):=by omega
 have Rr:(2:Int) * (b2:Int)=(q3:Int):=by omega
 have pV:=Zg (fun W=>Uw A bs.length cap b3 q1 W (by omega) (by omega));have B9:=Zg (fun W=>Uw A bs.length cap b4 q2 W (by omega) (by omega));have Ab:=Zg (fun W=>Uw A bs.length cap b5 q3 W (by omega) (by omega));have cd:R=if inL bs.length b3 q1&&inL bs.length b4 q2&&inL bs.length b5 q3 then some ⟨b0,b1,b2,b3,b4,b5⟩ else none:=by
  rw[<-HR.out];obtain⟨g1,g2,g3,g5⟩:=g4;simp only[Rw.ok,g1,g2,g3,g5,decide_true,Bool.true_and,dO,ej,Kh]
 have i1:decide ((65536:Int)<=(b0:Int))=false:=decide_eq_false (by omega);have i2:decide ((256:Int)<(b1:Int))=false:=decide_eq_false (by omega);have i3:decide ((256:Int)<(b2:Int))=false:=decide_eq_false (by omega);obtain⟨CT,F8⟩: ∃ q,b0+b1=q:=⟨_,rfl⟩;have es:(b0:Int)+(b1:Int)=(CT:Int):=by omega
 have ws:IntKind.i64.wrap (CT:Int)=(CT:Int):=by rw[IntKind.wrap_i64]; omega
 have i4:decide ((65536:Int)<(CT:Int))=false:=decide_eq_false (by omega);have Rs:IntKind.i64.wrap (q1:Int)=(q1:Int):=by rw[IntKind.wrap_i64]; omega
 have GO:IntKind.i64.wrap (q2:Int)=(q2:Int):=by rw[IntKind.wrap_i64]; omega
 have Rt:IntKind.i64.wrap (q3:Int)=(q3:Int):=by rw[IntKind.wrap_i64]; omega
 generalize inL bs.length b3 q1=T1 at *;generalize inL bs.length b4 q2=T2 at *;generalize inL bs.length b5 q3=T3 at *;clear g4 dO ej Kh F8;go_wp2_with fail
 refine(pV.out _).mono ?_;rintro e w' ⟨rfl,rfl⟩;cases T1
 ·have sk:R=none:=cd;clear cd B9 Ab;go_wp2_with (first|(refine wpList_store_row rfl 187 _ _ rfl (w.heap.size+1) Rw.zero.cells rfl rfl 187 Rw.zero.cells iP.out (Rw.info _) rfl (Rw.one _) ?_; rw[gW.out])|fail)
  refine bodyPost_ret (v:= .tuple #[.agg Rw.zero.cells,.bool false]) (by simp[results,Tryz.results108,go_sem,Rw.cells,k0,k1,k2,k3,k4,k5]) rfl ⟨?_,fY.out⟩;rw[sk];exact⟨Rw.zero,rfl⟩
 go_wp2_with fail
 refine(B9.out _).mono ?_;rintro e w' ⟨rfl,rfl⟩;cases T2
 ·have sk:R=none:=cd;clear cd Ab;go_wp2_with (first|(refine wpList_store_row rfl 187 _ _ rfl (w.heap.size+1) Rw.zero.cells rfl rfl 187 Rw.zero.cells iP.out (Rw.info _) rfl (Rw.one _) ?_; rw[gW.out])|fail)
  refine bodyPost_ret (v:= .tuple #[.agg Rw.zero.cells,.bool false]) (by simp[results,Tryz.results108,go_sem,Rw.cells,k0,k1,k2,k3,k4,k5]) rfl ⟨?_,fY.out⟩;rw[sk];exact⟨Rw.zero,rfl⟩
 go_wp2_with fail
 refine(Ab.out _).mono ?_;rintro e w' ⟨rfl,rfl⟩;cases T3
 ·have sk:R=none:=cd;clear cd;go_wp2_with (first|(refine wpList_store_row rfl 187 _ _ rfl (w.heap.size+1) Rw.zero.cells rfl rfl 187 Rw.zero.cells iP.out (Rw.info _) rfl (Rw.one _) ?_; rw[gW.out])|fail)
  refine bodyPost_ret (v:= .tuple #[.agg Rw.zero.cells,.bool false]) (by simp[results,Tryz.results108,go_sem,Rw.cells,k0,k1,k2,k3,k4,k5]) rfl ⟨?_,fY.out⟩;rw[sk];exact⟨Rw.zero,rfl⟩
 have iW:R=some ⟨b0,b1,b2,b3,b4,b5⟩:=cd;clear cd;obtain⟨w5,pB⟩: ∃ w5,w3.setRow (w.heap.size+1) (Rw.cells ⟨b0,b1,b2,b3,b4,b5⟩)=w5:=⟨_,rfl⟩;have fW:=Zg (show w5.heap[w.heap.size+1]? =some (.cells (Rw.cells ⟨b0,b1,b2,b3,b4,b5⟩) 187 (0,0)) from by rw[<-pB]; exact setRow_heap w3 (w.heap.size+1) _ (Rw.cells ⟨b0,b1,b2,b3,b4,b5⟩) _ _ iP.out);have gR:=Zg (show Below w.heap.size w w5 from by rw[<-pB]; exact below_setRow lg.out (Nat.le_succ _) _);have jQ:=Zg pB;clear pB k0 k1 k2 k3 k4 k5;have k0:w5.cell? ⟨w.heap.size+1,0,none⟩=some (.int .i64 b0):=by rw[Zh fW.out]; rfl
 have k1:w5.cell? ⟨w.heap.size+1,1,none⟩=some (.int .i64 b1):=by rw[Zh fW.out]; rfl
 have k2:w5.cell? ⟨w.heap.size+1,2,none⟩=some (.int .i64 b2):=by rw[Zh fW.out]; rfl
 have k3:w5.cell? ⟨w.heap.size+1,3,none⟩=some (.int .i64 b3):=by rw[Zh fW.out]; rfl
 have k4:w5.cell? ⟨w.heap.size+1,4,none⟩=some (.int .i64 b4):=by rw[Zh fW.out]; rfl
 have k5:w5.cell? ⟨w.heap.size+1,5,none⟩=some (.int .i64 b5):=by rw[Zh fW.out]; rfl
 go_wp2_with (first|(refine wpList_store_row rfl 187 _ _ rfl (w.heap.size+1) (Rw.cells ⟨b0,b1,b2,b3,b4,b5⟩) rfl rfl 187 Rw.zero.cells iP.out (Rw.info _) rfl (Rw.one _) ?_; rw[jQ.out])|fail)
 refine bodyPost_ret (v:= .tuple #[.agg (Rw.cells ⟨b0,b1,b2,b3,b4,b5⟩),.bool true]) (by simp[results,Tryz.results108,go_sem,Rw.cells,k0,k1,k2,k3,k4,k5]) rfl ⟨?_,gR.out⟩;rw[iW];rfl
end Go.Proofs.YtplgdpjbkdagfaaGreat
