import Derived.Test.YtplgdpjbkdagfaaGreatZPeN
import Derived.Test.YtplgdpjbkdagfaaGreatZImpP
import Derived.Test.YtplgdpjbkdagfaaGreatZRelApart
import Derived.Test.YtplgdpjbkdagfaaGreatZExpI0
import Derived.Test.YtplgdpjbkdagfaaGreatZRelMade
import Derived.Test.YtplgdpjbkdagfaaGreatZPeH
import Derived.Deep.Cut
import Derived.Deep.CutRange
import Derived.Deep.CutBlock
namespace Go.Proofs.YtplgdpjbkdagfaaGreat
set_option maxHeartbeats 8000000
open List renaming setIfInBounds_toArray→Zd, set_cons_zero→Ze, set_cons_succ→Zf
open Lib renaming hid→Zg
open Go.ChangeShapes Go.WideShapes Go.ChangeAt Go.RowKit
set_option linter.unusedVariables false
set_option linter.unusedSimpArgs false
set_option maxRecDepth 100000
structure PIn where
 wh:Int
 fA:Option Addr
 fn:Nat
 fc:Nat
 fS:Nat->ByteArray
 nA:Option Addr
 nn:Nat
 nc:Nat
 nS:Nat->ByteArray
 iA:Option Addr
 im:Nat
 ic:Nat
 iX:VA
 lA:Option Addr
 lm:Nat
 lc:Nat
 lX:VA
 rA:Option Addr
 rL:List YQ
 rc:Nat
 bA:Option Addr
 bL:List (ByteArray × Int)
 bc:Nat
 ix:Int
 cA:Option Addr
 cL:List Int
 cc:Nat
def PIn.cells (p:PIn):Array Value:= #[.int .i64 p.wh,.slice p.fA p.fn p.fc,.slice p.nA p.nn p.nc,.slice p.iA p.im p.ic,.slice p.lA p.lm p.lc,.slice p.rA p.rL.length p.rc,.slice p.bA p.bL.length p.bc,.int .i64 p.ix,.slice p.cA p.cL.length p.cc]
structure PIn.Is (p:PIn) (w:World):Prop where
 f:Zip w p.fA p.fn p.fS
 n:Zip w p.nA p.nn p.nS
 i:Zna w p.iA p.im p.iX
 l:Zna w p.lA p.lm p.lX
 r:SlT Wk 2 w p.rA p.rL
 b:SlT bX 2 w p.bA p.bL
 c:SlT WH 1 w p.cA p.cL
theorem PIn.Is.below {p:PIn} {w w':World} (h:p.Is w) (hb:Below w.heap.size w w'):p.Is w':=⟨h.f.below hb,h.n.below hb,h.i.below hb,h.l.below hb,h.r.below hb,h.b.below hb,h.c.below hb⟩
structure PIn.Lens (p:PIn):Prop where
 f:p.fn<=9223372036854775807
 n:p.nn<=9223372036854775807
 i:p.im<=9223372036854775807
 l:p.lm<=9223372036854775807
 r:p.rL.length<=9223372036854775807
 b:p.bL.length<=9223372036854775807
 c:p.cL.length<=9223372036854775807
 fs: ∀ j,j<p.fn->(p.fS j).size<=9223372036854775807
 ns: ∀ j,j<p.nn->(p.nS j).size<=9223372036854775807
 bs: ∀ x∈p.bL,x.1.size<=9223372036854775807
structure PIn.Few (p:PIn):Prop where
 f: ∀ j,j<12->j<p.fn->(p.fS j).size<=60
 n: ∀ j,j<12->j<p.nn->(p.nS j).size<=60
 b:p.bL.length<=34
 bs: ∀ x∈p.bL,x.1.size<=60
 r:p.rL.length<=60
 i:p.im<=20
 is: ∀ j,j<p.im->FewI p.iX j
 l:p.lm<=20
 ls: ∀ j,j<p.lm->FewI p.lX j
theorem Zit {rows Z:Nat}: ∀(l:List (List Nat)) (i:Nat) (b:List Nat),rows+4 * (i+l.length)<=Z->Z<=b.length->(∀ s∈l,TxOk s)->b.length<=(atF rows l i b).length/\(atF rows l i b).length<=b.length+201 * l.length
 | [],i,b,_,_,_=>by simp[atF]
 | s::l,i,b,h,hz,hs=>by
   have Cc:(s::l).length=l.length+1:=List.length_cons;have cY:=(hs s (by simp)).2;have aQ:b.length<=(Zgs rows b i s).length/\(Zgs rows b i s).length<=b.length+201:=by
    unfold Zgs;split
    ·rw[Zp (by simp only[List.length_append,List.length_singleton]; omega)];simp only[List.length_append,List.length_singleton];omega
    ·rw[Zp (by omega)];omega
   have ih:=Zit (rows:=rows) (Z:=Z) l (i+1) (Zgs rows b i s) (by omega) (by omega) (fun x hx=>hs x (List.mem_cons_of_mem _ hx));simp only[atF];omega
theorem Ziu {r1 r2 n Z:Nat}: ∀(l:List (List Nat)) (i:Nat) (b:List Nat),r1+4 * (i+l.length)<=Z->r2+2 * (i+l.length)<=Z->Z<=b.length->(∀ s∈l,TxOk s)->b.length<=(atN r1 r2 n l i b).length/\(atN r1 r2 n l i b).length<=b.length+201 * l.length
 | [],i,b,_,_,_,_=>by simp[atN]
 | s::l,i,b,h,h2,hz,hs=>by
   have Cc:(s::l).length=l.length+1:=List.length_cons;have cY:=(hs s (by simp)).2;have aQ:b.length<=(Zgt r1 r2 n b i s).length/\(Zgt r1 r2 n b i s).length<=b.length+201:=by
    unfold Zgt;have l1:=Zp (b:=b) (o:=r1+4 * i) (n:=4) (by omega) b.length;have l2:=Zp (b:=ZW b (r1+4 * i) 4 b.length) (o:=r2+2 * i) (n:=2) (by omega) (i % max n 1);simp only[List.length_append,List.length_singleton,l2,l1];omega
   have ih:=Ziu (r1:=r1) (r2:=r2) (n:=n) (Z:=Z) l (i+1) (Zgt r1 r2 n b i s) (by omega) (by omega) (by omega) (fun x hx=>hs x (List.mem_cons_of_mem _ hx));simp only[atN];omega
def bdN (i:Nat):Nat:=if i=0 then 4160 else if i=1 then 9500 else if i=2 then 171000 else if i=3 then 172000 else if i=4 then 173000 else if i=5 then 178000 else 340000
theorem Wq {b:List Nat} {o n v L:Nat} (hb:b.length=L) (h:o+n<=L):(ZW b o n v).length=L:=by rw[Zp (by omega)]; exact hb
theorem Ziv (start n m base:Nat):(atH start n m base).length=start+40+4 * n+6 * m:=by
 unfold atH;exact Wq (Wq (Wq (Wq (Wq (Wq List.length_replicate (by omega)) (by omega)) (by omega)) (by omega)) (by omega)) (by omega)
theorem Ziw {w:World} {base g c:Nat} {bs:List Nat} (h:YG w base g c bs):YA w base g bs.length c (lF bs):=⟨h.le,h.lt,h.row,h.lb.b255,h.len,h.most,h.wr⟩
theorem at7w (st:Nat) (aQ:st<=4200) (F:Option Addr) (lf fc:Nat) (SF:Nat->ByteArray) (N:Option Addr) (ln nc:Nat) (SN:Nat->ByteArray) (w:World) (hF:Zip w F lf SF) (hN:Zip w N ln SN) (oX:lf<=9223372036854775807) (ow:ln<=9223372036854775807) (hf: ∀ j,j<12->j<lf->(SF j).size<=60) (hn: ∀ j,j<12->j<ln->(SN j).size<=60) :
 Calls Tryz.prog 27 #[.int .i64 st,.slice F lf fc,.slice N ln nc,.int .i64 3] w fun e u=> ∃ g c n f a b,e= .returned (.tuple #[.slice (some ⟨g,0,none⟩) n c,.agg #[.int .i64 a,.int .i64 b]])/\st<=n/\n<=st+5300/\YA u w.heap.size g n c f/\Below w.heap.size w u:=by
 have k1:=Ziq (n:=lf) (Sx:=SF) (fun j h1 h2=>Nat.le_trans (hf j h1 h2) (by omega));have k2:=Ziq (n:=ln) (Sx:=SN) (fun j h1 h2=>Nat.le_trans (hn j h1 h2) (by omega));have l1:=Zam lf SF;have l2:=Zam ln SN;have h:=Zn4 st 3 (UH lf SF) (UH ln SN) lf ln F N fc nc w aQ hF.fst hN.fst k1 k2 (by omega) (by omega) (by omega) oX ow _ _ rfl rfl;have t1:(UH lf SF).take 12=UH lf SF:=List.take_of_length_le (by omega);have t2:(UH ln SN).take 12=UH ln SN:=List.take_of_length_le (by omega);rw[t1,t2] at h;have hB:=Zit (rows:=st+40) (Z:=st+40+4 * (UH lf SF).length+6 * (UH ln SN).length) (UH lf SF) 0 (atH st (UH lf SF).length (UH ln SN).length 3) (by omega) (by rw[Ziv]; exact Nat.le_refl _) k1;rw[Ziv] at hB;have hE:=Ziu (r1:=st+40+4 * (UH lf SF).length) (r2:=st+40+4 * (UH lf SF).length+4 * (UH ln SN).length) (n:=(UH lf SF).length) (Z:=st+40+4 * (UH lf SF).length+6 * (UH ln SN).length) (UH ln SN) 0 (atB st (UH lf SF) (UH ln SN).length 3) (by omega) (by omega) (by unfold atB; omega) k2;refine h.mono ?_;rintro e u ⟨g,c,rfl,ho,hb⟩;refine⟨g,c,_,_,_,_,rfl,?_,?_,Ziw ho,hb⟩
 ·unfold atE; unfold atB at hE ⊢; omega
 ·unfold atE; unfold atB at hE ⊢; omega
theorem Zfc (delay:Bool) (st D:Nat) (hD:Zfx delay=D) (Hw:20<=D): ∀(l:List PIm) (i:Nat) (b:List Nat),st+D * (i+l.length+1)<=b.length->(∀ x∈l,(∀ s∈x.syms,s.1.length<=100)/\x.dll.length<=100)->b.length<=(Zj3 delay st l i b).length/\(Zj3 delay st l i b).length<=b.length+8500 * l.length
 | [],i,b,_,_=>by simp[Zj3]
 | x::l,i,b,h,hs=>by
   have Cc:(x::l).length=l.length+1:=List.length_cons;obtain⟨h1,h2⟩:=hs x (by simp);rw[Cc] at h;have e1:D * (i+(l.length+1)+1)=D * i+D * l.length+D+D:=by rw[Nat.mul_add,Nat.mul_add,Nat.mul_add,Nat.mul_one]; omega
   have e2:D * (i+1+l.length+1)=D * i+D * l.length+D+D:=by rw[Nat.mul_add,Nat.mul_add,Nat.mul_add,Nat.mul_one]; omega
   have k:=JP delay (st+D * i) i b x (by omega) h1 h2;have ih:=Zfc delay st D hD Hw l (i+1) (Wi delay (st+D * i) i b x) (by omega) (fun y hy=>hs y (List.mem_cons_of_mem _ hy));simp only[Zj3,hD];omega
theorem Zix (st:Nat) (delay:Bool) (X:VA) (n:Nat) (hf: ∀ i,i<n->FewI X i):st<=(at8 st (WG X n) delay).length/\(at8 st (WG X n) delay).length<=st+153700:=by
 have hlen:(WG X n).length=n:=by simp[WG]
 have hD:Zfx delay<=32/\20<=Zfx delay:=by unfold Zfx; split <;> omega
 obtain⟨m,hm⟩: ∃ m,min n 18=m:=⟨_,rfl⟩;have td:((WG X n).take 18).length=m:=by rw[List.length_take,hlen]; omega
 have hx: ∀ x∈(WG X n).take 18,(∀ s∈x.syms,s.1.length<=100)/\x.dll.length<=100:=fun x hx=>by
  have hx:=List.mem_of_mem_take hx;simp only[WG,List.mem_map,List.mem_range] at hx;obtain⟨i,hi,rfl⟩:=hx;obtain⟨h1,h2,h3⟩:=hf i hi;refine⟨fun s hs=> ?_,by simp only[Wy]; omega⟩;simp only[List.mem_map,List.mem_range] at hs;obtain⟨j,hj,rfl⟩:=hs;simp only[Wy];have:=h3 j hj;omega
 obtain⟨D,EG⟩: ∃ D,Zfx delay=D:=⟨_,rfl⟩;rw[EG] at hD;have Es:D * (m+1)=D * m+D:=by rw[Nat.mul_add,Nat.mul_one]
 have GM:D * (0+m+1)=D * m+D:=by rw[Nat.zero_add]; exact Es
 have L9:D * m<=32 * 18:=Nat.mul_le_mul hD.1 (by omega);unfold at8;rw[hlen,hm,EG];have k:=Zfc delay st D EG hD.2 ((WG X n).take 18) 0 (List.replicate (st+D * (m+1)) 0) (by rw[td,List.length_replicate]; omega) hx;rw[td,List.length_replicate] at k;omega
theorem Zb4 (l:List YQ): ∀(F k:Nat),k<=l.length->(Ug l F k).length<=12 * (l.length - k)
 | 0,k,_=>by simp[Ug]
 | F+1,k,hk=>by
   unfold Ug;by_cases af:k<l.length
   ·rw[List.getElem?_eq_getElem af];simp only;have hd:l.drop k=l[k]::l.drop (k+1):=List.drop_eq_getElem_cons af;obtain⟨r,aY⟩: ∃ r,Zf3 (l[k].2 / 4096) (l.drop k)=r:=⟨_,rfl⟩;have uB:1<=r:=by rw[<-aY,hd]; exact Zmj rfl
    obtain⟨t1,_⟩:=Zcv (l[k].2 / 4096) (l.drop k);rw[aY] at t1 ⊢;rw[List.length_drop] at t1;have ih:=Zb4 l F (k+r) (by omega);obtain⟨_,v2⟩:=Zmi ((l.drop k).take r);rw[List.length_take,List.length_drop] at v2;rw[List.length_append,Zop];unfold QH;rw[List.length_append,List.length_append,ZP,ZP,Zeg];omega
   ·rw[List.getElem?_eq_none (by omega)];simp
theorem Zb5 (l:List YQ): ∀(F k:Nat),Bs (Ug l F k)
 | 0,k=>Bs.nil
 | F+1,k=>by
   unfold Ug;cases l[k]? with
   | none=>exact Bs.nil
   | some x =>
     refine((Zng _).append (Zng _)).append ?_ |>.append (Zb5 l F _);have h:Bs ((((l.drop k).take (Zf3 (x.2 / 4096) (l.drop k))).flatMap ent)):=fun b hb=>by
      obtain⟨y,_,hy⟩:=List.mem_flatMap.1 hb;exact ent_bs y b hy
     unfold pad;split
     ·exact h.append (fun b hb=>by simp at hb; omega)
     ·exact h
theorem relw (n:Nat) (hn:n<=300000) (h0:0<n) (L:Option Addr) (l:List YQ) (cap:Nat) (w:World) (hl:SlT Wk 2 w L l) (iY:l.length<=60) (hr: ∀ x∈l,0<=x.2/\x.2<16777216) :
 Calls Tryz.prog 29 #[.slice L l.length cap,.int .i64 n] w fun e u=> ∃ g c m f a b,e= .returned (.tuple #[.slice (some ⟨g,0,none⟩) m c,.agg #[.int .i64 a,.int .i64 b]])/\n<=m/\m<=n+720/\Wj u g 0 m c f/\Below w.heap.size w u:=by
 refine(Zef L l cap n w hl iY hn hr).mono ?_;rintro e u ⟨A,c,rfl,ho,hb⟩;have hle:=Zb4 l (l.length+1) 0 (by omega);obtain⟨_,h1,h2,h3,h4⟩:=ho.slice;rcases h4 with h4|⟨g,rfl,_,hg⟩
 ·omega
 ·simp only[maxLen] at h2;rcases h3 with h3|⟨b',mw,hA,af,cE⟩
  ·omega
  ·injection hA with hA;injection hA with e1 e2;subst e1 e2;exact⟨g,c,_,_,_,_,rfl,by omega,by omega,⟨cE,((show Bs (UO n) from Bs.listF (fun i=>by omega) n).append (Zb5 l _ _)).lit,af,h1,by omega⟩,hb⟩
def MkQb (w:World) (st bd:Nat) (v10 v12 v13:Value) (wx:World):Prop :=
 ∃(g n c k P:Nat) (f:Nat->Int) (a b:Int),v10= .slice (some ⟨g,0,none⟩) n c/\Wj wx g 0 n c f/\st<=n/\n<=bd/\v12= .pointer (some ⟨P,0,none⟩)/\P<wx.heap.size/\wx.heap[P]? =some (.cells #[.int .i64 a,.int .i64 b] 37 (0,0))/\v13= .int .i64 k/\k<=13/\Below w.heap.size w wx/\w.heap.size<=P
theorem Wj.setFar {w:World} {b off n cap:Nat} {f:Nat->Int} (h:Wj w b off n cap f) {p:Addr} (bK:b≠p.block) (v:Value):Wj (w.setCell p v) b off n cap f :=
 ⟨fun j hj=>by rw[World.cell?_of_block (a:=⟨b,_,none⟩) (Below.heap_setCell w p v b bK)]; exact h.row j hj,h.by255,by simpa [World.setCell] using h.lt,h.len,h.most⟩
theorem JW {w:World} {g:Nat} {x y:Value} {t:TypeId} (h:w.heap[g]? =some (.cells #[x,y] t (0,0))) (v:Value):(w.setCell ⟨g,0,none⟩ v).heap[g]? =some (.cells #[v,y] t (0,0)):=by
 have af:=Zi h;have h':w.heap[g]= .cells #[x,y] t (0,0):=by simpa [Array.getElem?_eq_getElem af] using h
 show(w.heap.modify g _)[g]? =_
 rw[Array.getElem?_eq_getElem (by simpa using af),Array.getElem_modify_self,h'];rfl
theorem Zn2 (p:PIn) (bad:Int) (aX: -9223372036854775808<=bad/\bad<=9223372036854775807) (w:World) (hp:p.Is w) (hl:p.Lens) (hf:p.Few):Calls Tryz.prog 8 #[.agg p.cells,.int .i64 bad] w fun e u =>
 ∃ g c F f,e= .returned (.slice (some ⟨g,0,none⟩) 8704 c)/\YA u w.heap.size g 8704 c f/\Vx L12 1 F/\YB 1 F f/\Below w.heap.size w u:=by
 have bO:Below w.heap.size w ((w.alloc (.cells p.cells 32)).alloc (.cells #[.int .i64 12287,.int .i64 8191,.int .i64 7] 88)):=((Below.refl w.heap.size w).alloc (Nat.le_refl _) _).alloc (by simp) _;have dQ:((w.alloc (.cells p.cells 32)).alloc (.cells #[.int .i64 12287,.int .i64 8191,.int .i64 7] 88)).heap[w.heap.size]? =some (.cells p.cells 32 (0,0)):=heap_alloc2_old _ _ _;have bw:((w.alloc (.cells p.cells 32)).alloc (.cells #[.int .i64 12287,.int .i64 8191,.int .i64 7] 88)).heap[w.heap.size+1]? =some (.cells #[.int .i64 12287,.int .i64 8191,.int .i64 7] 88 (0,0)):=heap_alloc2_new _ _ _;obtain⟨w1,ao⟩: ∃ q,(w.alloc (.cells p.cells 32)).alloc (.cells #[.int .i64 12287,.int .i64 8191,.int .i64 7] 88)=q:=⟨_,rfl⟩;rw[ao] at bO dQ bw;have pJ:SlT Zg3 3 w1 (some ⟨w.heap.size+1,0,none⟩) [(12287,8191,7)]:=by
  refine .inr ⟨w.heap.size+1,0,rfl,Zi bw,fun i hi j v hv=> ?_⟩;obtain rfl:i=0:=by simp at hi; exact hi
  rw[Zh bw];rw[show 0+(0 * 3+j)=j by omega];simpa [Zg3] using hv
 have HW:=Zg ao;have au:=Zg bO;have BE:=Zg (fun W (hW:Below w.heap.size w W)=>hp.below hW);have kt:=Zg (show ∀ W,Below w1.heap.size w1 W-> ∀ j v,p.cells[j]? =some v->W.cell? ⟨w.heap.size,j,none⟩=some v from fun W hW j v hv=>(hW.cell (p:=⟨w.heap.size,j,none⟩) (Zi dQ)).trans ((Zh dQ).trans hv));have hU:=Zg hl;have oO:=Zg hf;have Ht:=Zg (Zfv (some ⟨w.heap.size+1,0,none⟩) [(12287,8191,7)] 1 L12 (fun i=>by rcases i with _|i; exact .inl rfl; exact .inr (by simp)) w1 (by simp) pJ);clear hp hl hf bO dQ bw ao pJ;go_enter Tryz.func8,Tryz.ntmps8;go_wp2_with fail
 refine(congrArg (fun W=>Calls Tryz.prog 25 #[.slice (some ⟨w.heap.size+1,0,none⟩) 1 1,.slice none 0 0] W _) HW.out).mpr ?_;refine Ht.out.mono ?_;rintro e w2 ⟨g,c,F,rfl,ho,hm,hb⟩;rw[show min [((12287,8191,7):VF)].length 6=1 by rfl] at ho hm ⊢;rw[at12] at ho ⊢;have bQ:=Zg (ho.weaken (base':=w.heap.size) au.out.size);have HM:=Zg hm;have aj:=Zg hb;have dI:=YL (cap:=c) ho.row;have vz:=Zg (show YB 1 F (PlainAid.bt (ZB F 0 8704)) from fun q h1 h2=>by rw[XO ho.by255 (by omega),Nat.zero_add]);have eV:=Zg (Zr F 0 8704);generalize ZB F 0 8704=S at dI vz eV;clear ho hm hb Ht;go_wp2_with fail
 refine(VP S w2 (by rw[eV.out]; omega)).mono ?_;rintro e w3 ⟨⟨v,rfl,hq⟩,hb⟩;obtain⟨cs,bs,off,c3,rfl,hz,aZ,zE,af,br⟩:=Znc hq HM.out vz.out (Nat.le_of_eq eV.out.symm);have cT:=Zg (bQ.out.below hb);have aN:=Zg (aj.out.trans (hb.mono aj.out.size));have nJ:=Zg (And.intro af br);have fm:=Zg zE;clear hq hb bQ aj vz eV dI zE af br;go_upto_region 3 with(refine wpList_store_row rfl 41 _ _ rfl w3.heap.size cs rfl rfl 41 _ (heap_alloc_new _ _) (by rw[hz]; rfl) (by rw[hz]; rfl) aZ ?_)
 rw[Yh];have j5:=setRow_heap (w3.alloc (.cells (Zl 0 0 0 0 0 0) 41)) w3.heap.size _ cs _ _ (heap_alloc_new _ _);have jq:Below w3.heap.size w3 ((w3.alloc (.cells (Zl 0 0 0 0 0 0) 41)).setRow w3.heap.size cs):=below_setRow ((Below.refl _ w3).alloc (Nat.le_refl _) _) (Nat.le_refl _) _;have bV:=Zg (cT.out.below jq);have bH:=Zg (aN.out.trans (jq.mono aN.out.size));have p9:=Zg ((jq.cell (p:=⟨bs,off+4,none⟩) nJ.out.1).trans nJ.out.2);have fV:=Zg (show bs<w3.heap.size/\w3.heap.size<((w3.alloc (.cells (Zl 0 0 0 0 0 0) 41)).setRow w3.heap.size cs).heap.size from⟨nJ.out.1,Zi j5⟩);have qK:=(cell_of_row _ _ 38 _ _ _ j5).trans fm.out;clear jq cT aN nJ fm hz aZ j5;generalize (w3.alloc (.cells (Zl 0 0 0 0 0 0) 41)).setRow w3.heap.size cs=w4 at *;generalize w3.heap.size=G at *;go_wp2_with (at_make; refine Yx rfl _ _ rfl w4.heap.size .i64 .i64 4160 rfl rfl (by omega) (Nat.le_refl _) ?_; intro w5 ho hb hs; have xV:=Zg ho; have ew:=Zg hb; clear ho hb hs)
 have cx:=Zg (bV.out.below ew.out);have Et:=Zg (show g<w4.heap.size from bV.out.lt);have bp:=Zg (bH.out.trans (ew.out.mono bH.out.size));have Eu:=Zg ((ew.out.cell (p:=⟨G,38,none⟩) fV.out.2).trans qK);have Ev:=Zg ((ew.out.cell (p:=⟨bs,off+4,none⟩) (by have:=fV.out; show bs<w4.heap.size; omega)).trans p9.out);have KL:=Zg (show bs<w5.heap.size/\G<w5.heap.size from by have:=fV.out; have:=ew.out.size; omega);have Ew:=Zg xV.out;have gn:=Zg (show bs<w4.heap.size/\G<w4.heap.size/\w1.heap.size<=w4.heap.size/\w4.heap.size<=w5.heap.size/\w.heap.size<=w4.heap.size from⟨by have:=fV.out; omega,fV.out.2,bH.out.size,ew.out.size,Nat.le_trans au.out.size bH.out.size⟩);have zv:=Zg (au.out.trans (bp.out.mono au.out.size));clear qK bV bH p9 fV xV ew au;obtain⟨GA,Cf⟩: ∃ q,w4.heap.size=q:=⟨_,rfl⟩;rw[Cf] at Ew gn Et ⊢;clear Cf;go_loopw [5,8,9] (fun v5 v8 v9 wr=> ∃(i gb cb ga na ca:Nat) (fb fa:Nat->Int),(i<=6/\gb≠ga)/\v9= .int .i64 i/\v5= .slice (some ⟨gb,0,none⟩) 8704 cb/\YA wr w.heap.size gb 8704 cb fb/\YB 1 F fb/\v8= .slice (some ⟨ga,0,none⟩) na ca/\YA wr GA ga na ca fa/\4160<=na/\na<=bdN i/\Below GA w5 wr) (fun _ _ v9 _=>6 - (intOf v9).toNat)
 case atStart=>exact⟨0,g,c,GA,4160,4160,F,_,⟨by omega,by have:=Et.out; omega⟩,rfl,rfl,cx.out,YB.refl _ _,rfl,Ew.out,by omega,by decide,Below.refl _ _⟩
 case round =>
  obtain⟨i,gb,cb,ga,na,ca,fb,fa,⟨hi,vB⟩,rfl,rfl,iv,hsh,rfl,hoa,zw,jT,bZ⟩:=hrel;have ma:=Zg iv;have Ex:=Zg hsh;have kJ:=Zg hoa;have mB:=Zg (And.intro zw jT);have Cd:=Zg vB;have aw:=Zg bZ;clear vB iv hsh hoa zw jT bZ cx Ew;by_cases af:i<6
  ·have dQ:(0:Int)<=(i:Int):=by omega
   have aE:(i:Int)<6:=by omega
   have c0:=kt.out wr (bp.out.trans (aw.out.mono gn.out.2.2.1)) 0 (.int .i64 p.wh) rfl;have HI:=Zg af;go_upto_region 13 with fail
   case roundEnd =>
    refine⟨⟨i+1,gb,cb,ga,na,ca,fb,fa,⟨by have:=HI.out; omega,Cd.out⟩,by go_num,rfl,ma.out,Ex.out,rfl,kJ.out,mB.out.1,?_,aw.out⟩,by have:=HI.out; simp[intOf]; omega⟩;have h1:=mB.out.2;have h2:=HI.out;rcases(by omega:i=0\/i=1\/i=2\/i=3\/i=4\/i=5) with rfl|rfl|rfl|rfl|rfl|rfl <;> exact Nat.le_trans h1 (by decide)
   generalize Ey:wr.alloc _=wd;obtain⟨P,Cg⟩: ∃ P,wr.heap.size=P:=⟨_,rfl⟩;have jr:Below wr.heap.size wr wd:=by rw[<-Ey]; exact(Below.refl _ _).alloc (Nat.le_refl _) _
   have Hu:wd.heap[P]? =some (.cells #[.int .i64 (na:Int),.int .i64 0] 37 (0,0)):=by rw[<-Ey,<-Cg]; exact heap_alloc_new wr _
   have gV:=Zg jr;have nK:=Zg Hu;have rX:=Zg Cg;have j6:=Zg (bp.out.trans ((aw.out.trans (jr.mono (Nat.le_trans gn.out.2.2.2.1 aw.out.size))).mono gn.out.2.2.1));have zx:=Zg (zv.out.trans ((aw.out.trans (jr.mono (Nat.le_trans gn.out.2.2.2.1 aw.out.size))).mono gn.out.2.2.2.2));rw[Cg];clear Ey jr Hu Cg c0 dQ aE;go_upto_block 2 with fail
   generalize p.wh / 2 ^ i=pw;go_cut [10,12,13] from 43 to 90 (fun v10 v12 v13 wx=>MkQb wr na (bdN (i+1)) v10 v12 v13 wx)
   case first =>
    have jT:=mB.out.2;have yL:=HI.out;have kR:=BE.out wd zx.out;rcases(by omega:i=0\/i=1\/i=2\/i=3\/i=4\/i=5) with rfl|rfl|rfl|rfl|rfl|rfl
    ·have iG:na<=4160:=jT;have c1:=kt.out wd j6.out 1 (.slice p.fA p.fn p.fc) rfl;have c2:=kt.out wd j6.out 2 (.slice p.nA p.nn p.nc) rfl;have HC:=Zg (at7w na (by omega) p.fA p.fn p.fc p.fS p.nA p.nn p.nc p.nS wd kR.f kR.n hU.out.f hU.out.n oO.out.f oO.out.n);clear kR;go_wp2_with fail
     refine HC.out.mono ?_;rintro e wx ⟨gi,ci,n,f,a,b,rfl,h1,h2,ho,hb⟩;have HX:=Zg (And.intro h1 (And.intro (show n<=bdN 1 by show n<=9500; omega) ho));have eL:=Zg (gV.out.trans (hb.mono gV.out.size));have kZ:=Zg ((hb.block P (Zi nK.out)).trans nK.out);have ko:=Zg (show gi≠P by have:=Zi nK.out; have:=ho.le; omega);clear h1 h2 ho hb c1 c2 jT iG HC;go_wp2_with (refine wpList_store_row rfl 37 (.tmp 12) (.tmp 58) rfl P #[.int .i64 a,.int .i64 b] rfl rfl 37 _ kZ.out rfl rfl (by simp[Value.oneCell']) ?_)
     go_meet
     case rel =>
      have hz:=setRow_heap wx P _ #[.int .i64 a,.int .i64 b] _ _ kZ.out;refine⟨gi,n,ci,0,P,f,a,b,rfl,(HX.out.2.2.setRow ko.out _).rowB,HX.out.1,HX.out.2.1,rfl,Zi hz,hz,?_,by omega,below_setRow eL.out (Nat.le_of_eq rX.out) _,Nat.le_of_eq rX.out⟩;rfl
    ·have iG:na<=9500:=jT;have c3:=kt.out wd j6.out 3 (.slice p.iA p.im p.ic) rfl;have HC:=Zg (at8w na (by omega) false p.iA p.im p.ic p.iX wd kR.i oO.out.i oO.out.is);have hlen:=Zix na false p.iX p.im oO.out.is;obtain⟨vC,qa⟩: ∃ q,at8 na (WG p.iX p.im) false=q:=⟨_,rfl⟩;rw[qa] at HC hlen;have HX:=Zg (And.intro hlen.1 (show vC.length<=bdN 2 by show vC.length<=171000; omega));clear kR hlen qa jT iG;go_wp2_with fail
     refine HC.out.mono ?_;rintro e wx ⟨gi,ci,rfl,ho,hb⟩;have HO:=Zg (Ziw ho).rowB;have eL:=Zg (gV.out.trans (hb.mono gV.out.size));have kZ:=Zg ((hb.block P (Zi nK.out)).trans nK.out);clear ho hb c3 HC;go_wp2_with fail
     go_meet
     case rel=>exact⟨gi,vC.length,ci,1,P,_,_,_,rfl,HO.out,HX.out.1,HX.out.2,rfl,Zi kZ.out,kZ.out,rfl,by omega,eL.out,Nat.le_of_eq rX.out⟩
    ·have iG:na<=171000:=jT;have xu:=mB.out.1;have c5:=kt.out wd j6.out 5 (.slice p.rA p.rL.length p.rc) rfl;have HC:=Zg (Zi7 p.rA p.rL p.rc na wd kR.r hU.out.r (by omega) (by omega));have HR:=Zg (fun L l cap W hL h1 h2=>relw na (by omega) (by omega) L l cap W hL h1 h2);clear kR xu jT;go_wp2_with fail
     refine HC.out.mono ?_;rintro e wx ⟨l,A,cap,rfl,ho,mO,hb⟩;have eL:=Zg (gV.out.trans (hb.mono gV.out.size));have kZ:=Zg ((hb.block P (Zi nK.out)).trans nK.out);have cd:=Zg (HR.out A l cap wx (ho.sl XK) (by have:=mO.len; omega) (fun x hx=>⟨by have:=mO.kinds x hx; omega,mO.low x hx⟩));clear ho mO hb c5 HC HR;go_wp2_with fail
     refine cd.out.mono ?_;rintro e wy ⟨gi,ci,n,f,a,b,rfl,h1,h2,ho,hb⟩;have HX:=Zg (And.intro h1 (And.intro (show n<=bdN 3 by show n<=172000; omega) ho));have tI:=Zg (eL.out.trans (hb.mono eL.out.size));have Ez:=Zg ((hb.block P (Zi kZ.out)).trans kZ.out);clear h1 h2 ho hb cd iG;go_wp2_with (refine wpList_store_row rfl 37 (.tmp 12) (.tmp 75) rfl P #[.int .i64 a,.int .i64 b] rfl rfl 37 _ Ez.out rfl rfl (by simp[Value.oneCell']) ?_)
     go_meet
     case rel =>
      have hz:=setRow_heap wy P _ #[.int .i64 a,.int .i64 b] _ _ Ez.out;have hr:=HX.out.2.2;have bK:gi≠P:=by
       intro e;subst e;have k1:=hr.row 0 (by have:=HX.out.1; have:=mB.out.1; omega);rw[Zh Ez.out] at k1;cases k1
      exact⟨gi,n,ci,5,P,f,a,b,rfl,⟨fun j hj=>by rw[World.cell?_of_block (a:=⟨gi,_,none⟩) (setRow_other _ _ _ _ bK)]; exact hr.row j hj,hr.by255,by simpa [World.setRow] using hr.lt,hr.len,hr.most⟩,HX.out.1,HX.out.2.1,rfl,Zi hz,hz,rfl,by omega,below_setRow tI.out (Nat.le_of_eq rX.out) _,Nat.le_of_eq rX.out⟩
    ·have iG:na<=172000:=jT;have c7:=kt.out wd j6.out 7 (.int .i64 p.ix) rfl;have c8:=kt.out wd j6.out 8 (.slice p.cA p.cL.length p.cc) rfl;have HC:=Zg (at11w na (by omega) 65536 (bits .and .i64 p.ix 4095) p.cA p.cL p.cc wd kR.c hU.out.c);clear kR jT;go_wp2_with fail
     refine HC.out.mono ?_;rintro e wx ⟨gi,ci,n,f,rfl,h1,h2,ho,hb⟩;have HX:=Zg (And.intro h1 (And.intro (show n<=bdN 4 by show n<=173000; omega) ho.rowB));have eL:=Zg (gV.out.trans (hb.mono gV.out.size));have kZ:=Zg ((hb.block P (Zi nK.out)).trans nK.out);clear h1 h2 ho hb c7 c8 HC iG;go_wp2_with fail
     go_meet
     case rel=>exact⟨gi,n,ci,9,P,f,_,_,rfl,HX.out.2.2,HX.out.1,HX.out.2.1,rfl,Zi kZ.out,kZ.out,rfl,by omega,eL.out,Nat.le_of_eq rX.out⟩
    ·have iG:na<=173000:=jT;have c6:=kt.out wd j6.out 6 (.slice p.bA p.bL.length p.bc) rfl;have HC:=Zg (at9w na (by omega) p.bA p.bL p.bc wd kR.b oO.out.b oO.out.bs);clear kR jT;go_wp2_with fail
     refine HC.out.mono ?_;rintro e wx ⟨gi,ci,n,f,rfl,h1,h2,ho,hb⟩;have HX:=Zg (And.intro h1 (And.intro (show n<=bdN 5 by show n<=178000; omega) ho.rowB));have eL:=Zg (gV.out.trans (hb.mono gV.out.size));have kZ:=Zg ((hb.block P (Zi nK.out)).trans nK.out);clear h1 h2 ho hb c6 HC iG;go_wp2_with fail
     go_meet
     case rel=>exact⟨gi,n,ci,11,P,f,_,_,rfl,HX.out.2.2,HX.out.1,HX.out.2.1,rfl,Zi kZ.out,kZ.out,rfl,by omega,eL.out,Nat.le_of_eq rX.out⟩
    ·have iG:na<=178000:=jT;have c4:=kt.out wd j6.out 4 (.slice p.lA p.lm p.lc) rfl;have HC:=Zg (at8w na (by omega) true p.lA p.lm p.lc p.lX wd kR.l oO.out.l oO.out.ls);have hlen:=Zix na true p.lX p.lm oO.out.ls;obtain⟨vC,qa⟩: ∃ q,at8 na (WG p.lX p.lm) true=q:=⟨_,rfl⟩;rw[qa] at HC hlen;have HX:=Zg (And.intro hlen.1 (show vC.length<=bdN 6 by show vC.length<=340000; omega));clear kR hlen qa jT iG;go_wp2_with fail
     refine HC.out.mono ?_;rintro e wx ⟨gi,ci,rfl,ho,hb⟩;have HO:=Zg (Ziw ho).rowB;have eL:=Zg (gV.out.trans (hb.mono gV.out.size));have kZ:=Zg ((hb.block P (Zi nK.out)).trans nK.out);clear ho hb c4 HC;go_wp2_with fail
     go_meet
     case rel=>exact⟨gi,vC.length,ci,13,P,_,_,_,rfl,HO.out,HX.out.1,HX.out.2,rfl,Zi kZ.out,kZ.out,rfl,by omega,eL.out,Nat.le_of_eq rX.out⟩
   case rest =>
    obtain⟨gi,n,ci,k,P',f,a,b,rfl,hr,aQ,oW,rfl,hP,vD,rfl,hk,fI,rZ⟩:=hcut;have hd0:wc.cell? ⟨P',0,none⟩=some (.int .i64 a):=by rw[Zh vD]; rfl
    have hd1:wc.cell? ⟨P',1,none⟩=some (.int .i64 b):=by rw[Zh vD]; rfl
    have oa:=Zg (And.intro hr (And.intro aQ oW));have nL:=Zg (And.intro hP (And.intro hk (And.intro fI rZ)));have Ce:=Zg vD;have oI:=hr.lt;have Hv:gi≠P':=by
     intro e;subst e;have k1:=hr.row 0 (by have:=mB.out.1; omega);rw[hd0] at k1;cases k1
    have L':=Zg Hv;have Ma:=Zg aX;clear hr aQ oW hd1 hP hk fI rZ oI Hv aX hd0 vD;go_upto_region 26 with fail
    go_upto_region 26 with fail
    go_cut [10,12,13,94] from 91 to 93 (fun v10 v12 v13 v94 wx=>v94= .bool (bits .and .i64 bad 15 == (i:Int))/\v10= .slice (some ⟨gi,0,none⟩) n ci/\v12= .pointer (some ⟨P',0,none⟩)/\v13= .int .i64 k/\wx=wc)
    case first =>
     go_wp2_with fail
     go_meet
     case rel=>exact⟨rfl,rfl,rfl,rfl,rfl⟩
    case rest =>
    obtain⟨rfl,rfl,rfl,rfl,rfl⟩:=hcut;generalize (bits .and .i64 bad 15 == (i:Int))=r15;apply_assumption;go_cut [10,12,13] from 95 to 101 (fun v10 v12 v13 wx=>MkQb wr na (bdN (i+1)) v10 v12 v13 wx)
    case first =>
     rcases r15 with _|_
     ·go_wp2_with fail
      go_meet
      case rel=>exact⟨gi,n,ci,k,P',f,a,b,rfl,oa.out.1,oa.out.2.1,oa.out.2.2,rfl,nL.out.1,Ce.out,rfl,nL.out.2.1,nL.out.2.2.1,nL.out.2.2.2⟩
     ·have hd0:wc.cell? ⟨P',0,none⟩=some (.int .i64 a):=by rw[Zh Ce.out]; rfl
      have xQ:wc.frozen? ⟨P',0,none⟩=false:=by simp[World.frozen?,Ce.out]
      go_wp2_with fail
      go_meet
      case rel =>
       refine⟨gi,n,ci,k,P',f,wrap64 (a+bits .and .i64 (bad / 16) 255),b,rfl,oa.out.1.setFar L'.out _,oa.out.2.1,oa.out.2.2,rfl,by simpa [World.setCell] using nL.out.1,?_,rfl,nL.out.2.1,nL.out.2.2.1.setCell nL.out.2.2.2 _,nL.out.2.2.2⟩;exact JW Ce.out _
    case rest =>
     obtain⟨gi,n,ci,k,P',f,a,b,rfl,hr,aQ,oW,rfl,hP,vD,rfl,hk,fI,rZ⟩:=hcut;have hd0:wc.cell? ⟨P',0,none⟩=some (.int .i64 a):=by rw[Zh vD]; rfl
     have hd1:wc.cell? ⟨P',1,none⟩=some (.int .i64 b):=by rw[Zh vD]; rfl
     have tJ:=kJ.out.lt;have HR:=Zg hr;have HN:=Zg (show na<=n/\n<=bdN (i+1)/\n<=340000/\k<=13 from⟨aQ,oW,Nat.le_trans oW (by have:=HI.out; rcases(by omega:i=0\/i=1\/i=2\/i=3\/i=4\/i=5) with rfl|rfl|rfl|rfl|rfl|rfl <;> decide),hk⟩);have eL:=Zg fI;have zy:=Zg (show P'<wc.heap.size/\P'≠ga from⟨hP,by have:=tJ; omega⟩);have HD:=Zg (And.intro hd0 hd1);have EA:=Zg (kJ.out.below fI);have zA:=Zg (ma.out.below fI);have zB:=Zg (aw.out.trans (fI.mono (Nat.le_trans gn.out.2.2.2.1 aw.out.size)));have Mb: ¬ (n:Int)<(na:Int):=by omega
     have Mc:(0:Int)<=(na:Int):=by omega
     have EB:(na:Int)<=(n:Int):=by omega
     have Md:(n:Int)<=(ci:Int):=by have:=hr.len; omega
     have aF:=Zg (show SlB wc (if ci=na then some ⟨gi,0,none⟩ else some ⟨gi,na,none⟩) (n - na) (fun j=>f (na+j)) from by
      have h3:=hr.len;split
      ·exact .inr ⟨gi,0,rfl,hr.lt,fun j hj=>by omega⟩
      ·exact .inr ⟨gi,na,rfl,hr.lt,fun j hj=>by have:=hr.row (na+j) (by omega); rw[Nat.zero_add] at this; exact this⟩)
     have bh:=Zg (show Zm (fun j=>f (na+j)) from fun j=>hr.by255 _);clear hr aQ oW hd0 hd1 hk fI hP rZ tJ nK gV rX j6 zx;go_upto_region 30 with(at_builtin; go_loud (refine JX rfl _ _ rfl EA.out aF.out bh.out (by have:=HN.out; have:=mB.out; omega) (Nat.le_trans gn.out.2.2.2.1 zB.out.size) rfl rfl ?_; intro g6 c6 w6 ho hb hk; have dk:=Zg ho; have cU:=Zg hb; have qU:=Zg hk; clear ho hb hk))
     have vA:=Zg (zB.out.trans cU.out);have qZ:=Zg (qU.out P' zy.out.1 zy.out.2);have zC:=Zg (show P'<w6.heap.size from Nat.lt_of_lt_of_le zy.out.1 cU.out.size);have EC:=Zg (zA.out.of_block cU.out.size (qU.out gb zA.out.lt Cd.out));obtain⟨y0,ox,Hy,uv⟩:=Wc a;obtain⟨y1,gN,bO,az⟩:=Wc b;have zD:=Zg (fun W:World=>Yp y0 4 4 W Hy uv (by omega));have cK:=Zg (fun W:World=>Yp y1 4 4 W bO az (by omega));obtain⟨at_,br⟩: ∃ q:Nat,200+8 * k=q:=⟨_,rfl⟩;have nJ:=Zg (show 200<=at_/\at_+8<=328 from by have:=HN.out.2.2.2; omega);have ao:IntKind.i64.wrap (8 * (k:Int))=8 * (k:Int):=by have:=HN.out.2.2.2; rw[IntKind.wrap_i64]; omega
     have aR:IntKind.i64.wrap (200+8 * (k:Int))=(at_:Int):=by have:=HN.out.2.2.2; rw[IntKind.wrap_i64]; omega
     have cJ:=fun(W:World)=>run_string_add_sum (P:=Tryz.prog) W (ZB (Yj y0) 0 4) (ZB (Yj y1) 0 4) (by rw[Zr,Zr]; omega);clear Hy uv bO az br;have HS:=Zg (show Below w6.heap.size w6 w6.drew from(Below.refl _ _).drew);refine wp_region_noPanic ?_;refine Zt (fun W=>Below w6.heap.size w6 W) (fun _=>True) 99 (by kernel_rfl) ?_;refine wU (i:=0) HS.out ?_;refine wU (i:=1) HS.out ?_;refine wU (i:=2) HS.out ?_;refine wU (i:=3) HS.out ?_;refine wU (i:=4) HS.out ?_;refine wU (i:=5) HS.out ?_ (hy:=by refine Or.inl ⟨by rfl,?_⟩; intro W aL; have hk:=(World.cell?_of_block (a:=⟨P',0,none⟩) ((aL.block P' zC.out).trans qZ.out)).trans HD.out.1; clear aL; go_simp; try with_reducible rfl);refine wU (i:=6) HS.out ?_;refine wU (i:=8) HS.out ?_;refine wU (i:=9) HS.out ?_ (hy:=by refine Or.inl ⟨by rfl,?_⟩; intro W aL; have hk:=(World.cell?_of_block (a:=⟨P',1,none⟩) ((aL.block P' zC.out).trans qZ.out)).trans HD.out.2; clear aL; go_simp; try with_reducible rfl);refine wU (i:=10) HS.out ?_;refine wO (i:=7) (fun K hK=> ?_);go_simp;go_at_call 10;refine(zD.out _).mono ?_;rintro e w7 ⟨rfl,Hz⟩;have bY:=Zg (HS.out.trans (Hz.mono HS.out.size));clear Hz;refine hK.out _ _ bY.out (fun _=>trivial) ?_;clear hK K;try simp only[Act.put,Zd,Ze,Zf]
     refine wO (i:=11) (fun K hK=> ?_);go_simp;go_at_call 10;refine(cK.out _).mono ?_;rintro e w8 ⟨rfl,H7⟩;have lY:=Zg (bY.out.trans (H7.mono bY.out.size));clear H7;refine hK.out _ _ lY.out (fun _=>trivial) ?_;clear hK K;try simp only[Act.put,Zd,Ze,Zf]
     refine wU (i:=12) lY.out ?_;obtain⟨C9,mP,dI,ov,zF⟩:=Je w8 (ZB (Yj y0) 0 4++ZB (Yj y1) 0 4) (by rw[ByteArray.size_append,Zr,Zr]; omega);rw[show(ZB (Yj y0) 0 4++ZB (Yj y1) 0 4).size=8 by rw[ByteArray.size_append,Zr,Zr]] at dI ov;generalize PlainAid.bt (ZB (Yj y0) 0 4++ZB (Yj y1) 0 4)=h9 at ov;refine wO (i:=13) (fun K hK=> ?_);go_simp;have gF:=Zg (lY.out.trans (zF.mono lY.out.size));have di:=Zg ov;clear zF dI ov;refine hK.out _ _ gF.out (fun _=>trivial) ?_;clear hK K;try simp only[Act.put,Zd,Ze,Zf]
     refine wO (i:=14) (fun K hK=> ?_);go_simp;go_at_call 9;refine(Zag gb 0 8704 cb fb at_ w8.heap.size 0 8 C9 h9 mP (EC.out.below gF.out).rowB di.out.rowB (by omega) (by omega) (by have:=nJ.out; omega)).mono ?_;rintro e p' ⟨g11,H9,rfl,vE,zG⟩;have ld:=Zg (gF.out.trans (zG.mono gF.out.size));have rY:=Zg vE;have ED:=Zg (show w6.heap.size<=g11 from Nat.le_trans gF.out.size vE.le);clear vE zG;refine hK.out _ _ ld.out (fun _=>trivial) ?_;clear hK K;try simp only[Act.put,Zd,Ze,Zf]
     refine wU (i:=15) ld.out ?_;refine Zo (by kernel_rfl) ?_ _;refine NoPanic.normal ?_;go_wp2_with fail
     go_roundw
     case rel=>exact⟨i+1,g11,H9,g6,na+(n - na),c6,_,_,⟨by have:=HI.out; omega,by have:=ED.out; have:=dk.out.lt; omega⟩,by go_num,rfl,rY.out.weaken (Nat.le_trans gn.out.2.2.2.2 (Nat.le_trans gn.out.2.2.2.1 (Nat.le_trans vA.out.size gF.out.size))),Ex.out.trans (YB.over _ _ _ _ (.inl nJ.out)),rfl,dk.out.below ld.out,by have:=mB.out.1; omega,by have:=HN.out; omega,vA.out.trans (ld.out.mono (Nat.le_trans gn.out.2.2.2.1 vA.out.size))⟩
     case measure=>have:=HI.out; simp[intOf]; omega
  ·obtain rfl:i=6:=by omega
   go_upto_region 31 with fail
   have yo:=Zg (show Wj wr ga 4096 (na - 4096) (ca - 4096) (fun j=>fa (4096+j)) from⟨fun j hj=>by have:=kJ.out.row (4096+j) (by have:=mB.out; omega); rw[Nat.zero_add] at this; exact this,fun j=>kJ.out.by255 _,kJ.out.lt,by have:=kJ.out.len; omega,by have:=kJ.out.most; omega⟩);have EE:=Zg (fun W (hW:Below wr.heap.size wr W)=>Zag gb 0 8704 cb fb 1024 ga 4096 (na - 4096) (ca - 4096) (fun j=>fa (4096+j)) W (ma.out.below hW).rowB (yo.out.below hW) (by omega) (by have h1:=mB.out.2; have h2:bdN 6<=340000:=(by decide); omega) (by omega));have dP:(4096:Int)<=(na:Int):=by have:=mB.out.1; omega
   have fw:(na:Int)<=(ca:Int):=by have:=kJ.out.len; omega
   have gl: ¬ ca=4096:=by have:=mB.out.1; omega
   have HS:=Zg (show Below wr.heap.size wr wr.drew from(Below.refl _ _).drew);refine wp_region_noPanic ?_;refine Zt (fun W=>Below wr.heap.size wr W) (fun _=>True) 99 (by kernel_rfl) ?_;refine wU (i:=0) HS.out ?_;refine wU (i:=1) HS.out ?_;refine wU (i:=2) HS.out ?_ (hy:=by refine Or.inl ⟨by rfl,?_⟩; intro W aL; have hk:=(((aw.out.cell (p:=⟨G,38,none⟩) gn.out.2.1).trans Eu.out)); have ei:=(aL.cell (p:=⟨G,38,none⟩) (Nat.lt_of_lt_of_le gn.out.2.1 (Nat.le_trans gn.out.2.2.2.1 aw.out.size))).trans hk; clear hk; clear aL; go_simp; try with_reducible rfl);refine wU (i:=3) HS.out ?_;refine wU (i:=4) HS.out ?_;refine wU (i:=5) HS.out ?_ (hy:=by refine Or.inl ⟨by rfl,?_⟩; intro W aL; have hk:=(((aw.out.cell (p:=⟨bs,off+4,none⟩) gn.out.1).trans Ev.out)); have ei:=(aL.cell (p:=⟨bs,off+4,none⟩) (Nat.lt_of_lt_of_le gn.out.1 (Nat.le_trans gn.out.2.2.2.1 aw.out.size))).trans hk; clear hk; clear aL; go_simp; try with_reducible rfl);refine wU (i:=6) HS.out ?_;refine wU (i:=7) HS.out ?_;refine wO (i:=8) (fun K hK=> ?_);go_simp;go_at_call 9;refine(EE.out _ HS.out).mono ?_;rintro e w6 ⟨g6,c6,rfl,ho,hb⟩;have aF:=Zg (HS.out.trans (hb.mono HS.out.size));have dk:=Zg ho;have EF:=Zg (Nat.le_trans gn.out.2.2.2.2 (Nat.le_trans gn.out.2.2.2.1 (Nat.le_trans aw.out.size HS.out.size)));clear ho hb;refine hK.out _ _ aF.out (fun _=>trivial) ?_;clear hK K;try simp only[Act.put,Zd,Ze,Zf]
   refine wU (i:=9) aF.out ?_;refine Zo (by kernel_rfl) ?_ _;refine NoPanic.normal ?_;go_wp2_with fail
   go_ret;exact⟨g6,c6,F,_,rfl,dk.out.weaken EF.out,HM.out,Ex.out.trans (YB.over _ _ _ _ (.inr (by omega))),zv.out.trans ((aw.out.trans (aF.out.mono (Nat.le_trans gn.out.2.2.2.1 aw.out.size))).mono gn.out.2.2.2.2)⟩
end Go.Proofs.YtplgdpjbkdagfaaGreat
