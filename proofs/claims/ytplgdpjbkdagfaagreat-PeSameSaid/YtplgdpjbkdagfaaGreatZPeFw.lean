import Derived.Test.YtplgdpjbkdagfaaGreatZTxtS
import Derived.Test.YtplgdpjbkdagfaaGreatZImpM
import Derived.Test.YtplgdpjbkdagfaaGreatZRelApart
import Derived.Test.YtplgdpjbkdagfaaGreatZExpI0
import Derived.Test.YtplgdpjbkdagfaaGreatZRelMade
import Derived.Test.YtplgdpjbkdagfaaGreatZPeH
import Derived.Deep.Cut
import Derived.Deep.CutRange
import Derived.Deep.CutBlock
namespace Go.Proofs.YtplgdpjbkdagfaaGreat
open List renaming getElem?_toArray→Za, getElem?_cons_succ→Zb, getElem?_cons_zero→Zc, setIfInBounds_toArray→Zd, set_cons_zero→Ze, set_cons_succ→Zf
open Lib renaming hid→Zg
open Go.ChangeShapes Go.WideShapes Go.ChangeAt Go.RowKit
set_option linter.unusedVariables false
set_option linter.unusedSimpArgs false
set_option maxRecDepth 100000
structure PIn where
 wh:Int
 fA:Option Addr
 fn:Nat
 fc:Nat
 fS:Nat→ByteArray
 nA:Option Addr
 nn:Nat
 nc:Nat
 nS:Nat→ByteArray
 iA:Option Addr
 im:Nat
 ic:Nat
 iX:Vq
 lA:Option Addr
 lm:Nat
 lc:Nat
 lX:Vq
 rA:Option Addr
 rL:List YX
 rc:Nat
 bA:Option Addr
 bL:List (ByteArray × Int)
 bc:Nat
 ix:Int
 cA:Option Addr
 cL:List Int
 cc:Nat
def PIn.cells (p:PIn):Array Value:= #[.int .i64 p.wh,.slice p.fA p.fn p.fc,.slice p.nA p.nn p.nc,.slice p.iA p.im p.ic,.slice p.lA p.lm p.lc,.slice p.rA p.rL.length p.rc,.slice p.bA p.bL.length p.bc,.int .i64 p.ix,.slice p.cA p.cL.length p.cc]
structure PIn.Is (p:PIn) (w:World):Prop where
 f:Zfr w p.fA p.fn p.fS
 n:Zfr w p.nA p.nn p.nS
 i:Zik w p.iA p.im p.iX
 l:Zik w p.lA p.lm p.lX
 r:SlT Wh 2 w p.rA p.rL
 b:SlT bX 2 w p.bA p.bL
 c:SlT Ws 1 w p.cA p.cL
theorem PIn.Is.below {p:PIn} {w w':World} (h:p.Is w) (hb:Below w.heap.size w w'):p.Is w':=⟨h.f.below hb,h.n.below hb,h.i.below hb,h.l.below hb,h.r.below hb,h.b.below hb,h.c.below hb⟩
structure PIn.Lens (p:PIn):Prop where
 f:p.fn≤9223372036854775807
 n:p.nn≤9223372036854775807
 i:p.im≤9223372036854775807
 l:p.lm≤9223372036854775807
 r:p.rL.length≤9223372036854775807
 b:p.bL.length≤9223372036854775807
 c:p.cL.length≤9223372036854775807
 fs: ∀ j,j<p.fn→(p.fS j).size≤9223372036854775807
 ns: ∀ j,j<p.nn→(p.nS j).size≤9223372036854775807
 bs: ∀ x∈p.bL,x.1.size≤9223372036854775807
structure PIn.Few (p:PIn):Prop where
 f: ∀ j,j<12→j<p.fn→(p.fS j).size≤60
 n: ∀ j,j<12→j<p.nn→(p.nS j).size≤60
 b:p.bL.length≤34
 bs: ∀ x∈p.bL,x.1.size≤60
 r:p.rL.length≤60
 i:p.im≤20
 is: ∀ j,j<p.im→FewI p.iX j
 l:p.lm≤20
 ls: ∀ j,j<p.lm→FewI p.lX j
theorem Zew {rows Z:Nat}: ∀(l:List (List Nat)) (i:Nat) (b:List Nat),rows+4 * (i+l.length)≤Z→Z≤b.length→(∀ s∈l,TxOk s)→b.length≤(atF rows l i b).length∧(atF rows l i b).length≤b.length+201 * l.length
 | [],i,b,_,_,_=>by simp[atF]
 | s::l,i,b,h,hz,hs=>by
   have hlc:(s::l).length=l.length+1:=List.length_cons
   have hs1:=(hs s (by simp)).2
   have hst:b.length≤(Zdl rows b i s).length∧(Zdl rows b i s).length≤b.length+201:=by
    unfold Zdl
    split
    ·rw[Zo (by simp only[List.length_append,List.length_singleton]; omega)]
     simp only[List.length_append,List.length_singleton]
     omega
    ·rw[Zo (by omega)]
     omega
   have ih:=Zew (rows:=rows) (Z:=Z) l (i+1) (Zdl rows b i s) (by omega) (by omega) (fun x hx=>hs x (List.mem_cons_of_mem _ hx))
   simp only[atF]
   omega
theorem Zex {r1 r2 n Z:Nat}: ∀(l:List (List Nat)) (i:Nat) (b:List Nat),r1+4 * (i+l.length)≤Z→r2+2 * (i+l.length)≤Z→Z≤b.length→(∀ s∈l,TxOk s)→b.length≤(atN r1 r2 n l i b).length∧(atN r1 r2 n l i b).length≤b.length+201 * l.length
 | [],i,b,_,_,_,_=>by simp[atN]
 | s::l,i,b,h,h2,hz,hs=>by
   have hlc:(s::l).length=l.length+1:=List.length_cons
   have hs1:=(hs s (by simp)).2
   have hst:b.length≤(Zdm r1 r2 n b i s).length∧(Zdm r1 r2 n b i s).length≤b.length+201:=by
    unfold Zdm
    have l1:=Zo (b:=b) (o:=r1+4 * i) (n:=4) (by omega) b.length
    have l2:=Zo (b:=ZQ b (r1+4 * i) 4 b.length) (o:=r2+2 * i) (n:=2) (by omega) (i % max n 1)
    simp only[List.length_append,List.length_singleton,l2,l1]
    omega
   have ih:=Zex (r1:=r1) (r2:=r2) (n:=n) (Z:=Z) l (i+1) (Zdm r1 r2 n b i s) (by omega) (by omega) (by omega) (fun x hx=>hs x (List.mem_cons_of_mem _ hx))
   simp only[atN]
   omega
def bdN (i:Nat):Nat:=if i=0 then 4160 else if i=1 then 9500 else if i=2 then 171000 else if i=3 then 172000 else if i=4 then 173000 else if i=5 then 178000 else 340000
theorem Wi {b:List Nat} {o n v L:Nat} (hb:b.length=L) (h:o+n≤L):(ZQ b o n v).length=L:=by rw[Zo (by omega)]; exact hb
theorem Zey (start n m base:Nat):(atH start n m base).length=start+40+4 * n+6 * m:=by
 unfold atH
 exact Wi (Wi (Wi (Wi (Wi (Wi List.length_replicate (by omega)) (by omega)) (by omega)) (by omega)) (by omega)) (by omega)
theorem Zez {w:World} {base g c:Nat} {bs:List Nat} (h:YI w base g c bs):YD w base g bs.length c (lF bs):=⟨h.le,h.lt,h.row,h.lb.b255,h.len,h.most,h.wr⟩
theorem at7w (st:Nat) (hst:st≤4200) (F:Option Addr) (lf fc:Nat) (SF:Nat→ByteArray) (N:Option Addr) (ln nc:Nat) (SN:Nat→ByteArray) (w:World) (hF:Zfr w F lf SF) (hN:Zfr w N ln SN) (hlf:lf≤9223372036854775807) (hln:ln≤9223372036854775807) (hf: ∀ j,j<12→j<lf→(SF j).size≤60) (hn: ∀ j,j<12→j<ln→(SN j).size≤60) :
 Calls Tryz.prog 27 #[.int .i64 st,.slice F lf fc,.slice N ln nc,.int .i64 3] w fun e u=> ∃ g c n f a b,e= .returned (.tuple #[.slice (some ⟨g,0,none⟩) n c,.agg #[.int .i64 a,.int .i64 b]])∧st≤n∧n≤st+5300∧YD u w.heap.size g n c f∧Below w.heap.size w u:=by
 have k1:=Zfs (n:=lf) (Sx:=SF) (fun j h1 h2=>Nat.le_trans (hf j h1 h2) (by omega))
 have k2:=Zfs (n:=ln) (Sx:=SN) (fun j h1 h2=>Nat.le_trans (hn j h1 h2) (by omega))
 have l1:=Ql lf SF
 have l2:=Ql ln SN
 have h:=Zi4 st 3 (Uk lf SF) (Uk ln SN) lf ln F N fc nc w hst hF.fst hN.fst k1 k2 (by omega) (by omega) (by omega) hlf hln _ _ rfl rfl
 have t1:(Uk lf SF).take 12=Uk lf SF:=List.take_of_length_le (by omega)
 have t2:(Uk ln SN).take 12=Uk ln SN:=List.take_of_length_le (by omega)
 rw[t1,t2] at h
 have hB:=Zew (rows:=st+40) (Z:=st+40+4 * (Uk lf SF).length+6 * (Uk ln SN).length) (Uk lf SF) 0 (atH st (Uk lf SF).length (Uk ln SN).length 3) (by omega) (by rw[Zey]; exact Nat.le_refl _) k1
 rw[Zey] at hB
 have hE:=Zex (r1:=st+40+4 * (Uk lf SF).length) (r2:=st+40+4 * (Uk lf SF).length+4 * (Uk ln SN).length) (n:=(Uk lf SF).length) (Z:=st+40+4 * (Uk lf SF).length+6 * (Uk ln SN).length) (Uk ln SN) 0 (atB st (Uk lf SF) (Uk ln SN).length 3) (by omega) (by omega) (by unfold atB; omega) k2
 refine h.mono ?_
 rintro e u ⟨g,c,rfl,ho,hb⟩
 refine⟨g,c,_,_,_,_,rfl,?_,?_,Zez ho,hb⟩
 ·unfold atE; unfold atB at hE ⊢; omega
 ·unfold atE; unfold atB at hE ⊢; omega
theorem Zcg (delay:Bool) (st D:Nat) (hD:Zc7 delay=D) (h20:20≤D): ∀(l:List PIm) (i:Nat) (b:List Nat),st+D * (i+l.length+1)≤b.length→(∀ x∈l,(∀ s∈x.syms,s.1.length≤100)∧x.dll.length≤100)→b.length≤(Zf9 delay st l i b).length∧(Zf9 delay st l i b).length≤b.length+8500 * l.length
 | [],i,b,_,_=>by simp[Zf9]
 | x::l,i,b,h,hs=>by
   have hlc:(x::l).length=l.length+1:=List.length_cons
   obtain⟨h1,h2⟩:=hs x (by simp)
   rw[hlc] at h
   have e1:D * (i+(l.length+1)+1)=D * i+D * l.length+D+D:=by rw[Nat.mul_add,Nat.mul_add,Nat.mul_add,Nat.mul_one]; omega
   have e2:D * (i+1+l.length+1)=D * i+D * l.length+D+D:=by rw[Nat.mul_add,Nat.mul_add,Nat.mul_add,Nat.mul_one]; omega
   have k:=Jc delay (st+D * i) i b x (by omega) h1 h2
   have ih:=Zcg delay st D hD h20 l (i+1) (Wf delay (st+D * i) i b x) (by omega) (fun y hy=>hs y (List.mem_cons_of_mem _ hy))
   simp only[Zf9,hD]
   omega
theorem Ze0 (st:Nat) (delay:Bool) (X:Vq) (n:Nat) (hf: ∀ i,i<n→FewI X i):st≤(at8 st (WB X n) delay).length∧(at8 st (WB X n) delay).length≤st+153700:=by
 have hlen:(WB X n).length=n:=by simp[WB]
 have hD:Zc7 delay≤32∧20≤Zc7 delay:=by unfold Zc7; split <;> omega
 obtain⟨m,hm⟩: ∃ m,min n 18=m:=⟨_,rfl⟩
 have hml:((WB X n).take 18).length=m:=by rw[List.length_take,hlen]; omega
 have hx: ∀ x∈(WB X n).take 18,(∀ s∈x.syms,s.1.length≤100)∧x.dll.length≤100:=fun x hx=>by
  have hx:=List.mem_of_mem_take hx
  simp only[WB,List.mem_map,List.mem_range] at hx
  obtain⟨i,hi,rfl⟩:=hx
  obtain⟨h1,h2,h3⟩:=hf i hi
  refine⟨fun s hs=> ?_,by simp only[Wv]; omega⟩
  simp only[List.mem_map,List.mem_range] at hs
  obtain⟨j,hj,rfl⟩:=hs
  simp only[Wv]
  have:=h3 j hj
  omega
 obtain⟨D,hDe⟩: ∃ D,Zc7 delay=D:=⟨_,rfl⟩
 rw[hDe] at hD
 have em1:D * (m+1)=D * m+D:=by rw[Nat.mul_add,Nat.mul_one]
 have em2:D * (0+m+1)=D * m+D:=by rw[Nat.zero_add]; exact em1
 have hm18:D * m≤32 * 18:=Nat.mul_le_mul hD.1 (by omega)
 unfold at8
 rw[hlen,hm,hDe]
 have k:=Zcg delay st D hDe hD.2 ((WB X n).take 18) 0 (List.replicate (st+D * (m+1)) 0) (by rw[hml,List.length_replicate]; omega) hx
 rw[hml,List.length_replicate] at k
 omega
theorem QK (l:List YX): ∀(F k:Nat),k≤l.length→(VP l F k).length≤12 * (l.length - k)
 | 0,k,_=>by simp[VP]
 | F+1,k,hk=>by
   unfold VP
   by_cases hlt:k<l.length
   ·rw[List.getElem?_eq_getElem hlt]
    simp only
    have hd:l.drop k=l[k]::l.drop (k+1):=List.drop_eq_getElem_cons hlt
    obtain⟨r,hrr⟩: ∃ r,Zc8 (l[k].2 / 4096) (l.drop k)=r:=⟨_,rfl⟩
    have hr1:1≤r:=by rw[←hrr,hd]; exact Zh3 rfl
    obtain⟨t1,_⟩:=Zam (l[k].2 / 4096) (l.drop k)
    rw[hrr] at t1 ⊢
    rw[List.length_drop] at t1
    have ih:=QK l F (k+r) (by omega)
    obtain⟨_,v2⟩:=Zh2 ((l.drop k).take r)
    rw[List.length_take,List.length_drop] at v2
    rw[List.length_append,Zjy]
    unfold JI
    rw[List.length_append,List.length_append,ZI,ZI,Zbq]
    omega
   ·rw[List.getElem?_eq_none (by omega)]
    simp
theorem QL (l:List YX): ∀(F k:Nat),Bs (VP l F k)
 | 0,k=>Bs.nil
 | F+1,k=>by
   unfold VP
   cases l[k]? with
   | none=>exact Bs.nil
   | some x =>
     refine((Zit _).append (Zit _)).append ?_ |>.append (QL l F _)
     have h:Bs ((((l.drop k).take (Zc8 (x.2 / 4096) (l.drop k))).flatMap ent)):=fun b hb=>by
      obtain⟨y,_,hy⟩:=List.mem_flatMap.1 hb
      exact ent_bs y b hy
     unfold pad
     split
     ·exact h.append (fun b hb=>by simp at hb; omega)
     ·exact h
theorem relw (n:Nat) (hn:n≤300000) (h0:0<n) (L:Option Addr) (l:List YX) (cap:Nat) (w:World) (hl:SlT Wh 2 w L l) (hll:l.length≤60) (hr: ∀ x∈l,0≤x.2∧x.2<16777216) :
 Calls Tryz.prog 29 #[.slice L l.length cap,.int .i64 n] w fun e u=> ∃ g c m f a b,e= .returned (.tuple #[.slice (some ⟨g,0,none⟩) m c,.agg #[.int .i64 a,.int .i64 b]])∧n≤m∧m≤n+720∧VF u g 0 m c f∧Below w.heap.size w u:=by
 refine(Zbp L l cap n w hl hll hn hr).mono ?_
 rintro e u ⟨A,c,rfl,ho,hb⟩
 have hle:=QK l (l.length+1) 0 (by omega)
 obtain⟨_,h1,h2,h3,h4⟩:=ho.slice
 rcases h4 with h4|⟨g,rfl,_,hg⟩
 ·omega
 ·simp only[maxLen] at h2
  rcases h3 with h3|⟨b',off',hA,hlt,hrow⟩
  ·omega
  ·injection hA with hA
   injection hA with e1 e2
   subst e1 e2
   exact⟨g,c,_,_,_,_,rfl,by omega,by omega,⟨hrow,((show Bs (Um n) from Bs.listF (fun i=>by omega) n).append (QL l _ _)).lit,hlt,h1,by omega⟩,hb⟩
def MkQ (w:World) (st bd:Nat) (v10 v12 v13:Value) (wx:World):Prop :=
 ∃(g n c k P:Nat) (f:Nat→Int) (a b:Int),v10= .slice (some ⟨g,0,none⟩) n c∧VF wx g 0 n c f∧st≤n∧n≤bd∧v12= .pointer (some ⟨P,0,none⟩)∧P<wx.heap.size∧wx.cell? ⟨P,0,none⟩=some (.int .i64 a)∧wx.cell? ⟨P,1,none⟩=some (.int .i64 b)∧v13= .int .i64 k∧k≤13∧Below w.heap.size w wx∧w.heap.size≤P
set_option maxHeartbeats 8000000 in
theorem Ze1 (p:PIn) (w:World) (hp:p.Is w) (hl:p.Lens) (hf:p.Few):Calls Tryz.prog 8 #[.agg p.cells,.int .i64 15] w fun e u =>
 ∃ g c F f,e= .returned (.slice (some ⟨g,0,none⟩) 8704 c)∧YD u w.heap.size g 8704 c f∧Vh L12 1 F∧Yx 1 F f∧Below w.heap.size w u:=by
 have hb0:Below w.heap.size w ((w.alloc (.cells p.cells 32)).alloc (.cells #[.int .i64 12287,.int .i64 8191,.int .i64 7] 88)):=((Below.refl w.heap.size w).alloc (Nat.le_refl _) _).alloc (by simp) _
 have hz0:((w.alloc (.cells p.cells 32)).alloc (.cells #[.int .i64 12287,.int .i64 8191,.int .i64 7] 88)).heap[w.heap.size]? =some (.cells p.cells 32 (0,0)):=heap_alloc2_old _ _ _
 have hz1:((w.alloc (.cells p.cells 32)).alloc (.cells #[.int .i64 12287,.int .i64 8191,.int .i64 7] 88)).heap[w.heap.size+1]? =some (.cells #[.int .i64 12287,.int .i64 8191,.int .i64 7] 88 (0,0)):=heap_alloc2_new _ _ _
 obtain⟨w1,hw1⟩: ∃ q,(w.alloc (.cells p.cells 32)).alloc (.cells #[.int .i64 12287,.int .i64 8191,.int .i64 7] 88)=q:=⟨_,rfl⟩
 rw[hw1] at hb0 hz0 hz1
 have hs0:SlT Zd0 3 w1 (some ⟨w.heap.size+1,0,none⟩) [(12287,8191,7)]:=by
  refine .inr ⟨w.heap.size+1,0,rfl,Zi hz1,fun i hi j v hv=> ?_⟩
  obtain rfl:i=0:=by simp at hi; exact hi
  rw[Zh hz1]
  rw[show 0+(0 * 3+j)=j by omega]
  simpa [Zd0] using hv
 have HW:=Zg hw1
 have HB0:=Zg hb0
 have HPB:=Zg (fun W (hW:Below w.heap.size w W)=>hp.below hW)
 have HCL:=Zg (show ∀ W,Below w1.heap.size w1 W→ ∀ j v,p.cells[j]? =some v→W.cell? ⟨w.heap.size,j,none⟩=some v from fun W hW j v hv=>(hW.cell (p:=⟨w.heap.size,j,none⟩) (Zi hz0)).trans ((Zh hz0).trans hv))
 have HLN:=Zg hl
 have HFW:=Zg hf
 have HMA:=Zg (Zc2 (some ⟨w.heap.size+1,0,none⟩) [(12287,8191,7)] 1 L12 (fun i=>by rcases i with _|i; exact .inl rfl; exact .inr (by simp)) w1 (by simp) hs0)
 clear hp hl hf hb0 hz0 hz1 hw1 hs0
 go_enter Tryz.func8,Tryz.ntmps8
 go_wp2_with fail
 refine(congrArg (fun W=>Calls Tryz.prog 25 #[.slice (some ⟨w.heap.size+1,0,none⟩) 1 1,.slice none 0 0] W _) HW.out).mpr ?_
 refine HMA.out.mono ?_
 rintro e w2 ⟨g,c,F,rfl,ho,hm,hb⟩
 rw[show min [((12287,8191,7):Vw)].length 6=1 by rfl] at ho hm ⊢
 rw[at12] at ho ⊢
 have HO2:=Zg (ho.weaken (base':=w.heap.size) HB0.out.size)
 have HM:=Zg hm
 have HB2:=Zg hb
 have hcv:=YB (cap:=c) ho.row
 have HSM:=Zg (show Yx 1 F (PlainAid.bt (ZB F 0 8704)) from fun q h1 h2=>by rw[XQ ho.by255 (by omega),Nat.zero_add])
 have HSZ:=Zg (Zt F 0 8704)
 generalize ZB F 0 8704=S at hcv HSM HSZ
 clear ho hm hb HMA
 go_wp2_with fail
 refine(Jf S w2 (by rw[HSZ.out]; omega)).mono ?_
 rintro e w3 ⟨⟨v,rfl,hq⟩,hb⟩
 obtain⟨cs,bs,off,c3,rfl,hz,hone,h38,hlt,hat⟩:=Zip hq HM.out HSM.out (Nat.le_of_eq HSZ.out.symm)
 have HO3:=Zg (HO2.out.below hb)
 have HB3:=Zg (HB2.out.trans (hb.mono HB2.out.size))
 have HAT:=Zg (And.intro hlt hat)
 have H38:=Zg h38
 clear hq hb HO2 HB2 HSM HSZ hcv h38 hlt hat
 go_upto_region 3 with(refine wpList_store_row rfl 41 _ _ rfl w3.heap.size cs rfl rfl 41 _ (heap_alloc_new _ _) (by rw[hz]; rfl) (by rw[hz]; rfl) hone ?_)
 rw[Yp]
 have hg4:=setRow_heap (w3.alloc (.cells (Zl 0 0 0 0 0 0) 41)) w3.heap.size _ cs _ _ (heap_alloc_new _ _)
 have hb34:Below w3.heap.size w3 ((w3.alloc (.cells (Zl 0 0 0 0 0 0) 41)).setRow w3.heap.size cs):=below_setRow ((Below.refl _ w3).alloc (Nat.le_refl _) _) (Nat.le_refl _) _
 have HO4:=Zg (HO3.out.below hb34)
 have HB4:=Zg (HB3.out.trans (hb34.mono HB3.out.size))
 have HAT4:=Zg ((hb34.cell (p:=⟨bs,off+4,none⟩) HAT.out.1).trans HAT.out.2)
 have HL4:=Zg (show bs<w3.heap.size∧w3.heap.size<((w3.alloc (.cells (Zl 0 0 0 0 0 0) 41)).setRow w3.heap.size cs).heap.size from⟨HAT.out.1,Zi hg4⟩)
 have k38:=(cell_of_row _ _ 38 _ _ _ hg4).trans H38.out
 clear hb34 HO3 HB3 HAT H38 hz hone hg4
 generalize (w3.alloc (.cells (Zl 0 0 0 0 0 0) 41)).setRow w3.heap.size cs=w4 at *
 generalize w3.heap.size=G at *
 go_wp2_with (at_make; refine Yz rfl _ _ rfl w4.heap.size .i64 .i64 4160 rfl rfl (by omega) (Nat.le_refl _) ?_; intro w5 ho hb hs; have HA5:=Zg ho; have HB45:=Zg hb; clear ho hb hs)
 have HO5:=Zg (HO4.out.below HB45.out)
 have HGL:=Zg (show g<w4.heap.size from HO4.out.lt)
 have HB5:=Zg (HB4.out.trans (HB45.out.mono HB4.out.size))
 have K38:=Zg ((HB45.out.cell (p:=⟨G,38,none⟩) HL4.out.2).trans k38)
 have KAT:=Zg ((HB45.out.cell (p:=⟨bs,off+4,none⟩) (by have:=HL4.out; show bs<w4.heap.size; omega)).trans HAT4.out)
 have KL:=Zg (show bs<w5.heap.size∧G<w5.heap.size from by have:=HL4.out; have:=HB45.out.size; omega)
 have HAA:=Zg HA5.out
 have HGA:=Zg (show bs<w4.heap.size∧G<w4.heap.size∧w1.heap.size≤w4.heap.size∧w4.heap.size≤w5.heap.size∧w.heap.size≤w4.heap.size from⟨by have:=HL4.out; omega,HL4.out.2,HB4.out.size,HB45.out.size,Nat.le_trans HB0.out.size HB4.out.size⟩)
 have HB05:=Zg (HB0.out.trans (HB5.out.mono HB0.out.size))
 clear k38 HO4 HB4 HAT4 HL4 HA5 HB45 HB0
 obtain⟨GA,hGA⟩: ∃ q,w4.heap.size=q:=⟨_,rfl⟩
 rw[hGA] at HAA HGA HGL ⊢
 clear hGA
 go_loopw [5,8,9] (fun v5 v8 v9 wr=> ∃(i gb cb ga na ca:Nat) (fb fa:Nat→Int),(i≤6∧gb≠ga)∧v9= .int .i64 i∧v5= .slice (some ⟨gb,0,none⟩) 8704 cb∧YD wr w.heap.size gb 8704 cb fb∧Yx 1 F fb∧v8= .slice (some ⟨ga,0,none⟩) na ca∧YD wr GA ga na ca fa∧4160≤na∧na≤bdN i∧Below GA w5 wr) (fun _ _ v9 _=>6 - (intOf v9).toNat)
 case atStart=>exact⟨0,g,c,GA,4160,4160,F,_,⟨by omega,by have:=HGL.out; omega⟩,rfl,rfl,HO5.out,Yx.refl _ _,rfl,HAA.out,by omega,by decide,Below.refl _ _⟩
 case round =>
  obtain⟨i,gb,cb,ga,na,ca,fb,fa,⟨hi,hgg⟩,rfl,rfl,hob,hsh,rfl,hoa,hna0,hna,hbw⟩:=hrel
  have HOB:=Zg hob
  have HSH:=Zg hsh
  have HOA:=Zg hoa
  have HNA:=Zg (And.intro hna0 hna)
  have HGG:=Zg hgg
  have HBW:=Zg hbw
  clear hgg hob hsh hoa hna0 hna hbw HO5 HAA
  by_cases hlt:i<6
  ·have hz0:(0:Int)≤(i:Int):=by omega
   have hlt':(i:Int)<6:=by omega
   have c0:=HCL.out wr (HB5.out.trans (HBW.out.mono HGA.out.2.2.1)) 0 (.int .i64 p.wh) rfl
   have HI:=Zg hlt
   go_upto_region 13 with fail
   case roundEnd =>
    refine⟨⟨i+1,gb,cb,ga,na,ca,fb,fa,⟨by have:=HI.out; omega,HGG.out⟩,by go_num,rfl,HOB.out,HSH.out,rfl,HOA.out,HNA.out.1,?_,HBW.out⟩,by have:=HI.out; simp[intOf]; omega⟩
    have h1:=HNA.out.2
    have h2:=HI.out
    rcases(by omega:i=0∨i=1∨i=2∨i=3∨i=4∨i=5) with rfl|rfl|rfl|rfl|rfl|rfl <;> exact Nat.le_trans h1 (by decide)
   generalize hwd:wr.alloc _=wd
   obtain⟨P,hPe⟩: ∃ P,wr.heap.size=P:=⟨_,rfl⟩
   have hbd:Below wr.heap.size wr wd:=by rw[←hwd]; exact(Below.refl _ _).alloc (Nat.le_refl _) _
   have hzd:wd.heap[P]? =some (.cells #[.int .i64 (na:Int),.int .i64 0] 37 (0,0)):=by rw[←hwd,←hPe]; exact heap_alloc_new wr _
   have HBD:=Zg hbd
   have HZD:=Zg hzd
   have HPE:=Zg hPe
   have HB1D:=Zg (HB5.out.trans ((HBW.out.trans (hbd.mono (Nat.le_trans HGA.out.2.2.2.1 HBW.out.size))).mono HGA.out.2.2.1))
   have HB0D:=Zg (HB05.out.trans ((HBW.out.trans (hbd.mono (Nat.le_trans HGA.out.2.2.2.1 HBW.out.size))).mono HGA.out.2.2.2.2))
   rw[hPe]
   clear hwd hbd hzd hPe c0 hz0 hlt'
   go_upto_block 2 with fail
   generalize p.wh / 2 ^ i=pw
   go_cut [10,12,13] from 43 to 90 (fun v10 v12 v13 wx=>MkQ wr na (bdN (i+1)) v10 v12 v13 wx)
   case first =>
    have hna:=HNA.out.2
    have hi6:=HI.out
    have hPP:=HPB.out wd HB0D.out
    rcases(by omega:i=0∨i=1∨i=2∨i=3∨i=4∨i=5) with rfl|rfl|rfl|rfl|rfl|rfl
    ·have hna':na≤4160:=hna
     have c1:=HCL.out wd HB1D.out 1 (.slice p.fA p.fn p.fc) rfl
     have c2:=HCL.out wd HB1D.out 2 (.slice p.nA p.nn p.nc) rfl
     have HC:=Zg (at7w na (by omega) p.fA p.fn p.fc p.fS p.nA p.nn p.nc p.nS wd hPP.f hPP.n HLN.out.f HLN.out.n HFW.out.f HFW.out.n)
     clear hPP
     go_wp2_with fail
     refine HC.out.mono ?_
     rintro e wx ⟨gi,ci,n,f,a,b,rfl,h1,h2,ho,hb⟩
     have HX:=Zg (And.intro h1 (And.intro (show n≤bdN 1 by show n≤9500; omega) ho))
     have HBX:=Zg (HBD.out.trans (hb.mono HBD.out.size))
     have HZX:=Zg ((hb.block P (Zi HZD.out)).trans HZD.out)
     have HNE:=Zg (show gi≠P by have:=Zi HZD.out; have:=ho.le; omega)
     clear h1 h2 ho hb c1 c2 hna hna' HC
     go_wp2_with (refine wpList_store_row rfl 37 (.tmp 12) (.tmp 58) rfl P #[.int .i64 a,.int .i64 b] rfl rfl 37 _ HZX.out rfl rfl (by simp[Value.oneCell']) ?_)
     go_meet
     case rel =>
      have hz:=setRow_heap wx P _ #[.int .i64 a,.int .i64 b] _ _ HZX.out
      refine⟨gi,n,ci,0,P,f,a,b,rfl,(HX.out.2.2.setRow HNE.out _).rowB,HX.out.1,HX.out.2.1,rfl,Zi hz,by rw[Zh hz]; rfl,by rw[Zh hz]; rfl,?_,by omega,below_setRow HBX.out (Nat.le_of_eq HPE.out) _,Nat.le_of_eq HPE.out⟩
      rfl
    ·have hna':na≤9500:=hna
     have c3:=HCL.out wd HB1D.out 3 (.slice p.iA p.im p.ic) rfl
     have HC:=Zg (at8w na (by omega) false p.iA p.im p.ic p.iX wd hPP.i HFW.out.i HFW.out.is)
     have hlen:=Ze0 na false p.iX p.im HFW.out.is
     obtain⟨bs8,hbs8⟩: ∃ q,at8 na (WB p.iX p.im) false=q:=⟨_,rfl⟩
     rw[hbs8] at HC hlen
     have HX:=Zg (And.intro hlen.1 (show bs8.length≤bdN 2 by show bs8.length≤171000; omega))
     clear hPP hlen hbs8 hna hna'
     go_wp2_with fail
     refine HC.out.mono ?_
     rintro e wx ⟨gi,ci,rfl,ho,hb⟩
     have HO:=Zg (Zez ho).rowB
     have HBX:=Zg (HBD.out.trans (hb.mono HBD.out.size))
     have HZX:=Zg ((hb.block P (Zi HZD.out)).trans HZD.out)
     clear ho hb c3 HC
     go_wp2_with fail
     go_meet
     case rel=>exact⟨gi,bs8.length,ci,1,P,_,_,_,rfl,HO.out,HX.out.1,HX.out.2,rfl,Zi HZX.out,by rw[Zh HZX.out]; rfl,by rw[Zh HZX.out]; rfl,rfl,by omega,HBX.out,Nat.le_of_eq HPE.out⟩
    ·have hna':na≤171000:=hna
     have hn0:=HNA.out.1
     have c5:=HCL.out wd HB1D.out 5 (.slice p.rA p.rL.length p.rc) rfl
     have HC:=Zg (Ze3 p.rA p.rL p.rc na wd hPP.r HLN.out.r (by omega) (by omega))
     have HR:=Zg (fun L l cap W hL h1 h2=>relw na (by omega) (by omega) L l cap W hL h1 h2)
     clear hPP hn0 hna
     go_wp2_with fail
     refine HC.out.mono ?_
     rintro e wx ⟨l,A,cap,rfl,ho,hapt,hb⟩
     have HBX:=Zg (HBD.out.trans (hb.mono HBD.out.size))
     have HZX:=Zg ((hb.block P (Zi HZD.out)).trans HZD.out)
     have HRR:=Zg (HR.out A l cap wx (ho.sl Xh) (by have:=hapt.len; omega) (fun x hx=>⟨by have:=hapt.kinds x hx; omega,hapt.low x hx⟩))
     clear ho hapt hb c5 HC HR
     go_wp2_with fail
     refine HRR.out.mono ?_
     rintro e wy ⟨gi,ci,n,f,a,b,rfl,h1,h2,ho,hb⟩
     have HX:=Zg (And.intro h1 (And.intro (show n≤bdN 3 by show n≤172000; omega) ho))
     have HBY:=Zg (HBX.out.trans (hb.mono HBX.out.size))
     have HZY:=Zg ((hb.block P (Zi HZX.out)).trans HZX.out)
     clear h1 h2 ho hb HRR hna'
     go_wp2_with (refine wpList_store_row rfl 37 (.tmp 12) (.tmp 75) rfl P #[.int .i64 a,.int .i64 b] rfl rfl 37 _ HZY.out rfl rfl (by simp[Value.oneCell']) ?_)
     go_meet
     case rel =>
      have hz:=setRow_heap wy P _ #[.int .i64 a,.int .i64 b] _ _ HZY.out
      have hr:=HX.out.2.2
      have hne:gi≠P:=by
       intro e
       subst e
       have k1:=hr.row 0 (by have:=HX.out.1; have:=HNA.out.1; omega)
       rw[Zh HZY.out] at k1
       cases k1
      exact⟨gi,n,ci,5,P,f,a,b,rfl,⟨fun j hj=>by rw[World.cell?_of_block (a:=⟨gi,_,none⟩) (setRow_other _ _ _ _ hne)]; exact hr.row j hj,hr.by255,by simpa [World.setRow] using hr.lt,hr.len,hr.most⟩,HX.out.1,HX.out.2.1,rfl,Zi hz,by rw[Zh hz]; rfl,by rw[Zh hz]; rfl,rfl,by omega,below_setRow HBY.out (Nat.le_of_eq HPE.out) _,Nat.le_of_eq HPE.out⟩
    ·have hna':na≤172000:=hna
     have c7:=HCL.out wd HB1D.out 7 (.int .i64 p.ix) rfl
     have c8:=HCL.out wd HB1D.out 8 (.slice p.cA p.cL.length p.cc) rfl
     have HC:=Zg (at11w na (by omega) 65536 (bits .and .i64 p.ix 4095) p.cA p.cL p.cc wd hPP.c HLN.out.c)
     clear hPP hna
     go_wp2_with fail
     refine HC.out.mono ?_
     rintro e wx ⟨gi,ci,n,f,rfl,h1,h2,ho,hb⟩
     have HX:=Zg (And.intro h1 (And.intro (show n≤bdN 4 by show n≤173000; omega) ho.rowB))
     have HBX:=Zg (HBD.out.trans (hb.mono HBD.out.size))
     have HZX:=Zg ((hb.block P (Zi HZD.out)).trans HZD.out)
     clear h1 h2 ho hb c7 c8 HC hna'
     go_wp2_with fail
     go_meet
     case rel=>exact⟨gi,n,ci,9,P,f,_,_,rfl,HX.out.2.2,HX.out.1,HX.out.2.1,rfl,Zi HZX.out,by rw[Zh HZX.out]; rfl,by rw[Zh HZX.out]; rfl,rfl,by omega,HBX.out,Nat.le_of_eq HPE.out⟩
    ·have hna':na≤173000:=hna
     have c6:=HCL.out wd HB1D.out 6 (.slice p.bA p.bL.length p.bc) rfl
     have HC:=Zg (at9w na (by omega) p.bA p.bL p.bc wd hPP.b HFW.out.b HFW.out.bs)
     clear hPP hna
     go_wp2_with fail
     refine HC.out.mono ?_
     rintro e wx ⟨gi,ci,n,f,rfl,h1,h2,ho,hb⟩
     have HX:=Zg (And.intro h1 (And.intro (show n≤bdN 5 by show n≤178000; omega) ho.rowB))
     have HBX:=Zg (HBD.out.trans (hb.mono HBD.out.size))
     have HZX:=Zg ((hb.block P (Zi HZD.out)).trans HZD.out)
     clear h1 h2 ho hb c6 HC hna'
     go_wp2_with fail
     go_meet
     case rel=>exact⟨gi,n,ci,11,P,f,_,_,rfl,HX.out.2.2,HX.out.1,HX.out.2.1,rfl,Zi HZX.out,by rw[Zh HZX.out]; rfl,by rw[Zh HZX.out]; rfl,rfl,by omega,HBX.out,Nat.le_of_eq HPE.out⟩
    ·have hna':na≤178000:=hna
     have c4:=HCL.out wd HB1D.out 4 (.slice p.lA p.lm p.lc) rfl
     have HC:=Zg (at8w na (by omega) true p.lA p.lm p.lc p.lX wd hPP.l HFW.out.l HFW.out.ls)
     have hlen:=Ze0 na true p.lX p.lm HFW.out.ls
     obtain⟨bs8,hbs8⟩: ∃ q,at8 na (WB p.lX p.lm) true=q:=⟨_,rfl⟩
     rw[hbs8] at HC hlen
     have HX:=Zg (And.intro hlen.1 (show bs8.length≤bdN 6 by show bs8.length≤340000; omega))
     clear hPP hlen hbs8 hna hna'
     go_wp2_with fail
     refine HC.out.mono ?_
     rintro e wx ⟨gi,ci,rfl,ho,hb⟩
     have HO:=Zg (Zez ho).rowB
     have HBX:=Zg (HBD.out.trans (hb.mono HBD.out.size))
     have HZX:=Zg ((hb.block P (Zi HZD.out)).trans HZD.out)
     clear ho hb c4 HC
     go_wp2_with fail
     go_meet
     case rel=>exact⟨gi,bs8.length,ci,13,P,_,_,_,rfl,HO.out,HX.out.1,HX.out.2,rfl,Zi HZX.out,by rw[Zh HZX.out]; rfl,by rw[Zh HZX.out]; rfl,rfl,by omega,HBX.out,Nat.le_of_eq HPE.out⟩
   case rest =>
    obtain⟨gi,n,ci,k,P',f,a,b,rfl,hr,hst,hbn,rfl,hP,hd0,hd1,rfl,hk,hbx,hPge⟩:=hcut
    have hoalt:=HOA.out.lt
    have HR:=Zg hr
    have HN:=Zg (show na≤n∧n≤bdN (i+1)∧n≤340000∧k≤13 from⟨hst,hbn,Nat.le_trans hbn (by have:=HI.out; rcases(by omega:i=0∨i=1∨i=2∨i=3∨i=4∨i=5) with rfl|rfl|rfl|rfl|rfl|rfl <;> decide),hk⟩)
    have HBX:=Zg hbx
    have HPL:=Zg (show P'<wc.heap.size∧P'≠ga from⟨hP,by have:=hoalt; omega⟩)
    have HD:=Zg (And.intro hd0 hd1)
    have HOAX:=Zg (HOA.out.below hbx)
    have HOBX:=Zg (HOB.out.below hbx)
    have HBWX:=Zg (HBW.out.trans (hbx.mono (Nat.le_trans HGA.out.2.2.2.1 HBW.out.size)))
    have e15:((15:Int) == (i:Int))=false:=by rw[beq_eq_false_iff_ne]; have:=HI.out; omega
    have hnlt: ¬ (n:Int)<(na:Int):=by omega
    have e15n: ¬ (15:Int)=(i:Int):=by have:=HI.out; omega
    have e15b:bits .and .i64 15 15=15:=by rfl
    have hsl0:(0:Int)≤(na:Int):=by omega
    have hsl1:(na:Int)≤(n:Int):=by omega
    have hsl2:(n:Int)≤(ci:Int):=by have:=hr.len; omega
    have HS2:=Zg (show SlB wc (if ci=na then some ⟨gi,0,none⟩ else some ⟨gi,na,none⟩) (n - na) (fun j=>f (na+j)) from by
     have h3:=hr.len
     split
     ·exact .inr ⟨gi,0,rfl,hr.lt,fun j hj=>by omega⟩
     ·exact .inr ⟨gi,na,rfl,hr.lt,fun j hj=>by have:=hr.row (na+j) (by omega); rw[Nat.zero_add] at this; exact this⟩)
    have H255:=Zg (show Zq (fun j=>f (na+j)) from fun j=>hr.by255 _)
    clear hr hst hbn hd0 hd1 hk hbx hP hPge hoalt HZD HBD HPE HB1D HB0D
    go_upto_region 30 with(at_builtin; go_loud (refine Jj rfl _ _ rfl HOAX.out HS2.out H255.out (by have:=HN.out; have:=HNA.out; omega) (Nat.le_trans HGA.out.2.2.2.1 HBWX.out.size) rfl rfl ?_; intro g6 c6 w6 ho hb hk; have HO6:=Zg ho; have HB6:=Zg hb; have HK6:=Zg hk; clear ho hb hk))
    have HBW6:=Zg (HBWX.out.trans HB6.out)
    have HP6:=Zg (HK6.out P' HPL.out.1 HPL.out.2)
    have HPL6:=Zg (show P'<w6.heap.size from Nat.lt_of_lt_of_le HPL.out.1 HB6.out.size)
    have HOB6:=Zg (HOBX.out.of_block HB6.out.size (HK6.out gb HOBX.out.lt HGG.out))
    obtain⟨y0,hy0,ha0,ha1⟩:=Wa a
    obtain⟨y1,hy1,hb0,hb1⟩:=Wa b
    have HY0:=Zg (fun W:World=>Yn y0 4 4 W ha0 ha1 (by omega))
    have HY1:=Zg (fun W:World=>Yn y1 4 4 W hb0 hb1 (by omega))
    obtain⟨at_,hat⟩: ∃ q:Nat,200+8 * k=q:=⟨_,rfl⟩
    have HAT:=Zg (show 200≤at_∧at_+8≤328 from by have:=HN.out.2.2.2; omega)
    have hw1:IntKind.i64.wrap (8 * (k:Int))=8 * (k:Int):=by have:=HN.out.2.2.2; rw[IntKind.wrap_i64]; omega
    have hw2:IntKind.i64.wrap (200+8 * (k:Int))=(at_:Int):=by have:=HN.out.2.2.2; rw[IntKind.wrap_i64]; omega
    have hadd:=fun(W:World)=>run_string_add_sum (P:=Tryz.prog) W (ZB (Yf y0) 0 4) (ZB (Yf y1) 0 4) (by rw[Zt,Zt]; omega)
    clear ha0 ha1 hb0 hb1 hat
    have HS:=Zg (show Below w6.heap.size w6 w6.drew from(Below.refl _ _).drew)
    refine wp_region_noPanic ?_
    refine Zw (fun W=>Below w6.heap.size w6 W) (fun _=>True) 99 (by kernel_rfl) ?_
    refine wT (i:=0) (oi:= ?_) (v:= ?_) ?_ ?_ HS.out ?_
    rotate_left 2
    ·(simp only[Za,Zb,Zc]; rfl)
    ·(first|exact Or.inr ⟨by rfl,rfl⟩|(refine Or.inl ⟨by rfl,?_⟩; intro W hSw; clear hSw; go_simp; try with_reducible rfl))
    try simp only[Act.put,Zd,Ze,Zf]
    refine wT (i:=1) (oi:= ?_) (v:= ?_) ?_ ?_ HS.out ?_
    rotate_left 2
    ·(simp only[Za,Zb,Zc]; rfl)
    ·(first|exact Or.inr ⟨by rfl,rfl⟩|(refine Or.inl ⟨by rfl,?_⟩; intro W hSw; clear hSw; go_simp; try with_reducible rfl))
    try simp only[Act.put,Zd,Ze,Zf]
    refine wT (i:=2) (oi:= ?_) (v:= ?_) ?_ ?_ HS.out ?_
    rotate_left 2
    ·(simp only[Za,Zb,Zc]; rfl)
    ·(first|exact Or.inr ⟨by rfl,rfl⟩|(refine Or.inl ⟨by rfl,?_⟩; intro W hSw; clear hSw; go_simp; try with_reducible rfl))
    try simp only[Act.put,Zd,Ze,Zf]
    refine wT (i:=3) (oi:= ?_) (v:= ?_) ?_ ?_ HS.out ?_
    rotate_left 2
    ·(simp only[Za,Zb,Zc]; rfl)
    ·(first|exact Or.inr ⟨by rfl,rfl⟩|(refine Or.inl ⟨by rfl,?_⟩; intro W hSw; clear hSw; go_simp; try with_reducible rfl))
    try simp only[Act.put,Zd,Ze,Zf]
    refine wT (i:=4) (oi:= ?_) (v:= ?_) ?_ ?_ HS.out ?_
    rotate_left 2
    ·(simp only[Za,Zb,Zc]; rfl)
    ·(first|exact Or.inr ⟨by rfl,rfl⟩|(refine Or.inl ⟨by rfl,?_⟩; intro W hSw; clear hSw; go_simp; try with_reducible rfl))
    try simp only[Act.put,Zd,Ze,Zf]
    refine wT (i:=5) (oi:= ?_) (v:= ?_) ?_ ?_ HS.out ?_
    rotate_left 2
    ·(simp only[Za,Zb,Zc]; rfl)
    ·(first|exact Or.inr ⟨by rfl,rfl⟩|(refine Or.inl ⟨by rfl,?_⟩; intro W hSw; have hk:=(World.cell?_of_block (a:=⟨P',0,none⟩) ((hSw.block P' HPL6.out).trans HP6.out)).trans HD.out.1; clear hSw; go_simp; try with_reducible rfl))
    try simp only[Act.put,Zd,Ze,Zf]
    refine wT (i:=6) (oi:= ?_) (v:= ?_) ?_ ?_ HS.out ?_
    rotate_left 2
    ·(simp only[Za,Zb,Zc]; rfl)
    ·(first|exact Or.inr ⟨by rfl,rfl⟩|(refine Or.inl ⟨by rfl,?_⟩; intro W hSw; clear hSw; go_simp; try with_reducible rfl))
    try simp only[Act.put,Zd,Ze,Zf]
    refine wT (i:=8) (oi:= ?_) (v:= ?_) ?_ ?_ HS.out ?_
    rotate_left 2
    ·(simp only[Za,Zb,Zc]; rfl)
    ·(first|exact Or.inr ⟨by rfl,rfl⟩|(refine Or.inl ⟨by rfl,?_⟩; intro W hSw; clear hSw; go_simp; try with_reducible rfl))
    try simp only[Act.put,Zd,Ze,Zf]
    refine wT (i:=9) (oi:= ?_) (v:= ?_) ?_ ?_ HS.out ?_
    rotate_left 2
    ·(simp only[Za,Zb,Zc]; rfl)
    ·(first|exact Or.inr ⟨by rfl,rfl⟩|(refine Or.inl ⟨by rfl,?_⟩; intro W hSw; have hk:=(World.cell?_of_block (a:=⟨P',1,none⟩) ((hSw.block P' HPL6.out).trans HP6.out)).trans HD.out.2; clear hSw; go_simp; try with_reducible rfl))
    try simp only[Act.put,Zd,Ze,Zf]
    refine wT (i:=10) (oi:= ?_) (v:= ?_) ?_ ?_ HS.out ?_
    rotate_left 2
    ·(simp only[Za,Zb,Zc]; rfl)
    ·(first|exact Or.inr ⟨by rfl,rfl⟩|(refine Or.inl ⟨by rfl,?_⟩; intro W hSw; clear hSw; go_simp; try with_reducible rfl))
    try simp only[Act.put,Zd,Ze,Zf]
    refine Zk (i:=7) (o:= ?_) (by kernel_rfl) ?_ (fun K hK=> ?_)
    rotate_left 1
    ·(simp only[Za,Zb,Zc]; rfl)
    go_simp
    go_at_call 10
    refine(HY0.out _).mono ?_
    rintro e w7 ⟨rfl,hw7⟩
    have HS3:=Zg (HS.out.trans (hw7.mono HS.out.size))
    clear hw7
    refine hK.out _ _ HS3.out (fun _=>trivial) ?_
    clear hK K
    try simp only[Act.put,Zd,Ze,Zf]
    refine Zk (i:=11) (o:= ?_) (by kernel_rfl) ?_ (fun K hK=> ?_)
    rotate_left 1
    ·(simp only[Za,Zb,Zc]; rfl)
    go_simp
    go_at_call 10
    refine(HY1.out _).mono ?_
    rintro e w8 ⟨rfl,hw8⟩
    have HS4:=Zg (HS3.out.trans (hw8.mono HS3.out.size))
    clear hw8
    refine hK.out _ _ HS4.out (fun _=>trivial) ?_
    clear hK K
    try simp only[Act.put,Zd,Ze,Zf]
    refine wT (i:=12) (oi:= ?_) (v:= ?_) ?_ ?_ HS4.out ?_
    rotate_left 2
    ·(simp only[Za,Zb,Zc]; rfl)
    ·(first|exact Or.inr ⟨by rfl,rfl⟩|(refine Or.inl ⟨by rfl,?_⟩; intro W hSw; clear hSw; go_simp; try with_reducible rfl))
    try simp only[Act.put,Zd,Ze,Zf]
    obtain⟨C9,w10,hcv,ho9,hw10⟩:=UG w8 (ZB (Yf y0) 0 4++ZB (Yf y1) 0 4) (by rw[ByteArray.size_append,Zt,Zt]; omega)
    rw[show(ZB (Yf y0) 0 4++ZB (Yf y1) 0 4).size=8 by rw[ByteArray.size_append,Zt,Zt]] at hcv ho9
    generalize PlainAid.bt (ZB (Yf y0) 0 4++ZB (Yf y1) 0 4)=h9 at ho9
    refine Zk (i:=13) (o:= ?_) (by kernel_rfl) ?_ (fun K hK=> ?_)
    rotate_left 1
    ·(simp only[Za,Zb,Zc]; rfl)
    go_simp
    have HS5:=Zg (HS4.out.trans (hw10.mono HS4.out.size))
    have HO9:=Zg ho9
    clear hw10 hcv ho9
    refine hK.out _ _ HS5.out (fun _=>trivial) ?_
    clear hK K
    try simp only[Act.put,Zd,Ze,Zf]
    refine Zk (i:=14) (o:= ?_) (by kernel_rfl) ?_ (fun K hK=> ?_)
    rotate_left 1
    ·(simp only[Za,Zb,Zc]; rfl)
    go_simp
    go_at_call 9
    refine(Qx gb 0 8704 cb fb at_ w8.heap.size 0 8 C9 h9 w10 (HOB6.out.below HS5.out).rowB HO9.out.rowB (by omega) (by omega) (by have:=HAT.out; omega)).mono ?_
    rintro e w11 ⟨g11,c11,rfl,ho11,hw11⟩
    have HS6:=Zg (HS5.out.trans (hw11.mono HS5.out.size))
    have HO11:=Zg ho11
    have HG11:=Zg (show w6.heap.size≤g11 from Nat.le_trans HS5.out.size ho11.le)
    clear ho11 hw11
    refine hK.out _ _ HS6.out (fun _=>trivial) ?_
    clear hK K
    try simp only[Act.put,Zd,Ze,Zf]
    refine wT (i:=15) (oi:= ?_) (v:= ?_) ?_ ?_ HS6.out ?_
    rotate_left 2
    ·(simp only[Za,Zb,Zc]; rfl)
    ·(first|exact Or.inr ⟨by rfl,rfl⟩|(refine Or.inl ⟨by rfl,?_⟩; intro W hSw; clear hSw; go_simp; try with_reducible rfl))
    try simp only[Act.put,Zd,Ze,Zf]
    refine Zp (by kernel_rfl) ?_ _
    refine NoPanic.normal ?_
    go_wp2_with fail
    go_roundw
    case rel=>exact⟨i+1,g11,c11,g6,na+(n - na),c6,_,_,⟨by have:=HI.out; omega,by have:=HG11.out; have:=HO6.out.lt; omega⟩,by go_num,rfl,HO11.out.weaken (Nat.le_trans HGA.out.2.2.2.2 (Nat.le_trans HGA.out.2.2.2.1 (Nat.le_trans HBW6.out.size HS5.out.size))),HSH.out.trans (Yx.over _ _ _ _ (.inl HAT.out)),rfl,HO6.out.below HS6.out,by have:=HNA.out.1; omega,by have:=HN.out; omega,HBW6.out.trans (HS6.out.mono (Nat.le_trans HGA.out.2.2.2.1 HBW6.out.size))⟩
    case measure=>have:=HI.out; simp[intOf]; omega
  ·obtain rfl:i=6:=by omega
   go_upto_region 31 with fail
   have HRA:=Zg (show VF wr ga 4096 (na - 4096) (ca - 4096) (fun j=>fa (4096+j)) from⟨fun j hj=>by have:=HOA.out.row (4096+j) (by have:=HNA.out; omega); rw[Nat.zero_add] at this; exact this,fun j=>HOA.out.by255 _,HOA.out.lt,by have:=HOA.out.len; omega,by have:=HOA.out.most; omega⟩)
   have HOV:=Zg (fun W (hW:Below wr.heap.size wr W)=>Qx gb 0 8704 cb fb 1024 ga 4096 (na - 4096) (ca - 4096) (fun j=>fa (4096+j)) W (HOB.out.below hW).rowB (HRA.out.below hW) (by omega) (by have h1:=HNA.out.2; have h2:bdN 6≤340000:=(by decide); omega) (by omega))
   have hl1:(4096:Int)≤(na:Int):=by have:=HNA.out.1; omega
   have hl2:(na:Int)≤(ca:Int):=by have:=HOA.out.len; omega
   have hl3: ¬ ca=4096:=by have:=HNA.out.1; omega
   have HS:=Zg (show Below wr.heap.size wr wr.drew from(Below.refl _ _).drew)
   refine wp_region_noPanic ?_
   refine Zw (fun W=>Below wr.heap.size wr W) (fun _=>True) 99 (by kernel_rfl) ?_
   refine wT (i:=0) (oi:= ?_) (v:= ?_) ?_ ?_ HS.out ?_
   rotate_left 2
   ·(simp only[Za,Zb,Zc]; rfl)
   ·(first|exact Or.inr ⟨by rfl,rfl⟩|(refine Or.inl ⟨by rfl,?_⟩; intro W hSw; clear hSw; go_simp; try with_reducible rfl))
   try simp only[Act.put,Zd,Ze,Zf]
   refine wT (i:=1) (oi:= ?_) (v:= ?_) ?_ ?_ HS.out ?_
   rotate_left 2
   ·(simp only[Za,Zb,Zc]; rfl)
   ·(first|exact Or.inr ⟨by rfl,rfl⟩|(refine Or.inl ⟨by rfl,?_⟩; intro W hSw; clear hSw; go_simp; try with_reducible rfl))
   try simp only[Act.put,Zd,Ze,Zf]
   refine wT (i:=2) (oi:= ?_) (v:= ?_) ?_ ?_ HS.out ?_
   rotate_left 2
   ·(simp only[Za,Zb,Zc]; rfl)
   ·(first|exact Or.inr ⟨by rfl,rfl⟩|(refine Or.inl ⟨by rfl,?_⟩; intro W hSw; have hk:=(((HBW.out.cell (p:=⟨G,38,none⟩) HGA.out.2.1).trans K38.out)); have hk2:=(hSw.cell (p:=⟨G,38,none⟩) (Nat.lt_of_lt_of_le HGA.out.2.1 (Nat.le_trans HGA.out.2.2.2.1 HBW.out.size))).trans hk; clear hk; clear hSw; go_simp; try with_reducible rfl))
   try simp only[Act.put,Zd,Ze,Zf]
   refine wT (i:=3) (oi:= ?_) (v:= ?_) ?_ ?_ HS.out ?_
   rotate_left 2
   ·(simp only[Za,Zb,Zc]; rfl)
   ·(first|exact Or.inr ⟨by rfl,rfl⟩|(refine Or.inl ⟨by rfl,?_⟩; intro W hSw; clear hSw; go_simp; try with_reducible rfl))
   try simp only[Act.put,Zd,Ze,Zf]
   refine wT (i:=4) (oi:= ?_) (v:= ?_) ?_ ?_ HS.out ?_
   rotate_left 2
   ·(simp only[Za,Zb,Zc]; rfl)
   ·(first|exact Or.inr ⟨by rfl,rfl⟩|(refine Or.inl ⟨by rfl,?_⟩; intro W hSw; clear hSw; go_simp; try with_reducible rfl))
   try simp only[Act.put,Zd,Ze,Zf]
   refine wT (i:=5) (oi:= ?_) (v:= ?_) ?_ ?_ HS.out ?_
   rotate_left 2
   ·(simp only[Za,Zb,Zc]; rfl)
   ·(first|exact Or.inr ⟨by rfl,rfl⟩|(refine Or.inl ⟨by rfl,?_⟩; intro W hSw; have hk:=(((HBW.out.cell (p:=⟨bs,off+4,none⟩) HGA.out.1).trans KAT.out)); have hk2:=(hSw.cell (p:=⟨bs,off+4,none⟩) (Nat.lt_of_lt_of_le HGA.out.1 (Nat.le_trans HGA.out.2.2.2.1 HBW.out.size))).trans hk; clear hk; clear hSw; go_simp; try with_reducible rfl))
   try simp only[Act.put,Zd,Ze,Zf]
   refine wT (i:=6) (oi:= ?_) (v:= ?_) ?_ ?_ HS.out ?_
   rotate_left 2
   ·(simp only[Za,Zb,Zc]; rfl)
   ·(first|exact Or.inr ⟨by rfl,rfl⟩|(refine Or.inl ⟨by rfl,?_⟩; intro W hSw; clear hSw; go_simp; try with_reducible rfl))
   try simp only[Act.put,Zd,Ze,Zf]
   refine wT (i:=7) (oi:= ?_) (v:= ?_) ?_ ?_ HS.out ?_
   rotate_left 2
   ·(simp only[Za,Zb,Zc]; rfl)
   ·(first|exact Or.inr ⟨by rfl,rfl⟩|(refine Or.inl ⟨by rfl,?_⟩; intro W hSw; clear hSw; go_simp; try with_reducible rfl))
   try simp only[Act.put,Zd,Ze,Zf]
   refine Zk (i:=8) (o:= ?_) (by kernel_rfl) ?_ (fun K hK=> ?_)
   rotate_left 1
   ·(simp only[Za,Zb,Zc]; rfl)
   go_simp
   go_at_call 9
   refine(HOV.out _ HS.out).mono ?_
   rintro e w6 ⟨g6,c6,rfl,ho,hb⟩
   have HS2:=Zg (HS.out.trans (hb.mono HS.out.size))
   have HO6:=Zg ho
   have HL6:=Zg (Nat.le_trans HGA.out.2.2.2.2 (Nat.le_trans HGA.out.2.2.2.1 (Nat.le_trans HBW.out.size HS.out.size)))
   clear ho hb
   refine hK.out _ _ HS2.out (fun _=>trivial) ?_
   clear hK K
   try simp only[Act.put,Zd,Ze,Zf]
   refine wT (i:=9) (oi:= ?_) (v:= ?_) ?_ ?_ HS2.out ?_
   rotate_left 2
   ·(simp only[Za,Zb,Zc]; rfl)
   ·(first|exact Or.inr ⟨by rfl,rfl⟩|(refine Or.inl ⟨by rfl,?_⟩; intro W hSw; clear hSw; go_simp; try with_reducible rfl))
   try simp only[Act.put,Zd,Ze,Zf]
   refine Zp (by kernel_rfl) ?_ _
   refine NoPanic.normal ?_
   go_wp2_with fail
   go_ret
   exact⟨g6,c6,F,_,rfl,HO6.out.weaken HL6.out,HM.out,HSH.out.trans (Yx.over _ _ _ _ (.inr (by omega))),HB05.out.trans ((HBW.out.trans (HS2.out.mono (Nat.le_trans HGA.out.2.2.2.1 HBW.out.size))).mono HGA.out.2.2.2.2)⟩
end Go.Proofs.YtplgdpjbkdagfaaGreat
