import Derived.Test.YtplgdpjbkdagfaaGreatZRPe
import Derived.Test.YtplgdpjbkdagfaaGreatRHeadB
import Derived.Test.YtplgdpjbkdagfaaGreatZPeEqE
import Derived.Test.YtplgdpjbkdagfaaGreatZMd
import Derived.Test.YtplgdpjbkdagfaaGreatZHdrA
import Derived.Deep.AppendSrc
import Derived.Deep.MidRow
import Derived.Test.YtplgdpjbkdagfaaGreatRefPut
namespace Go.Proofs.YtplgdpjbkdagfaaGreat
open List renaming getElem?_toArray→Za
open Go.ChangeShapes Go.WideShapes Go.ChangeAt Go.RowKit
set_option linter.unusedVariables false
set_option linter.unusedSimpArgs false
set_option maxRecDepth 100000
theorem Zck (L:ByteArray):txt (UH L.size (PlainAid.bt L))=L:=by
 have h:=Qr (UH L.size (PlainAid.bt L)) 0 L.size (by rw[Vg]; omega)
 rw[List.drop_zero,List.take_of_length_le (by rw[Vg]; exact Nat.le_refl _)] at h
 rw[←h,ZH (f':=PlainAid.bt L) (o':=0) (fun i hi=>by rw[Nat.zero_add]; exact Zj5 (WA L) hi),UX]
theorem rrE (L:ByteArray) (w:World) (hL:L.size≤262144) (rva sz:Int) (r0:0≤rva) (r1:rva<4294967296) (s0:0≤sz) (s1:sz<4294967296) :
 RR3 w 38 #[.string L,.agg #[.int .i64 rva,.int .i64 sz]] (erO (Uh (UH L.size (PlainAid.bt L)) rva sz) 11) (ExpS 0 (Uh (UH L.size (PlainAid.bt L)) rva sz) 0):=fun W _=>by
 have h:=Zap (UH L.size (PlainAid.bt L)) rva sz W (Qz (WA L)) (by rw[Vg]; omega) (by omega) (by omega) (by omega) (by omega)
 rw[Zck] at h
 refine h.mono ?_
 rintro e u ⟨hq,hb2⟩
 generalize Uh (UH L.size (PlainAid.bt L)) rva sz=R at hq ⊢
 cases R with
 | none =>
   have hq':e= .returned (.tuple #[.agg #[.int .i64 0,.slice none 0 0,.slice none 0 0],.int .i64 11]):=hq
   subst hq'
   exact⟨_,_,_,rfl,⟨rfl,rfl,rfl⟩,hb2,ZM.const fun _=>⟨rfl,rfl,rfl⟩⟩
 | some x =>
   obtain⟨A,c,A',c',rfl,h1,h2⟩:=hq
   exact⟨_,_,_,rfl,⟨rfl,rfl,rfl⟩,hb2,fun W3 hk3 hs3=>⟨A,c,A',c',rfl,rfl,rfl,(Wr h1 W3 hk3 hs3).lower (Nat.zero_le _),(Wr h2 W3 hk3 hs3).lower (Nat.zero_le _)⟩⟩
theorem rrI (L:ByteArray) (w:World) (hL:L.size≤262144) (rva:Nat) (sz:Int) (r1:rva<4294967296) :
 RR1 w 39 #[.string L,.agg #[.int .i64 rva,.int .i64 sz],.bool false] (erO (XX (UH L.size (PlainAid.bt L)) rva 20 Vr) 10) (ImpS 0 (XX (UH L.size (PlainAid.bt L)) rva 20 Vr) 0):=fun W _=>by
 have h:=QI (UH L.size (PlainAid.bt L)) rva sz W (Qz (WA L)) (by rw[Vg]; omega) r1
 rw[Zck] at h
 refine h.mono ?_
 rintro e u ⟨hq,hb2⟩
 generalize XX (UH L.size (PlainAid.bt L)) rva 20 Vr=R at hq ⊢
 cases R with
 | none =>
   have hq':e= .returned (.tuple #[.slice none 0 0,.int .i64 10]):=hq
   subst hq'
   exact⟨_,rfl,rfl,hb2,ZM.const fun _=>rfl⟩
 | some x =>
   obtain⟨A,c,l,rfl,h1,h2⟩:=hq
   exact⟨_,rfl,rfl,hb2,fun W3 hk3 hs3=>⟨A,c,l,rfl,VV h1 (Nat.zero_le _) W3 hk3 hs3,h2⟩⟩
theorem rrD (L:ByteArray) (w:World) (hL:L.size≤262144) (rva:Nat) (sz:Int) (r1:rva<4294967296) :
 RR1 w 39 #[.string L,.agg #[.int .i64 rva,.int .i64 sz],.bool true] (erO (XX (UH L.size (PlainAid.bt L)) rva 32 UM) 10) (ImpS 0 (XX (UH L.size (PlainAid.bt L)) rva 32 UM) 0):=fun W _=>by
 have h:=Za5 (UH L.size (PlainAid.bt L)) rva sz W (Qz (WA L)) (by rw[Vg]; omega) r1
 rw[Zck] at h
 refine h.mono ?_
 rintro e u ⟨hq,hb2⟩
 generalize XX (UH L.size (PlainAid.bt L)) rva 32 UM=R at hq ⊢
 cases R with
 | none =>
   have hq':e= .returned (.tuple #[.slice none 0 0,.int .i64 10]):=hq
   subst hq'
   exact⟨_,rfl,rfl,hb2,ZM.const fun _=>rfl⟩
 | some x =>
   obtain⟨A,c,l,rfl,h1,h2⟩:=hq
   exact⟨_,rfl,rfl,hb2,fun W3 hk3 hs3=>⟨A,c,l,rfl,VV h1 (Nat.zero_le _) W3 hk3 hs3,h2⟩⟩
def RelS5 (R:Option (List YX)) (v:Value) (U:World):Prop:=RowS1 Wh 2 82 0 R 0 v U∧ ∀ l,R=some l→l.length≤512
theorem rrR (L:ByteArray) (w:World) (hL:L.size≤262144) (rva sz:Int) (r0:0≤rva) (r1:rva<4294967296) (s0:0≤sz) (s1:sz<4294967296) :
 RR1 w 40 #[.string L,.agg #[.int .i64 rva,.int .i64 sz]] (erO (Uj L.size (PlainAid.bt L) rva sz) 9) (RelS5 (Uj L.size (PlainAid.bt L) rva sz)):=fun W _=>by
 refine(Ze5 L rva sz W (by omega) (by omega) (by omega) (by omega) (by omega)).mono ?_
 rintro e u ⟨hq,hb2⟩
 generalize Uj L.size (PlainAid.bt L) rva sz=R at hq ⊢
 cases R with
 | none =>
   have hq':e= .returned (.tuple #[.slice none 0 0,.int .i64 9]):=hq
   subst hq'
   exact⟨_,rfl,rfl,hb2,ZM.const fun _=>⟨rfl,fun l h=>by simp at h⟩⟩
 | some x =>
   obtain⟨A,c,rfl,h1,h2⟩:=hq
   exact⟨_,rfl,rfl,hb2,fun W3 hk3 hs3=>⟨⟨A,c,rfl,(Wr h1 W3 hk3 hs3).lower (Nat.zero_le _)⟩,fun l h=>by simp at h; subst h; exact h2⟩⟩
theorem rrB (L:ByteArray) (w:World) (hL:L.size≤262144) (rva:Nat) (sz:Int) (r1:rva<4294967296) :
 RR1 w 42 #[.string L,.agg #[.int .i64 rva,.int .i64 sz]] (erO (Uo (UH L.size (PlainAid.bt L)) rva) 8) (RowS1 bC 2 80 0 (Uo (UH L.size (PlainAid.bt L)) rva) 0):=fun W _=>by
 have h:=Zb2 (UH L.size (PlainAid.bt L)) rva sz W (Qz (WA L)) (by rw[Vg]; omega) r1
 rw[Zck] at h
 refine h.mono ?_
 rintro e u ⟨hq,hb2⟩
 generalize Uo (UH L.size (PlainAid.bt L)) rva=R at hq ⊢
 cases R with
 | none =>
   have hq':e= .returned (.tuple #[.slice none 0 0,.int .i64 8]):=hq
   subst hq'
   exact⟨_,rfl,rfl,hb2,ZM.const fun _=>rfl⟩
 | some x =>
   obtain⟨A,c,rfl,h1⟩:=hq
   exact⟨_,rfl,rfl,hb2,fun W3 hk3 hs3=>⟨A,c,rfl,(Wr h1 W3 hk3 hs3).lower (Nat.zero_le _)⟩⟩
theorem rrT (L:ByteArray) (w:World) (hL:L.size≤262144) (rva:Nat) (sz base:Int) (r1:rva<4294967296) (b0:0≤base) (b1:base≤18446744073709551615) :
 RR3 w 41 #[.string L,.agg #[.int .i64 rva,.int .i64 sz],.int .u64 base] (erO (Zix L.size (PlainAid.bt L) rva base) 12) (TlsS 0 (Zix L.size (PlainAid.bt L) rva base) 0):=fun W _=>by
 refine(Zih L rva sz base W (by omega) r1 b0 b1).mono ?_
 rintro e u ⟨hq,hb2⟩
 generalize Zix L.size (PlainAid.bt L) rva base=R at hq ⊢
 rcases hq with⟨t,x,l,L,c,rfl,rfl,h1⟩|⟨rfl,rfl⟩
 ·exact⟨_,_,_,rfl,⟨rfl,rfl,rfl⟩,hb2,fun W3 hk3 hs3=>⟨L,c,rfl,rfl,rfl,(Wr h1 W3 hk3 hs3).lower (Nat.zero_le _)⟩⟩
 ·exact⟨_,_,_,rfl,⟨rfl,rfl,rfl⟩,hb2,ZM.const fun _=>⟨rfl,rfl,rfl⟩⟩
theorem Zi7 {W:World} {g o:Nat} {S:ByteArray} (h:W.heap[g]? =some (.cells (peC peZ) 50 (0,0))) (hc:W.cell? ⟨g,o,none⟩=some (.string S)):False:=by
 rw[Zh h] at hc
 have ho:o<50:=by
  rcases Nat.lt_or_ge o 50 with k|k
  ·exact k
  ·rw[Array.getElem?_eq_none (by rw[Zu]; exact k)] at hc; simp at hc
 rw[ZJ peZ ho] at hc
 simp only[peF,peZ] at hc
 repeat' split at hc
 all_goals simp at hc
def Ze6 (d:PeD):Prop:=d.fs.length≤1000∧d.ns.length≤1000∧d.ims.length≤1000∧d.des.length≤1000∧d.bos.length≤1000∧d.rls.length≤1000∧d.tl.length≤1000∧d.im.size≤262144
inductive Jx:Ending→World→Prop
 | bad {u:World} (er:Int) (h: ¬ er=0):Jx (.returned (.tuple #[.agg (peC peZ),.int .i64 er])) u
 | good {u:World} (y:PeV) (d:PeD) (h:Xb u y d) (h1:1≤d.sects.length) (h8:4096≤d.im.size) (h15:Uq d.h∧Ze6 d):Jx (.returned (.tuple #[.agg (peC y),.int .i64 0])) u
def HeadRR (n:Nat) (f:Nat→Int) (W:World) (cs:Array Value):Prop:= ∃ A c,YR cs (ZF f (headP n f)) (.slice A (Ya f (headP n f+264) (headK n f)).length c)∧SlT Zr.cells 6 W A (Ya f (headP n f+264) (headK n f))∧(Ya f (headP n f+264) (headK n f)).length≤16
set_option maxHeartbeats 4000000 in
theorem Zi8 (S:ByteArray) (w:World) (hs:S.size≤1000000) (hE:ZT S.size (PlainAid.bt S)=0) :
 Calls Tryz.prog 19 #[.string S] w fun e u=>Jx e u∧Below w.heap.size w u:=by
 obtain⟨f,hf⟩: ∃ f,PlainAid.bt S=f:=⟨_,rfl⟩
 obtain⟨n,hn⟩: ∃ n,S.size=n:=⟨_,rfl⟩
 have h255:Zq f:=by rw[←hf]; exact WA S
 rw[hf,hn] at hE
 obtain⟨e1,e2⟩:=Zdc hE
 obtain⟨H,hH⟩: ∃ H,ZF f (headP n f)=H:=⟨_,rfl⟩
 obtain⟨l,hl⟩: ∃ l,Ya f (headP n f+264) (headK n f)=l:=⟨_,rfl⟩
 have hlen:l.length=headK n f:=by rw[←hl]; simp[Ya]
 have hK:1≤headK n f∧headK n f≤16:=by
  have a:=e2.1; have b:=e2.2.1
  unfold headK
  omega
 obtain⟨N,hN⟩: ∃ N:Nat,H.size=N:=by
  rw[←hH]
  exact⟨(ZF f (headP n f)).size.toNat,by have:=e1.2.2.2.2.2.2.1; omega⟩
 have hN2:N≤262144∧4096≤N:=by rw[←hH] at hN; have:=e1.2.2.2.2.2.2.2; have:=e1.2.2.2.2.2.2.1; omega
 have hhb:0≤H.headers∧H.headers≤4096:=by
  have a:=e2.2.2.1; have b:=e2.2.2.2.1; have c:=e2.1
  rw[←hH]
  omega
 obtain⟨hd,hhd⟩: ∃ hd:Nat,H.headers=hd:=⟨H.headers.toNat,by omega⟩
 have hbase:0≤H.base∧H.base≤18446744073709551615:=by rw[←hH]; have:=e1.2.2.2.1; have:=e1.2.2.2.2.1; omega
 obtain⟨D,hD⟩:=Zie n f h255
 rw[hH] at hD
 obtain⟨L,hL⟩: ∃ L,ZB (imgR N f n hd l) 0 N=L:=⟨_,rfl⟩
 have hLs:L.size=N:=by rw[←hL,Zt]
 have hSf:ZB f 0 n=S:=by rw[←hf,←hn]; exact UX S
 have hbd: ∀ s∈l,JS s:=fun s hs=>by
  rw[←hl] at hs
  simp only[Ya,List.mem_map] at hs
  obtain⟨j,_,rfl⟩:=hs
  exact UI h255 _
 have dbd:Uq H:=fun i _=>by
  obtain⟨h1,h2,h3⟩:=hD i
  rw[h1]
  exact⟨by simp only; omega,by simp only; omega,by simp only; omega,by simp only; omega⟩
 have db:Jn H:=dbd.two
 refine(Zib S L N (PlainAid.bt L) (HeadRR n f) (fun i=>((D i).1:Int)) (fun i=>((D i).2:Int)) H.base w hLs (by omega) rfl ?_ ?_ ?_ ?_ _ _ _ _ _ _ _ _ _ _ _ _
  (rrE L w (by omega) _ _ (by omega) (by have:=(hD 0).2.1; omega) (by omega) (by have:=(hD 0).2.2; omega))
  (rrI L w (by omega) _ _ (hD 1).2.1)
  (rrR L w (by omega) _ _ (by omega) (by have:=(hD 5).2.1; omega) (by omega) (by have:=(hD 5).2.2; omega))
  (rrT L w (by omega) _ _ _ (hD 9).2.1 hbase.1 hbase.2)
  (rrB L w (by omega) _ _ (hD 11).2.1)
  (rrD L w (by omega) _ _ (hD 13).2.1)).mono ?_
 ·intro W _
  refine(Jf S W hs).mono ?_
  rintro e u ⟨⟨v,rfl,cs,hv,hq⟩,hb⟩
  rw[hf,hn] at hv hq
  rw[hE] at hv
  subst hv
  rcases hq with⟨hx,_⟩|⟨_,sv,k1,A,c,rfl,k2,k3⟩
  ·exact absurd hE hx
  ·exact⟨⟨cs,rfl,A,c,k1,k2,k3⟩,hb⟩
 ·rintro W cs ⟨A,c,k1,k2,k3⟩
  rw[hH] at k1
  refine⟨k1.size,k1.one rfl,fun i hi=> ?_,k1.c0⟩
  have h0:=k1.dir0 i hi
  have h1:=k1.dir1 i hi
  rw[(hD i).1] at h0 h1
  exact⟨h0,h1⟩
 ·rintro W U cs ⟨A,c,k1,k2,k3⟩ hb
  exact⟨A,c,k1,k2.below hb,k3⟩
 ·rintro W cs hb ⟨A,c,k1,k2,k3⟩
  rw[hH,hl] at k1
  rw[hl] at k2 k3
  have h:=Zhl cs H A c l n f N hd W k1 k2 hbd k3 hN (by omega) hhd (by omega) (by omega)
  rw[hL,hSf] at h
  exact h
 rintro e u ⟨hb,ht⟩
 refine⟨?_,hb⟩
 cases ht with
 | bad h=>exact .bad _ h
 | good h y cs gi C W hk hh hi ho hW lE lI lR lT lB lD =>
   obtain⟨z1,z2,z3,z4,z5,z6⟩:=Zb1 h
   obtain⟨xE,hxE⟩:=Vf z1 (by omega)
   obtain⟨xI,hxI⟩:=Vf z2 (by omega)
   obtain⟨xR,hxR⟩:=Vf z3 (by omega)
   obtain⟨xT,hxT⟩:=Vf z4 (by omega)
   obtain⟨xB,hxB⟩:=Vf z5 (by omega)
   obtain⟨xD,hxD⟩:=Vf z6 (by omega)
   have nE:=lE.now
   have nI:=lI.now
   have nR:=lR.now
   have nT:=lT.now
   have nB:=lB.now
   have nD:=lD.now
   have qE:=Zea hxE
   have qI:=JO hxI
   have qR:=nR.2 _ hxR
   have qT:=Zid hxT
   have qB:=Zeb hxB
   have qD:=JO hxD
   rw[hxE] at nE
   rw[hxI] at nI
   have nR1:=nR.1
   rw[hxR] at nR1
   rw[hxT] at nT
   rw[hxB] at nB
   rw[hxD] at nD
   obtain⟨AE,kE,AE',kE',E1,E2,E3,E4,E5⟩:=nE
   obtain⟨AI,cI,lI',I1,I2,I3⟩:=nI
   obtain⟨AR,cR,R1,R2⟩:=nR1
   obtain⟨AT,kT,T1,T2,T3,T4⟩:=nT
   obtain⟨AB,cB,B1,B2⟩:=nB
   obtain⟨AD,cD,lD',D1,D2,D3⟩:=nD
   obtain⟨wb,⟨AS,cS,k1,k2,k3⟩,hrow,hkept⟩:=hk
   rw[hH,hl] at k1
   rw[hl] at k2 k3
   have hcs:cs=((List.range 39).map y.hd).toArray:=by
    apply Array.ext
    ·rw[k1.size]; simp
    ·intro j h1 h2
     have hj:j<39:=by rw[k1.size] at h1; exact h1
     have:=hh j hj
     rw[Array.getElem?_eq_getElem h1] at this
     simp only[Option.some.injEq] at this
     rw[this]
     simp
   rw[hcs] at k1
   have hsl:SlT Zr.cells 6 u AS l:=by
    rcases k2 with q|⟨b,off,hA,hlt,hc⟩
    ·rw[q] at hlen; simp at hlen; omega
    ·have hne:b≠w.heap.size:=fun q=>by
      have h0:=hc 0 (by omega) 0 _ rfl
      rw[q] at h0
      exact Zi7 hrow h0
     refine SlT.keep (.inr ⟨b,off,hA,hlt,hc⟩) hkept.size fun b' hb'=> ?_
     have hbb:b=b':=by rw[hA] at hb'; simpa using hb'
     subst hbb
     exact hkept.block b ⟨hlt,hne⟩
   refine .good y ⟨H,l,L,xE.1,xE.2.1,xE.2.2,xI,xD,xB,xR,xT.1,xT.2.1,xT.2.2⟩ ⟨⟨_,k1,AS,cS,rfl,hsl,k3⟩,db,⟨gi,N,C,PlainAid.bt L,hi,ho.rowB,?_⟩,E1,⟨AE,kE,E2,E4.sl Ui,by simp only; omega⟩,⟨AE',kE',E3,E5.sl UL,by simp only; omega⟩,⟨AI,cI,lI',I1,?_,I3⟩,⟨AD,cD,lD',D1,?_,D3⟩,⟨AB,cB,B1,B2.sl JB,by simp only; omega⟩,⟨AR,cR,R1,R2.sl Xh,by simp only; omega⟩,T1,T2,⟨AT,kT,T3,T4.sl VJ,by simp only; omega⟩⟩ (by simp only; omega) (by simp only; omega) ⟨dbd,by simp only; omega,by simp only; omega,by simp only; omega,by simp only; omega,by simp only; omega,by simp only; omega,by simp only; omega,by simp only; omega⟩
   ·simp only; rw[←hLs]; exact(UX L).symm
   ·have hll:lI'.length=xI.length:=by rw[←I3]; simp
    exact⟨I2.1.sl Xv,by omega,fun y hy=>⟨(I2.2 y hy).1,by have:=qI.2 y.v (by rw[←I3]; exact List.mem_map_of_mem hy); omega⟩⟩
   ·have hll:lD'.length=xD.length:=by rw[←D3]; simp
    exact⟨D2.1.sl Xv,by omega,fun y hy=>⟨(D2.2 y hy).1,by have:=qD.2 y.v (by rw[←D3]; exact List.mem_map_of_mem hy); omega⟩⟩
def Vj (hd:Nat→Value) (k:Nat) (v:Value) (j:Nat):Value:=if j=k then v else hd j
theorem Vk (hd:Nat→Value) {j:Nat} (h:j<39):((List.range 39).map hd).toArray[j]? =some (hd j):=by simp[h]
theorem Zi9 (hd:Nat→Value):((List.range 39).map hd).toArray.size=39:=by simp
theorem WH {hd:Nat→Value} {h h':ZO} {sv:Value} (x:YR ((List.range 39).map hd).toArray h sv) (k:Nat) (v:Value)
 (c0:Vj hd k v 0= .int .u64 h'.base) (c1:Vj hd k v 1= .int .i64 h'.stamp) (c2:Vj hd k v 2= .int .i64 h'.chars) (c3:Vj hd k v 3= .int .i64 h'.entry) (c4:Vj hd k v 4= .int .i64 h'.size) (c5:Vj hd k v 5= .int .i64 h'.headers)
 (d0: ∀ i,i<16→Vj hd k v (6+2 * i)= .int .i64 (h'.dirs i).1) (d1: ∀ i,i<16→Vj hd k v (6+2 * i+1)= .int .i64 (h'.dirs i).2) (sv':Value) (c38:Vj hd k v 38=sv') :
 YR ((List.range 39).map (Vj hd k v)).toArray h' sv' :=
 ⟨Zi9 _,by rw[Vk _ (by omega),c0],by rw[Vk _ (by omega),c1],by rw[Vk _ (by omega),c2],by rw[Vk _ (by omega),c3],by rw[Vk _ (by omega),c4],by rw[Vk _ (by omega),c5],
   fun i hi=>by rw[Vk _ (by omega),d0 i hi],fun i hi=>by rw[Vk _ (by omega),d1 i hi],by rw[Vk _ (by omega),c38]⟩
theorem Xc {hd:Nat→Value} {h:ZO} {sv:Value} (x:YR ((List.range 39).map hd).toArray h sv) :
 hd 0= .int .u64 h.base∧hd 1= .int .i64 h.stamp∧hd 2= .int .i64 h.chars∧hd 3= .int .i64 h.entry∧hd 4= .int .i64 h.size∧hd 5= .int .i64 h.headers∧(∀ i,i<16→hd (6+2 * i)= .int .i64 (h.dirs i).1)∧(∀ i,i<16→hd (6+2 * i+1)= .int .i64 (h.dirs i).2)∧hd 38=sv:=by
 have g:=fun(j:Nat) (hj:j<39) (v:Value) (e:((List.range 39).map hd).toArray[j]? =some v)=>(Option.some.inj ((Vk hd hj).symm.trans e))
 exact⟨g 0 (by omega) _ x.c0,g 1 (by omega) _ x.c1,g 2 (by omega) _ x.c2,g 3 (by omega) _ x.c3,g 4 (by omega) _ x.c4,g 5 (by omega) _ x.c5,fun i hi=>g _ (by omega) _ (x.dir0 i hi),fun i hi=>g _ (by omega) _ (x.dir1 i hi),g 38 (by omega) _ x.c38⟩
section
variable {W:World} {y:PeV} {d:PeD}
theorem Xb.tBase (x:Xb W y d) (b:Int):Xb W { y with hd:=Vj y.hd 0 (.int .u64 b) } { d with h:={ d.h with base:=b } }:=by
 obtain⟨sv,hv,hs⟩:=x.hv
 obtain⟨k0,k1,k2,k3,k4,k5,k6,k7,k8⟩:=Xc hv
 refine { x with hv:=⟨sv,WH (h':={ d.h with base:=b }) hv 0 (.int .u64 b) rfl ?_ ?_ ?_ ?_ ?_ ?_ ?_ sv ?_,hs⟩,db:=x.db }
 all_goals first
  | exact k1|exact k2|exact k3|exact k4|exact k5|exact k8
  | (intro i hi; unfold Vj; rw[if_neg (by omega)]; exact k6 i hi)
  | (intro i hi; unfold Vj; rw[if_neg (by omega)]; exact k7 i hi)
theorem Xb.tStamp (x:Xb W y d) (b:Int):Xb W { y with hd:=Vj y.hd 1 (.int .i64 b) } { d with h:={ d.h with stamp:=b } }:=by
 obtain⟨sv,hv,hs⟩:=x.hv
 obtain⟨k0,k1,k2,k3,k4,k5,k6,k7,k8⟩:=Xc hv
 refine { x with hv:=⟨sv,WH (h':={ d.h with stamp:=b }) hv 1 (.int .i64 b) ?_ rfl ?_ ?_ ?_ ?_ ?_ ?_ sv ?_,hs⟩,db:=x.db }
 all_goals first
  | exact k0|exact k2|exact k3|exact k4|exact k5|exact k8
  | (intro i hi; unfold Vj; rw[if_neg (by omega)]; exact k6 i hi)
  | (intro i hi; unfold Vj; rw[if_neg (by omega)]; exact k7 i hi)
theorem Xb.tEntry (x:Xb W y d) (b:Int):Xb W { y with hd:=Vj y.hd 3 (.int .i64 b) } { d with h:={ d.h with entry:=b } }:=by
 obtain⟨sv,hv,hs⟩:=x.hv
 obtain⟨k0,k1,k2,k3,k4,k5,k6,k7,k8⟩:=Xc hv
 refine { x with hv:=⟨sv,WH (h':={ d.h with entry:=b }) hv 3 (.int .i64 b) ?_ ?_ ?_ rfl ?_ ?_ ?_ ?_ sv ?_,hs⟩,db:=x.db }
 all_goals first
  | exact k0|exact k1|exact k2|exact k4|exact k5|exact k8
  | (intro i hi; unfold Vj; rw[if_neg (by omega)]; exact k6 i hi)
  | (intro i hi; unfold Vj; rw[if_neg (by omega)]; exact k7 i hi)
theorem Xb.tDir (x:Xb W y d) (b:Int) (b0:0≤b) (b1:b≤4294967296):Xb W { y with hd:=Vj y.hd 37 (.int .i64 b) } { d with h:={ d.h with dirs:=fun i=>if i=15 then((d.h.dirs 15).1,b) else d.h.dirs i } }:=by
 obtain⟨sv,hv,hs⟩:=x.hv
 obtain⟨k0,k1,k2,k3,k4,k5,k6,k7,k8⟩:=Xc hv
 have db:=x.db
 refine { x with hv:=⟨sv,WH (h':={ d.h with dirs:=fun i=>if i=15 then((d.h.dirs 15).1,b) else d.h.dirs i }) hv 37 (.int .i64 b) k0 k1 k2 k3 k4 k5 (fun i hi=> ?_) (fun i hi=> ?_) sv k8,hs⟩,db:=fun i hi=> ?_ }
 ·unfold Vj
  rw[if_neg (by omega),k6 i hi]
  by_cases c:i=15
  ·subst c; simp
  ·simp[c]
 ·unfold Vj
  by_cases c:i=15
  ·subst c; simp
  ·rw[if_neg (by omega),k7 i hi]; simp[c]
 ·by_cases c:i=15
  ·subst c
   have:=db 15 (by omega)
   simp only[eq_self_iff_true,if_true]
   omega
  ·simp only[if_neg c]; exact db i hi
theorem Xb.tSects (x:Xb W y d) (A:Option Addr) (c:Nat) (l:List Zr) (hl:SlT Zr.cells 6 W A l) (h16:l.length≤16):Xb W { y with hd:=Vj y.hd 38 (.slice A l.length c) } { d with sects:=l }:=by
 obtain⟨sv,hv,hs⟩:=x.hv
 obtain⟨k0,k1,k2,k3,k4,k5,k6,k7,k8⟩:=Xc hv
 refine { x with hv:=⟨.slice A l.length c,WH (h':=d.h) hv 38 (.slice A l.length c) k0 k1 k2 k3 k4 k5 (fun i hi=> ?_) (fun i hi=> ?_) _ rfl,A,c,rfl,hl,h16⟩,db:=x.db }
 ·unfold Vj; rw[if_neg (by omega)]; exact k6 i hi
 ·unfold Vj; rw[if_neg (by omega)]; exact k7 i hi
theorem Xb.tImg (x:Xb W y d) (g N C:Nat) (f:Nat→Int) (h:VF W g 0 N C f):Xb W { y with img:= .slice (some ⟨g,0,none⟩) N C } { d with im:=ZB f 0 N } :=
 { x with img:=⟨g,N,C,f,rfl,h,rfl⟩,hv:=x.hv,db:=x.db }
theorem Xb.tEb (x:Xb W y d) (b:Int):Xb W { y with e0:= .int .i64 b } { d with eb:=b }:={ x with e0:=rfl,hv:=x.hv,db:=x.db }
theorem Xb.tFs (x:Xb W y d) (A:Option Addr) (c:Nat) (l:List FnV) (h:SlT gC 2 W A l) (hl:l.length≤1000000):Xb W { y with e1:= .slice A l.length c } { d with fs:=l }:={ x with fs:=⟨A,c,rfl,h,hl⟩,hv:=x.hv,db:=x.db }
theorem Xb.tNs (x:Xb W y d) (A:Option Addr) (c:Nat) (l:List NmV) (h:SlT nC 2 W A l) (hl:l.length≤1000000):Xb W { y with e2:= .slice A l.length c } { d with ns:=l }:={ x with ns:=⟨A,c,rfl,h,hl⟩,hv:=x.hv,db:=x.db }
theorem Xb.tIms (x:Xb W y d) (A:Option Addr) (c:Nat) (l:List XT) (h:Zfd W A l):Xb W { y with im:= .slice A l.length c } { d with ims:=l.map (·.v) }:={ x with ims:=⟨A,c,l,rfl,h,rfl⟩,hv:=x.hv,db:=x.db }
theorem Xb.tDes (x:Xb W y d) (A:Option Addr) (c:Nat) (l:List XT) (h:Zfd W A l):Xb W { y with de:= .slice A l.length c } { d with des:=l.map (·.v) }:={ x with des:=⟨A,c,l,rfl,h,rfl⟩,hv:=x.hv,db:=x.db }
theorem Xb.tBos (x:Xb W y d) (A:Option Addr) (c:Nat) (l:List Jm) (h:SlT bC 2 W A l) (hl:l.length≤1000000):Xb W { y with bo:= .slice A l.length c } { d with bos:=l }:={ x with bos:=⟨A,c,rfl,h,hl⟩,hv:=x.hv,db:=x.db }
theorem Xb.tRls (x:Xb W y d) (A:Option Addr) (c:Nat) (l:List YX) (h:SlT Wh 2 W A l) (hl:l.length≤1000000):Xb W { y with re:= .slice A l.length c } { d with rls:=l }:={ x with rls:=⟨A,c,rfl,h,hl⟩,hv:=x.hv,db:=x.db }
theorem Xb.tTi (x:Xb W y d) (b:Bool):Xb W { y with t0:= .bool b } { d with ti:=b }:={ x with t0:=rfl,hv:=x.hv,db:=x.db }
theorem Xb.tTx (x:Xb W y d) (b:Int):Xb W { y with t1:= .int .i64 b } { d with tx:=b }:={ x with t1:=rfl,hv:=x.hv,db:=x.db }
theorem Xb.tTl (x:Xb W y d) (A:Option Addr) (c:Nat) (l:List Int) (h:SlT Ws 1 W A l) (hl:l.length≤1000000):Xb W { y with t2:= .slice A l.length c } { d with tl:=l }:={ x with tl:=⟨A,c,rfl,h,hl⟩,hv:=x.hv,db:=x.db }
end
section
variable {w:World} {P:Nat} {x:PeV}
theorem YV.hdc (h:YV w P x) (k:Nat) (hk:k<39) (v:Value):YV (w.setCell ⟨P,k,none⟩ v) P { x with hd:=Vj x.hd k v }:=h.put k (by omega) v _ (by rw[Xy _ hk]; show Vj x.hd k v k=v; unfold Vj; rw[if_pos rfl]) (fun j hj hn=>by
 by_cases c:j<39
 ·rw[Xy _ c,Xy _ c]; show Vj x.hd k v j=_; unfold Vj; rw[if_neg hn]
 ·unfold peF; simp only[if_neg c])
theorem YV.imc (h:YV w P x) (v:Value):YV (w.setCell ⟨P,39,none⟩ v) P { x with img:=v }:=h.put 39 (by omega) v _ rfl (fun j hj hn=>by unfold peF; simp only[if_neg hn])
theorem YV.ebc (h:YV w P x) (v:Value):YV (w.setCell ⟨P,40,none⟩ v) P { x with e0:=v }:=h.put 40 (by omega) v _ rfl (fun j hj hn=>by unfold peF; simp only[if_neg hn])
theorem YV.fsc (h:YV w P x) (v:Value):YV (w.setCell ⟨P,41,none⟩ v) P { x with e1:=v }:=h.put 41 (by omega) v _ rfl (fun j hj hn=>by unfold peF; simp only[if_neg hn])
theorem YV.nsc (h:YV w P x) (v:Value):YV (w.setCell ⟨P,42,none⟩ v) P { x with e2:=v }:=h.put 42 (by omega) v _ rfl (fun j hj hn=>by unfold peF; simp only[if_neg hn])
theorem YV.tic (h:YV w P x) (v:Value):YV (w.setCell ⟨P,47,none⟩ v) P { x with t0:=v }:=h.put 47 (by omega) v _ rfl (fun j hj hn=>by unfold peF; simp only[if_neg hn])
theorem YV.txc (h:YV w P x) (v:Value):YV (w.setCell ⟨P,48,none⟩ v) P { x with t1:=v }:=h.put 48 (by omega) v _ rfl (fun j hj hn=>by unfold peF; simp only[if_neg hn])
theorem YV.tlc (h:YV w P x) (v:Value):YV (w.setCell ⟨P,49,none⟩ v) P { x with t2:=v }:=h.put 49 (by omega) v _ rfl (fun j hj hn=>by
 unfold peF
 rcases(by omega:j<39∨j=39∨j=40∨j=41∨j=42∨j=43∨j=44∨j=45∨j=46∨j=47∨j=48) with h|rfl|rfl|rfl|rfl|rfl|rfl|rfl|rfl|rfl|rfl <;> simp[*])
end
theorem Zcl (b:Int):IntKind.u64.wrap (b+1)≠b:=by rw[IntKind.wrap_u64]; omega
theorem Wc {α :Type} (C: α →List Value) (l:List α) (x: α):(l++[x]).map C≠l.map C:=fun h=>by
 have:=congrArg List.length h
 simp at this
structure YI (w:World) (base g cap:Nat) (bs:List Nat):Prop where
 le:base≤g
 lt:g<w.heap.size
 row:Row w g 0 bs.length (lF bs)
 lb:Lb bs
 len:bs.length≤cap
 most:cap≤9223372036854775807
 wr: ∀ j,j<cap→(w.cell? ⟨g,j,none⟩).isSome=true∧w.frozen? ⟨g,j,none⟩=false
theorem YI.of_block {w w':World} {base g cap:Nat} {bs:List Nat} (h:YI w base g cap bs) (hs:w.heap.size≤w'.heap.size) (hb:w'.heap[g]? =w.heap[g]?):YI w' base g cap bs :=
 ⟨h.le,Nat.lt_of_lt_of_le h.lt hs,fun i hi=>(World.cell?_of_block (a:=⟨g,_,none⟩) hb).trans (h.row i hi),h.lb,h.len,h.most,fun j hj=>by
   rw[World.cell?_of_block (a:=⟨g,j,none⟩) hb,World.frozen?_of_block (a:=⟨g,j,none⟩) hb]; exact h.wr j hj⟩
theorem YI.below {w w':World} {base g cap:Nat} {bs:List Nat} (h:YI w base g cap bs) (hb:Below w.heap.size w w'):YI w' base g cap bs:=h.of_block hb.size (hb.block g h.lt)
theorem YI.weaken {w:World} {base base' g cap:Nat} {bs:List Nat} (h:YI w base g cap bs) (hb:base'≤base):YI w base' g cap bs:=⟨Nat.le_trans hb h.le,h.lt,h.row,h.lb,h.len,h.most,h.wr⟩
theorem YI.alloc {w:World} {base g cap:Nat} {bs:List Nat} (h:YI w base g cap bs) (o:Obj):YI (w.alloc o) base g cap bs:=h.below ((Below.refl _ _).alloc (Nat.le_refl _) o)
theorem YI.slB {w:World} {base g cap:Nat} {bs:List Nat} (h:YI w base g cap bs):SlB w (some ⟨g,0,none⟩) bs.length (lF bs):= .inr ⟨g,0,rfl,h.lt,h.row⟩
theorem YI.noughts {w:World} {base g n:Nat} (h:Own w g n (fun _=> .int .u8 0)) (hb:base≤g) (hm:n≤9223372036854775807):YI w base g n (List.replicate n 0):=by
 refine⟨hb,h.1,fun i hi=> ?_,fun v hv=>by rw[List.eq_of_mem_replicate hv]; omega,by simp,hm,fun j hj=>⟨by rw[h.cell hj]; rfl,h.frozen hj⟩⟩
 have hi':i<n:=by simpa using hi
 rw[Nat.zero_add,h.cell hi']
 unfold lF
 simp[List.getD,hi']
theorem YI.conv (w:World) (bs:List Nat) (cap lo hi:Nat) (hb:Lb bs) (h:bs.length≤cap) (hm:cap≤9223372036854775807) (h1:cap≤lo) :
 YI (w.alloc (.cells (bytesRow (txt bs) cap) 5 (lo,hi))) w.heap.size w.heap.size cap bs:=by
 have hz:(bytesRow (txt bs) cap).size=cap:=by
  have:(txt bs).data.size=(txt bs).size:=rfl
  have:=Zm bs
  simp[bytesRow]
  omega
 refine⟨Nat.le_refl _,by simp,fun i hi'=> ?_,hb,h,hm,fun j hj=>⟨?_,?_⟩⟩
 ·have hi2:i<(txt bs).data.size:=by have:=Zm bs; exact(show i<(txt bs).size by omega)
  rw[Nat.zero_add,World.cell?_alloc_mark w (bytesRow (txt bs) cap) 5 (lo,hi) i,bytesRow_at (txt bs) cap i hi2,←JF hb hi']
  unfold PlainAid.bt
  rw[dif_pos (show i<(txt bs).size from hi2)]
  rfl
 ·rw[World.cell?_alloc_mark w (bytesRow (txt bs) cap) 5 (lo,hi) j,Array.getElem?_eq_getElem (by omega)]
  rfl
 ·rw[World.frozen?_alloc_mark w (bytesRow (txt bs) cap) 5 lo hi j]
  simp only[Bool.and_eq_false_iff,decide_eq_false_iff_not]
  left
  omega
theorem JA (bs cs:List Nat) (i:Nat):lF (bs++cs) i=Uc bs.length (lF bs) (lF cs) i:=by
 unfold lF Uc
 by_cases h:i<bs.length
 ·rw[if_pos h]; simp[List.getD,List.getElem?_append_left h]
 ·rw[if_neg h]; simp[List.getD,List.getElem?_append_right (Nat.le_of_not_lt h)]
theorem Wu {w:World} (t:List Nat) (h:Lb t):Src Tryz.prog 1 9 (.string (txt t)) t.length (Zs t.length (lF t)) w:=by
 have h':=Zfn (w:=w) (txt t)
 rw[Zm,WI (f':=lF t) (fun i hi=>JF h hi)] at h'
 exact h'
theorem XJ (g:Nat): ∀(vs:List Value) (o:Nat) (w:World),(w.setCells g o vs).heap.size=w.heap.size
 | [],_,_=>rfl
 | v::r,o,w=>by rw[World.setCells,XJ g r]; simp
theorem YP {w:World} {ops:Array Oper} {rest:List Oper} {o:Oper} {a:Act} {Q:Exit→Act→World→Prop} (hgd:o.guard=none) (s x:Operand) (tx:TypeId)
 (ho:o.op= .call { callee:= .builtin .append,args:= #[s,x],argTypes:= #[25,tx] })
 {base g n cap m:Nat} {bs cs:List Nat} (X:Value) (hown:YI w base g cap bs) (hbn:n=bs.length) (hcm:m=cs.length) (hs1:Src Tryz.prog 1 tx X m (Zs m (lF cs)) w) (hcs:Lb cs) (hnm:n+m≤1000000) (hbase:base≤w.heap.size)
 (hv:a.eval s= .slice (some ⟨g,0,none⟩) n cap) (hx:a.eval x=X)
 (hK: ∀ g' cap' w',YI w' base g' cap' (bs++cs)→Below base w w'→wpList Tryz.prog ops Q rest (a.put o.dst (.slice (some ⟨g',0,none⟩) (n+m) cap')) w'):wpList Tryz.prog ops Q (o::rest) a w:=by
 obtain⟨i0,hi,hz0,hz1,hz2⟩:=info_parts Wl
 subst hbn hcm
 have hs:Src Tryz.prog i0.size tx X cs.length (Zs cs.length (lF cs)) w:=by rw[hz1]; exact hs1
 have hrun: ∃ g' cap' w',(Builtin.append_ #[25,tx] o.type #[.slice (some ⟨g,0,none⟩) bs.length cap,X]).run Tryz.prog w= .ok (.slice (some ⟨g',0,none⟩) (bs.length+cs.length) cap') w'∧YI w' base g' cap' (bs++cs)∧Below base w w':=by
  by_cases hroom:bs.length+cs.length≤cap
  ·have hin: ∀ j,j<(Zs cs.length (lF cs)).length→(w.cell? ⟨g,bs.length+j,none⟩).isSome=true:=fun j hj=>(hown.wr (bs.length+j) (by rw[Zn] at hj; omega)).1
   have hr:=run_append_room_src (P:=Tryz.prog) w 25 tx o.type 5 i0 Tryz.underlying25 hi g 0 bs.length cap X cs.length _ hs hroom
    (fun j hj=>by rw[hz1,Nat.mul_one,Nat.zero_add]; exact hin j hj) (fun j hj=>by rw[hz1,Nat.mul_one,Nat.zero_add]; exact(hown.wr (bs.length+j) (by rw[Zn] at hj; omega)).2)
   rw[hz1,Nat.mul_one,Nat.zero_add] at hr
   refine⟨_,_,_,hr,⟨hown.le,by rw[XJ]; exact hown.lt,fun i hi=> ?_,hown.lb.append hcs,by rw[List.length_append]; exact hroom,hown.most,fun j hj=>⟨World.isSome_setCells _ _ _ _ _ (hown.wr j hj).1,by rw[World.frozen?_setCells]; exact(hown.wr j hj).2⟩⟩,ZW hown.le _ _ _ (Below.refl base w)⟩
   rw[JA]
   unfold Uc
   rw[List.length_append] at hi
   rw[Nat.zero_add]
   by_cases e:i<bs.length
   ·rw[if_pos e,World.cell?_setCells_out _ _ _ _ _ (fun _ _=> .inl e)]
    have:=hown.row i e
    rwa [Nat.zero_add] at this
   ·rw[if_neg e]
    have:=World.cell?_setCells_in g (Zs cs.length (lF cs)) bs.length w hin (i - bs.length) (by rw[Zn]; omega)
    rw[show bs.length+(i - bs.length)=i by omega] at this
    rw[this]
    simp[Zs]
  ·have hold:(Builtin.firstCells i0.size bs.length (.slice (some ⟨g,0,none⟩) bs.length cap)).run Tryz.prog w.drew= .ok (Zs bs.length (lF bs)).toArray w.drew:=by
    rw[hz1]
    refine run_firstCells_some w.drew 1 bs.length ⟨g,0,none⟩ bs.length cap (Zs bs.length (lF bs)) (by rw[Zn,Nat.mul_one]) fun j u hu=> ?_
    have hj:j<bs.length:=by
     rcases Nat.lt_or_ge j bs.length with hj|hj
     ·exact hj
     ·rw[List.getElem?_eq_none (by rw[Zn]; omega)] at hu; cases hu
    rw[ZG bs.length (lF bs) hj] at hu
    obtain rfl:=Option.some.inj hu
    have hadd:(⟨g,0,none⟩:Addr).add j=⟨g,0+j,none⟩:=by unfold Addr.add; split <;> simp_all
    rw[hadd]
    exact hown.row j hj
   have hr:=run_append_grow_src (P:=Tryz.prog) w 25 tx o.type 5 i0 (.int .u8 0) Tryz.underlying25 hi hz0 (some ⟨g,0,none⟩) bs.length cap (Zs bs.length (lF bs)) hold X cs.length _ hs (by omega) (by omega) (growslice_fits (by omega) (by rw[hz2]; omega))
   have hcap:=grownCap_ge w (bs.length+cs.length) cap 5
   have hcm:=grownCap_le_maxLen w (bs.length+cs.length) cap 5 (by simp only[maxLen]; omega)
   simp only[maxLen] at hcm
   have hz:(Value.int .u8 0).cells= #[.int .u8 0]:=rfl
   have hh:=heap_alloc_new w.drew (.cells ((Zs bs.length (lF bs)++Zs cs.length (lF cs)).toArray++Builtin.zeroCells (Value.int .u8 0).cells (grownCap w (bs.length+cs.length) cap 5 - (bs.length+cs.length))) 5)
   have hsz:((Zs bs.length (lF bs)++Zs cs.length (lF cs)).toArray++Builtin.zeroCells (Value.int .u8 0).cells (grownCap w (bs.length+cs.length) cap 5 - (bs.length+cs.length))).size=grownCap w (bs.length+cs.length) cap 5:=by
    rw[Array.size_append,size_zeroCells,hz]
    simp[Zn]
    omega
   refine⟨_,_,_,hr,⟨hbase,by simp,fun i hi=> ?_,hown.lb.append hcs,by rw[List.length_append]; exact hcap,by omega,fun j hj=>⟨?_,frozen_of_row _ _ _ _ _ hh⟩⟩,((Below.refl base w).drew).alloc (by simpa using hbase) _⟩
   ·rw[List.length_append] at hi
    rw[Nat.zero_add,JA]
    have:=cell_of_row _ _ i _ _ _ hh
    refine Eq.trans this ?_
    rw[Wm,Array.getElem?_append_left (by simpa [Zn] using hi),Za,ZG _ _ hi]
   ·have:=cell_of_row _ _ j _ _ _ hh
    refine Eq.trans (congrArg Option.isSome this) ?_
    rw[Array.getElem?_eq_getElem (by omega)]
    rfl
 refine wpList_plain hgd fun K hK'=> ?_
 obtain⟨g',cap',w',hrun,r1,r2⟩:=hrun
 unfold Oper.wp execOp
 simp only[ho,resolve,invoke,builtin,Sem.run_bind,Sem.run_pure,Result.andThen_ok,List.map_toArray,List.map_cons,List.map_nil,hv,hx,hrun]
 exact hK' _ _ (hK g' cap' w' r1 r2)
def bytN (v n:Nat):List Nat:=(List.range n).map fun i=>v / 2 ^ (8 * i) % 256
theorem Zcm (v n:Nat):(bytN v n).length=n:=by simp[bytN]
theorem Zhi (v n j:Nat) (h:j<n):lF (bytN v n) j=Yf (v:Int) j:=by
 have e:(bytN v n)[j]? =some (v / 2 ^ (8 * j) % 256):=by unfold bytN; rw[List.getElem?_map,List.getElem?_range h]; rfl
 unfold lF Yf
 rw[List.getD,e,Option.getD_some,Int.natCast_emod,Int.natCast_ediv,Int.natCast_pow]
 rfl
def ZQ (b:List Nat) (o n v:Nat):List Nat:=b.take o++(bytN v n++b.drop (o+n))
theorem Zo {b:List Nat} {o n:Nat} (h:o+n≤b.length) (v:Nat):(ZQ b o n v).length=b.length:=by
 simp only[ZQ,List.length_append,List.length_take,List.length_drop,Zcm]; omega
theorem UQ {b:List Nat} (hb:Lb b) (o n v:Nat):Lb (ZQ b o n v):=by
 refine(hb.take o).append (Lb.append (fun x hx=> ?_) (hb.drop _))
 obtain⟨i,_,rfl⟩:=List.mem_map.mp hx
 omega
theorem Zhj {b:List Nat} {o n:Nat} (h:o+n≤b.length) (v i:Nat) (hi:i<b.length):lF (ZQ b o n v) i=Xm (lF b) o (v:Int) n i:=by
 have hl:(b.take o).length=o:=by rw[List.length_take]; omega
 unfold ZQ Xm
 rw[JA,hl]
 unfold Uc
 by_cases h1:i<o
 ·rw[if_pos h1,if_neg (by omega),Zf1 _ _ _ h1]
 ·rw[if_neg h1,JA,Zcm]
  unfold Uc
  by_cases h2:i<o+n
  ·rw[if_pos (by omega),if_pos (by omega)]
   exact Zhi v n (i - o) (by omega)
  ·rw[if_neg (by omega),if_neg (by omega),Zf0]
   congr 1
   omega
theorem VC (bs:List Nat) (o n v:Nat) (w:World) (hb:Lb bs) (hl:bs.length≤1000000) (h1:1≤n) (h8:n≤8) (h:o+n≤bs.length) (hv:v≤18446744073709551615) :
 Calls Tryz.prog 78 #[.string (txt bs),.int .i64 o,.int .i64 n,.int .u64 v] w fun e w'=>e= .returned (.tuple #[.string (txt (ZQ bs o n v)),.bool true])∧Below w.heap.size w w':=by
 refine(Uz (txt bs) o n v w (by rw[Zm]; exact hl) h1 h8 (by rw[Zm]; exact h) (by omega) (by omega)).mono ?_
 rintro e w' ⟨rfl,hw⟩
 refine⟨?_,hw⟩
 have:ZB (Xm (PlainAid.bt (txt bs)) o v n) 0 (txt bs).size=txt (ZQ bs o n v):=by
  unfold txt at *
  rw[Zt,Zo h]
  refine ZH fun i hi=> ?_
  rw[Nat.zero_add,Zhj h v i hi]
  unfold Xm
  split
  ·rfl
  ·exact JF hb hi
 rw[this]
end Go.Proofs.YtplgdpjbkdagfaaGreat
