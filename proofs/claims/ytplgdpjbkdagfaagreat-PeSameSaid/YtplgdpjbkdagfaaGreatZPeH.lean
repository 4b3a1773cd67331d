import Derived.Test.YtplgdpjbkdagfaaGreatZPeC
import Derived.Test.YtplgdpjbkdagfaaGreatZMd
import Derived.Test.YtplgdpjbkdagfaaGreatRHeadB
import Derived.Test.YtplgdpjbkdagfaaGreatZOwnT
import Derived.Deep.Cut
import Derived.Deep.Upon
import Derived.Test.YtplgdpjbkdagfaaGreatZMem
import Derived.Test.YtplgdpjbkdagfaaGreatZRelParse
namespace Go.Proofs.YtplgdpjbkdagfaaGreat
open List renaming getElem?_toArray→Za, getElem?_cons_succ→Zb, getElem?_cons_zero→Zc, setIfInBounds_toArray→Zd, set_cons_zero→Ze, set_cons_succ→Zf
open Lib renaming hid→Zg
open Go.ChangeShapes Go.WideShapes Go.ChangeAt Go.RowKit
set_option linter.unusedVariables false
set_option linter.unusedSimpArgs false
set_option maxRecDepth 100000
def Zfb:Value:= .agg #[.int .i64 0,.slice none 0 0,.slice none 0 0,.slice none 0 0,.slice none 0 0,.slice none 0 0,.slice none 0 0,.int .i64 0,.slice none 0 0]
theorem Zip {w:World} {n:Nat} {f F:Nat→Int} {v:Value} (h:Zjx w n f v) (x:Vh L12 1 F) (hs:Yx 1 F f) (hn:8704≤n) :
 ∃ cs b off c,v= .tuple #[.agg cs,.int .i64 0]∧cs.size=39∧cs.all (·.oneCell')=true∧cs[38]? =some (.slice (some ⟨b,off,none⟩) 1 c)∧b<w.heap.size∧w.cell? ⟨b,off+4,none⟩=some (.int .i64 1024):=by
 have h0:=hs.ok x n (by rw[at12]; exact hn) (by omega) (by omega)
 have hp:=hs.headP x n (by omega)
 have hk:=hs.headK x n (by omega)
 obtain⟨cs,hv,⟨k,_⟩|⟨_,sv,h1,A,c,rfl,h3,_⟩⟩:=h
 ·exact absurd h0 k
 rw[h0] at hv
 rw[hp,hk] at h1 h3
 rw[show 64+264=328 by rfl,hs.sects] at h1 h3
 have hl:(Ya F 328 1)=[Xo F 328]:=rfl
 have hse:=x.all.sect (i:=0) (by omega)
 rw[show 328+40 * 0=328 by rfl] at hse
 rw[hl] at h1 h3
 rcases h3 with h3|⟨b,off,rfl,hlt,hc⟩
 ·simp at h3
 have hq:=hc 0 (by simp) 4 (.int .i64 1024) (by
  show(Xo F 328).cells[4]? =_
  rw[hse]; rfl)
 exact⟨cs,b,off,c,hv,h1.size,h1.one rfl,h1.c38,hlt,by rw[show off+4=off+(0 * 6+4) by omega]; exact hq⟩
set_option maxHeartbeats 4000000 in
theorem Zdp (w:World):Calls Tryz.prog 8 #[Zfb,.int .i64 15] w fun e u =>
 ∃ g c F,e= .returned (.slice (some ⟨g,0,none⟩) 8704 c)∧YD u w.heap.size g 8704 c (XL F 1024 64 (fun _=>0))∧Vh L12 1 F∧Below w.heap.size w u:=by
 unfold Zfb
 go_enter Tryz.func8,Tryz.ntmps8
 go_wp2_with fail
 have hb0:Below w.heap.size w ((w.alloc (.cells #[.int .i64 0,.slice none 0 0,.slice none 0 0,.slice none 0 0,.slice none 0 0,.slice none 0 0,.slice none 0 0,.int .i64 0,.slice none 0 0] 32)).alloc (.cells #[.int .i64 12287,.int .i64 8191,.int .i64 7] 88)):=((Below.refl w.heap.size w).alloc (Nat.le_refl _) _).alloc (by simp) _
 have hs0:SlT Zd0 3 ((w.alloc (.cells #[.int .i64 0,.slice none 0 0,.slice none 0 0,.slice none 0 0,.slice none 0 0,.slice none 0 0,.slice none 0 0,.int .i64 0,.slice none 0 0] 32)).alloc (.cells #[.int .i64 12287,.int .i64 8191,.int .i64 7] 88)) (some ⟨w.heap.size+1,0,none⟩) [(12287,8191,7)]:=by
  refine .inr ⟨w.heap.size+1,0,rfl,by simp,fun i hi j v hv=> ?_⟩
  obtain rfl:i=0:=by simp at hi; exact hi
  have hz:=heap_alloc_new (w.alloc (.cells #[.int .i64 0,.slice none 0 0,.slice none 0 0,.slice none 0 0,.slice none 0 0,.slice none 0 0,.slice none 0 0,.int .i64 0,.slice none 0 0] 32)) (.cells #[.int .i64 12287,.int .i64 8191,.int .i64 7] 88)
  rw[show(w.alloc (.cells #[.int .i64 0,.slice none 0 0,.slice none 0 0,.slice none 0 0,.slice none 0 0,.slice none 0 0,.slice none 0 0,.int .i64 0,.slice none 0 0] 32)).heap.size=w.heap.size+1 by simp] at hz
  rw[Zh hz]
  rw[show 0+(0 * 3+j)=j by omega]
  simpa [Zd0] using hv
 have HP0:=Zg (show((w.alloc (.cells #[.int .i64 0,.slice none 0 0,.slice none 0 0,.slice none 0 0,.slice none 0 0,.slice none 0 0,.slice none 0 0,.int .i64 0,.slice none 0 0] 32)).alloc (.cells #[.int .i64 12287,.int .i64 8191,.int .i64 7] 88)).cell? ⟨w.heap.size,0,none⟩=some (.int .i64 0) from by
  rw[Zh ((((Below.refl _ _).alloc (Nat.le_refl _) _).block w.heap.size (by simp)).trans (heap_alloc_new w _))]; rfl)
 have hw1:w.heap.size<((w.alloc (.cells #[.int .i64 0,.slice none 0 0,.slice none 0 0,.slice none 0 0,.slice none 0 0,.slice none 0 0,.slice none 0 0,.int .i64 0,.slice none 0 0] 32)).alloc (.cells #[.int .i64 12287,.int .i64 8191,.int .i64 7] 88)).heap.size:=by simp; omega
 generalize ((w.alloc (.cells #[.int .i64 0,.slice none 0 0,.slice none 0 0,.slice none 0 0,.slice none 0 0,.slice none 0 0,.slice none 0 0,.int .i64 0,.slice none 0 0] 32)).alloc (.cells #[.int .i64 12287,.int .i64 8191,.int .i64 7] 88))=w1 at *
 have HB0:=Zg hb0
 refine(Zc2 (some ⟨w.heap.size+1,0,none⟩) [(12287,8191,7)] 1 L12 (fun i=>by rcases i with _|i; exact .inl rfl; exact .inr (by simp)) w1 (by simp) hs0).mono ?_
 rintro e w2 ⟨g,c,F,rfl,ho,hm,hb⟩
 rw[show min [((12287,8191,7):Vw)].length 6=1 by rfl] at ho hm ⊢
 rw[at12] at ho ⊢
 have HO2:=Zg (ho.weaken (base':=w.heap.size) hb0.size)
 have HM:=Zg hm
 have HB2:=Zg (HB0.out.trans (hb.mono HB0.out.size))
 have HP2:=Zg ((hb.cell (p:=⟨w.heap.size,0,none⟩) hw1).trans HP0.out)
 have HL2:=Zg (show w.heap.size<w2.heap.size by have:=hb.size; omega)
 have hcv:=YB (cap:=c) ho.row
 have HSM:=Zg (show Yx 1 F (PlainAid.bt (ZB F 0 8704)) from fun q h1 h2=>by rw[XQ ho.by255 (by omega),Nat.zero_add])
 have HSZ:=Zg (Zt F 0 8704)
 generalize ZB F 0 8704=S at hcv HSM HSZ
 clear hs0 hb0 HP0 hb ho hm HB0 hw1
 go_wp2_with fail
 refine(Jf S w2 (by rw[HSZ.out]; omega)).mono ?_
 rintro e w3 ⟨⟨v,rfl,hq⟩,hb⟩
 obtain⟨cs,bs,off,c3,rfl,hz,hone,h38,hlt,hat⟩:=Zip hq HM.out HSM.out (Nat.le_of_eq HSZ.out.symm)
 have HO3:=Zg (HO2.out.below hb)
 have HB3:=Zg (HB2.out.trans (hb.mono HB2.out.size))
 have HP3:=Zg ((hb.cell (p:=⟨w.heap.size,0,none⟩) HL2.out).trans HP2.out)
 have HL3:=Zg (show w.heap.size<w3.heap.size by have:=hb.size; have:=HL2.out; omega)
 have HAT:=Zg (And.intro hlt hat)
 have H38:=Zg h38
 clear hq hb HO2 HB2 HP2 HSM HSZ hcv h38 hlt hat HL2
 go_upto_region 3 with(refine wpList_store_row rfl 41 _ _ rfl w3.heap.size cs rfl rfl 41 _ (heap_alloc_new _ _) (by rw[hz]; rfl) (by rw[hz]; rfl) hone ?_)
 rw[Yp]
 have hg4:=setRow_heap (w3.alloc (.cells (Zl 0 0 0 0 0 0) 41)) w3.heap.size _ cs _ _ (heap_alloc_new _ _)
 have hb34:Below w3.heap.size w3 ((w3.alloc (.cells (Zl 0 0 0 0 0 0) 41)).setRow w3.heap.size cs):=below_setRow ((Below.refl _ w3).alloc (Nat.le_refl _) _) (Nat.le_refl _) _
 have HO4:=Zg (HO3.out.below hb34)
 have HB4:=Zg (HB3.out.trans (hb34.mono HB3.out.size))
 have HP4:=Zg ((hb34.cell (p:=⟨w.heap.size,0,none⟩) HL3.out).trans HP3.out)
 have HAT4:=Zg ((hb34.cell (p:=⟨bs,off+4,none⟩) HAT.out.1).trans HAT.out.2)
 have HL4:=Zg (show bs<w3.heap.size∧w3.heap.size<((w3.alloc (.cells (Zl 0 0 0 0 0 0) 41)).setRow w3.heap.size cs).heap.size from⟨HAT.out.1,Zi hg4⟩)
 have k38:=(cell_of_row _ _ 38 _ _ _ hg4).trans H38.out
 clear hb34 HO3 HB3 HP3 HAT H38 hz hone hg4
 generalize (w3.alloc (.cells (Zl 0 0 0 0 0 0) 41)).setRow w3.heap.size cs=w4 at *
 generalize w3.heap.size=G at *
 go_wp2_with (at_make; refine Yz rfl _ _ rfl w4.heap.size .i64 .i64 4160 rfl rfl (by omega) (Nat.le_refl _) ?_; intro w5 ho hb hs; have HA5:=Zg ho; have HB45:=Zg hb; clear ho hb hs)
 have HO5:=Zg (HO4.out.below HB45.out)
 have HB5:=Zg (HB4.out.trans (HB45.out.mono HB4.out.size))
 have p5:=(HB45.out.cell (p:=⟨w.heap.size,0,none⟩) (by have:=HL3.out; have:=HL4.out; show w.heap.size<w4.heap.size; omega)).trans HP4.out
 have K38:=Zg ((HB45.out.cell (p:=⟨G,38,none⟩) HL4.out.2).trans k38)
 have KAT:=Zg ((HB45.out.cell (p:=⟨bs,off+4,none⟩) (by have:=HL4.out; show bs<w4.heap.size; omega)).trans HAT4.out)
 have KL:=Zg (show bs<w5.heap.size∧G<w5.heap.size from by have:=HL4.out; have:=HB45.out.size; omega)
 clear k38 HO4 HB4 HP4 HAT4 HL4 HL3
 obtain⟨GA,hGA⟩: ∃ q,w4.heap.size=q:=⟨_,rfl⟩
 rw[hGA] at HA5 ⊢
 go_loopw [5,8,9] (fun v5 v8 v9 wr=> ∃ i:Nat,i≤6∧v9= .int .i64 i∧v5= .slice (some ⟨g,0,none⟩) 8704 c∧v8= .slice (some ⟨GA,0,none⟩) 4160 4160∧wr=w5) (fun _ _ v9 _=>6 - (intOf v9).toNat)
 case atStart=>exact⟨0,by omega,rfl,rfl,rfl,rfl⟩
 case round =>
  obtain⟨i,hi,rfl,rfl,rfl,rfl⟩:=hrel
  rcases(by omega:i=6∨i=0∨i=1∨i=2∨i=3∨i=4∨i=5) with rfl|rfl|rfl|rfl|rfl|rfl|rfl
  ·
   go_upto_region 31 with fail
   have HRA:=Zg (show VF wr GA 4096 64 64 (fun _=>0) from⟨fun j hj=>by have:=HA5.out.row (4096+j) (by omega); rw[Nat.zero_add] at this; exact this,fun _=>by omega,HA5.out.lt,by omega,by omega⟩)
   have HOV:=Zg (fun W (hW:Below wr.heap.size wr W)=>Qx g 0 8704 c F 1024 GA 4096 64 64 (fun _=>0) W (HO5.out.below hW).rowB (HRA.out.below hW) (by omega) (by omega) (by omega))
   have HS:=Zg (show Below wr.heap.size wr wr.drew from(Below.refl _ _).drew)
   refine wp_region_noPanic ?_
   refine Zw (fun W=>Below wr.heap.size wr W) (fun _=>True) 99 (by kernel_rfl) ?_
   refine wT (i:=0) (oi:= ?_) (v:= ?_) ?_ ?_ HS.out ?_
   rotate_left 2
   ·(simp only[Za,Zb,Zc]; rfl)
   ·(first|exact Or.inr ⟨by rfl,rfl⟩|(refine Or.inl ⟨by rfl,?_⟩; intro W hSw; clear hSw; go_simp; try with_reducible rfl))
   try simp only[Act.put,Zd,Ze,Zf]
   refine wT (i:=1) (oi:= ?_) (v:= ?_) ?_ ?_ HS.out ?_
   rotate_left 2
   ·(simp only[Za,Zb,Zc]; rfl)
   ·(first|exact Or.inr ⟨by rfl,rfl⟩|(refine Or.inl ⟨by rfl,?_⟩; intro W hSw; clear hSw; go_simp; try with_reducible rfl))
   try simp only[Act.put,Zd,Ze,Zf]
   refine wT (i:=2) (oi:= ?_) (v:= ?_) ?_ ?_ HS.out ?_
   rotate_left 2
   ·(simp only[Za,Zb,Zc]; rfl)
   ·(first|exact Or.inr ⟨by rfl,rfl⟩|(refine Or.inl ⟨by rfl,?_⟩; intro W hSw; have hk:=(hSw.cell (p:=⟨G,38,none⟩) KL.out.2).trans K38.out; clear hSw; go_simp; try with_reducible rfl))
   try simp only[Act.put,Zd,Ze,Zf]
   refine wT (i:=3) (oi:= ?_) (v:= ?_) ?_ ?_ HS.out ?_
   rotate_left 2
   ·(simp only[Za,Zb,Zc]; rfl)
   ·(first|exact Or.inr ⟨by rfl,rfl⟩|(refine Or.inl ⟨by rfl,?_⟩; intro W hSw; clear hSw; go_simp; try with_reducible rfl))
   try simp only[Act.put,Zd,Ze,Zf]
   refine wT (i:=4) (oi:= ?_) (v:= ?_) ?_ ?_ HS.out ?_
   rotate_left 2
   ·(simp only[Za,Zb,Zc]; rfl)
   ·(first|exact Or.inr ⟨by rfl,rfl⟩|(refine Or.inl ⟨by rfl,?_⟩; intro W hSw; clear hSw; go_simp; try with_reducible rfl))
   try simp only[Act.put,Zd,Ze,Zf]
   refine wT (i:=5) (oi:= ?_) (v:= ?_) ?_ ?_ HS.out ?_
   rotate_left 2
   ·(simp only[Za,Zb,Zc]; rfl)
   ·(first|exact Or.inr ⟨by rfl,rfl⟩|(refine Or.inl ⟨by rfl,?_⟩; intro W hSw; have hk:=(hSw.cell (p:=⟨bs,off+4,none⟩) KL.out.1).trans KAT.out; clear hSw; go_simp; try with_reducible rfl))
   try simp only[Act.put,Zd,Ze,Zf]
   refine wT (i:=6) (oi:= ?_) (v:= ?_) ?_ ?_ HS.out ?_
   rotate_left 2
   ·(simp only[Za,Zb,Zc]; rfl)
   ·(first|exact Or.inr ⟨by rfl,rfl⟩|(refine Or.inl ⟨by rfl,?_⟩; intro W hSw; clear hSw; go_simp; try with_reducible rfl))
   try simp only[Act.put,Zd,Ze,Zf]
   refine wT (i:=7) (oi:= ?_) (v:= ?_) ?_ ?_ HS.out ?_
   rotate_left 2
   ·(simp only[Za,Zb,Zc]; rfl)
   ·(first|exact Or.inr ⟨by rfl,rfl⟩|(refine Or.inl ⟨by rfl,?_⟩; intro W hSw; clear hSw; go_simp; try with_reducible rfl))
   try simp only[Act.put,Zd,Ze,Zf]
   refine Zk (i:=8) (o:= ?_) (by kernel_rfl) ?_ (fun K hK=> ?_)
   rotate_left 1
   ·(simp only[Za,Zb,Zc]; rfl)
   go_simp
   go_at_call 9
   refine(HOV.out _ HS.out).mono ?_
   rintro e w6 ⟨g6,c6,rfl,ho,hb⟩
   have HS2:=Zg (HS.out.trans (hb.mono HS.out.size))
   have HO6:=Zg ho
   refine hK.out _ _ HS2.out (fun _=>trivial) ?_
   clear hK K
   try simp only[Act.put,Zd,Ze,Zf]
   refine wT (i:=9) (oi:= ?_) (v:= ?_) ?_ ?_ HS2.out ?_
   rotate_left 2
   ·(simp only[Za,Zb,Zc]; rfl)
   ·(first|exact Or.inr ⟨by rfl,rfl⟩|(refine Or.inl ⟨by rfl,?_⟩; intro W hSw; clear hSw; go_simp; try with_reducible rfl))
   try simp only[Act.put,Zd,Ze,Zf]
   refine Zp (by kernel_rfl) ?_ _
   refine NoPanic.normal ?_
   go_wp2_with fail
   go_ret
   exact⟨g6,c6,F,rfl,HO6.out.weaken (by have:=HB5.out.size; have:=HS.out.size; omega),HM.out,HB5.out.trans (HS2.out.mono HB5.out.size)⟩
  all_goals
   go_wp2_with fail
   go_roundw
   case rel=>exact⟨_,by decide,rfl,rfl,rfl,by first|trivial|rfl⟩
   case measure=>simp[intOf]
theorem Jj {w:World} {ops:Array Oper} {rest:List Oper} {o:Oper} {a:Act} {Q:Exit→Act→World→Prop} (hgd:o.guard=none) (s x:Operand)
 (ho:o.op= .call { callee:= .builtin .append,args:= #[s,x],argTypes:= #[25,25] })
 {base g n cap m c:Nat} {A:Option Addr} {f h:Nat→Int} (hown:YD w base g n cap f) (hsl:SlB w A m h) (h255:Zq h) (hnm:n+m≤1000000) (hbase:base≤w.heap.size)
 (hv:a.eval s= .slice (some ⟨g,0,none⟩) n cap) (hx:a.eval x= .slice A m c)
 (hK: ∀ g' cap' w',YD w' base g' (n+m) cap' (Uc n f h)→Below base w w'→(∀ b,b<w.heap.size→b≠g→w'.heap[b]? =w.heap[b]?)→wpList Tryz.prog ops Q rest (a.put o.dst (.slice (some ⟨g',0,none⟩) (n+m) cap')) w'):wpList Tryz.prog ops Q (o::rest) a w:=by
 obtain⟨i0,hi,hz0,hz1,hz2⟩:=info_parts Wl
 have hs:Src Tryz.prog i0.size 25 (.slice A m c) m (Zs m h) w:=by rw[hz1]; exact Wn hsl
 have hrun: ∃ g' cap' w',(Builtin.append_ #[25,25] o.type #[.slice (some ⟨g,0,none⟩) n cap,.slice A m c]).run Tryz.prog w= .ok (.slice (some ⟨g',0,none⟩) (n+m) cap') w'∧YD w' base g' (n+m) cap' (Uc n f h)∧Below base w w'∧(∀ b,b<w.heap.size→b≠g→w'.heap[b]? =w.heap[b]?):=by
  by_cases hroom:n+m≤cap
  ·have hin: ∀ j,j<(Zs m h).length→(w.cell? ⟨g,n+j,none⟩).isSome=true:=fun j hj=>(hown.wr (n+j) (by rw[Zn] at hj; omega)).1
   have hr:=run_append_room_src (P:=Tryz.prog) w 25 25 o.type 5 i0 Tryz.underlying25 hi g 0 n cap (.slice A m c) m _ hs hroom
    (fun j hj=>by rw[hz1,Nat.mul_one,Nat.zero_add]; exact hin j hj) (fun j hj=>by rw[hz1,Nat.mul_one,Nat.zero_add]; exact(hown.wr (n+j) (by rw[Zn] at hj; omega)).2)
   rw[hz1,Nat.mul_one,Nat.zero_add] at hr
   refine⟨_,_,_,hr,⟨hown.le,by rw[YG]; exact hown.lt,fun i hi=> ?_,Zcz hown.by255 h255,hroom,hown.most,fun j hj=>⟨World.isSome_setCells _ _ _ _ _ (hown.wr j hj).1,by rw[World.frozen?_setCells]; exact(hown.wr j hj).2⟩⟩,ZW hown.le _ _ _ (Below.refl base w),fun b hb hne=>World.heap_setCells_other _ _ _ _ hb hne⟩
   unfold Uc
   rw[Nat.zero_add]
   by_cases e:i<n
   ·rw[if_pos e,World.cell?_setCells_out _ _ _ _ _ (fun _ _=> .inl e)]
    have:=hown.row i e
    rwa [Nat.zero_add] at this
   ·rw[if_neg e]
    have:=World.cell?_setCells_in g (Zs m h) n w hin (i - n) (by rw[Zn]; omega)
    rw[show n+(i - n)=i by omega] at this
    rw[this]
    simp[Zs]
  ·have hold:(Builtin.firstCells i0.size n (.slice (some ⟨g,0,none⟩) n cap)).run Tryz.prog w.drew= .ok (Zs n f).toArray w.drew:=by
    rw[hz1]
    refine run_firstCells_some w.drew 1 n ⟨g,0,none⟩ n cap (Zs n f) (by rw[Zn,Nat.mul_one]) fun j u hu=> ?_
    have hj:j<n:=by
     rcases Nat.lt_or_ge j n with hj|hj
     ·exact hj
     ·rw[List.getElem?_eq_none (by rw[Zn]; omega)] at hu; cases hu
    rw[ZG n f hj] at hu
    injection hu with hu
    subst hu
    have hadd:(⟨g,0,none⟩:Addr).add j=⟨g,0+j,none⟩:=by unfold Addr.add; split <;> simp_all
    rw[hadd]
    exact hown.row j hj
   have hr:=run_append_grow_src (P:=Tryz.prog) w 25 25 o.type 5 i0 (.int .u8 0) Tryz.underlying25 hi hz0 (some ⟨g,0,none⟩) n cap (Zs n f) hold (.slice A m c) m _ hs (by omega) (by omega) (growslice_fits (by omega) (by rw[hz2]; omega))
   have hcap:=grownCap_ge w (n+m) cap 5
   have hcm:=grownCap_le_maxLen w (n+m) cap 5 (by simp only[maxLen]; omega)
   simp only[maxLen] at hcm
   have hz:(Value.int .u8 0).cells= #[.int .u8 0]:=rfl
   have hh:=heap_alloc_new w.drew (.cells ((Zs n f++Zs m h).toArray++Builtin.zeroCells (Value.int .u8 0).cells (grownCap w (n+m) cap 5 - (n+m))) 5)
   have hsz:((Zs n f++Zs m h).toArray++Builtin.zeroCells (Value.int .u8 0).cells (grownCap w (n+m) cap 5 - (n+m))).size=grownCap w (n+m) cap 5:=by
    rw[Array.size_append,size_zeroCells,hz]
    simp[Zn]
    omega
   refine⟨_,_,_,hr,⟨hbase,by simp,fun i hi=> ?_,Zcz hown.by255 h255,hcap,by omega,fun j hj=>⟨?_,frozen_of_row _ _ _ _ _ hh⟩⟩,((Below.refl base w).drew).alloc (by simpa using hbase) _,fun b hb _=>(((Below.refl w.heap.size w).drew).alloc (by simp) _).block b hb⟩
   ·rw[Nat.zero_add]
    have:=cell_of_row _ _ i _ _ _ hh
    refine Eq.trans this ?_
    rw[Wm,Array.getElem?_append_left (by simpa [Zn] using hi),Za,ZG _ _ hi]
   ·have:=cell_of_row _ _ j _ _ _ hh
    refine Eq.trans (congrArg Option.isSome this) ?_
    rw[Array.getElem?_eq_getElem (by omega)]
    rfl
 refine wpList_plain hgd fun K hK'=> ?_
 obtain⟨g',cap',w',hrun,r1,r2,r3⟩:=hrun
 unfold Oper.wp execOp
 simp only[ho,resolve,invoke,builtin,Sem.run_bind,Sem.run_pure,Result.andThen_ok,List.map_toArray,List.map_cons,List.map_nil,hv,hx,hrun]
 exact hK' _ _ (hK g' cap' w' r1 r2 r3)
theorem Zfc {wb u:World} {z:Nat} {cs:Array Value} {hd:ZO} {g c:Nat} {l:List Zr} (x:Zd1 wb cs hd g c l) (hz:wb.heap[z]? =some (.cells (peC peZ) 50 (0,0))) (hk:Xg (fun k=>k<wb.heap.size∧k≠z) wb u) :
 Vn u (.slice (some ⟨g,0,none⟩) l.length c) l:=by
 refine⟨_,_,rfl,?_,x.len⟩
 rcases x.sl with h|⟨b,off,hb,hlt,hc⟩
 ·exact .inl h
 by_cases hl:l=[]
 ·exact .inl hl
 injection hb with hb
 injection hb with h1 h2
 subst h1 h2
 have h0:0<l.length:=List.length_pos_iff.2 hl
 have hne:g≠z:=by
  intro e
  subst e
  have k1:=hc 0 h0 0 (.string l[0].name) rfl
  rw[Zh hz,Nat.zero_add,Nat.zero_mul,ZJ peZ (by omega)] at k1
  have k2:peF peZ 0= .int .u64 0:=rfl
  rw[k2] at k1
  injection k1 with k1
  cases k1
 have hbk:=hk.block g ⟨x.lt,hne⟩
 refine .inr ⟨g,0,rfl,Zi (hbk.trans (Array.getElem?_eq_getElem x.lt)),fun i hi j v hv=> ?_⟩
 rw[World.cell?_of_block (a:=⟨g,_,none⟩) hbk]
 exact hc i hi j v hv
set_option maxHeartbeats 4000000 in
theorem Zba (w:World):Calls Tryz.prog 12 #[] w fun e w'=>e= .returned (.bool true)∧Below w.heap.size w w':=by
 go_enter Tryz.func12,Tryz.ntmps12
 go_wp2_with fail
 refine(Zdp w).mono ?_
 rintro e w1 ⟨g,c,F,rfl,ho,hm,hb⟩
 have hsm:Yx 1 F (XL F 1024 64 (fun _=>0)):=Yx.over F 1024 64 _ (.inr (by omega))
 have hp:=hsm.headP hm 8704 (by omega)
 have hK:=hsm.headK hm 8704 (by omega)
 have hE:=hsm.ok hm 8704 (by rw[at12]; exact Nat.le_refl _) (by omega) (by omega)
 have hpf:=Zbw g 0 8704 c (XL F 1024 64 (fun _=>0)) w1 ho.rowB hE 16384 1024 (by rw[hp,hsm.size hm,rva12]; rfl) (by rw[hp,hsm.hdrs hm]; rfl) (fun _=>false) (fun i hi _=>by rw[hp]; exact(Zby F _ 1024 64 i (by omega) hi).trans (hm.dirs0 i hi))
 rw[show ZK (erB false 11) (erB false 10) (erB false 9) (erB false 12) (erB false 8) (erB false 10)=0 by rfl] at hpf
 have HBA:=Zg (show(ZF (XL F 1024 64 (fun _=>0)) (headP 8704 (XL F 1024 64 (fun _=>0)))).base=65536 by rw[hp]; exact hsm.base hm)
 have H255:=Zg (Zgo ho.by255 ho.by255 0 0)
 have HFF:=Zg (ho.by255)
 have HB1:=Zg hb
 have HPF:=Zg hpf
 generalize XL F 1024 64 (fun _=>0)=f at *
 clear hsm hp hK hE hpf hb ho hm H255
 go_wp2_with fail
 refine HPF.out.mono ?_
 rintro e w2 ⟨hb,hq⟩
 cases hq with
 | bad h=>exact absurd rfl h
 | good h0 y cs gi W0 hk hh hi ho hW lE lI lR lT lB lD =>
   obtain⟨wb,⟨gh,hl⟩,hz,hkk⟩:=hk
   have hbare:Bare y:=by
    obtain⟨a,b,d⟩:=lE.now
    obtain⟨p,q,r⟩:=lT.now
    exact⟨a,b,d,lI.now,lD.now,lB.now,lR.now,p,q,r⟩
   have hcs:((List.range 39).map y.hd).toArray=cs:=by
    apply Array.ext
    ·simp[hl.hv.size]
    ·intro i h1 h2
     have h3:=hh i (by simpa using h1)
     rw[Array.getElem?_eq_getElem h2] at h3
     simpa using (Option.some.inj h3).symm
   have hsl:=Zfc hl hz hkk
   have hv:=hl.hv
   have hd0:y.hd 0= .int .u64 65536:=by
    have h1:=hv.c0
    rw[hh 0 (by omega),HBA.out] at h1
    exact Option.some.inj h1
   rw[←hcs] at hv
   have hdb:Uq (ZF f (headP 8704 f)):=fun i hi=>⟨(ZS f HFF.out 4 _).1,(ZS f HFF.out 4 _).2,(ZS f HFF.out 4 _).1,(ZS f HFF.out 4 _).2⟩
   have hone:(peC y).all (·.oneCell')=true:=by
    refine Qw y (fun j hj=> ?_) (by rw[hi]; rfl) ⟨⟨by rw[hbare.e0]; rfl,by rw[hbare.e1]; rfl,by rw[hbare.e2]; rfl⟩,by rw[hbare.im]; rfl,by rw[hbare.re]; rfl,⟨by rw[hbare.t0]; rfl,by rw[hbare.t1]; rfl,by rw[hbare.t2]; rfl⟩,by rw[hbare.bo]; rfl,by rw[hbare.de]; rfl⟩
    have h1:=hl.hv.one rfl
    have h2:=Array.all_eq_true_iff_forall_mem.1 h1 (y.hd j) (Array.mem_of_getElem? (hh j hj))
    exact h2
   have HON:=Zg hone
   have HB2:=Zg (HB1.out.trans (hb.mono HB1.out.size))
   have HO2:=Zg ho
   have HSL:=Zg hsl
   have HV:=Zg hv
   have HDB:=Zg hdb
   have HBR:=Zg hbare
   have HI:=Zg hi
   have HD0:=Zg hd0
   clear hl hz hkk lE lI lR lT lB lD hW hh hcs hsl hv hdb hone hbare hi hd0 ho hb h0 HB1 HPF HBA
   simp only[]
   go_upto_region 2 with(refine wpList_store_row rfl 50 _ _ rfl w2.heap.size (peC y) rfl rfl 50 _ (heap_alloc_new _ _) (by rw[Zu]; kernel_rfl) (by rw[Zu]; rfl) HON.out ?_)
   rw[Xt]
   have hz3:=setRow_heap (w2.alloc (.cells (peC peZ) 50)) w2.heap.size _ (peC y) _ _ (heap_alloc_new _ _)
   have hb3:Below w2.heap.size w2 ((w2.alloc (.cells (peC peZ) 50)).setRow w2.heap.size (peC y)):=below_setRow ((Below.refl _ w2).alloc (Nat.le_refl _) _) (Nat.le_refl _) _
   generalize (w2.alloc (.cells (peC peZ) 50)).setRow w2.heap.size (peC y)=w3 at *
   obtain⟨P1,hP1⟩: ∃ q,w2.heap.size=q:=⟨_,rfl⟩
   rw[hP1] at hz3 ⊢
   have HZ3:=Zg hz3
   have HB23:=Zg hb3
   clear hz3 hb3
   go_wp2_with fail
   refine(Zbt (.slice none 0 0) 2 (by decide) w3 (fun W _=>Zee W)).mono ?_
   rintro e w4 ⟨rfl,hb4⟩
   have HZ4:=Zg ((hb4.block P1 (Zi HZ3.out)).trans HZ3.out)
   have HB24:=Zg (HB23.out.trans (hb4.mono HB23.out.size))
   clear hb4 HZ3 HB23
   go_upto_region 3 with(refine wpList_store_row rfl 50 _ _ rfl w4.heap.size (peC peZ) rfl rfl 50 _ (heap_alloc_new _ _) (by rw[Zu]; kernel_rfl) (by rw[Zu]; rfl) Ww ?_)
   rw[Xt]
   have hb5:Below w4.heap.size w4 ((w4.alloc (.cells (peC peZ) 50)).setRow w4.heap.size (peC peZ)):=below_setRow ((Below.refl _ w4).alloc (Nat.le_refl _) _) (Nat.le_refl _) _
   generalize (w4.alloc (.cells (peC peZ) 50)).setRow w4.heap.size (peC peZ)=w5 at *
   have HZ5:=Zg ((hb5.block P1 (Zi HZ4.out)).trans HZ4.out)
   have HB25:=Zg (HB24.out.trans (hb5.mono HB24.out.size))
   clear hb5 HZ4 HB24
   generalize w4.heap.size=P2 at *
   have k0:w5.cell? ⟨P1,0,none⟩=some (.int .u64 65536):=by rw[Zh HZ5.out,ZJ y (by omega),Xy y (by omega),HD0.out]
   have k39:w5.cell? ⟨P1,39,none⟩=some (.slice (some ⟨gi,0,none⟩) 16384 16384):=by rw[Zh HZ5.out,ZJ y (by omega)]; exact congrArg some HI.out
   have k43:w5.cell? ⟨P1,43,none⟩=some (.slice none 0 0):=by rw[Zh HZ5.out,ZJ y (by omega)]; exact congrArg some HBR.out.im
   have HSA:=Zg (Zbi y HBR.out _ _ _ w5 HV.out (by
    obtain⟨A,c,k1,k2,k3⟩:=HSL.out
    exact⟨A,c,k1,k2.below HB25.out,k3⟩) HDB.out gi 16384 16384 _ HI.out (HO2.out.below HB25.out).rowB)
   go_wp2_with (first
    | (refine Wo (by rfl) 50 _ rfl P1 rfl 50 (peC y) (0,0) _ HZ5.out Tryz.underlying50 rfl (by rw[Zu]; kernel_rfl) ?_)
    | fail)
   refine HSA.out.mono ?_
   rintro e w6 ⟨rfl,hb6⟩
   have HZ6:=Zg ((hb6.block P1 (Zi HZ5.out)).trans HZ5.out)
   have HB26:=Zg (HB25.out.trans (hb6.mono HB25.out.size))
   clear hb6 HSA k0 k39 k43
   go_wp2_with (first
    | (refine Wo (by rfl) 50 _ rfl P1 rfl 50 (peC y) (0,0) _ HZ6.out Tryz.underlying50 rfl (by rw[Zu]; kernel_rfl) ?_)
    | fail)
   refine(Zdt y HBR.out w6).mono ?_
   rintro e w7 ⟨⟨A,c',rfl⟩,hb7⟩
   go_wp2_with fail
   go_ret
   exact⟨rfl,HB2.out.trans ((HB26.out.trans (hb7.mono HB26.out.size)).mono HB2.out.size)⟩
end Go.Proofs.YtplgdpjbkdagfaaGreat
