import Derived.Test.YtplgdpjbkdagfaaGreatZPeC
import Derived.Test.YtplgdpjbkdagfaaGreatZRelParse
import Derived.Test.YtplgdpjbkdagfaaGreatZExpD
import Derived.Test.YtplgdpjbkdagfaaGreatBndB
import Derived.Test.YtplgdpjbkdagfaaGreatZRNou
import Derived.Test.YtplgdpjbkdagfaaGreatZStoreRow
namespace Go.Proofs.YtplgdpjbkdagfaaGreat
open List renaming getElem?_toArray→Za, getElem?_cons_succ→Zb, getElem?_cons_zero→Zc, setIfInBounds_toArray→Zd, set_cons_zero→Ze, set_cons_succ→Zf
open Lib renaming hid→Zg
open Go.ChangeShapes Go.WideShapes Go.ChangeAt Go.RowKit
set_option linter.unusedVariables false
set_option linter.unusedSimpArgs false
set_option maxRecDepth 100000
def UH (N:Nat) (f:Nat→Int):List Nat:=(List.range N).map fun i=>(f i).toNat
theorem Vg (N:Nat) (f:Nat→Int):(UH N f).length=N:=by simp[UH]
theorem Zj5 {N:Nat} {f:Nat→Int} (hf:Zq f) {i:Nat} (hi:i<N):lF (UH N f) i=f i:=by
 have:=(hf i).1
 unfold lF UH
 simp[List.getD,hi]
 omega
theorem Qz {N:Nat} {f:Nat→Int} (hf:Zq f):Lb (UH N f):=fun v hv=>by
 simp only[UH,List.mem_map,List.mem_range] at hv
 obtain⟨i,_,rfl⟩:=hv
 have:=(hf i).2
 omega
def erO {α :Type} (R:Option α) (e:Int):Int:=match R with
 | none=>e
 | some _=>0
theorem Wr {α :Type} {C: α →List Value} {sz:Nat} {U:World} {B:Nat} {e:TypeId} {v:Value} {l:List α} (h:ZR C sz U B e v l):ZM B (fun W=>ZR C sz W B e v l) U :=
 fun W2 hk hs=>h.of_block fun k hk2=>hk k (h.lt k hk2).1 (h.lt k hk2).2
def ExpS (base:Nat) (R:Option Zg6) (_:Nat) (a b c:Value) (U:World):Prop:=match R with
 | none=>a= .int .i64 0∧b= .slice none 0 0∧c= .slice none 0 0
 | some x=> ∃ A k A' k',a= .int .i64 x.1∧b= .slice A x.2.1.length k∧c= .slice A' x.2.2.length k'∧ZR gC 2 U base 74 (.slice A x.2.1.length k) x.2.1∧ZR nC 2 U base 76 (.slice A' x.2.2.length k') x.2.2
def ImpS (base:Nat) (R:Option (List Za7)) (_:Nat) (v:Value) (U:World):Prop:=match R with
 | none=>v= .slice none 0 0
 | some vs=> ∃ A c l,v= .slice A l.length c∧JX U base A c l∧l.map (·.v)=vs
theorem VV {U:World} {B base:Nat} {A:Option Addr} {c:Nat} {l:List XT} (h:JX U B A c l) (hB:base≤B):ZM B (fun W=>JX W base A c l) U:=fun W2 hk hs =>
 ⟨(Wr h.1 W2 hk hs).lower hB,fun y hy=>⟨by
   rcases(h.2 y hy).1 with k|⟨b,off,hA,hlt,hc⟩
   ·exact .inl k
   ·exact SlT.keep (.inr ⟨b,off,hA,hlt,hc⟩) hs fun b' hb'=>hk b' ((h.2 y hy).2 b' hb') (by rw[hA] at hb'; simp at hb'; omega),fun b hb=>Nat.le_trans hB ((h.2 y hy).2 b hb)⟩⟩
def RowS1 {α :Type} (C: α →List Value) (sz:Nat) (ty:TypeId) (base:Nat) (R:Option (List α)) (_:Nat) (v:Value) (U:World):Prop:=match R with
 | none=>v= .slice none 0 0
 | some l=> ∃ A c,v= .slice A l.length c∧ZR C sz U base ty (.slice A l.length c) l
def Uo (bs:List Nat) (rva:Nat):Option (List Jm):=if rva=0 then some [] else UU bs rva 33 rva 0 []
def TlsS (base:Nat) (R:Option (Bool × Int × List Int)) (_:Nat) (a b c:Value) (U:World):Prop:=match R with
 | none=>a= .bool false∧b= .int .i64 0∧c= .slice none 0 0
 | some x=> ∃ A k,a= .bool x.1∧b= .int .i64 x.2.1∧c= .slice A x.2.2.length k∧ZR Ws 1 U base 3 (.slice A x.2.2.length k) x.2.2
set_option maxHeartbeats 4000000 in
theorem Zb2 (bs:List Nat) (rva:Nat) (sz:Int) (w:World) (hb:Lb bs) (hlen:bs.length≤1000000) (hr:rva<4294967296) :
 Calls Tryz.prog 42 #[.string (txt bs),.agg #[.int .i64 rva,.int .i64 sz]] w fun e w'=>ParseB w w' (Uo bs rva) e:=by
 obtain⟨R,hR⟩: ∃ R,Uo bs rva=R:=⟨_,rfl⟩
 rw[hR]
 unfold Uo at hR
 have hsz:(txt bs).size=bs.length:=Zm bs
 have HLB:=Zg hb
 have HMK:=Zg (show ∀ W:World,(Instr.makeSlice 25 (.int .i64 8) (.int .i64 8)).run Tryz.prog W= .ok (.slice (some ⟨W.heap.size,0,none⟩) 8 8) (W.alloc (.cells (madeCells #[.int .u8 0] 8) 5)) from fun W=>run_make_row' (P:=Tryz.prog) 25 5 (.int .u8 0) 1 Tryz.underlying25 Wl rfl .i64 .i64 8 (by omega) (by omega) W)
 obtain⟨w1,hw1⟩: ∃ w1,w.alloc (.cells #[.int .i64 rva,.int .i64 sz] 37)=w1:=⟨_,rfl⟩
 have HE1:=Zg hw1
 have HB1:=Zg (show Below w.heap.size w w1 from by rw[←hw1]; exact(Below.refl _ _).alloc (Nat.le_refl _) _)
 have HX1:=Zg (show w1.heap[w.heap.size]? =some (.cells #[.int .i64 rva,.int .i64 sz] 37 (0,0)) from by rw[←hw1]; exact heap_alloc_new w _)
 clear hw1 hb
 have q0:w1.cell? ⟨w.heap.size,0,none⟩=some (.int .i64 rva):=by rw[Zh HX1.out]; rfl
 go_enter Tryz.func42,Tryz.ntmps42
 go_upto_region 1 with(fail)
 refine(congrArg _ HE1.out).mpr ?_
 by_cases c0:rva=0
 ·rw[if_pos c0] at hR
  subst hR
  have d0:((rva:Int) == 0)=true:=by rw[beq_iff_eq]; omega
  clear c0
  go_wp2_with fail
  go_ret2
  exact⟨⟨none,0,rfl,ZR.nil _ _ _⟩,HB1.out⟩
 ·rw[if_neg c0] at hR
  have d0:((rva:Int) == 0)=false:=beq_eq_false_iff_ne.mpr (by omega)
  have HR:=Zg hR
  clear c0 hR
  go_wp2_with fail
  clear q0
  go_loopw [6,7,8] (fun v6 v7 v8 wr=> ∃(k n m:Nat) (l:List Jm) (A':Option Addr) (c':Nat),k+n=33∧l.length=k∧k≤32∧m<65536∧v6= .slice A' k c'∧v7= .int .i64 m∧v8= .int .i64 k∧ZR bC 2 wr (w.heap.size+1) 80 (.slice A' k c') l∧Below w.heap.size w wr∧wr.heap[w.heap.size]? =some (.cells #[.int .i64 rva,.int .i64 sz] 37 (0,0))∧UU bs rva n (rva+8 * k) m l=R) (fun _ _ v8 _=>33 - (intOf v8).toNat)
  case atStart=>exact⟨0,33,0,[],none,0,rfl,rfl,by omega,by omega,rfl,rfl,rfl,ZR.nil _ _ _,HB1.out,HX1.out,HR.out⟩
  case round =>
   obtain⟨k,n,m,l,A',c',hn,hl,hl32,hm,rfl,rfl,rfl,hown,hbel,hxr,hR⟩:=hrel
   have HO:=Zg hown
   have HB:=Zg hbel
   have HX:=Zg hxr
   have HL:=Zg hl
   clear hown hbel hxr HR
   obtain⟨n,rfl⟩: ∃ q,n=q+1:=⟨n - 1,by omega⟩
   simp only[UU] at hR
   rw[hl] at hR
   obtain⟨m8,hm8⟩: ∃ q,8 * k=q:=⟨_,rfl⟩
   obtain⟨o,ho⟩: ∃ q,rva+m8=q:=⟨_,rfl⟩
   have hnx:rva+8 * (k+1)=o+8:=by omega
   rw[hm8,ho] at hR
   have em:(8:Int) * (k:Int)=(m8:Int):=by omega
   have wm:IntKind.i64.wrap (m8:Int)=(m8:Int):=by rw[IntKind.wrap_i64]; omega
   have eo:(rva:Int)+(m8:Int)=(o:Int):=by omega
   have wo:IntKind.i64.wrap (o:Int)=(o:Int):=by rw[IntKind.wrap_i64]; omega
   have HIN:=Zg (fun W=>JT bs.length o 8 W (by omega))
   have e0:wr.cell? ⟨w.heap.size,0,none⟩=some (.int .i64 rva):=by rw[Zh HX.out]; rfl
   have HNX:=Zg hnx
   clear hm8 ho hnx hl
   by_cases c1:o+8≤bs.length
   ·have HNQ:=Zg (UJ HLB.out c1)
    have hin:decide (o+8≤bs.length)=true:=decide_eq_true c1
    rw[hin] at HIN
    obtain⟨o8,ho8⟩: ∃ q,o+8=q:=⟨_,rfl⟩
    rw[ho8] at HNQ HNX hR
    have eo8:(o:Int)+8=(o8:Int):=by omega
    have wo8:IntKind.i64.wrap (o8:Int)=(o8:Int):=by rw[IntKind.wrap_i64]; omega
    have x0:(0:Int)≤(o:Int):=by omega
    have x1:(o:Int)≤(o8:Int):=by omega
    have x2:(o8:Int)≤(bs.length:Int):=by omega
    have x3:(o8:Int).toNat=o8:=Int.toNat_natCast _
    have x4:(o:Int).toNat=o:=Int.toNat_natCast _
    have HO8:=Zg ho8
    have HBL8:=Zg (show o8≤bs.length from by omega)
    have HRE0:=Zg hR
    have HN0:=Zg (show ¬ ¬ o8≤bs.length from fun q=>q (by omega))
    clear ho8 c1 hin hR
    go_wp2_with fail
    refine(HIN.out _).mono ?_
    rintro e w' ⟨rfl,rfl⟩
    go_upto_region 10 with(fail)
    clear e0
    have HS:=Zg (show Below wr.heap.size wr wr.drew from(Below.refl _ _).drew)
    refine wp_region_noPanic ?_
    refine Zw (fun W=>Below wr.heap.size wr W) (fun _=>True) 99 (by kernel_rfl) ?_
    refine wT (i:=0) (oi:= ?_) (v:= ?_) ?_ ?_ HS.out ?_
    rotate_left 2
    ·(simp only[Za,Zb,Zc]; rfl)
    ·(first|exact Or.inr ⟨by rfl,rfl⟩|(refine Or.inl ⟨by rfl,?_⟩; intro W hSw; clear hSw; go_simp; try with_reducible rfl))
    try simp only[Act.put,Zd,Ze,Zf]
    refine wT (i:=1) (oi:= ?_) (v:= ?_) ?_ ?_ HS.out ?_
    rotate_left 2
    ·(simp only[Za,Zb,Zc]; rfl)
    ·(first|exact Or.inr ⟨by rfl,rfl⟩|(refine Or.inl ⟨by rfl,?_⟩; intro W hSw; clear hSw; go_simp; try with_reducible rfl))
    try simp only[Act.put,Zd,Ze,Zf]
    refine wT (i:=2) (oi:= ?_) (v:= ?_) ?_ ?_ HS.out ?_
    rotate_left 2
    ·(simp only[Za,Zb,Zc]; rfl)
    ·(first|exact Or.inr ⟨by rfl,rfl⟩|(refine Or.inl ⟨by rfl,?_⟩; intro W hSw; clear hSw; go_simp; try with_reducible rfl))
    try simp only[Act.put,Zd,Ze,Zf]
    refine wT (i:=3) (oi:= ?_) (v:= ?_) ?_ ?_ HS.out ?_
    rotate_left 2
    ·(simp only[Za,Zb,Zc]; rfl)
    ·(first|exact Or.inr ⟨by rfl,rfl⟩|(refine Or.inl ⟨by rfl,?_⟩; intro W hSw; clear hSw; go_simp; try with_reducible rfl))
    try simp only[Act.put,Zd,Ze,Zf]
    refine wT (i:=4) (oi:= ?_) (v:= ?_) ?_ ?_ HS.out ?_
    rotate_left 2
    ·(simp only[Za,Zb,Zc]; rfl)
    ·(first|exact Or.inr ⟨by rfl,rfl⟩|(refine Or.inl ⟨by rfl,?_⟩; intro W hSw; clear hSw; go_simp; try with_reducible rfl))
    try simp only[Act.put,Zd,Ze,Zf]
    have hmk:=HMK.out wr.drew
    refine Zk (i:=5) (o:= ?_) (by kernel_rfl) ?_ (fun K hK=> ?_)
    rotate_left 1
    ·(simp only[Za,Zb,Zc]; rfl)
    go_simp
    clear hmk
    have HS2:=Zg (show Below wr.heap.size wr (wr.drew.alloc (.cells (madeCells #[.int .u8 0] 8) 5)) from HS.out.alloc (Nat.le_refl _) _)
    refine hK.out _ _ HS2.out (fun _=>trivial) ?_
    clear hK K
    try simp only[Act.put,Zd,Ze,Zf]
    have hcv:(convert 25 9 (.slice (some ⟨wr.heap.size,0,none⟩) 8 8)).run Tryz.prog (wr.drew.alloc (.cells (madeCells #[.int .u8 0] 8) 5))= .ok (.string (ZB (fun _=>0) 0 8)) (wr.drew.alloc (.cells (madeCells #[.int .u8 0] 8) 5)):=VS wr.drew 8
    obtain⟨w2,hw2⟩: ∃ q,wr.drew.alloc (.cells (madeCells #[.int .u8 0] 8) 5)=q:=⟨_,rfl⟩
    rw[hw2] at hcv HS2
    have HE2:=Zg hw2
    clear hw2
    refine(congrArg _ HE2.out).mpr ?_
    refine Zk (i:=6) (o:= ?_) (by kernel_rfl) ?_ (fun K hK=> ?_)
    rotate_left 1
    ·(simp only[Za,Zb,Zc]; rfl)
    go_simp
    clear hcv
    refine hK.out _ _ HS2.out (fun _=>trivial) ?_
    clear hK K
    try simp only[Act.put,Zd,Ze,Zf]
    have hnq:=HNQ.out
    have hre:=HRE0.out
    obtain⟨NO,hNO⟩: ∃ q,Xj bs o 8=q:=⟨_,rfl⟩
    rw[hNO] at hnq hre
    generalize ZB (fun _=>0) 0 8=Z at *
    refine wT (i:=7) (oi:= ?_) (v:= ?_) ?_ ?_ HS2.out ?_
    rotate_left 2
    ·(simp only[Za,Zb,Zc]; rfl)
    ·(first|exact Or.inr ⟨by rfl,rfl⟩|(refine Or.inl ⟨by rfl,?_⟩; intro W hSw; clear hSw; go_simp; try with_reducible rfl))
    try simp only[Act.put,Zd,Ze,Zf]
    refine Zp (by kernel_rfl) ?_ _
    refine NoPanic.normal ?_
    clear hnq hNO HE2 x0 x1 x2 x3 x4
    have hb2:=HS2.out
    have HO2:=Zg (HO.out.below hb2)
    have HB2:=Zg (HB.out.trans (hb2.mono HB.out.size))
    have HX2:=Zg ((hb2.block _ (Zi HX.out)).trans HX.out)
    clear hb2
    rcases NO with _|_
    ·rw[if_neg (fun h=>by simp at h)] at hre
     obtain⟨o4,ho4⟩: ∃ q,o+4=q:=⟨_,rfl⟩
     obtain⟨o6,ho6⟩: ∃ q,o+6=q:=⟨_,rfl⟩
     have eo4:(o:Int)+4=(o4:Int):=by omega
     have wo4:IntKind.i64.wrap (o4:Int)=(o4:Int):=by rw[IntKind.wrap_i64]; omega
     have eo6:(o:Int)+6=(o6:Int):=by omega
     have wo6:IntKind.i64.wrap (o6:Int)=(o6:Int):=by rw[IntKind.wrap_i64]; omega
     have HU0:=Zg (fun W=>ZL bs o 4 W HLB.out (by omega) (by omega) (by have:=HO8.out; have:=HBL8.out; omega))
     have HU4:=Zg (fun W=>ZL bs o4 2 W HLB.out (by omega) (by omega) (by have:=HO8.out; have:=HBL8.out; omega))
     have HU6:=Zg (fun W=>ZL bs o6 2 W HLB.out (by omega) (by omega) (by have:=HO8.out; have:=HBL8.out; omega))
     have hu4:=Ym (HLB.out.drop o4) 2
     have hu6:=Ym (HLB.out.drop o6) 2
     rw[show(256:Nat) ^ 2=65536 from rfl] at hu4 hu6
     have hRD:Zjg bs rva o=match XV bs (rva+YS (bs.drop o4) 2) 40 with|some t=>if Zc4 t then some (t,YS (bs.drop o) 4) else none|none=>none:=by unfold Zjg; rw[ho4]; rfl
     rw[hRD,ho6] at hre
     obtain⟨u0,huu0⟩: ∃ v,YS (bs.drop o) 4=v:=⟨_,rfl⟩
     obtain⟨u4,huu4⟩: ∃ v,YS (bs.drop o4) 2=v:=⟨_,rfl⟩
     obtain⟨u6,huu6⟩: ∃ v,YS (bs.drop o6) 2=v:=⟨_,rfl⟩
     rw[huu0] at HU0 hre
     rw[huu4] at HU4 hre hu4
     rw[huu6] at HU6 hre hu6
     obtain⟨q4,hq4⟩: ∃ q,rva+u4=q:=⟨_,rfl⟩
     rw[hq4] at hre
     have eq4:(rva:Int)+(u4:Int)=(q4:Int):=by omega
     have wq4:IntKind.i64.wrap (q4:Int)=(q4:Int):=by rw[IntKind.wrap_i64]; omega
     have HTX:=Zg (fun W=>Xs bs q4 40 W HLB.out (by omega))
     have HRE:=Zg hre
     clear hRD huu0 huu4 huu6 hq4 ho4 ho6 hre
     have HC2:=Zg (fun W (hW:Below w2.heap.size w2 W)=>show W.cell? ⟨w.heap.size,0,none⟩=some (.int .i64 rva) from by rw[Zh ((hW.block _ (Zi HX2.out)).trans HX2.out)]; rfl)
     go_upto_region 14 with(fail)
     clear HS HS2
     rcases htx:XV bs q4 40 with _|t
     ·rw[htx] at HTX
      have hre:=HRE.out
      rw[htx] at hre
      simp only[ite_self] at hre
      subst hre
      clear HRE htx
      have HS:=Zg (show Below w2.heap.size w2 w2.drew from(Below.refl _ _).drew)
      refine wp_region_noPanic ?_
      refine Zw (fun W=>Below w2.heap.size w2 W) (fun _=>True) 99 (by kernel_rfl) ?_
      refine wT (i:=0) (oi:= ?_) (v:= ?_) ?_ ?_ HS.out ?_
      rotate_left 2
      ·(simp only[Za,Zb,Zc]; rfl)
      ·(first|exact Or.inr ⟨by rfl,rfl⟩|(refine Or.inl ⟨by rfl,?_⟩; intro W hSw; clear hSw; go_simp; try with_reducible rfl))
      try simp only[Act.put,Zd,Ze,Zf]
      refine wT (i:=1) (oi:= ?_) (v:= ?_) ?_ ?_ HS.out ?_
      rotate_left 2
      ·(simp only[Za,Zb,Zc]; rfl)
      ·(first|exact Or.inr ⟨by rfl,rfl⟩|(refine Or.inl ⟨by rfl,?_⟩; intro W hSw; clear hSw; go_simp; try with_reducible rfl))
      try simp only[Act.put,Zd,Ze,Zf]
      refine wT (i:=2) (oi:= ?_) (v:= ?_) ?_ ?_ HS.out ?_
      rotate_left 2
      ·(simp only[Za,Zb,Zc]; rfl)
      ·(first|exact Or.inr ⟨by rfl,rfl⟩|(refine Or.inl ⟨by rfl,?_⟩; intro W hSw; have hq0:=HC2.out W hSw; clear hSw; go_simp; try with_reducible rfl))
      try simp only[Act.put,Zd,Ze,Zf]
      refine wT (i:=3) (oi:= ?_) (v:= ?_) ?_ ?_ HS.out ?_
      rotate_left 2
      ·(simp only[Za,Zb,Zc]; rfl)
      ·(first|exact Or.inr ⟨by rfl,rfl⟩|(refine Or.inl ⟨by rfl,?_⟩; intro W hSw; clear hSw; go_simp; try with_reducible rfl))
      try simp only[Act.put,Zd,Ze,Zf]
      refine wT (i:=4) (oi:= ?_) (v:= ?_) ?_ ?_ HS.out ?_
      rotate_left 2
      ·(simp only[Za,Zb,Zc]; rfl)
      ·(first|exact Or.inr ⟨by rfl,rfl⟩|(refine Or.inl ⟨by rfl,?_⟩; intro W hSw; clear hSw; go_simp; try with_reducible rfl))
      try simp only[Act.put,Zd,Ze,Zf]
      refine wT (i:=5) (oi:= ?_) (v:= ?_) ?_ ?_ HS.out ?_
      rotate_left 2
      ·(simp only[Za,Zb,Zc]; rfl)
      ·(first|exact Or.inr ⟨by rfl,rfl⟩|(refine Or.inl ⟨by rfl,?_⟩; intro W hSw; clear hSw; go_simp; try with_reducible rfl))
      try simp only[Act.put,Zd,Ze,Zf]
      refine ZX (i:=6) (oi:= ?_) (v:= .int .i64 u4) ?_ (by kernel_rfl) (by kernel_rfl) (by kernel_rfl) (fun _ _ _ h=>h) (by decide) ?_ HS.out (fun _=>trivial) ?_
      rotate_left 1
      ·(simp only[Za,Zb,Zc]; rfl)
      ·refine⟨by rfl,fun W hW=>⟨72,#[.string (txt bs),.int .i64 o4,.int .i64 2],?_,HU4.out W⟩⟩
       first|kernel_rfl|(go_simp; done)|rfl
      try simp only[Act.put,Zd,Ze,Zf]
      refine wT (i:=7) (oi:= ?_) (v:= ?_) ?_ ?_ HS.out ?_
      rotate_left 2
      ·(simp only[Za,Zb,Zc]; rfl)
      ·(first|exact Or.inr ⟨by rfl,rfl⟩|(refine Or.inl ⟨by rfl,?_⟩; intro W hSw; clear hSw; go_simp; try with_reducible rfl))
      try simp only[Act.put,Zd,Ze,Zf]
      refine ZX (i:=8) (oi:= ?_) (v:= .tuple #[.string ByteArray.empty,.bool false]) ?_ (by kernel_rfl) (by kernel_rfl) (by kernel_rfl) (fun _ _ _ h=>h) (by decide) ?_ HS.out (fun _=>trivial) ?_
      rotate_left 1
      ·(simp only[Za,Zb,Zc]; rfl)
      ·refine⟨by rfl,fun W hW=>⟨75,#[.string (txt bs),.int .i64 q4,.int .i64 40],?_,HTX.out W⟩⟩
       first|kernel_rfl|(go_simp; done)|rfl
      try simp only[Act.put,Zd,Ze,Zf]
      refine wT (i:=9) (oi:= ?_) (v:= ?_) ?_ ?_ HS.out ?_
      rotate_left 2
      ·(simp only[Za,Zb,Zc]; rfl)
      ·(first|exact Or.inr ⟨by rfl,rfl⟩|(refine Or.inl ⟨by rfl,?_⟩; intro W hSw; clear hSw; go_simp; try with_reducible rfl))
      try simp only[Act.put,Zd,Ze,Zf]
      refine wT (i:=10) (oi:= ?_) (v:= ?_) ?_ ?_ HS.out ?_
      rotate_left 2
      ·(simp only[Za,Zb,Zc]; rfl)
      ·(first|exact Or.inr ⟨by rfl,rfl⟩|(refine Or.inl ⟨by rfl,?_⟩; intro W hSw; clear hSw; go_simp; try with_reducible rfl))
      try simp only[Act.put,Zd,Ze,Zf]
      refine wT (i:=11) (oi:= ?_) (v:= ?_) ?_ ?_ HS.out ?_
      rotate_left 2
      ·(simp only[Za,Zb,Zc]; rfl)
      ·(first|exact Or.inr ⟨by rfl,rfl⟩|(refine Or.inl ⟨by rfl,?_⟩; intro W hSw; clear hSw; go_simp; try with_reducible rfl))
      try simp only[Act.put,Zd,Ze,Zf]
      refine wT (i:=12) (oi:= ?_) (v:= ?_) ?_ ?_ HS.out ?_
      rotate_left 2
      ·(simp only[Za,Zb,Zc]; rfl)
      ·(first|exact Or.inr ⟨by rfl,rfl⟩|(refine Or.inl ⟨by rfl,?_⟩; intro W hSw; clear hSw; go_simp; try with_reducible rfl))
      try simp only[Act.put,Zd,Ze,Zf]
      refine wT (i:=13) (oi:= ?_) (v:= ?_) ?_ ?_ HS.out ?_
      rotate_left 2
      ·(simp only[Za,Zb,Zc]; rfl)
      ·(first|exact Or.inr ⟨by rfl,rfl⟩|(refine Or.inl ⟨by rfl,?_⟩; intro W hSw; clear hSw; go_simp; try with_reducible rfl))
      try simp only[Act.put,Zd,Ze,Zf]
      refine Zp (by kernel_rfl) ?_ _
      refine NoPanic.normal ?_
      have HB3:=Zg (show Below w.heap.size w w2.drew from HB2.out.drew)
      by_cases c32:k=32
      ·have d32:(32:Int)≤(k:Int):=by omega
       clear c32
       go_wp2_with fail
       go_ret2
       exact⟨rfl,HB3.out⟩
      ·have d32: ¬ (32:Int)≤(k:Int):=by omega
       clear c32
       go_wp2_with fail
       go_ret2
       exact⟨rfl,HB3.out⟩
     ·have hlt':=XP HLB.out htx
      have HNM:=Zg (fun W=>Vb t W hlt'.1 (by have:=hlt'.2; omega))
      rw[htx] at HTX
      have hre:=HRE.out
      rw[htx] at hre
      simp only at hre
      have HRE2:=Zg hre
      clear HRE htx hre hlt'
      have HS:=Zg (show Below w2.heap.size w2 w2.drew from(Below.refl _ _).drew)
      refine wp_region_noPanic ?_
      refine Zw (fun W=>Below w2.heap.size w2 W) (fun _=>True) 99 (by kernel_rfl) ?_
      refine wT (i:=0) (oi:= ?_) (v:= ?_) ?_ ?_ HS.out ?_
      rotate_left 2
      ·(simp only[Za,Zb,Zc]; rfl)
      ·(first|exact Or.inr ⟨by rfl,rfl⟩|(refine Or.inl ⟨by rfl,?_⟩; intro W hSw; clear hSw; go_simp; try with_reducible rfl))
      try simp only[Act.put,Zd,Ze,Zf]
      refine wT (i:=1) (oi:= ?_) (v:= ?_) ?_ ?_ HS.out ?_
      rotate_left 2
      ·(simp only[Za,Zb,Zc]; rfl)
      ·(first|exact Or.inr ⟨by rfl,rfl⟩|(refine Or.inl ⟨by rfl,?_⟩; intro W hSw; clear hSw; go_simp; try with_reducible rfl))
      try simp only[Act.put,Zd,Ze,Zf]
      refine wT (i:=2) (oi:= ?_) (v:= ?_) ?_ ?_ HS.out ?_
      rotate_left 2
      ·(simp only[Za,Zb,Zc]; rfl)
      ·(first|exact Or.inr ⟨by rfl,rfl⟩|(refine Or.inl ⟨by rfl,?_⟩; intro W hSw; have hq0:=HC2.out W hSw; clear hSw; go_simp; try with_reducible rfl))
      try simp only[Act.put,Zd,Ze,Zf]
      refine wT (i:=3) (oi:= ?_) (v:= ?_) ?_ ?_ HS.out ?_
      rotate_left 2
      ·(simp only[Za,Zb,Zc]; rfl)
      ·(first|exact Or.inr ⟨by rfl,rfl⟩|(refine Or.inl ⟨by rfl,?_⟩; intro W hSw; clear hSw; go_simp; try with_reducible rfl))
      try simp only[Act.put,Zd,Ze,Zf]
      refine wT (i:=4) (oi:= ?_) (v:= ?_) ?_ ?_ HS.out ?_
      rotate_left 2
      ·(simp only[Za,Zb,Zc]; rfl)
      ·(first|exact Or.inr ⟨by rfl,rfl⟩|(refine Or.inl ⟨by rfl,?_⟩; intro W hSw; clear hSw; go_simp; try with_reducible rfl))
      try simp only[Act.put,Zd,Ze,Zf]
      refine wT (i:=5) (oi:= ?_) (v:= ?_) ?_ ?_ HS.out ?_
      rotate_left 2
      ·(simp only[Za,Zb,Zc]; rfl)
      ·(first|exact Or.inr ⟨by rfl,rfl⟩|(refine Or.inl ⟨by rfl,?_⟩; intro W hSw; clear hSw; go_simp; try with_reducible rfl))
      try simp only[Act.put,Zd,Ze,Zf]
      refine ZX (i:=6) (oi:= ?_) (v:= .int .i64 u4) ?_ (by kernel_rfl) (by kernel_rfl) (by kernel_rfl) (fun _ _ _ h=>h) (by decide) ?_ HS.out (fun _=>trivial) ?_
      rotate_left 1
      ·(simp only[Za,Zb,Zc]; rfl)
      ·refine⟨by rfl,fun W hW=>⟨72,#[.string (txt bs),.int .i64 o4,.int .i64 2],?_,HU4.out W⟩⟩
       first|kernel_rfl|(go_simp; done)|rfl
      try simp only[Act.put,Zd,Ze,Zf]
      refine wT (i:=7) (oi:= ?_) (v:= ?_) ?_ ?_ HS.out ?_
      rotate_left 2
      ·(simp only[Za,Zb,Zc]; rfl)
      ·(first|exact Or.inr ⟨by rfl,rfl⟩|(refine Or.inl ⟨by rfl,?_⟩; intro W hSw; clear hSw; go_simp; try with_reducible rfl))
      try simp only[Act.put,Zd,Ze,Zf]
      refine ZX (i:=8) (oi:= ?_) (v:= .tuple #[.string (txt t),.bool true]) ?_ (by kernel_rfl) (by kernel_rfl) (by kernel_rfl) (fun _ _ _ h=>h) (by decide) ?_ HS.out (fun _=>trivial) ?_
      rotate_left 1
      ·(simp only[Za,Zb,Zc]; rfl)
      ·refine⟨by rfl,fun W hW=>⟨75,#[.string (txt bs),.int .i64 q4,.int .i64 40],?_,HTX.out W⟩⟩
       first|kernel_rfl|(go_simp; done)|rfl
      try simp only[Act.put,Zd,Ze,Zf]
      refine wT (i:=9) (oi:= ?_) (v:= ?_) ?_ ?_ HS.out ?_
      rotate_left 2
      ·(simp only[Za,Zb,Zc]; rfl)
      ·(first|exact Or.inr ⟨by rfl,rfl⟩|(refine Or.inl ⟨by rfl,?_⟩; intro W hSw; clear hSw; go_simp; try with_reducible rfl))
      try simp only[Act.put,Zd,Ze,Zf]
      refine wT (i:=10) (oi:= ?_) (v:= ?_) ?_ ?_ HS.out ?_
      rotate_left 2
      ·(simp only[Za,Zb,Zc]; rfl)
      ·(first|exact Or.inr ⟨by rfl,rfl⟩|(refine Or.inl ⟨by rfl,?_⟩; intro W hSw; clear hSw; go_simp; try with_reducible rfl))
      try simp only[Act.put,Zd,Ze,Zf]
      refine wT (i:=11) (oi:= ?_) (v:= ?_) ?_ ?_ HS.out ?_
      rotate_left 2
      ·(simp only[Za,Zb,Zc]; rfl)
      ·(first|exact Or.inr ⟨by rfl,rfl⟩|(refine Or.inl ⟨by rfl,?_⟩; intro W hSw; clear hSw; go_simp; try with_reducible rfl))
      try simp only[Act.put,Zd,Ze,Zf]
      refine wT (i:=12) (oi:= ?_) (v:= ?_) ?_ ?_ HS.out ?_
      rotate_left 2
      ·(simp only[Za,Zb,Zc]; rfl)
      ·(first|exact Or.inr ⟨by rfl,rfl⟩|(refine Or.inl ⟨by rfl,?_⟩; intro W hSw; clear hSw; go_simp; try with_reducible rfl))
      try simp only[Act.put,Zd,Ze,Zf]
      refine wT (i:=13) (oi:= ?_) (v:= ?_) ?_ ?_ HS.out ?_
      rotate_left 2
      ·(simp only[Za,Zb,Zc]; rfl)
      ·(first|exact Or.inr ⟨by rfl,rfl⟩|(refine Or.inl ⟨by rfl,?_⟩; intro W hSw; clear hSw; go_simp; try with_reducible rfl))
      try simp only[Act.put,Zd,Ze,Zf]
      refine Zp (by kernel_rfl) ?_ _
      refine NoPanic.normal ?_
      have HB3:=Zg (show Below w.heap.size w w2.drew from HB2.out.drew)
      have HO3:=Zg (show ZR bC 2 w2.drew (w.heap.size+1) 80 (.slice A' k c') l from HO2.out.below (Below.refl w2.heap.size w2).drew)
      have HX3:=Zg (show w2.drew.heap[w.heap.size]? =some (.cells #[.int .i64 rva,.int .i64 sz] 37 (0,0)) from HX2.out)
      generalize w2.drew=w3 at *
      by_cases c32:k=32
      ·have d32:(32:Int)≤(k:Int):=by omega
       have hre:=HRE2.out
       rw[if_pos (.inr (.inr c32))] at hre
       subst hre
       clear c32 HRE2
       go_wp2_with fail
       go_ret2
       exact⟨rfl,HB3.out⟩
      ·have d32: ¬ (32:Int)≤(k:Int):=by omega
       have hk32:k<32:=by omega
       have hre:=HRE2.out
       rw[if_neg (fun h=>h.elim HN0.out (fun h=>h.elim (fun h=>by simp at h) c32))] at hre
       clear HRE2 c32
       by_cases hok:Zc4 t=true
       ·rw[if_pos hok] at hre
        simp only at hre
        have HRE3:=Zg hre
        rw[hok] at HNM
        clear hok hre
        go_wp2_with fail
        refine(HNM.out _).mono ?_
        rintro e w' ⟨rfl,rfl⟩
        go_wp2_with fail
        refine(HU0.out _).mono ?_
        rintro e w' ⟨rfl,rfl⟩
        have HA1:=Zg (HO3.out.alloc (.cells #[.string (txt t),.int .i64 u0] 80))
        have HY1:=Zg (Zds t u0 w3)
        have HB8:=Zg (HB3.out.alloc HB3.out.size (.cells #[.string (txt t),.int .i64 u0] 80))
        have HX8:=Zg (show(w3.alloc (.cells #[.string (txt t),.int .i64 u0] 80)).heap[w.heap.size]? =_ from(Below.heap_alloc _ _ _ (Zi HX3.out)).trans HX3.out)
        have HG3:=Zg (show w.heap.size+1≤(w3.alloc (.cells #[.string (txt t),.int .i64 u0] 80)).heap.size from Zi HX8.out)
        rw[←HL.out] at HA1 hk32 hn ⊢
        have HG4:=Zg (show l.length+1≤maxLen from by unfold maxLen; omega)
        have HG5:=Zg (show(l.length+1) * 24≤140737488355328 from by omega)
        by_cases hm0:0<m
        ·rw[if_pos hm0] at HRE3
         have dm:(0:Int)<(m:Int):=by omega
         have em1:(m:Int) - 1=((m - 1:Nat):Int):=by omega
         have wm1:IntKind.i64.wrap ((m - 1:Nat):Int)=((m - 1:Nat):Int):=by rw[IntKind.wrap_i64]; omega
         obtain⟨m1,hm1⟩: ∃ q,m - 1=q:=⟨_,rfl⟩
         rw[hm1] at em1 wm1 HRE3
         have hm1b:m1<65536:=by omega
         clear hm1 hm0
         go_wp2_with (first
          | (at_builtin; refine Zv rfl (.tmp 61) (.tmp 67) 30 rfl (w.heap.size+1) 80 _ 24 rfl VH rfl (by omega) JB Zcu _ l rfl HA1.out w3.heap.size 1 rfl (t,u0) HY1.out HG4.out HG5.out HG3.out ?_; intro g5 cap5 w8 hown5 hg5 hat5
             have HB9:=Zg (HA1.out.grew HB8.out (by omega) HB8.out.size hg5)
             have HX9:=Zg ((hg5.block w.heap.size (Zi HX8.out) (fun h=>by have:=(HA1.out.lt _ h.symm).1; omega)).trans HX8.out)
             have HO9:=Zg hown5
             clear hown5 hg5 hat5)
          | fail)
         go_roundw
         case rel=>exact⟨l.length+1,n,m1,l++[(t,u0)],some ⟨g5,0,none⟩,cap5,by omega,by simp,by omega,hm1b,rfl,rfl,rfl,by simpa using HO9.out,HB9.out,HX9.out,by rw[HL.out,HNX.out]; exact HRE3.out⟩
         case measure =>
          have:=HL.out
          simp[intOf]
          omega
        ·rw[if_neg hm0] at HRE3
         have dm: ¬ (0:Int)<(m:Int):=by omega
         clear hm0
         go_wp2_with (first
          | (at_builtin; refine Zv rfl (.tmp 61) (.tmp 67) 30 rfl (w.heap.size+1) 80 _ 24 rfl VH rfl (by omega) JB Zcu _ l rfl HA1.out w3.heap.size 1 rfl (t,u0) HY1.out HG4.out HG5.out HG3.out ?_; intro g5 cap5 w8 hown5 hg5 hat5
             have HB9:=Zg (HA1.out.grew HB8.out (by omega) HB8.out.size hg5)
             have HX9:=Zg ((hg5.block w.heap.size (Zi HX8.out) (fun h=>by have:=(HA1.out.lt _ h.symm).1; omega)).trans HX8.out)
             have HO9:=Zg hown5
             clear hown5 hg5 hat5)
          | fail)
         refine(HU6.out _).mono ?_
         rintro e w' ⟨rfl,rfl⟩
         go_wp2_with fail
         go_roundw
         case rel=>exact⟨l.length+1,n,u6,l++[(t,u0)],some ⟨g5,0,none⟩,cap5,by omega,by simp,by omega,hu6,rfl,rfl,rfl,by simpa using HO9.out,HB9.out,HX9.out,by rw[HL.out,HNX.out]; exact HRE3.out⟩
         case measure =>
          have:=HL.out
          simp[intOf]
          omega
       ·have hok2:=Bool.eq_false_iff.2 hok
        rw[hok2] at hre HNM
        simp at hre
        subst hre
        clear hok hok2
        go_wp2_with fail
        refine(HNM.out _).mono ?_
        rintro e w' ⟨rfl,rfl⟩
        go_wp2_with fail
        go_ret2
        exact⟨rfl,HB3.out⟩
    ·have hre2:=hre
     by_cases hm0:m=0
     ·rw[if_pos ⟨hm0,rfl⟩] at hre
      have dm: ¬ (0:Int)<(m:Int):=by omega
      subst hre
      clear hm0
      go_wp2_with fail
      go_ret2
      exact⟨⟨A',c',by rw[HL.out]; rfl,by rw[HL.out]; exact Joins.ownsRow_le HO2.out (by omega)⟩,HB2.out⟩
     ·rw[if_neg (fun h=>hm0 h.1),if_pos (.inr (.inl rfl))] at hre
      have dm:(0:Int)<(m:Int):=by omega
      subst hre
      clear hm0
      go_wp2_with fail
      go_ret2
      exact⟨rfl,HB2.out⟩
   ·have hin:decide (o+8≤bs.length)=false:=decide_eq_false c1
    rw[hin] at HIN
    rw[WK c1,if_neg (fun h=>by simp at h),if_pos (.inl c1)] at hR
    subst hR
    clear c1 hin
    go_wp2_with fail
    refine(HIN.out _).mono ?_
    rintro e w' ⟨rfl,rfl⟩
    go_wp2_with fail
    go_ret2
    exact⟨rfl,HB.out⟩
theorem Zgv (S:ByteArray) (r n:Nat) (w:World) (hs:S.size≤1000000) (hr:r<18446744073709551616) (hn:n≤1000) :
 Calls Tryz.prog 96 #[.string S,.int .u64 r,.int .i64 n] w fun e u=>e= .returned (.bool (decide (r+n≤S.size)))∧w=u:=by
 by_cases h:r≤1073741824
 ·have HIN:=Zg (fun W=>JT S.size r n W (by omega))
  have d0:(r:Int)≤1073741824:=by omega
  have w0:IntKind.i64.wrap (r:Int)=(r:Int):=by rw[IntKind.wrap_i64]; omega
  generalize decide (r+n≤S.size)=B at *
  go_enter Tryz.func96,Tryz.ntmps96
  go_wp2_with fail
  refine(HIN.out _).mono ?_
  rintro e u ⟨rfl,rfl⟩
  go_wp2_with fail
  go_ret
  exact⟨rfl,rfl⟩
 ·have d0: ¬ (r:Int)≤1073741824:=by omega
  rw[decide_eq_false (by omega)]
  go_enter Tryz.func96,Tryz.ntmps96
  go_wp2_with fail
  go_ret
  exact⟨rfl,rfl⟩
def Zeg (a b:Int):Nat:=((a - b) % 18446744073709551616).toNat
theorem Zb3 (a b:Int):IntKind.u64.wrap (a - b)=((Zeg a b:Nat):Int):=by
 rw[IntKind.wrap_u64]; unfold Zeg; omega
theorem Zb4 (a b:Int):Zeg a b<18446744073709551616:=by unfold Zeg; omega
def Jg (n:Nat) (f:Nat→Int) (base:Int) (D:Nat):Nat→List Int→Option (List Int)
 | 0,_=>none
 | m+1,l =>
   if ¬ D+(8 * l.length+8)≤n then none else
   if rdF f (D+8 * l.length) 8=0 then some l else
   if 8≤l.length∨ ¬ Zeg (rdF f (D+8 * l.length) 8) base+1≤n then none else
   Jg n f base D m (l++[((Zeg (rdF f (D+8 * l.length) 8) base:Nat):Int)])
def Zix (n:Nat) (f:Nat→Int) (rva:Nat) (base:Int):Option (Bool × Int × List Int) :=
 if rva=0 then some (false,0,[]) else
 if ¬ rva+40≤n then none else
 if ¬ Zeg (rdF f (rva+16) 8) base+4≤n then none else
 match (if rdF f (rva+24) 8=0 then some [] else Jg n f base (Zeg (rdF f (rva+24) 8) base) 9 []) with
 | none=>none
 | some l=>some (true,((Zeg (rdF f (rva+16) 8) base:Nat):Int),l)
set_option maxHeartbeats 4000000 in
theorem Zih (S:ByteArray) (rva:Nat) (sz base:Int) (w:World) (hs:S.size≤1000000) (hr:rva<4294967296) (b0:0≤base) (b1:base≤18446744073709551615) :
 Calls Tryz.prog 41 #[.string S,.agg #[.int .i64 rva,.int .i64 sz],.int .u64 base] w fun e u=>TlsQ w (Zix S.size (PlainAid.bt S) rva base) e u∧Below w.heap.size w u:=by
 have H255:=Zg (WA S)
 have hnum:=fun(o:Nat) (W:World) (h:o+8≤S.size)=>WW S o 8 W (by omega) (by omega) h
 obtain⟨f,hf⟩: ∃ f,PlainAid.bt S=f:=⟨_,rfl⟩
 rw[hf] at H255 hnum ⊢
 have HNUM:=Zg hnum
 have HTH:=Zg (fun(r n:Nat) (W:World) (h1:r<18446744073709551616) (h2:n≤1000)=>Zgv S r n W hs h1 h2)
 obtain⟨R,hR⟩: ∃ R,Zix S.size f rva base=R:=⟨_,rfl⟩
 rw[hR]
 unfold Zix at hR
 obtain⟨N,hN⟩: ∃ N,S.size=N:=⟨_,rfl⟩
 rw[hN] at HNUM HTH hR hs
 have HSZ:=Zg hN
 clear hf hnum
 obtain⟨w1,hw1⟩: ∃ w1,((w.alloc (.cells #[.int .i64 rva,.int .i64 sz] 37)).alloc (.cells #[.bool false,.int .i64 0,.slice none 0 0] 48)).alloc (.cells #[.bool false,.int .i64 0,.slice none 0 0] 48)=w1:=⟨_,rfl⟩
 have hs1:(w.alloc (.cells #[.int .i64 rva,.int .i64 sz] 37)).heap.size=w.heap.size+1:=by simp
 have hs2:((w.alloc (.cells #[.int .i64 rva,.int .i64 sz] 37)).alloc (.cells #[.bool false,.int .i64 0,.slice none 0 0] 48)).heap.size=w.heap.size+2:=by simp
 have HB:=Zg (show Below w.heap.size w w1 from by rw[←hw1]; exact((((Below.refl w.heap.size w).alloc (Nat.le_refl _) _).alloc (by rw[hs1]; omega) _).alloc (by rw[hs2]; omega) _))
 have H0:=Zg (show w1.heap[w.heap.size]? =some (.cells #[.int .i64 rva,.int .i64 sz] 37 (0,0)) from by
  rw[←hw1]
  exact(Below.heap_alloc _ _ w.heap.size (by rw[hs2]; omega)).trans ((Below.heap_alloc _ _ w.heap.size (by rw[hs1]; omega)).trans (heap_alloc_new w _)))
 have H1:=Zg (show w1.heap[w.heap.size+1]? =some (.cells #[.bool false,.int .i64 0,.slice none 0 0] 48 (0,0)) from by
  rw[←hw1]
  refine(Below.heap_alloc _ _ (w.heap.size+1) (by rw[hs2]; omega)).trans ?_
  have h:=heap_alloc_new (w.alloc (.cells #[.int .i64 rva,.int .i64 sz] 37)) (.cells #[.bool false,.int .i64 0,.slice none 0 0] 48)
  rwa [hs1] at h)
 have H2:=Zg (show w1.heap[w.heap.size+2]? =some (.cells #[.bool false,.int .i64 0,.slice none 0 0] 48 (0,0)) from by
  rw[←hw1]
  have h:=heap_alloc_new ((w.alloc (.cells #[.int .i64 rva,.int .i64 sz] 37)).alloc (.cells #[.bool false,.int .i64 0,.slice none 0 0] 48)) (.cells #[.bool false,.int .i64 0,.slice none 0 0] 48)
  rwa [hs2] at h)
 have HS1:=Zg (show w1.heap.size=w.heap.size+3 from by rw[←hw1]; simp)
 have HE1:=Zg hw1
 have r0:w1.cell? ⟨w.heap.size,0,none⟩=some (.int .i64 rva):=by rw[Zh H0.out]; rfl
 clear hw1 hs1 hs2
 go_enter Tryz.func41,Tryz.ntmps41
 go_upto_region 2 with(fail)
 refine(congrArg _ HE1.out).mpr ?_
 by_cases c0:rva=0
 ·rw[if_pos c0] at hR
  subst hR
  have d0:((rva:Int) == 0)=true:=by rw[beq_iff_eq]; omega
  clear c0
  have z0:w1.cell? ⟨w.heap.size+2,0,none⟩=some (.bool false):=by rw[Zh H2.out]; rfl
  have z1:w1.cell? ⟨w.heap.size+2,1,none⟩=some (.int .i64 0):=by rw[Zh H2.out]; rfl
  have z2:w1.cell? ⟨w.heap.size+2,2,none⟩=some (.slice none 0 0):=by rw[Zh H2.out]; rfl
  go_wp2_with (first|(refine wpList_store_row rfl 48 _ _ rfl (w.heap.size+1) #[.bool false,.int .i64 0,.slice none 0 0] rfl rfl 48 _ H1.out rfl rfl (by simp[Value.oneCell']) ?_)|fail)
  exact bodyPost_ret (v:= .tuple #[.agg #[.bool false,.int .i64 0,.slice none 0 0],.int .i64 0]) (Zj rfl _ _ (w.heap.size+1) 48 _ (0,0) _ _ rfl rfl (setRow_heap _ _ _ _ _ _ H1.out) rfl rfl rfl) rfl ⟨.inl ⟨false,0,[],none,0,rfl,rfl,ZR.nil _ _ _⟩,below_setRow HB.out (by omega) _⟩
 rw[if_neg c0] at hR
 have d0:((rva:Int) == 0)=false:=beq_eq_false_iff_ne.mpr (by omega)
 have HIN:=Zg (fun W=>JT N rva 40 W (by omega))
 have hN2:(S.size:Int)=(N:Int):=by rw[HSZ.out]
 clear c0
 by_cases c1:rva+40≤N
 ·rw[if_neg (fun h=>h c1)] at hR
  rw[decide_eq_true c1] at HIN
  obtain⟨o1,ho1⟩: ∃ q,rva+16=q:=⟨_,rfl⟩
  obtain⟨o2,ho2⟩: ∃ q,rva+24=q:=⟨_,rfl⟩
  have eo1:(rva:Int)+16=(o1:Int):=by omega
  have wo1:IntKind.i64.wrap (o1:Int)=(o1:Int):=by rw[IntKind.wrap_i64]; omega
  have eo2:(rva:Int)+24=(o2:Int):=by omega
  have wo2:IntKind.i64.wrap (o2:Int)=(o2:Int):=by rw[IntKind.wrap_i64]; omega
  rw[ho1,ho2] at hR
  have HU1:=Zg (fun W=>HNUM.out o1 W (by omega))
  have HU2:=Zg (fun W=>HNUM.out o2 W (by omega))
  obtain⟨I,hI⟩: ∃ q,rdF f o1 8=q:=⟨_,rfl⟩
  obtain⟨C,hC⟩: ∃ q,rdF f o2 8=q:=⟨_,rfl⟩
  rw[hI] at HU1 hR
  rw[hC] at HU2 hR
  have ew1:=Zb3 I base
  have el1:=Zb4 I base
  have ewC:=Zb3 C base
  have elC:=Zb4 C base
  obtain⟨x,hx⟩: ∃ q,Zeg I base=q:=⟨_,rfl⟩
  obtain⟨D,hD⟩: ∃ q,Zeg C base=q:=⟨_,rfl⟩
  rw[hx] at ew1 el1 hR
  rw[hD] at ewC elC hR
  have HT1:=Zg (fun W=>HTH.out x 4 W el1 (by omega))
  clear c1 ho1 ho2 hI hC hx hD
  by_cases c2:x+4≤N
  ·rw[if_neg (fun h=>h c2)] at hR
   rw[decide_eq_true c2] at HT1
   have wx:IntKind.i64.wrap (x:Int)=(x:Int):=by rw[IntKind.wrap_i64]; omega
   have HR:=Zg hR
   clear c2 hR
   go_wp2_with fail
   refine(HIN.out _).mono ?_
   rintro e u ⟨rfl,rfl⟩
   go_wp2_with fail
   refine(HU1.out _).mono ?_
   rintro e u ⟨rfl,rfl⟩
   go_wp2_with fail
   refine(HU2.out _).mono ?_
   rintro e u ⟨rfl,rfl⟩
   go_wp2_with fail
   refine(HT1.out _).mono ?_
   rintro e u ⟨rfl,rfl⟩
   obtain⟨w2,hw2⟩: ∃ w2,w1.alloc (.cells #[.bool true,.int .i64 x,.slice none 0 0] 48)=w2:=⟨_,rfl⟩
   have HE2:=Zg hw2
   have hA:Below w1.heap.size w1 w2:=by rw[←hw2]; exact(Below.refl w1.heap.size w1).alloc (Nat.le_refl _) _
   replace HB:=Zg (HB.out.trans (hA.mono HB.out.size))
   replace H1:=Zg ((hA.block _ (Zi H1.out)).trans H1.out)
   replace H2:=Zg ((hA.block _ (Zi H2.out)).trans H2.out)
   have H3:=Zg (show w2.heap[w.heap.size+3]? =some (.cells #[.bool true,.int .i64 x,.slice none 0 0] 48 (0,0)) from by
    rw[←hw2]
    have h:=heap_alloc_new w1 (.cells #[.bool true,.int .i64 x,.slice none 0 0] 48)
    rwa [HS1.out] at h)
   have hs1:=HS1.out
   clear hw2 hA r0
   go_upto_region 11 with(fail)
   refine(congrArg _ HE2.out).mpr ?_
   go_wp2_with fail
   by_cases cC:C=0
   ·have dC:(C != 0)=false:=by rw[bne_eq_false_iff_eq]; exact cC
    have hre:=HR.out
    rw[if_pos cC] at hre
    simp only at hre
    subst hre
    subst cC
    clear ewC
    refine wp_loop_rounds 1 ?_
    rw[rounds_succ]
    have z0:w2.cell? ⟨w.heap.size+3,0,none⟩=some (.bool true):=by rw[Zh H3.out]; rfl
    have z1:w2.cell? ⟨w.heap.size+3,1,none⟩=some (.int .i64 x):=by rw[Zh H3.out]; rfl
    have z2:w2.cell? ⟨w.heap.size+3,2,none⟩=some (.slice none 0 0):=by rw[Zh H3.out]; rfl
    go_wp2_with (first|(refine wpList_store_row rfl 48 _ _ rfl (w.heap.size+1) #[.bool true,.int .i64 x,.slice none 0 0] rfl rfl 48 _ H1.out rfl rfl (by simp[Value.oneCell']) ?_)|fail)
    refine bodyPost_ret (v:= .tuple #[.agg #[.bool true,.int .i64 x,.slice none 0 0],.int .i64 0]) (Zj rfl _ _ (w.heap.size+1) 48 _ (0,0) _ _ rfl rfl (setRow_heap _ _ _ _ _ _ H1.out) rfl rfl rfl) rfl ⟨.inl ⟨true,(x:Int),[],none,0,rfl,rfl,?_⟩,below_setRow HB.out (by omega) _⟩
    exact ZR.nil _ _ _
   ·have dC:(C != 0)=true:=by rw[bne_iff_ne]; exact cC
    have hre:=HR.out
    rw[if_neg cC] at hre
    have HR:=Zg hre
    clear hre cC
    go_loopw [14] (fun v14 wr=> ∃(k n:Nat) (l:List Int) (A':Option Addr) (c':Nat),k+n=9∧l.length=k∧k≤8∧v14= .int .i64 k∧ZR Ws 1 wr (w.heap.size+4) 3 (.slice A' k c') l∧Below w.heap.size w wr∧wr.heap[w.heap.size+1]? =some (.cells #[.bool false,.int .i64 0,.slice none 0 0] 48 (0,0))∧wr.heap[w.heap.size+2]? =some (.cells #[.bool false,.int .i64 0,.slice none 0 0] 48 (0,0))∧wr.heap[w.heap.size+3]? =some (.cells #[.bool true,.int .i64 x,.slice A' k c'] 48 (0,0))∧(match Jg N f base D n l with|none=>none|some l=>some (true,(x:Int),l))=R) (fun v14 _=>9 - (intOf v14).toNat)
    case atStart=>exact⟨0,9,[],none,0,rfl,rfl,by omega,rfl,ZR.nil _ _ _,HB.out,H1.out,H2.out,H3.out,HR.out⟩
    case round =>
     obtain⟨k,n,l,A',c',hn,hl,hl8,rfl,hown,hbel,h1,h2,h3,hre⟩:=hrel
     replace HB:=Zg hbel
     replace H1:=Zg h1
     replace H2:=Zg h2
     replace H3:=Zg h3
     have HO:=Zg hown
     have HL:=Zg hl
     clear hbel h1 h2 h3 hown HR
     obtain⟨n,rfl⟩: ∃ q,n=q+1:=⟨n - 1,by omega⟩
     simp only[Jg] at hre
     rw[hl] at hre
     obtain⟨m8,hm8⟩: ∃ q,8 * k=q:=⟨_,rfl⟩
     rw[hm8] at hre
     have em:(8:Int) * (k:Int)=(m8:Int):=by omega
     have wm:IntKind.i64.wrap (m8:Int)=(m8:Int):=by rw[IntKind.wrap_i64]; omega
     obtain⟨m9,hm9⟩: ∃ q,m8+8=q:=⟨_,rfl⟩
     rw[hm9] at hre
     have em9:(m8:Int)+8=(m9:Int):=by omega
     have wm9:IntKind.i64.wrap (m9:Int)=(m9:Int):=by rw[IntKind.wrap_i64]; omega
     have HT:=Zg (fun W=>HTH.out D m9 W elC (by omega))
     clear hl
     by_cases c3:D+m9≤N
     ·rw[if_neg (fun h=>h c3)] at hre
      rw[decide_eq_true c3] at HT
      have wD:IntKind.i64.wrap (D:Int)=(D:Int):=by rw[IntKind.wrap_i64]; omega
      obtain⟨o,ho⟩: ∃ q,D+m8=q:=⟨_,rfl⟩
      rw[ho] at hre
      have eo:(D:Int)+(m8:Int)=(o:Int):=by omega
      have wo:IntKind.i64.wrap (o:Int)=(o:Int):=by rw[IntKind.wrap_i64]; omega
      have HUV:=Zg (fun W=>HNUM.out o W (by omega))
      obtain⟨v,hv⟩: ∃ q,rdF f o 8=q:=⟨_,rfl⟩
      rw[hv] at HUV hre
      have ewv:=Zb3 v base
      have elv:=Zb4 v base
      obtain⟨r,hr2⟩: ∃ q,Zeg v base=q:=⟨_,rfl⟩
      rw[hr2] at ewv elv hre
      have HTV:=Zg (fun W=>HTH.out r 1 W elv (by omega))
      clear c3 ho hv hr2 hm8 hm9
      by_cases c4:v=0
      ·rw[if_pos c4] at hre
       have d4:(v == 0)=true:=by rw[beq_iff_eq]; exact c4
       simp only at hre
       subst hre
       subst c4
       clear ewv
       go_wp2_with fail
       refine(HT.out _).mono ?_
       rintro e u ⟨rfl,rfl⟩
       go_wp2_with fail
       refine(HUV.out _).mono ?_
       rintro e u ⟨rfl,rfl⟩
       have z0:wr.cell? ⟨w.heap.size+3,0,none⟩=some (.bool true):=by rw[Zh H3.out]; rfl
       have z1:wr.cell? ⟨w.heap.size+3,1,none⟩=some (.int .i64 x):=by rw[Zh H3.out]; rfl
       have z2:wr.cell? ⟨w.heap.size+3,2,none⟩=some (.slice A' k c'):=by rw[Zh H3.out]; rfl
       go_wp2_with (first|(refine wpList_store_row rfl 48 _ _ rfl (w.heap.size+1) #[.bool true,.int .i64 x,.slice A' k c'] rfl rfl 48 _ H1.out rfl rfl (by simp[Value.oneCell']) ?_)|fail)
       refine bodyPost_ret (v:= .tuple #[.agg #[.bool true,.int .i64 x,.slice A' k c'],.int .i64 0]) (Zj rfl _ _ (w.heap.size+1) 48 _ (0,0) _ _ rfl rfl (setRow_heap _ _ _ _ _ _ H1.out) rfl rfl rfl) rfl ⟨.inl ⟨true,(x:Int),l,A',c',rfl,by rw[HL.out],?_⟩,below_setRow HB.out (by omega) _⟩
       exact by rw[HL.out]; exact Joins.ownsRow_le (XC HO.out (by omega) _) (by omega)
      ·rw[if_neg c4] at hre
       have d4:(v == 0)=false:=beq_eq_false_iff_ne.mpr c4
       clear c4
       by_cases c5:8≤k
       ·rw[if_pos (.inl c5)] at hre
        have d5:(8:Int)≤(k:Int):=by omega
        simp only at hre
        subst hre
        clear c5
        go_wp2_with fail
        refine(HT.out _).mono ?_
        rintro e u ⟨rfl,rfl⟩
        go_wp2_with fail
        refine(HUV.out _).mono ?_
        rintro e u ⟨rfl,rfl⟩
        have z0:wr.cell? ⟨w.heap.size+2,0,none⟩=some (.bool false):=by rw[Zh H2.out]; rfl
        have z1:wr.cell? ⟨w.heap.size+2,1,none⟩=some (.int .i64 0):=by rw[Zh H2.out]; rfl
        have z2:wr.cell? ⟨w.heap.size+2,2,none⟩=some (.slice none 0 0):=by rw[Zh H2.out]; rfl
        go_wp2_with (first|(refine wpList_store_row rfl 48 _ _ rfl (w.heap.size+1) #[.bool false,.int .i64 0,.slice none 0 0] rfl rfl 48 _ H1.out rfl rfl (by simp[Value.oneCell']) ?_)|fail)
        exact bodyPost_ret (v:= .tuple #[.agg #[.bool false,.int .i64 0,.slice none 0 0],.int .i64 12]) (Zj rfl _ _ (w.heap.size+1) 48 _ (0,0) _ _ rfl rfl (setRow_heap _ _ _ _ _ _ H1.out) rfl rfl rfl) rfl ⟨.inr ⟨rfl,rfl⟩,below_setRow HB.out (by omega) _⟩
       ·have d5: ¬ (8:Int)≤(k:Int):=by omega
        have hk8:k<8:=by omega
        by_cases c6:r+1≤N
        ·rw[if_neg (fun h=>h.elim c5 (fun h=>h c6))] at hre
         rw[decide_eq_true c6] at HTV
         have wr2:IntKind.i64.wrap (r:Int)=(r:Int):=by rw[IntKind.wrap_i64]; omega
         have HRE2:=Zg hre
         clear c5 c6 hre
         have e3:wr.cell? ⟨w.heap.size+3,2,none⟩=some (.slice A' k c'):=by rw[Zh H3.out]; rfl
         go_wp2_with fail
         refine(HT.out _).mono ?_
         rintro e u ⟨rfl,rfl⟩
         go_wp2_with fail
         refine(HUV.out _).mono ?_
         rintro e u ⟨rfl,rfl⟩
         go_wp2_with fail
         refine(HTV.out _).mono ?_
         rintro e u ⟨rfl,rfl⟩
         have HA1:=Zg (HO.out.alloc (.cells #[.int .i64 r] 3))
         have HO3:=Zg (heap_alloc_new wr (.cells #[.int .i64 r] 3))
         have HY1:=Zg (show ∀ j u,(Ws (r:Int))[j]? =some u→(wr.alloc (.cells #[.int .i64 r] 3)).cell? ⟨wr.heap.size,j,none⟩=some u from fun j u hu=>by
          rw[Zh HO3.out]
          rcases j with _|j
          ·simpa [Ws] using hu
          ·simp[Ws] at hu)
         have HB8:=Zg (HB.out.alloc HB.out.size (.cells #[.int .i64 r] 3))
         have H18:=Zg (show(wr.alloc (.cells #[.int .i64 r] 3)).heap[w.heap.size+1]? =_ from(Below.heap_alloc _ _ _ (Zi H1.out)).trans H1.out)
         have H28:=Zg (show(wr.alloc (.cells #[.int .i64 r] 3)).heap[w.heap.size+2]? =_ from(Below.heap_alloc _ _ _ (Zi H2.out)).trans H2.out)
         have H38:=Zg (show(wr.alloc (.cells #[.int .i64 r] 3)).heap[w.heap.size+3]? =_ from(Below.heap_alloc _ _ _ (Zi H3.out)).trans H3.out)
         have HG3:=Zg (show w.heap.size+4≤(wr.alloc (.cells #[.int .i64 r] 3)).heap.size from Zi H38.out)
         have HG4:=Zg (show l.length+1≤maxLen from by rw[HL.out]; unfold maxLen; omega)
         have HG5:=Zg (show(l.length+1) * 8≤140737488355328 from by rw[HL.out]; omega)
         go_wp2_with (first
          | (at_builtin; refine Zv rfl (.tmp 97) (.tmp 102) 22 rfl (w.heap.size+4) 3 (.int .i64 0) 8 (by kernel_rfl) Zbg rfl (by omega) VJ Qf _ l rfl HA1.out wr.heap.size 1 rfl (r:Int) HY1.out HG4.out HG5.out HG3.out ?_; intro g5 cap5 w8 hown5 hg5 hat5
             have HG6:=Zg hg5
             have HN8:=Zg hown5
             have H39:=Zg ((hg5.block (w.heap.size+3) (Zi H38.out) (fun h=>by have:=(HA1.out.lt _ h.symm).1; omega)).trans H38.out)
             have hc8:w8.cell? ⟨w.heap.size+3,2,none⟩=some (.slice A' k c'):=by rw[Zh H39.out]; rfl
             have hf8:w8.frozen? ⟨w.heap.size+3,2,none⟩=false:=frozen_of_row _ _ _ _ _ H39.out
             clear hat5 hg5 hown5)
          | fail)
         have HB9:=Zg (HA1.out.grew HB8.out (by omega) HB8.out.size HG6.out)
         have H19:=Zg ((HG6.out.block (w.heap.size+1) (Zi H18.out) (fun h=>by have:=(HA1.out.lt _ h.symm).1; omega)).trans H18.out)
         have H29:=Zg ((HG6.out.block (w.heap.size+2) (Zi H28.out) (fun h=>by have:=(HA1.out.lt _ h.symm).1; omega)).trans H28.out)
         go_roundw
         case rel=>exact⟨k+1,n,l++[(r:Int)],_,cap5,by omega,by simp[HL.out],by omega,by first|rfl|go_num,by rw[←HL.out]; simpa using Zy HN8.out (by simp) _,HB9.out.setCell (p:=⟨w.heap.size+3,2,none⟩) (Nat.le_add_right _ _) _,(heap_setCell_other w8 _ _ _ (by simp)).trans H19.out,(heap_setCell_other w8 _ _ _ (by simp)).trans H29.out,(by rw[←HL.out]; simpa using heap_setCell_same w8 (w.heap.size+3) 2 _ _ _ H39.out),HRE2.out⟩
         case measure=>simp[intOf]; omega
        ·rw[if_pos (.inr c6)] at hre
         rw[decide_eq_false c6] at HTV
         simp only at hre
         subst hre
         clear c5 c6
         go_wp2_with fail
         refine(HT.out _).mono ?_
         rintro e u ⟨rfl,rfl⟩
         go_wp2_with fail
         refine(HUV.out _).mono ?_
         rintro e u ⟨rfl,rfl⟩
         go_wp2_with fail
         refine(HTV.out _).mono ?_
         rintro e u ⟨rfl,rfl⟩
         have z0:wr.cell? ⟨w.heap.size+2,0,none⟩=some (.bool false):=by rw[Zh H2.out]; rfl
         have z1:wr.cell? ⟨w.heap.size+2,1,none⟩=some (.int .i64 0):=by rw[Zh H2.out]; rfl
         have z2:wr.cell? ⟨w.heap.size+2,2,none⟩=some (.slice none 0 0):=by rw[Zh H2.out]; rfl
         go_wp2_with (first|(refine wpList_store_row rfl 48 _ _ rfl (w.heap.size+1) #[.bool false,.int .i64 0,.slice none 0 0] rfl rfl 48 _ H1.out rfl rfl (by simp[Value.oneCell']) ?_)|fail)
         exact bodyPost_ret (v:= .tuple #[.agg #[.bool false,.int .i64 0,.slice none 0 0],.int .i64 12]) (Zj rfl _ _ (w.heap.size+1) 48 _ (0,0) _ _ rfl rfl (setRow_heap _ _ _ _ _ _ H1.out) rfl rfl rfl) rfl ⟨.inr ⟨rfl,rfl⟩,below_setRow HB.out (by omega) _⟩
     ·rw[if_pos c3] at hre
      rw[decide_eq_false c3] at HT
      simp only at hre
      subst hre
      clear c3
      go_wp2_with fail
      refine(HT.out _).mono ?_
      rintro e u ⟨rfl,rfl⟩
      have z0:wr.cell? ⟨w.heap.size+2,0,none⟩=some (.bool false):=by rw[Zh H2.out]; rfl
      have z1:wr.cell? ⟨w.heap.size+2,1,none⟩=some (.int .i64 0):=by rw[Zh H2.out]; rfl
      have z2:wr.cell? ⟨w.heap.size+2,2,none⟩=some (.slice none 0 0):=by rw[Zh H2.out]; rfl
      go_wp2_with (first|(refine wpList_store_row rfl 48 _ _ rfl (w.heap.size+1) #[.bool false,.int .i64 0,.slice none 0 0] rfl rfl 48 _ H1.out rfl rfl (by simp[Value.oneCell']) ?_)|fail)
      exact bodyPost_ret (v:= .tuple #[.agg #[.bool false,.int .i64 0,.slice none 0 0],.int .i64 12]) (Zj rfl _ _ (w.heap.size+1) 48 _ (0,0) _ _ rfl rfl (setRow_heap _ _ _ _ _ _ H1.out) rfl rfl rfl) rfl ⟨.inr ⟨rfl,rfl⟩,below_setRow HB.out (by omega) _⟩
  ·rw[if_pos c2] at hR
   rw[decide_eq_false c2] at HT1
   subst hR
   clear c2
   go_wp2_with fail
   refine(HIN.out _).mono ?_
   rintro e u ⟨rfl,rfl⟩
   go_wp2_with fail
   refine(HU1.out _).mono ?_
   rintro e u ⟨rfl,rfl⟩
   go_wp2_with fail
   refine(HU2.out _).mono ?_
   rintro e u ⟨rfl,rfl⟩
   go_wp2_with fail
   refine(HT1.out _).mono ?_
   rintro e u ⟨rfl,rfl⟩
   have z0:w1.cell? ⟨w.heap.size+2,0,none⟩=some (.bool false):=by rw[Zh H2.out]; rfl
   have z1:w1.cell? ⟨w.heap.size+2,1,none⟩=some (.int .i64 0):=by rw[Zh H2.out]; rfl
   have z2:w1.cell? ⟨w.heap.size+2,2,none⟩=some (.slice none 0 0):=by rw[Zh H2.out]; rfl
   go_wp2_with (first|(refine wpList_store_row rfl 48 _ _ rfl (w.heap.size+1) #[.bool false,.int .i64 0,.slice none 0 0] rfl rfl 48 _ H1.out rfl rfl (by simp[Value.oneCell']) ?_)|fail)
   exact bodyPost_ret (v:= .tuple #[.agg #[.bool false,.int .i64 0,.slice none 0 0],.int .i64 12]) (Zj rfl _ _ (w.heap.size+1) 48 _ (0,0) _ _ rfl rfl (setRow_heap _ _ _ _ _ _ H1.out) rfl rfl rfl) rfl ⟨.inr ⟨rfl,rfl⟩,below_setRow HB.out (by omega) _⟩
 ·rw[if_pos c1] at hR
  rw[decide_eq_false c1] at HIN
  subst hR
  clear c1
  go_wp2_with fail
  refine(HIN.out _).mono ?_
  rintro e u ⟨rfl,rfl⟩
  have z0:w1.cell? ⟨w.heap.size+2,0,none⟩=some (.bool false):=by rw[Zh H2.out]; rfl
  have z1:w1.cell? ⟨w.heap.size+2,1,none⟩=some (.int .i64 0):=by rw[Zh H2.out]; rfl
  have z2:w1.cell? ⟨w.heap.size+2,2,none⟩=some (.slice none 0 0):=by rw[Zh H2.out]; rfl
  go_wp2_with (first|(refine wpList_store_row rfl 48 _ _ rfl (w.heap.size+1) #[.bool false,.int .i64 0,.slice none 0 0] rfl rfl 48 _ H1.out rfl rfl (by simp[Value.oneCell']) ?_)|fail)
  exact bodyPost_ret (v:= .tuple #[.agg #[.bool false,.int .i64 0,.slice none 0 0],.int .i64 12]) (Zj rfl _ _ (w.heap.size+1) 48 _ (0,0) _ _ rfl rfl (setRow_heap _ _ _ _ _ _ H1.out) rfl rfl rfl) rfl ⟨.inr ⟨rfl,rfl⟩,below_setRow HB.out (by omega) _⟩
def TlsEq (t t':Bool) (x x':Int) (l l':List Int):Prop:=t=t'∧x=x'∧l.map Ws=l'.map Ws
set_option maxHeartbeats 2000000 in
theorem Zay (t t':Bool) (x x':Int) (l l':List Int) (A A':Option Addr) (c c':Nat) (w:World) (h:SlT Ws 1 w A l) (h':SlT Ws 1 w A' l') (hn:l.length≤1000000) (hn':l'.length≤1000000) :
 Calls Tryz.prog 48 #[.agg #[.bool t,.int .i64 x,.slice A l.length c],.agg #[.bool t',.int .i64 x',.slice A' l'.length c']] w fun e u=>VL (TlsEq t t' x x' l l') e∧Below w.heap.size w u:=by
 classical
 have HB1:=Zg (((Below.refl w.heap.size w).alloc (Nat.le_refl _) (.cells #[.bool t,.int .i64 x,.slice A l.length c] 48)).alloc (by simp) (.cells #[.bool t',.int .i64 x',.slice A' l'.length c'] 48))
 have HI:=Zg (fun W (hW:Below w.heap.size w W)=>Zfl Ws (fun y=>y) (fun _=>rfl) A A' l l' c c' W (h.below hW) (h'.below hW) hn hn' (decide (l.map Ws=l'.map Ws)) decide_eq_true_iff)
 clear h h' hn hn'
 by_cases c0:t=t'
 ·by_cases c1:x=x'
  ·subst c0 c1
   have d0:(t == t)=true:=by simp
   have d1:(x == x)=true:=by simp
   go_enter Tryz.func48,Tryz.ntmps48
   go_wp2_with fail
   refine(HI.out _ HB1.out).mono ?_
   rintro e u ⟨rfl,hb⟩
   have HB2:=Zg (HB1.out.trans (hb.mono HB1.out.size))
   clear hb
   obtain⟨b,hbq⟩: ∃ q,decide (l.map Ws=l'.map Ws)=q:=⟨_,rfl⟩
   rw[hbq]
   have HQ:=Zg (show b=true↔TlsEq t t x x l l' from by rw[←hbq,decide_eq_true_iff]; exact⟨fun k=>⟨rfl,rfl,k⟩,fun k=>k.2.2⟩)
   clear hbq
   go_wp2_with fail
   go_ret
   exact⟨.of HQ.out,HB2.out⟩
  ·have HN:=Zg c1
   have d0:(t == t')=true:=by rw[beq_iff_eq]; exact c0
   have d1:(x == x')=false:=beq_eq_false_iff_ne.2 c1
   subst c0
   clear c1
   go_enter Tryz.func48,Tryz.ntmps48
   go_wp2_with fail
   go_ret
   exact⟨.no fun k=>HN.out k.2.1,HB1.out⟩
 ·have HN:=Zg c0
  have d0:(t == t')=false:=beq_eq_false_iff_ne.2 c0
  clear c0
  go_enter Tryz.func48,Tryz.ntmps48
  go_wp2_with fail
  go_ret
  exact⟨.no fun k=>HN.out k.1,HB1.out⟩
def ExpEq (b b':Int) (fs fs':List FnV) (ns ns':List NmV):Prop:=b=b'∧fs.map gC=fs'.map gC∧ns.map nC=ns'.map nC
set_option maxHeartbeats 4000000 in
theorem Zaz (b b':Int) (fs fs':List FnV) (ns ns':List NmV) (F F' N N':Option Addr) (fc fc' nc nc':Nat) (w:World) (hF:SlT gC 2 w F fs) (hF':SlT gC 2 w F' fs') (hN:SlT nC 2 w N ns) (hN':SlT nC 2 w N' ns') (hfl:fs.length≤1000000) (hfl':fs'.length≤1000000) (hnl:ns.length≤1000000) (hnl':ns'.length≤1000000) :
 Calls Tryz.prog 44 #[.agg #[.int .i64 b,.slice F fs.length fc,.slice N ns.length nc],.agg #[.int .i64 b',.slice F' fs'.length fc',.slice N' ns'.length nc']] w fun e u=>VL (ExpEq b b' fs fs' ns ns') e∧Below w.heap.size w u:=by
 have HF:=Zg hF
 have HF':=Zg hF'
 have HN:=Zg hN
 have HN':=Zg hN'
 have HLN:=Zg (And.intro (And.intro hfl hfl') (And.intro hnl hnl'))
 obtain⟨w1,hw1⟩: ∃ w1,(w.alloc (.cells #[.int .i64 b,.slice F fs.length fc,.slice N ns.length nc] 45)).alloc (.cells #[.int .i64 b',.slice F' fs'.length fc',.slice N' ns'.length nc'] 45)=w1:=⟨_,rfl⟩
 have HE1:=Zg hw1
 have HB1:=Zg (show Below w.heap.size w w1 from by rw[←hw1]; exact((Below.refl w.heap.size w).alloc (Nat.le_refl _) _).alloc (by simp) _)
 have HG0:=Zg (show w1.heap[w.heap.size]? =some (.cells #[.int .i64 b,.slice F fs.length fc,.slice N ns.length nc] 45 (0,0)) from by rw[←hw1]; exact heap_alloc2_old w _ _)
 have HG1:=Zg (show w1.heap[w.heap.size+1]? =some (.cells #[.int .i64 b',.slice F' fs'.length fc',.slice N' ns'.length nc'] 45 (0,0)) from by rw[←hw1]; exact heap_alloc2_new w _ _)
 have HC:=Zg (fun W (hW:Below w1.heap.size w1 W)=>show(W.cell? ⟨w.heap.size,1,none⟩=some (.slice F fs.length fc)∧W.cell? ⟨w.heap.size,2,none⟩=some (.slice N ns.length nc))∧W.cell? ⟨w.heap.size+1,1,none⟩=some (.slice F' fs'.length fc')∧W.cell? ⟨w.heap.size+1,2,none⟩=some (.slice N' ns'.length nc') from by
  have h0:=(hW.block _ (Zi HG0.out)).trans HG0.out
  have h1:=(hW.block _ (Zi HG1.out)).trans HG1.out
  exact⟨⟨by rw[Zh h0]; rfl,by rw[Zh h0]; rfl⟩,by rw[Zh h1]; rfl,by rw[Zh h1]; rfl⟩)
 have r0:w1.cell? ⟨w.heap.size,0,none⟩=some (.int .i64 b):=by rw[Zh HG0.out]; rfl
 have r0':w1.cell? ⟨w.heap.size+1,0,none⟩=some (.int .i64 b'):=by rw[Zh HG1.out]; rfl
 obtain⟨⟨k1,k2⟩,k1',k2'⟩:=HC.out w1 (Below.refl _ _)
 clear hw1 hF hF' hN hN' hfl hfl' hnl hnl'
 go_enter Tryz.func44,Tryz.ntmps44
 go_upto_region 1 with(fail)
 refine(congrArg _ HE1.out).mpr ?_
 by_cases cb:b=b'
 rotate_left 1
 ·have n0:(b != b')=true:=bne_iff_ne.2 cb
  have m0:(b == b')=false:=beq_eq_false_iff_ne.2 cb
  have HQ:=Zg cb
  clear cb
  go_wp2_with fail
  go_ret
  exact⟨.no fun k=>HQ.out k.1,HB1.out⟩
 have n0:(b != b')=false:=bne_eq_false_iff_eq.2 cb
 have m0:(b == b')=true:=beq_iff_eq.2 cb
 have HQB:=Zg cb
 clear cb
 by_cases cf:fs.length=fs'.length
 rotate_left 1
 ·have n1:((fs.length:Int) != (fs'.length:Int))=true:=by rw[bne_iff_ne]; omega
  have HQ:=Zg cf
  clear cf
  go_wp2_with fail
  go_ret
  exact⟨.no fun k=>HQ.out (by have:=congrArg List.length k.2.1; simpa using this),HB1.out⟩
 have n1:((fs.length:Int) != (fs'.length:Int))=false:=by rw[bne_eq_false_iff_eq]; omega
 have HLF:=Zg cf
 clear cf
 by_cases cn:ns.length=ns'.length
 rotate_left 1
 ·have n2:((ns.length:Int) != (ns'.length:Int))=true:=by rw[bne_iff_ne]; omega
  have HQ:=Zg cn
  clear cn
  go_wp2_with fail
  go_ret
  exact⟨.no fun k=>HQ.out (by have:=congrArg List.length k.2.2; simpa using this),HB1.out⟩
 have n2:((ns.length:Int) != (ns'.length:Int))=false:=by rw[bne_eq_false_iff_eq]; omega
 have HLN2:=Zg cn
 clear cn
 go_wp2_with fail
 clear r0 r0' k1 k1' k2 k2' n0 n1 n2 m0
 go_loopw [5] (fun v5 wr=> ∃ i:Nat,i≤fs.length∧v5= .int .i64 i∧(∀(j:Nat) (h1:j<fs.length) (h2:j<fs'.length),j<i→gC fs[j]=gC fs'[j])∧Below w1.heap.size w1 wr) (fun v5 _=>fs.length - (intOf v5).toNat)
 case atStart=>exact⟨0,by omega,rfl,fun j _ _ h=>by omega,Below.refl _ _⟩
 case round =>
  obtain⟨i,hi,rfl,hall,hbw⟩:=hrel
  have HALL5:=Zg hall
  have HB5:=Zg hbw
  obtain⟨⟨k1,k2⟩,k1',k2'⟩:=HC.out wr hbw
  have HBW:=Zg (HB1.out.trans (hbw.mono HB1.out.size))
  clear hall hbw
  have hnn:=HLN.out.1.1
  by_cases hlt:i<fs.length
  ·have hlt':(i:Int)<fs.length:=by omega
   have hlt2:i<fs'.length:=by have:=HLF.out; omega
   have hlt2':(i:Int)<fs'.length:=by omega
   obtain⟨bb,o,rfl,_,hc⟩: ∃ b o,F=some ⟨b,o,none⟩∧b<wr.heap.size∧ ∀(i:Nat) (hi:i<fs.length) (j:Nat) (v:Value),(gC fs[i])[j]? =some v→wr.cell? ⟨b,o+(i * 2+j),none⟩=some v:=by
    rcases HF.out.below HBW.out with h|h
    ·rw[h] at hlt; simp at hlt
    ·exact h
   obtain⟨bb',o',rfl,_,hc'⟩: ∃ b o,F'=some ⟨b,o,none⟩∧b<wr.heap.size∧ ∀(i:Nat) (hi:i<fs'.length) (j:Nat) (v:Value),(gC fs'[i])[j]? =some v→wr.cell? ⟨b,o+(i * 2+j),none⟩=some v:=by
    rcases HF'.out.below HBW.out with h|h
    ·rw[h] at hlt2; simp at hlt2
    ·exact h
   obtain⟨y,hy⟩: ∃ y,fs[i]=y:=⟨_,rfl⟩
   obtain⟨z,hz⟩: ∃ y,fs'[i]=y:=⟨_,rfl⟩
   have d0:=hc i hlt 0 (.int .i64 y.1) (by rw[hy]; rfl)
   have d1:=hc i hlt 1 (.string (txt y.2)) (by rw[hy]; rfl)
   have e0:=hc' i hlt2 0 (.int .i64 z.1) (by rw[hz]; rfl)
   have e1:=hc' i hlt2 1 (.string (txt z.2)) (by rw[hz]; rfl)
   rw[show o+(i * 2+0)=o+i * 2 by omega] at d0
   rw[show o+(i * 2+1)=o+i * 2+1 by omega] at d1
   rw[show o'+(i * 2+0)=o'+i * 2 by omega] at e0
   rw[show o'+(i * 2+1)=o'+i * 2+1 by omega] at e1
   obtain⟨r,hes,hr⟩:=Zb5 y.1 z.1 (txt y.2) (txt z.2)
   have HCC:=Zg (show gC fs[i]=gC fs'[i]↔r=true from by rw[hy,hz,hr]; simp[gC])
   clear hc hc' hr hy hz
   rcases r with _|_
   ·go_wp2_with fail
    go_region
    go_wp2_with fail
    go_ret
    exact⟨.no fun k=>by
     have h2:=congrArg (fun L=>L[i]?) k.2.1
     simp only[List.getElem?_map,List.getElem?_eq_getElem hlt,List.getElem?_eq_getElem hlt2,Option.map_some,Option.some.injEq] at h2
     have h3:=HCC.out.1 h2
     simp at h3,HBW.out.drew⟩
   ·have HNX:=Zg (show ∀(j:Nat) (h1:j<fs.length) (h2:j<fs'.length),j<i+1→gC fs[j]=gC fs'[j] from fun j h1 h2 h3=>(by
     rcases(by omega:j<i∨j=i) with h4|h4
     ·exact HALL5.out j h1 h2 h4
     ·subst h4; exact HCC.out.2 rfl))
    go_wp2_with fail
    go_region
    go_wp2_with fail
    go_roundw
    case rel=>exact⟨i+1,by omega,by go_num,HNX.out,HB5.out.drew⟩
    case measure=>simp[intOf]; omega
  ·obtain rfl:i=fs.length:=by omega
   have HM5:=Zg (show fs.map gC=fs'.map gC from by
    apply List.ext_getElem
    ·simp[HLF.out]
    ·intro j h1 h2
     simp only[List.length_map] at h1 h2
     simp only[List.getElem_map]
     exact HALL5.out j h1 h2 h1)
   have hN5: ¬ (fs.length:Int)<(fs.length:Int):=by omega
   go_wp2_with fail
   clear k1 k2 k1' k2' hN5 HALL5
   go_loopw [6] (fun v6 wr=> ∃ i:Nat,i≤ns.length∧v6= .int .i64 i∧(∀(j:Nat) (h1:j<ns.length) (h2:j<ns'.length),j<i→nC ns[j]=nC ns'[j])∧Below w1.heap.size w1 wr) (fun v6 _=>ns.length - (intOf v6).toNat)
   case atStart=>exact⟨0,by omega,rfl,fun j _ _ h=>by omega,HB5.out⟩
   case round =>
    obtain⟨i,hi,rfl,hall,hbw⟩:=hrel
    have HALL6:=Zg hall
    have HB6:=Zg hbw
    obtain⟨⟨k1,k2⟩,k1',k2'⟩:=HC.out wr hbw
    have HBW:=Zg (HB1.out.trans (hbw.mono HB1.out.size))
    clear hall hbw
    have hnn:=HLN.out.2.1
    by_cases hlt:i<ns.length
    ·have hlt':(i:Int)<ns.length:=by omega
     have hlt2:i<ns'.length:=by have:=HLN2.out; omega
     have hlt2':(i:Int)<ns'.length:=by omega
     obtain⟨bb,o,rfl,_,hc⟩: ∃ b o,N=some ⟨b,o,none⟩∧b<wr.heap.size∧ ∀(i:Nat) (hi:i<ns.length) (j:Nat) (v:Value),(nC ns[i])[j]? =some v→wr.cell? ⟨b,o+(i * 2+j),none⟩=some v:=by
      rcases HN.out.below HBW.out with h|h
      ·rw[h] at hlt; simp at hlt
      ·exact h
     obtain⟨bb',o',rfl,_,hc'⟩: ∃ b o,N'=some ⟨b,o,none⟩∧b<wr.heap.size∧ ∀(i:Nat) (hi:i<ns'.length) (j:Nat) (v:Value),(nC ns'[i])[j]? =some v→wr.cell? ⟨b,o+(i * 2+j),none⟩=some v:=by
      rcases HN'.out.below HBW.out with h|h
      ·rw[h] at hlt2; simp at hlt2
      ·exact h
     obtain⟨y,hy⟩: ∃ y,ns[i]=y:=⟨_,rfl⟩
     obtain⟨z,hz⟩: ∃ y,ns'[i]=y:=⟨_,rfl⟩
     have d0:=hc i hlt 0 (.string (txt y.1)) (by rw[hy]; rfl)
     have d1:=hc i hlt 1 (.int .i64 y.2) (by rw[hy]; rfl)
     have e0:=hc' i hlt2 0 (.string (txt z.1)) (by rw[hz]; rfl)
     have e1:=hc' i hlt2 1 (.int .i64 z.2) (by rw[hz]; rfl)
     rw[show o+(i * 2+0)=o+i * 2 by omega] at d0
     rw[show o+(i * 2+1)=o+i * 2+1 by omega] at d1
     rw[show o'+(i * 2+0)=o'+i * 2 by omega] at e0
     rw[show o'+(i * 2+1)=o'+i * 2+1 by omega] at e1
     obtain⟨r,hes,hr⟩:=QC (txt y.1) (txt z.1) y.2 z.2
     have HCC:=Zg (show nC ns[i]=nC ns'[i]↔r=true from by rw[hy,hz,hr]; simp[nC])
     clear hc hc' hr hy hz
     rcases r with _|_
     ·go_wp2_with fail
      go_region
      go_wp2_with fail
      go_ret
      exact⟨.no fun k=>by
       have h2:=congrArg (fun L=>L[i]?) k.2.2
       simp only[List.getElem?_map,List.getElem?_eq_getElem hlt,List.getElem?_eq_getElem hlt2,Option.map_some,Option.some.injEq] at h2
       have h3:=HCC.out.1 h2
       simp at h3,HBW.out.drew⟩
     ·have HNX:=Zg (show ∀(j:Nat) (h1:j<ns.length) (h2:j<ns'.length),j<i+1→nC ns[j]=nC ns'[j] from fun j h1 h2 h3=>(by
       rcases(by omega:j<i∨j=i) with h4|h4
       ·exact HALL6.out j h1 h2 h4
       ·subst h4; exact HCC.out.2 rfl))
      go_wp2_with fail
      go_region
      go_wp2_with fail
      go_roundw
      case rel=>exact⟨i+1,by omega,by go_num,HNX.out,HB6.out.drew⟩
      case measure=>simp[intOf]; omega
    ·obtain rfl:i=ns.length:=by omega
     have HM6:=Zg (show ns.map nC=ns'.map nC from by
      apply List.ext_getElem
      ·simp[HLN2.out]
      ·intro j h1 h2
       simp only[List.length_map] at h1 h2
       simp only[List.getElem_map]
       exact HALL6.out j h1 h2 h1)
     have hN6: ¬ (ns.length:Int)<(ns.length:Int):=by omega
     go_wp2_with fail
     go_ret
     exact⟨.yes ⟨HQB.out,HM5.out,HM6.out⟩,HBW.out⟩
end Go.Proofs.YtplgdpjbkdagfaaGreat
