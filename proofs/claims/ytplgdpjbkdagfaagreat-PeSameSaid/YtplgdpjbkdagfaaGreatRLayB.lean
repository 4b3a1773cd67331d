import Derived.Test.YtplgdpjbkdagfaaGreatRLay
import Derived.Test.YtplgdpjbkdagfaaGreatZMd
import Derived.Test.YtplgdpjbkdagfaaGreatZStoreRow
namespace Go.Proofs.YtplgdpjbkdagfaaGreat
open List renaming getElem?_toArray→Za, getElem?_cons_succ→Zb, getElem?_cons_zero→Zc, setIfInBounds_toArray→Zd, set_cons_zero→Ze, set_cons_succ→Zf
open Lib renaming hid→Zg
open Go.ChangeShapes Go.WideShapes Go.ChangeAt Go.RowKit
set_option linter.unusedVariables false
set_option linter.unusedSimpArgs false
set_option maxRecDepth 100000
def layR (N:Nat) (F:Nat→Int) (nb:Nat) (f:Nat→Int) (r k n:Nat):Nat→Int:=ovF f (fun q=>F (k+q)) r (Jq nb k n) N
def Zfa (N:Nat) (F:Nat→Int) (nb:Nat):List Zr→(Nat→Int)→(Nat→Int)
 | [],f=>f
 | s::l,f=>Zfa N F nb l (layR N F nb f s.rva.toNat s.spot.toNat s.raw.toNat)
def imgR (N:Nat) (F:Nat→Int) (nb hd:Nat) (l:List Zr):Nat→Int:=Zfa N F nb l (layR N F nb (fun _=>0) 0 0 hd)
theorem Zcs {nb k n:Nat} (h:nb≤1000000):Jq nb k n≤1000000:=by unfold Jq; split <;> omega
set_option maxHeartbeats 4000000 in
theorem Zhl (cs:Array Value) (h:ZO) (A:Option Addr) (c:Nat) (l:List Zr) (nb:Nat) (F:Nat→Int) (N hd:Nat) (w:World) (hv:YR cs h (.slice A l.length c)) (hs:SlT Zr.cells 6 w A l) (hbd: ∀ s∈l,JS s) (hlen:l.length≤16)
 (hN:h.size=N) (hN2:N≤262144) (hhd:h.headers=hd) (hd1:hd<4294967296) (hnb:nb≤1000000) :
 Calls Tryz.prog 37 #[.agg cs,.string (ZB F 0 nb)] w fun e u=>e= .returned (.string (ZB (imgR N F nb hd l) 0 N))∧Below w.heap.size w u:=by
 have HSL:=Zg hs
 have HBD:=Zg hbd
 obtain⟨w1,hw1⟩: ∃ w1,w.alloc (.cells cs 41)=w1:=⟨_,rfl⟩
 have HE1:=Zg hw1
 have HB1:=Zg (show Below w.heap.size w w1 from by rw[←hw1]; exact(Below.refl _ _).alloc (Nat.le_refl _) _)
 have HX1:=Zg (show w1.heap[w.heap.size]? =some (.cells cs 41 (0,0)) from by rw[←hw1]; exact heap_alloc_new w _)
 have c4:=hv.c4
 have c5:=hv.c5
 have c38:=hv.c38
 rw[hN] at c4
 rw[hhd] at c5
 have HC:=Zg (fun W (hW:Below w1.heap.size w1 W) (j:Nat) (v:Value) (hj:cs[j]? =some v)=>show W.cell? ⟨w.heap.size,j,none⟩=some v from by rw[Zh ((hW.block _ (Zi HX1.out)).trans HX1.out)]; exact hj)
 have HC4:=Zg c4
 have HC5:=Zg c5
 have HC38:=Zg c38
 obtain⟨IM,hIM⟩: ∃ IM,imgR N F nb hd l=IM:=⟨_,rfl⟩
 have HIM:=Zg (show Zfa N F nb l (layR N F nb (fun _=>0) 0 0 hd)=IM from hIM)
 rw[hIM]
 have n0:decide ((N:Int)<0)=false:=decide_eq_false (by omega)
 have n1:decide ((262144:Int)<(N:Int))=false:=decide_eq_false (by omega)
 have q4:=HC.out w1 (Below.refl _ _) 4 _ HC4.out
 have HMK:=Zg (fun W=>run_make_row' (P:=Tryz.prog) 25 5 (.int .u8 0) 1 Tryz.underlying25 Wl rfl .i64 .i64 N (by omega) (by omega) W)
 have HPT:=Zg (fun W=>Zao nb 0 hd F W hnb (by omega) (by omega))
 clear hv hs hbd hw1 hIM c4 c5 c38
 go_enter Tryz.func37,Tryz.ntmps37
 go_upto_region 1 with(fail)
 refine(congrArg _ HE1.out).mpr ?_
 go_upto_region 3 with(fail)
 clear q4 n0 n1
 have HS:=Zg (show Below w1.heap.size w1 w1.drew from(Below.refl _ _).drew)
 refine wp_region_noPanic ?_
 refine Zw (fun W=>Below w1.heap.size w1 W) (fun _=>True) 99 (by kernel_rfl) ?_
 refine wT (i:=0) (oi:= ?_) (v:= ?_) ?_ ?_ HS.out ?_
 rotate_left 2
 ·(simp only[Za,Zb,Zc]; rfl)
 ·(first|exact Or.inr ⟨by rfl,rfl⟩|(refine Or.inl ⟨by rfl,?_⟩; intro W hSw; clear hSw; go_simp; try with_reducible rfl))
 try simp only[Act.put,Zd,Ze,Zf]
 refine wT (i:=1) (oi:= ?_) (v:= ?_) ?_ ?_ HS.out ?_
 rotate_left 2
 ·(simp only[Za,Zb,Zc]; rfl)
 ·(first|exact Or.inr ⟨by rfl,rfl⟩|(refine Or.inl ⟨by rfl,?_⟩; intro W hSw; have hq0:=HC.out W hSw 4 _ HC4.out; clear hSw; go_simp; try with_reducible rfl))
 try simp only[Act.put,Zd,Ze,Zf]
 refine wT (i:=4) (oi:= ?_) (v:= ?_) ?_ ?_ HS.out ?_
 rotate_left 2
 ·(simp only[Za,Zb,Zc]; rfl)
 ·(first|exact Or.inr ⟨by rfl,rfl⟩|(refine Or.inl ⟨by rfl,?_⟩; intro W hSw; clear hSw; go_simp; try with_reducible rfl))
 try simp only[Act.put,Zd,Ze,Zf]
 refine wT (i:=5) (oi:= ?_) (v:= ?_) ?_ ?_ HS.out ?_
 rotate_left 2
 ·(simp only[Za,Zb,Zc]; rfl)
 ·(first|exact Or.inr ⟨by rfl,rfl⟩|(refine Or.inl ⟨by rfl,?_⟩; intro W hSw; clear hSw; go_simp; try with_reducible rfl))
 try simp only[Act.put,Zd,Ze,Zf]
 refine wT (i:=6) (oi:= ?_) (v:= ?_) ?_ ?_ HS.out ?_
 rotate_left 2
 ·(simp only[Za,Zb,Zc]; rfl)
 ·(first|exact Or.inr ⟨by rfl,rfl⟩|(refine Or.inl ⟨by rfl,?_⟩; intro W hSw; have hq0:=HC.out W hSw 5 _ HC5.out; clear hSw; go_simp; try with_reducible rfl))
 try simp only[Act.put,Zd,Ze,Zf]
 refine ZX (i:=7) (oi:= ?_) (v:= .string (ZB (fun q=>F (0+q)) 0 (Jq nb 0 hd))) ?_ (by kernel_rfl) (by kernel_rfl) (by kernel_rfl) (fun _ _ _ h=>h) (by decide) ?_ HS.out (fun _=>trivial) ?_
 rotate_left 1
 ·(simp only[Za,Zb,Zc]; rfl)
 ·refine⟨by rfl,fun W hW=>⟨91,#[.string (ZB F 0 nb),.int .i64 0,.int .i64 hd],?_,HPT.out W⟩⟩
  first|kernel_rfl|(go_simp; done)|rfl
 try simp only[Act.put,Zd,Ze,Zf]
 have hmk:=HMK.out w1.drew
 refine Zk (i:=2) (o:= ?_) (by kernel_rfl) ?_ (fun K hK=> ?_)
 rotate_left 1
 ·(simp only[Za,Zb,Zc]; rfl)
 go_simp
 clear hmk
 have HS2:=Zg (show Below w1.heap.size w1 (w1.drew.alloc (.cells (madeCells #[.int .u8 0] N) 5)) from HS.out.alloc (Nat.le_refl _) _)
 refine hK.out _ _ HS2.out (fun _=>trivial) ?_
 clear hK K
 try simp only[Act.put,Zd,Ze,Zf]
 have hcv:(convert 25 9 (.slice (some ⟨w1.heap.size,0,none⟩) N N)).run Tryz.prog (w1.drew.alloc (.cells (madeCells #[.int .u8 0] N) 5))= .ok (.string (ZB (fun _=>0) 0 N)) (w1.drew.alloc (.cells (madeCells #[.int .u8 0] N) 5)):=VS w1.drew N
 obtain⟨w2,hw2⟩: ∃ q,w1.drew.alloc (.cells (madeCells #[.int .u8 0] N) 5)=q:=⟨_,rfl⟩
 rw[hw2] at hcv HS2
 have HE2:=Zg hw2
 clear hw2
 refine(congrArg _ HE2.out).mpr ?_
 refine Zk (i:=3) (o:= ?_) (by kernel_rfl) ?_ (fun K hK=> ?_)
 rotate_left 1
 ·(simp only[Za,Zb,Zc]; rfl)
 go_simp
 clear hcv
 refine hK.out _ _ HS2.out (fun _=>trivial) ?_
 clear hK K
 try simp only[Act.put,Zd,Ze,Zf]
 refine Zk (i:=8) (o:= ?_) (by kernel_rfl) ?_ (fun K hK=> ?_)
 rotate_left 1
 ·(simp only[Za,Zb,Zc]; rfl)
 go_simp
 go_at_call 90
 refine(Zan N (Jq nb 0 hd) 0 (fun _=>0) (fun q=>F q) w2 (by omega) (Zcs hnb) (by omega)).mono ?_
 rintro e w3 ⟨rfl,hb3⟩
 have HS3:=Zg (show Below w1.heap.size w1 w3 from HS2.out.trans (hb3.mono HS2.out.size))
 clear hb3
 refine hK.out _ _ HS3.out (fun _=>trivial) ?_
 clear hK K
 try simp only[Act.put,Zd,Ze,Zf]
 refine wT (i:=9) (oi:= ?_) (v:= ?_) ?_ ?_ HS3.out ?_
 rotate_left 2
 ·(simp only[Za,Zb,Zc]; rfl)
 ·(first|exact Or.inr ⟨by rfl,rfl⟩|(refine Or.inl ⟨by rfl,?_⟩; intro W hSw; clear hSw; go_simp; try with_reducible rfl))
 try simp only[Act.put,Zd,Ze,Zf]
 refine Zp (by kernel_rfl) ?_ _
 refine NoPanic.normal ?_
 have h0:ovF (fun _=>0) (fun q=>F q) 0 (Jq nb 0 hd) N=layR N F nb (fun _=>0) 0 0 hd:=by unfold layR; simp only[Nat.zero_add]
 rw[h0]
 have q38:=HC.out w3 HS3.out 38 _ HC38.out
 clear HS2 HE2 HPT HMK HS h0
 go_upto_region 4 with(fail)
 go_wp2_with fail
 clear q38
 go_loopw [5,6] (fun v5 v6 wr=> ∃(i:Nat) (f:Nat→Int),i≤l.length∧v6= .int .i64 i∧v5= .string (ZB f 0 N)∧Zfa N F nb (l.drop i) f=IM∧Below w1.heap.size w1 wr) (fun _ v6 _=>l.length - (intOf v6).toNat)
 case atStart=>exact⟨0,_,by omega,rfl,rfl,HIM.out,HS3.out⟩
 case round =>
  obtain⟨i,f,hi,rfl,rfl,hf,hb⟩:=hrel
  have HB:=Zg hb
  have HF:=Zg hf
  have q38:=HC.out wr HB.out 38 _ HC38.out
  clear hb hf HS3
  by_cases hlt:i<l.length
  ·have hlt':(i:Int)<l.length:=by omega
   have hsb:=HBD.out l[i] (List.getElem_mem hlt)
   have hd:=HF.out
   rw[List.drop_eq_getElem_cons hlt] at hd
   have HD:=Zg hd
   clear hd
   obtain⟨b,o,rfl⟩: ∃ b o,A=some ⟨b,o,none⟩:=by
    rcases HSL.out with k|⟨b,o,k,_⟩
    ·rw[k] at hlt; exact absurd hlt (by simp)
    ·exact⟨b,o,k⟩
   obtain⟨hbl,d0,d1,d2,d3,d4,d5⟩:=(HSL.out.below (HB1.out.trans (HB.out.mono HB1.out.size))).at6o i hlt
   generalize l[i]=s at *
   obtain⟨nm,v,rva,raw,spot,ch⟩:=s
   obtain⟨v0,v1,p0,p1,a0,a1,s0,s1,x0,x1⟩:=hsb
   simp only at d0 d1 d2 d3 d4 d5 v0 v1 p0 p1 a0 a1 s0 s1 x0 x1
   obtain⟨rv,rfl⟩: ∃ n:Nat,rva=n:=⟨rva.toNat,by omega⟩
   obtain⟨rw',rfl⟩: ∃ n:Nat,raw=n:=⟨raw.toNat,by omega⟩
   obtain⟨sp,rfl⟩: ∃ n:Nat,spot=n:=⟨spot.toNat,by omega⟩
   obtain⟨w4,hw4⟩: ∃ q,wr.alloc (.cells #[.string nm,.int .i64 v,.int .i64 (rv:Int),.int .i64 (rw':Int),.int .i64 (sp:Int),.int .i64 ch] 72)=q:=⟨_,rfl⟩
   have HE4:=Zg hw4
   have HB4:=Zg (show Below wr.heap.size wr w4 from by rw[←hw4]; exact(Below.refl _ _).alloc (Nat.le_refl _) _)
   have HX4:=Zg (show w4.heap[wr.heap.size]? =some (.cells #[.string nm,.int .i64 v,.int .i64 (rv:Int),.int .i64 (rw':Int),.int .i64 (sp:Int),.int .i64 ch] 72 (0,0)) from by rw[←hw4]; exact heap_alloc_new wr _)
   have HC4:=Zg (fun W (hW:Below w4.heap.size w4 W)=>show W.cell? ⟨wr.heap.size,2,none⟩=some (.int .i64 (rv:Int))∧W.cell? ⟨wr.heap.size,3,none⟩=some (.int .i64 (rw':Int))∧W.cell? ⟨wr.heap.size,4,none⟩=some (.int .i64 (sp:Int)) from by
    have hh:=(hW.block _ (Zi HX4.out)).trans HX4.out
    exact⟨by rw[cell_of_row _ _ _ _ _ _ hh]; rfl,by rw[cell_of_row _ _ _ _ _ _ hh]; rfl,by rw[cell_of_row _ _ _ _ _ _ hh]; rfl⟩)
   have HP:=Zg (fun W=>Zao nb sp rw' F W hnb (by omega) (by omega))
   clear hw4
   go_upto_region 8 with(fail)
   refine(congrArg _ HE4.out).mpr ?_
   clear d0 d1 d2 d3 d4 d5 q38
   have HS:=Zg (show Below w4.heap.size w4 w4.drew from(Below.refl _ _).drew)
   refine wp_region_noPanic ?_
   refine Zw (fun W=>Below w4.heap.size w4 W) (fun _=>True) 99 (by kernel_rfl) ?_
   refine wT (i:=0) (oi:= ?_) (v:= ?_) ?_ ?_ HS.out ?_
   rotate_left 2
   ·(simp only[Za,Zb,Zc]; rfl)
   ·(first|exact Or.inr ⟨by rfl,rfl⟩|(refine Or.inl ⟨by rfl,?_⟩; intro W hSw; clear hSw; go_simp; try with_reducible rfl))
   try simp only[Act.put,Zd,Ze,Zf]
   refine wT (i:=1) (oi:= ?_) (v:= ?_) ?_ ?_ HS.out ?_
   rotate_left 2
   ·(simp only[Za,Zb,Zc]; rfl)
   ·(first|exact Or.inr ⟨by rfl,rfl⟩|(refine Or.inl ⟨by rfl,?_⟩; intro W hSw; clear hSw; go_simp; try with_reducible rfl))
   try simp only[Act.put,Zd,Ze,Zf]
   refine wT (i:=2) (oi:= ?_) (v:= ?_) ?_ ?_ HS.out ?_
   rotate_left 2
   ·(simp only[Za,Zb,Zc]; rfl)
   ·(first|exact Or.inr ⟨by rfl,rfl⟩|(refine Or.inl ⟨by rfl,?_⟩; intro W hSw; have hq0:=(HC4.out W hSw).1; clear hSw; go_simp; try with_reducible rfl))
   try simp only[Act.put,Zd,Ze,Zf]
   refine wT (i:=3) (oi:= ?_) (v:= ?_) ?_ ?_ HS.out ?_
   rotate_left 2
   ·(simp only[Za,Zb,Zc]; rfl)
   ·(first|exact Or.inr ⟨by rfl,rfl⟩|(refine Or.inl ⟨by rfl,?_⟩; intro W hSw; clear hSw; go_simp; try with_reducible rfl))
   try simp only[Act.put,Zd,Ze,Zf]
   refine wT (i:=4) (oi:= ?_) (v:= ?_) ?_ ?_ HS.out ?_
   rotate_left 2
   ·(simp only[Za,Zb,Zc]; rfl)
   ·(first|exact Or.inr ⟨by rfl,rfl⟩|(refine Or.inl ⟨by rfl,?_⟩; intro W hSw; clear hSw; go_simp; try with_reducible rfl))
   try simp only[Act.put,Zd,Ze,Zf]
   refine wT (i:=5) (oi:= ?_) (v:= ?_) ?_ ?_ HS.out ?_
   rotate_left 2
   ·(simp only[Za,Zb,Zc]; rfl)
   ·(first|exact Or.inr ⟨by rfl,rfl⟩|(refine Or.inl ⟨by rfl,?_⟩; intro W hSw; have hq0:=(HC4.out W hSw).2.2; clear hSw; go_simp; try with_reducible rfl))
   try simp only[Act.put,Zd,Ze,Zf]
   refine wT (i:=6) (oi:= ?_) (v:= ?_) ?_ ?_ HS.out ?_
   rotate_left 2
   ·(simp only[Za,Zb,Zc]; rfl)
   ·(first|exact Or.inr ⟨by rfl,rfl⟩|(refine Or.inl ⟨by rfl,?_⟩; intro W hSw; clear hSw; go_simp; try with_reducible rfl))
   try simp only[Act.put,Zd,Ze,Zf]
   refine wT (i:=7) (oi:= ?_) (v:= ?_) ?_ ?_ HS.out ?_
   rotate_left 2
   ·(simp only[Za,Zb,Zc]; rfl)
   ·(first|exact Or.inr ⟨by rfl,rfl⟩|(refine Or.inl ⟨by rfl,?_⟩; intro W hSw; have hq0:=(HC4.out W hSw).2.1; clear hSw; go_simp; try with_reducible rfl))
   try simp only[Act.put,Zd,Ze,Zf]
   refine ZX (i:=8) (oi:= ?_) (v:= .string (ZB (fun q=>F (sp+q)) 0 (Jq nb sp rw'))) ?_ (by kernel_rfl) (by kernel_rfl) (by kernel_rfl) (fun _ _ _ h=>h) (by decide) ?_ HS.out (fun _=>trivial) ?_
   rotate_left 1
   ·(simp only[Za,Zb,Zc]; rfl)
   ·refine⟨by rfl,fun W hW=>⟨91,#[.string (ZB F 0 nb),.int .i64 sp,.int .i64 rw'],?_,HP.out W⟩⟩
    first|kernel_rfl|(go_simp; done)|rfl
   try simp only[Act.put,Zd,Ze,Zf]
   refine Zk (i:=9) (o:= ?_) (by kernel_rfl) ?_ (fun K hK=> ?_)
   rotate_left 1
   ·(simp only[Za,Zb,Zc]; rfl)
   go_simp
   go_at_call 90
   refine(Zan N (Jq nb sp rw') rv f (fun q=>F (sp+q)) w4.drew (by omega) (Zcs hnb) (by omega)).mono ?_
   rintro e w5 ⟨rfl,hb5⟩
   have HS5:=Zg (show Below w4.heap.size w4 w5 from HS.out.trans (hb5.mono HS.out.size))
   clear hb5
   refine hK.out _ _ HS5.out (fun _=>trivial) ?_
   clear hK K
   try simp only[Act.put,Zd,Ze,Zf]
   refine wT (i:=10) (oi:= ?_) (v:= ?_) ?_ ?_ HS5.out ?_
   rotate_left 2
   ·(simp only[Za,Zb,Zc]; rfl)
   ·(first|exact Or.inr ⟨by rfl,rfl⟩|(refine Or.inl ⟨by rfl,?_⟩; intro W hSw; clear hSw; go_simp; try with_reducible rfl))
   try simp only[Act.put,Zd,Ze,Zf]
   refine Zp (by kernel_rfl) ?_ _
   refine NoPanic.normal ?_
   go_wp2_with fail
   go_roundw
   case rel=>exact⟨i+1,_,by omega,by go_num,rfl,by have:=HD.out; simp only[Zfa,Int.toNat_natCast] at this; exact this,HB.out.trans ((HB4.out.trans (HS5.out.mono HB4.out.size)).mono HB.out.size)⟩
   case measure=>simp[intOf]; omega
  ·obtain rfl:i=l.length:=by omega
   have hf:=HF.out
   rw[List.drop_length] at hf
   have hf':f=IM:=hf
   subst hf'
   go_wp2_with fail
   go_ret
   exact⟨rfl,HB1.out.trans (HB.out.mono HB1.out.size)⟩
end Go.Proofs.YtplgdpjbkdagfaaGreat
