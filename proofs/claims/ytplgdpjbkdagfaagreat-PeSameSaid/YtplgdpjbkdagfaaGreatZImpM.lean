import Derived.Test.YtplgdpjbkdagfaaGreatZImpH
import Derived.Test.YtplgdpjbkdagfaaGreatZImpG
import Derived.Test.YtplgdpjbkdagfaaGreatZTxtS
namespace Go.Proofs.YtplgdpjbkdagfaaGreat
open List renaming getElem?_toArray→Za, getElem?_cons_succ→Zb, getElem?_cons_zero→Zc, setIfInBounds_toArray→Zd, set_cons_zero→Ze, set_cons_succ→Zf
open Lib renaming hid→Zg
open Go.ChangeShapes Go.WideShapes Go.ChangeAt Go.RowKit
set_option linter.unusedVariables false
set_option linter.unusedSimpArgs false
set_option maxRecDepth 100000
def cpL (b:List Nat) (iat th m:Nat):List Nat:=b.take iat++((b.drop th).take m++b.drop (iat+m))
theorem Qt {b:List Nat} {iat th m:Nat} (h1:iat+m≤b.length) (h2:th+m≤b.length):(cpL b iat th m).length=b.length:=by
 simp only[cpL,List.length_append,List.length_take,List.length_drop]; omega
theorem cpL_lb {b:List Nat} (h:Lb b) (iat th m:Nat):Lb (cpL b iat th m):=(h.take _).append (((h.drop _).take _).append (h.drop _))
theorem cpL_at {b:List Nat} {iat th m:Nat} (h1:iat+m≤b.length) (h2:th+m≤b.length) (i:Nat):lF (cpL b iat th m) i=if iat≤i∧i<iat+m then lF b (th+(i - iat)) else lF b i:=by
 have hl1:(b.take iat).length=iat:=by rw[List.length_take]; omega
 have hl2:((b.drop th).take m).length=m:=by rw[List.length_take,List.length_drop]; omega
 unfold cpL lF
 congr 1
 simp only[List.getD_eq_getElem?_getD]
 by_cases c1:i<iat
 ·rw[if_neg (by omega),List.getElem?_append_left (by omega),List.getElem?_take_of_lt c1]
 ·rw[List.getElem?_append_right (by omega),hl1]
  by_cases c2:i<iat+m
  ·rw[if_pos (by omega),List.getElem?_append_left (by omega),List.getElem?_take_of_lt (by omega),List.getElem?_drop]
  ·rw[if_neg (by omega),List.getElem?_append_right (by omega),hl2,List.getElem?_drop,show iat+m+(i - iat - m)=i by omega]
theorem YI.copied {w w':World} {base g cap:Nat} {b:List Nat} (h:YI w base g cap b) {iat th m:Nat} (h1:iat+m≤b.length) (h2:th+m≤b.length) (ho:Own w' g cap (fun q=>if iat≤q∧q<iat+m then Value.int .u8 (lF b (th+(q - iat))) else(w.cell? ⟨g,q,none⟩).getD undef)):YI w' base g cap (cpL b iat th m):=by
 refine⟨h.le,ho.1,fun i hi=> ?_,cpL_lb h.lb _ _ _,by rw[Qt h1 h2]; exact h.len,h.most,fun j hj=>⟨by rw[(ho.2 j hj).1]; rfl,(ho.2 j hj).2⟩⟩
 rw[Qt h1 h2] at hi
 have hic:i<cap:=Nat.lt_of_lt_of_le hi h.len
 rw[Nat.zero_add,(ho.2 i hic).1,cpL_at h1 h2 i]
 show some (if iat≤i∧i<iat+m then Value.int .u8 (lF b (th+(i - iat))) else(w.cell? ⟨g,i,none⟩).getD undef)=some (Value.int .u8 (if iat≤i∧i<iat+m then lF b (th+(i - iat)) else lF b i))
 by_cases c:iat≤i∧i<iat+m
 ·rw[if_pos c,if_pos c]
 ·rw[if_neg c,if_neg c]
  have:=h.row i hi
  rw[Nat.zero_add] at this
  rw[this]; rfl
theorem YI.own {w:World} {base g cap:Nat} {b:List Nat} (h:YI w base g cap b):Own w g cap (fun q=>(w.cell? ⟨g,q,none⟩).getD undef) :=
 ⟨h.lt,fun i hi=>⟨by
   obtain⟨x,hx⟩:=Option.isSome_iff_exists.mp (h.wr i hi).1
   show w.cell? ⟨g,i,none⟩=some ((w.cell? ⟨g,i,none⟩).getD undef)
   rw[hx]; rfl,(h.wr i hi).2⟩⟩
theorem YI.drewD {w:World} {base g cap:Nat} {b:List Nat} (h:YI w base g cap b):YI w.drew base g cap b:=⟨h.le,h.lt,h.row,h.lb,h.len,h.most,h.wr⟩
theorem Zbr {w w':World} {B g:Nat} (hg:w.grownBy w' (some g)) (hB:B≤g) (hs:B≤w.heap.size):Below B w w' :=
 ⟨hg.os,hg.tape,hg.output,hg.size,fun k hk=>hg.block k (by omega) (fun e=>by injection e with e; omega)⟩
set_option maxHeartbeats 8000000 in
theorem Zj1 (i at' k th iat nm g0 c0:Nat) (b0 B2:List Nat) (v0 v1 v7 v8:Value) (w x0:World) (hat:at'+32≤b0.length) (hbl:b0.length≤900000) (hth:th<4294967296) (hia:iat<4294967296) (hnm:nm<4294967296) (hi:i≤1000) (hk0:iat<b0.length) (hk1:th<b0.length) (hod:i % 2=1) (hik:iat+8 * k≤b0.length) (htk:th+8 * k≤b0.length)
 (HO0:Hid (YI x0 w.heap.size g0 c0 b0)) (HB0:Hid (Below w.heap.size w x0)) (HB2:Hid (ZQ (cpL (ZQ (ZQ (ZQ (ZQ b0 at' 4 th) (at'+4) 4 i) (at'+12) 4 nm) (at'+16) 4 iat) iat th (8 * k)) at' 4 0=B2)) (Q:Exit→Act→World→Prop) (a:Act)
 (ha:Has 175 [0,1,2,7,8,9,10,11,12,13,14,17] [v0,v1,.bool false,v7,v8,.slice (some ⟨g0,0,none⟩) b0.length c0,.int .i64 i,.int .i64 at',.int .i64 k,.int .i64 th,.int .i64 iat,.int .i64 nm] a) (hK: ∀ a' w' g' c',Has 175 [0,1,2,7,8,9,10] [v0,v1,.bool false,v7,v8,.slice (some ⟨g',0,none⟩) B2.length c',.int .i64 i] a'→YI w' w.heap.size g' c' B2→Below w.heap.size w w'→Q .normal a' w'):(ZY 7 XA).wp Tryz.prog Q a x0:=by
 obtain⟨u,rfl⟩:=Yj ha
 clear ha
 have HK:=Zg hK
 clear hK
 have hre:=HB2.out
 obtain⟨o4,ho4⟩: ∃ q,at'+4=q:=⟨_,rfl⟩
 have eo4:(at':Int)+4=(o4:Int):=by omega
 have hb4:o4+4≤b0.length:=by omega
 obtain⟨o12,ho12⟩: ∃ q,at'+12=q:=⟨_,rfl⟩
 have eo12:(at':Int)+12=(o12:Int):=by omega
 have hb12:o12+4≤b0.length:=by omega
 obtain⟨o16,ho16⟩: ∃ q,at'+16=q:=⟨_,rfl⟩
 have eo16:(at':Int)+16=(o16:Int):=by omega
 have hb16:o16+4≤b0.length:=by omega
 have hm:bits .and .i64 (i:Int) 1=1:=by rw[and_1]; omega
 obtain⟨k8,hk8⟩: ∃ q,8 * k=q:=⟨_,rfl⟩
 have ek8:(8:Int) * (k:Int)=(k8:Int):=by omega
 rw[hk8] at hik htk hre
 obtain⟨e1,he1⟩: ∃ q,iat+k8=q:=⟨_,rfl⟩
 obtain⟨e2,he2⟩: ∃ q,th+k8=q:=⟨_,rfl⟩
 have ee1:(iat:Int)+(k8:Int)=(e1:Int):=by omega
 have ee2:(th:Int)+(k8:Int)=(e2:Int):=by omega
 have hi1:(iat:Int)≤(e1:Int):=by omega
 have hi2:(th:Int)≤(e2:Int):=by omega
 have h1L:e1≤b0.length:=by omega
 have h2L:e2≤b0.length:=by omega
 rw[ho4,ho12,ho16] at hre
 clear ho4 ho12 ho16 HB2
 obtain⟨L,hL⟩: ∃ L,b0.length=L:=⟨_,rfl⟩
 rw[hL] at hat hbl hb4 hb12 hb16 h1L h2L hik htk hk0 hk1
 conv=>arg 2; whnf
 rw[hL]
 have hl1:=Zo (b:=b0) (o:=at') (n:=4) (by omega) th
 obtain⟨b1,hd1⟩: ∃ q,ZQ b0 at' 4 th=q:=⟨_,rfl⟩
 have hp:=Yo (some ⟨g0,0,none⟩) c0 b0 at' 4 (th:Nat) th x0 HO0.out.lb (by omega) HO0.out.slB (by omega) (by omega) (by omega) (ZU (by omega)) (by omega)
 rw[hd1] at hp hl1 hre
 rw[hL] at hp
 have HP:=Zg hp
 have HRE:=Zg hre
 have HL:=Zg hL
 have HL1:=Zg hl1
 clear hp hd1 hre hL hl1
 go_wp2_with fail
 refine HP.out.mono ?_
 rintro e x1 ⟨g1,c1,rfl,ho,hw⟩
 have HO1:=Zg (ho.weaken HB0.out.size)
 have HB1:=Zg (HB0.out.trans (hw.mono HB0.out.size))
 have hre:=HRE.out
 have hL:b1.length=L:=by rw[HL1.out]; exact HL.out
 clear ho hw HP HRE HL HL1
 have hl2:=Zo (b:=b1) (o:=o4) (n:=4) (by omega) i
 obtain⟨b2,hd2⟩: ∃ q,ZQ b1 o4 4 i=q:=⟨_,rfl⟩
 have hp:=Yo (some ⟨g1,0,none⟩) c1 b1 o4 4 (i:Nat) i x1 HO1.out.lb (by omega) HO1.out.slB (by omega) (by omega) (by omega) (ZU (by omega)) (by omega)
 rw[hd2] at hp hl2 hre
 rw[hL] at hp
 have HP:=Zg hp
 have HRE:=Zg hre
 have HL:=Zg hL
 have HL1:=Zg hl2
 clear hp hd2 hre hL hl2
 go_wp2_with fail
 refine HP.out.mono ?_
 rintro e x2 ⟨g2,c2,rfl,ho,hw⟩
 have HO2:=Zg (ho.weaken HB1.out.size)
 have HB2:=Zg (HB1.out.trans (hw.mono HB1.out.size))
 have hre:=HRE.out
 have hL:b2.length=L:=by rw[HL1.out]; exact HL.out
 clear ho hw HP HRE HL HL1
 have hl3:=Zo (b:=b2) (o:=o12) (n:=4) (by omega) nm
 obtain⟨b3,hd3⟩: ∃ q,ZQ b2 o12 4 nm=q:=⟨_,rfl⟩
 have hp:=Yo (some ⟨g2,0,none⟩) c2 b2 o12 4 (nm:Nat) nm x2 HO2.out.lb (by omega) HO2.out.slB (by omega) (by omega) (by omega) (ZU (by omega)) (by omega)
 rw[hd3] at hp hl3 hre
 rw[hL] at hp
 have HP:=Zg hp
 have HRE:=Zg hre
 have HL:=Zg hL
 have HL1:=Zg hl3
 clear hp hd3 hre hL hl3
 go_wp2_with fail
 refine HP.out.mono ?_
 rintro e x3 ⟨g3,c3,rfl,ho,hw⟩
 have HO3:=Zg (ho.weaken HB2.out.size)
 have HB3:=Zg (HB2.out.trans (hw.mono HB2.out.size))
 have hre:=HRE.out
 have hL:b3.length=L:=by rw[HL1.out]; exact HL.out
 clear ho hw HP HRE HL HL1
 have hl4:=Zo (b:=b3) (o:=o16) (n:=4) (by omega) iat
 obtain⟨b4,hd4⟩: ∃ q,ZQ b3 o16 4 iat=q:=⟨_,rfl⟩
 have hp:=Yo (some ⟨g3,0,none⟩) c3 b3 o16 4 (iat:Nat) iat x3 HO3.out.lb (by omega) HO3.out.slB (by omega) (by omega) (by omega) (ZU (by omega)) (by omega)
 rw[hd4] at hp hl4 hre
 rw[hL] at hp
 have HP:=Zg hp
 have HRE:=Zg hre
 have HL:=Zg hL
 have HL1:=Zg hl4
 clear hp hd4 hre hL hl4
 go_wp2_with fail
 refine HP.out.mono ?_
 rintro e x4 ⟨g4,c4,rfl,ho,hw⟩
 have HO4:=Zg (ho.weaken HB3.out.size)
 have HB4:=Zg (HB3.out.trans (hw.mono HB3.out.size))
 have hre:=HRE.out
 have hL:b4.length=L:=by rw[HL1.out]; exact HL.out
 clear ho hw HP HRE HL HL1
 have hL4:=hL
 have hcl:L≤c4:=by rw[←hL]; exact HO4.out.len
 have hc9:=HO4.out.most
 have HL:=Zg hL
 have HRE:=Zg hre
 clear hL hL4 hre
 have wk8:IntKind.i64.wrap (k8:Int)=(k8:Int):=by rw[IntKind.wrap_i64]; omega
 have we1:IntKind.i64.wrap (e1:Int)=(e1:Int):=by rw[IntKind.wrap_i64]; omega
 have we2:IntKind.i64.wrap (e2:Int)=(e2:Int):=by rw[IntKind.wrap_i64]; omega
 have q1:e1≤c4:=by omega
 have q2:e2≤c4:=by omega
 have q3:iat≤e1:=by omega
 have q4:th≤e2:=by omega
 have q7:e1 - iat=k8:=by omega
 have q8:e2 - th=k8:=by omega
 have q5: ¬ c4=iat:=by omega
 have q6: ¬ c4=th:=by omega
 go_upto_region 28 with(fail)
 have HS:=Zg True.intro
 refine wp_region_noPanic ?_
 refine Zw (fun _=>True) (fun _=>True) 99 (by kernel_rfl) ?_
 refine wT (i:=0) (oi:= ?_) (v:= ?_) ?_ ?_ HS.out ?_
 rotate_left 2
 ·(simp only[Za,Zb,Zc]; rfl)
 ·(first|exact Or.inr ⟨by rfl,rfl⟩|(refine Or.inl ⟨by rfl,?_⟩; intro W hSw; clear hSw; go_simp; try with_reducible rfl))
 try simp only[Act.put,Zd,Ze,Zf]
 refine wT (i:=1) (oi:= ?_) (v:= ?_) ?_ ?_ HS.out ?_
 rotate_left 2
 ·(simp only[Za,Zb,Zc]; rfl)
 ·(first|exact Or.inr ⟨by rfl,rfl⟩|(refine Or.inl ⟨by rfl,?_⟩; intro W hSw; clear hSw; go_simp; try with_reducible rfl))
 try simp only[Act.put,Zd,Ze,Zf]
 refine wT (i:=2) (oi:= ?_) (v:= ?_) ?_ ?_ HS.out ?_
 rotate_left 2
 ·(simp only[Za,Zb,Zc]; rfl)
 ·(first|exact Or.inr ⟨by rfl,rfl⟩|(refine Or.inl ⟨by rfl,?_⟩; intro W hSw; clear hSw; go_simp; try with_reducible rfl))
 try simp only[Act.put,Zd,Ze,Zf]
 refine wT (i:=3) (oi:= ?_) (v:= ?_) ?_ ?_ HS.out ?_
 rotate_left 2
 ·(simp only[Za,Zb,Zc]; rfl)
 ·(first|exact Or.inr ⟨by rfl,rfl⟩|(refine Or.inl ⟨by rfl,?_⟩; intro W hSw; clear hSw; go_simp; try with_reducible rfl))
 try simp only[Act.put,Zd,Ze,Zf]
 refine wT (i:=4) (oi:= ?_) (v:= ?_) ?_ ?_ HS.out ?_
 rotate_left 2
 ·(simp only[Za,Zb,Zc]; rfl)
 ·(first|exact Or.inr ⟨by rfl,rfl⟩|(refine Or.inl ⟨by rfl,?_⟩; intro W hSw; clear hSw; go_simp; try with_reducible rfl))
 try simp only[Act.put,Zd,Ze,Zf]
 refine wT (i:=5) (oi:= ?_) (v:= ?_) ?_ ?_ HS.out ?_
 rotate_left 2
 ·(simp only[Za,Zb,Zc]; rfl)
 ·(first|exact Or.inr ⟨by rfl,rfl⟩|(refine Or.inl ⟨by rfl,?_⟩; intro W hSw; clear hSw; go_simp; try with_reducible rfl))
 try simp only[Act.put,Zd,Ze,Zf]
 refine wT (i:=6) (oi:= ?_) (v:= ?_) ?_ ?_ HS.out ?_
 rotate_left 2
 ·(simp only[Za,Zb,Zc]; rfl)
 ·(first|exact Or.inr ⟨by rfl,rfl⟩|(refine Or.inl ⟨by rfl,?_⟩; intro W hSw; clear hSw; go_simp; try with_reducible rfl))
 try simp only[Act.put,Zd,Ze,Zf]
 refine wT (i:=7) (oi:= ?_) (v:= ?_) ?_ ?_ HS.out ?_
 rotate_left 2
 ·(simp only[Za,Zb,Zc]; rfl)
 ·(first|exact Or.inr ⟨by rfl,rfl⟩|(refine Or.inl ⟨by rfl,?_⟩; intro W hSw; clear hSw; go_simp; try with_reducible rfl))
 try simp only[Act.put,Zd,Ze,Zf]
 refine wT (i:=8) (oi:= ?_) (v:= ?_) ?_ ?_ HS.out ?_
 rotate_left 2
 ·(simp only[Za,Zb,Zc]; rfl)
 ·(first|exact Or.inr ⟨by rfl,rfl⟩|(refine Or.inl ⟨by rfl,?_⟩; intro W hSw; clear hSw; go_simp; try with_reducible rfl))
 try simp only[Act.put,Zd,Ze,Zf]
 refine wT (i:=9) (oi:= ?_) (v:= ?_) ?_ ?_ HS.out ?_
 rotate_left 2
 ·(simp only[Za,Zb,Zc]; rfl)
 ·(first|exact Or.inr ⟨by rfl,rfl⟩|(refine Or.inl ⟨by rfl,?_⟩; intro W hSw; clear hSw; go_simp; try with_reducible rfl))
 try simp only[Act.put,Zd,Ze,Zf]
 refine wT (i:=10) (oi:= ?_) (v:= ?_) ?_ ?_ HS.out ?_
 rotate_left 2
 ·(simp only[Za,Zb,Zc]; rfl)
 ·(first|exact Or.inr ⟨by rfl,rfl⟩|(refine Or.inl ⟨by rfl,?_⟩; intro W hSw; clear hSw; go_simp; try with_reducible rfl))
 try simp only[Act.put,Zd,Ze,Zf]
 refine wT (i:=11) (oi:= ?_) (v:= ?_) ?_ ?_ HS.out ?_
 rotate_left 2
 ·(simp only[Za,Zb,Zc]; rfl)
 ·(first|exact Or.inr ⟨by rfl,rfl⟩|(refine Or.inl ⟨by rfl,?_⟩; intro W hSw; clear hSw; go_simp; try with_reducible rfl))
 try simp only[Act.put,Zd,Ze,Zf]
 refine wT (i:=12) (oi:= ?_) (v:= ?_) ?_ ?_ HS.out ?_
 rotate_left 2
 ·(simp only[Za,Zb,Zc]; rfl)
 ·(first|exact Or.inr ⟨by rfl,rfl⟩|(refine Or.inl ⟨by rfl,?_⟩; intro W hSw; clear hSw; go_simp; try with_reducible rfl))
 try simp only[Act.put,Zd,Ze,Zf]
 refine wT (i:=13) (oi:= ?_) (v:= ?_) ?_ ?_ HS.out ?_
 rotate_left 2
 ·(simp only[Za,Zb,Zc]; rfl)
 ·(first|exact Or.inr ⟨by rfl,rfl⟩|(refine Or.inl ⟨by rfl,?_⟩; intro W hSw; clear hSw; go_simp; try with_reducible rfl))
 try simp only[Act.put,Zd,Ze,Zf]
 refine Zk (i:=14) (o:= ?_) (by kernel_rfl) ?_ (fun K hK=> ?_)
 rotate_left 1
 ·(simp only[Za,Zb,Zc]; rfl)
 refine JY rfl (.tmp 162) (.tmp 169) 25 25 rfl 5 rfl (by kernel_rfl) g4 iat k8 (c4 - iat) g4 th k8 (c4 - th) rfl rfl k8 c4 _ (fun j=> .int .u8 (lF b4 (th+j))) (by unfold Nat.min; simp) (YI.own HO4.out.drewD) (by omega) (fun j hj=> ?_) (fun j=>rfl) (fun w' hg hown=> ?_)
 ·have hh:=HO4.out.drewD.row (th+j) (by rw[HL.out]; omega)
  rw[Nat.zero_add] at hh
  exact hh
 have HO5:=Zg (YI.copied HO4.out.drewD (by rw[HL.out]; omega) (by rw[HL.out]; omega) hown)
 have HB5:=Zg (HB4.out.drew.trans (Zbr hg HO4.out.le HB4.out.drew.size))
 clear hg hown
 have HS2:=Zg True.intro
 refine hK.out _ _ HS2.out (fun _=>trivial) ?_
 clear hK K
 try simp only[Act.put,Zd,Ze,Zf]
 refine Zp (by kernel_rfl) ?_ _
 refine NoPanic.normal ?_
 have hre:=HRE.out
 have hL5:(cpL b4 iat th k8).length=L:=by rw[Qt (by rw[HL.out]; omega) (by rw[HL.out]; omega)]; exact HL.out
 have HO5':=HO5
 clear HO5
 obtain⟨b5,hd5⟩: ∃ q,cpL b4 iat th k8=q:=⟨_,rfl⟩
 rw[hd5] at hre hL5 HO5'
 clear hd5
 have hl6:=Zo (b:=b5) (o:=at') (n:=4) (by omega) 0
 have hp:=Yo (some ⟨g4,0,none⟩) c4 b5 at' 4 0 0 w' HO5'.out.lb (by omega) HO5'.out.slB (by omega) (by omega) (by omega) (ZU (v:=0) (by omega)) (by omega)
 rw[hre] at hp hl6
 rw[hL5] at hp hl6
 have HP:=Zg hp
 have HL6:=Zg hl6
 clear hp hre hl6 hL5 HRE HS HS2
 go_wp2_with fail
 refine HP.out.mono ?_
 rintro e x6 ⟨g6,c6,rfl,ho,hw⟩
 have HO6:=Zg (ho.weaken HB5.out.size)
 have HB6:=Zg (HB5.out.trans (hw.mono HB5.out.size))
 clear ho hw HP
 go_wp2_with fail
 refine HK.out _ _ g6 c6 ?_ HO6.out HB6.out
 rw[HL6.out]
 exact⟨rfl,rfl,rfl⟩
theorem XI {a:Act} {v0 v1 v2 v7 v8 v9 v10:Value} (h:Has 175 [0,1,2,7,8,9,10] [v0,v1,v2,v7,v8,v9,v10] a): ∃ u:Nat→Value,a=⟨(v0::v1::v2::u 3::u 4::u 5::u 6::v7::v8::v9::v10::u 11::u 12::u 13::u 14::u 15::u 16::u 17::u 18::u 19::u 20::u 21::u 22::u 23::u 24::u 25::u 26::u 27::u 28::u 29::u 30::u 31::u 32::u 33::u 34::u 35::u 36::u 37::u 38::u 39::u 40::u 41::u 42::u 43::u 44::u 45::u 46::u 47::u 48::u 49::u 50::u 51::u 52::u 53::u 54::u 55::u 56::u 57::u 58::u 59::u 60::u 61::u 62::u 63::u 64::u 65::u 66::u 67::u 68::u 69::u 70::u 71::u 72::u 73::u 74::u 75::u 76::u 77::u 78::u 79::u 80::u 81::u 82::u 83::u 84::u 85::u 86::u 87::u 88::u 89::u 90::u 91::u 92::u 93::u 94::u 95::u 96::u 97::u 98::u 99::u 100::u 101::u 102::u 103::u 104::u 105::u 106::u 107::u 108::u 109::u 110::u 111::u 112::u 113::u 114::u 115::u 116::u 117::u 118::u 119::u 120::u 121::u 122::u 123::u 124::u 125::u 126::u 127::u 128::u 129::u 130::u 131::u 132::u 133::u 134::u 135::u 136::u 137::u 138::u 139::u 140::u 141::u 142::u 143::u 144::u 145::u 146::u 147::u 148::u 149::u 150::u 151::u 152::u 153::u 154::u 155::u 156::u 157::u 158::u 159::u 160::u 161::u 162::u 163::u 164::u 165::u 166::u 167::u 168::u 169::u 170::u 171::u 172::u 173::u 174::[]).toArray,[]⟩:=by
 obtain⟨⟨l⟩,d⟩:=a
 obtain⟨hs,hd,hl⟩:=h
 have hs':l.length=175:=hs
 have hd':d=[]:=hd
 subst hd'
 simp only[at_,List.map_cons,List.map_nil,List.cons.injEq,and_true] at hl
 obtain⟨e0,e1,e2,e7,e8,e9,e10⟩:=hl
 refine⟨sl ⟨⟨l⟩,[]⟩,?_⟩
 have key:=Zz l [] 175 hs'
 rw[Va] at key
 have u0:sl ⟨⟨l⟩,[]⟩ 0=v0:=by unfold sl; rw[e0]; rfl
 have u1:sl ⟨⟨l⟩,[]⟩ 1=v1:=by unfold sl; rw[e1]; rfl
 have u2:sl ⟨⟨l⟩,[]⟩ 2=v2:=by unfold sl; rw[e2]; rfl
 have u7:sl ⟨⟨l⟩,[]⟩ 7=v7:=by unfold sl; rw[e7]; rfl
 have u8:sl ⟨⟨l⟩,[]⟩ 8=v8:=by unfold sl; rw[e8]; rfl
 have u9:sl ⟨⟨l⟩,[]⟩ 9=v9:=by unfold sl; rw[e9]; rfl
 have u10:sl ⟨⟨l⟩,[]⟩ 10=v10:=by unfold sl; rw[e10]; rfl
 rw[←u0,←u1,←u2,←u7,←u8,←u9,←u10]
 exact congrArg (fun x=>(⟨⟨x⟩,[]⟩:Act)) key
theorem Zbs {th q:Nat} {b:List Nat} {s:Wg} (h:th+8 * q+8≤b.length) (hs:s.1.length≤100):b.length≤(WM th q b s).length∧(WM th q b s).length≤b.length+103:=by
 unfold WM
 split
 ·rw[Zo h]; omega
 ·simp only[List.length_append,Zo h,List.length_cons,List.length_nil]; omega
theorem Qu {th:Nat}: ∀(l:List Wg) (q:Nat) (b:List Nat),th+8 * (q+l.length)≤b.length→(∀ s∈l,s.1.length≤100)→b.length≤(Zf8 th l q b).length∧(Zf8 th l q b).length≤b.length+103 * l.length
 | [],_,b,_,_=>⟨Nat.le_refl _,Nat.le_add_right _ _⟩
 | s::r,q,b,h,hs=>by
   rw[List.length_cons] at h
   have h1:=Zbs (th:=th) (q:=q) (b:=b) (s:=s) (by omega) (hs s List.mem_cons_self)
   have h2:=Qu (th:=th) r (q+1) (WM th q b s) (by omega) (fun x hx=>hs x (List.mem_cons_of_mem _ hx))
   show b.length≤(Zf8 th r (q+1) (WM th q b s)).length∧(Zf8 th r (q+1) (WM th q b s)).length≤b.length+103 * (s::r).length
   rw[List.length_cons]
   omega
set_option maxHeartbeats 8000000 in
theorem Zgh (start D bl offl ll lc i g c:Nat) (delay:Bool) (A:Option Addr) (sc:Nat) (ss:List Wg) (dll:List Nat) (b B2:List Nat) (v8:Value) (w x0:World) (hD:D=Zc7 delay) (hil:i<ll) (hi:i≤18) (hbl:b.length≤400000) (hst:start+D * i+32≤b.length)
 (HLI:Hid (∀ W,Below w.heap.size w W→W.cell? ⟨bl,offl+i * 2,none⟩=some (.string (txt dll))∧W.cell? ⟨bl,offl+i * 2+1,none⟩=some (.slice A ss.length sc)∧SymW W A ss)) (HSS:Hid (∀ s∈ss,Lb s.1∧s.1.length≤100)) (HDL:Hid (Lb dll∧dll.length≤100)) (hsl:ss.length≤100000)
 (HO:Hid (YI x0 w.heap.size g c b)) (HB:Hid (Below w.heap.size w x0)) (HB2:Hid (Wf delay (start+D * i) i b ⟨dll,ss⟩=B2)) (Q:Exit→Act→World→Prop) (a:Act)
 (ha:Has 175 [0,1,2,7,8,9,10] [.int .i64 start,.slice (some ⟨bl,offl,none⟩) ll lc,.bool delay,.int .i64 D,v8,.slice (some ⟨g,0,none⟩) b.length c,.int .i64 i] a) (hK: ∀ a' w' g' c',Has 175 [0,1,2,7,8,9,10] [.int .i64 start,.slice (some ⟨bl,offl,none⟩) ll lc,.bool delay,.int .i64 D,v8,.slice (some ⟨g',0,none⟩) B2.length c',.int .i64 i] a'→YI w' w.heap.size g' c' B2→Below w.heap.size w w'→Q (if delay=true then .exit 1 else .normal) a' w'):XA.wp Tryz.prog Q a x0:=by
 obtain⟨u,rfl⟩:=XI ha
 clear ha
 have HK:=Zg hK
 clear hK
 obtain⟨m,hm⟩: ∃ q,D * i=q:=⟨_,rfl⟩
 have em:(D:Int) * (i:Int)=(m:Int):=by rw[←hm,Int.natCast_mul]
 have hb2:=HB2.out
 rw[hm] at hst hb2
 obtain⟨at',hat⟩: ∃ q,start+m=q:=⟨_,rfl⟩
 have eat:(start:Int)+(m:Int)=(at':Int):=by omega
 rw[hat] at hst hb2
 obtain⟨k,hk⟩: ∃ q,min ss.length 70=q:=⟨_,rfl⟩
 have ek:min (ss.length:Int) 70=(k:Int):=by omega
 obtain⟨L,hL⟩: ∃ q,b.length=q:=⟨_,rfl⟩
 rw[hL] at hst hbl
 rw[hL]
 obtain⟨k8,hk8⟩: ∃ q,8 * k=q:=⟨_,rfl⟩
 have ek8:(8:Int) * (k:Int)=(k8:Int):=by omega
 obtain⟨k16,hk16⟩: ∃ q,16 * k=q:=⟨_,rfl⟩
 have ek16:(16:Int) * (k:Int)=(k16:Int):=by omega
 obtain⟨z,hz⟩: ∃ q,k16+16=q:=⟨_,rfl⟩
 have ez:(k16:Int)+16=(z:Int):=by omega
 obtain⟨e1,he1⟩: ∃ q,L+k8=q:=⟨_,rfl⟩
 have ee1:(L:Int)+(k8:Int)=(e1:Int):=by omega
 obtain⟨iat,hia⟩: ∃ q,e1+8=q:=⟨_,rfl⟩
 have eia:(e1:Int)+8=(iat:Int):=by omega
 have wm:IntKind.i64.wrap (m:Int)=(m:Int):=by rw[IntKind.wrap_i64]; omega
 have wat:IntKind.i64.wrap (at':Int)=(at':Int):=by rw[IntKind.wrap_i64]; omega
 have wk8:IntKind.i64.wrap (k8:Int)=(k8:Int):=by rw[IntKind.wrap_i64]; omega
 have wk16:IntKind.i64.wrap (k16:Int)=(k16:Int):=by rw[IntKind.wrap_i64]; omega
 have wz:IntKind.i64.wrap (z:Int)=(z:Int):=by rw[IntKind.wrap_i64]; omega
 have we1:IntKind.i64.wrap (e1:Int)=(e1:Int):=by rw[IntKind.wrap_i64]; omega
 have wia:IntKind.i64.wrap (iat:Int)=(iat:Int):=by rw[IntKind.wrap_i64]; omega
 have hc1:=(HLI.out _ HB.out).2.1
 have hHL:=Zg hL
 have hHB2:=Zg hb2
 have HD:=Zg hD
 clear hb2 HB2 hL hD
 have hcode:XA=(YJ XA).seq ((YJ (ZY 1 XA)).seq ((YJ (ZY 2 XA)).seq ((YJ (ZY 3 XA)).seq (Zga.seq ((YJ (ZY 5 XA)).seq ((YJ (ZY 6 XA)).seq (ZY 7 XA))))))):=by kernel_rfl
 have HSY:=Zg (fun g c b' B' w1 (hBL:L+8 * k≤b'.length∧b'.length≤600000) HO HB HB2 Q a ha hK=>Zhz bl offl ll lc i k L g c A sc ss b' B' (.int .i64 start) (.bool delay) (.int .i64 D) v8 (.int .i64 at') (.int .i64 iat) w w1 hil (by omega) (by omega) hBL.1 hBL.2 (Zg fun W hW=>(HLI.out W hW).2) HSS HO HB HB2 Q a ha hK)
 rw[hcode]
 clear hcode
 generalize Zga=S8 at *
 conv=>arg 2; arg 1; whnf
 conv=>arg 2; arg 2; arg 1; whnf
 conv=>arg 2; arg 2; arg 2; arg 1; whnf
 conv=>arg 2; arg 2; arg 2; arg 2; arg 1; whnf
 conv=>arg 2; arg 2; arg 2; arg 2; arg 2; arg 2; arg 1; whnf
 conv=>arg 2; arg 2; arg 2; arg 2; arg 2; arg 2; arg 2; arg 1; whnf
 obtain⟨T8,hT8⟩: ∃ q,ZY 7 XA=q:=⟨_,rfl⟩
 rw[hT8]
 have HT8:=Zg hT8
 clear hT8
 go_wp2_with (first|(refine Zbn rfl (.tmp 54) (.tmp 57) rfl HO.out hHL.out.symm (m:=z) (by omega) (by omega) HB.out.size rfl rfl ?_; intro g1 c1 x1 ho1 hb1; have HO1:=Zg ho1; have HB1:=Zg (HB.out.trans hb1); clear ho1 hb1)|fail)
 obtain⟨b1,hd1⟩: ∃ q,b++List.replicate z 0=q:=⟨_,rfl⟩
 have hl1:b1.length=L+z:=by rw[←hd1,List.length_append,List.length_replicate,hHL.out]
 have HO1':=HO1
 clear HO1
 rw[hd1] at HO1'
 obtain⟨b2,hd2⟩: ∃ q,Zf8 L (ss.take k) 0 b1=q:=⟨_,rfl⟩
 refine HSY.out g1 c1 b1 b2 x1 ⟨by omega,by omega⟩ (Zg HO1'.out) HB1 (Zg hd2) _ _ ⟨rfl,rfl,by rw[hl1]; rfl⟩ ?_
 intro a2 x2 g2 c2 ha2 ho2 hbe2
 have HO2:=Zg ho2
 have HB2:=Zg hbe2
 have hc2:=(HLI.out _ hbe2).1
 have HD1:=Zg hd1
 have HD2:=Zg hd2
 clear ho2 hbe2 hc1 hd1 hd2 HO1' HB1 HSY
 obtain⟨u2,rfl⟩:=Ys ha2
 clear ha2 u
 have hl2:b2.length≤600000∧L+z≤b2.length:=by
  have h1:=Qu (th:=L) (ss.take k) 0 b1 (by rw[List.length_take]; omega) (fun s hs=>(HSS.out s (List.mem_of_mem_take hs)).2)
  have h2:=HD2.out
  rw[h2,List.length_take] at h1
  omega
 have hdl:=HDL.out.2
 go_wp2_with (first
  | (refine YP rfl (.tmp 103) (.tmp 108) 9 rfl (.string (txt dll)) HO2.out (show b2.length=b2.length from rfl) (show dll.length=dll.length from rfl) (Wu dll HDL.out.1) HDL.out.1 (by omega) HB2.out.size rfl rfl ?_; intro g3 c3 x3 ho3 hb3; have HO3:=Zg ho3; have HB3:=Zg (HB2.out.trans hb3); clear ho3 hb3)
  | (refine YP rfl (.tmp 109) (.tmp 110) 25 rfl (.slice (some ⟨x3.heap.size,0,none⟩) 1 1) (HO3.out.alloc (.cells #[.int .u8 0] 5)) (show b2.length+dll.length=(b2++dll).length from List.length_append.symm) (show 1=[0].length from rfl) (Wn (Zgb x3)) (fun v hv=>by simp at hv; omega) (by omega) (HB3.out.alloc HB3.out.size (.cells #[.int .u8 0] 5)).size rfl rfl ?_; intro g4 c4 x4 ho4 hb4; have HO4:=Zg ho4; have HB4:=Zg ((HB3.out.alloc HB3.out.size (.cells #[.int .u8 0] 5)).trans hb4); clear ho4 hb4)
  | fail)
 obtain⟨hl2,hl2'⟩:=hl2
 have hT:ss.take 70=ss.take k:=by rw[List.take_eq_take_iff]; omega
 have hb2:=hHB2.out
 simp only[Wf,hk,hHL.out,hT,hk16,hz,HD1.out,HD2.out,hk8,he1,hia] at hb2
 obtain⟨b3,hd3⟩: ∃ q,(b2++dll)++[0]=q:=⟨_,rfl⟩
 have hl3:b3.length=b2.length+dll.length+1:=by rw[←hd3]; simp only[List.length_append,List.length_cons,List.length_nil]
 rw[hd3] at hb2
 have ho5:=HO4.out
 rw[hd3] at ho5
 rw[←HT8.out,←hl3]
 cases delay with
 | true =>
   rw[if_pos rfl] at hb2
   exact Zh0 i at' L iat b2.length g4 c4 b3 B2 _ _ _ v8 w x4 (by omega) (by omega) (by omega) (by omega) (by omega) (by omega) (Zg ho5) HB4 (Zg hb2) Q _ ⟨rfl,rfl,rfl⟩ HK.out
 | false =>
   rw[if_neg Bool.false_ne_true] at hb2
   rcases Nat.mod_two_eq_zero_or_one i with hev|hod
   ·rw[if_neg (by omega)] at hb2
    exact Zh1 i at' k L iat b2.length g4 c4 b3 B2 _ _ _ v8 w x4 (by omega) (by omega) (by omega) (by omega) (by omega) (by omega) hev (Zg ho5) HB4 (Zg hb2) Q _ ⟨rfl,rfl,rfl⟩ HK.out
   ·rw[if_pos hod] at hb2
    exact Zj1 i at' k L iat b2.length g4 c4 b3 B2 _ _ _ v8 w x4 (by omega) (by omega) (by omega) (by omega) (by omega) (by omega) (by omega) (by omega) hod (by omega) (by omega) (Zg ho5) HB4 (Zg (by rw[hk8]; exact hb2)) Q _ ⟨rfl,rfl,rfl⟩ HK.out
theorem Jc (delay:Bool) (at' i:Nat) (b:List Nat) (x:PIm) (hat:at'+32≤b.length) (hs: ∀ s∈x.syms,s.1.length≤100) (hd:x.dll.length≤100):b.length≤(Wf delay at' i b x).length∧(Wf delay at' i b x).length≤b.length+8500:=by
 obtain⟨k,hk⟩: ∃ q,min x.syms.length 70=q:=⟨_,rfl⟩
 obtain⟨b2,hb2⟩: ∃ q,Zf8 b.length (x.syms.take 70) 0 (b++List.replicate (16 * k+16) 0)=q:=⟨_,rfl⟩
 have h1:=Qu (th:=b.length) (x.syms.take 70) 0 (b++List.replicate (16 * k+16) 0) (by rw[List.length_take,List.length_append,List.length_replicate]; omega) (fun s hs'=>hs s (List.mem_of_mem_take hs'))
 rw[hb2,List.length_take,List.length_append,List.length_replicate] at h1
 obtain⟨b3,hb3⟩: ∃ q,(b2++x.dll)++[0]=q:=⟨_,rfl⟩
 have h3:b3.length=b2.length+x.dll.length+1:=by rw[←hb3]; simp only[List.length_append,List.length_cons,List.length_nil]
 obtain⟨iat,hia⟩: ∃ q,b.length+8 * k+8=q:=⟨_,rfl⟩
 have he:(Wf delay at' i b x).length=b3.length:=by
  simp only[Wf,hk,hb2,hb3,hia]
  cases delay with
  | true =>
    rw[if_pos rfl]
    have L1:(ZQ b3 (at') 4 1).length=b3.length:=Zo (by omega) _
    have L2:(ZQ (ZQ b3 (at') 4 1) (at'+4) 4 b2.length).length=b3.length:=by rw[Zo (by rw[L1]; omega)]; exact L1
    have L3:(ZQ (ZQ (ZQ b3 (at') 4 1) (at'+4) 4 b2.length) (at'+8) 4 8).length=b3.length:=by rw[Zo (by rw[L2]; omega)]; exact L2
    have L4:(ZQ (ZQ (ZQ (ZQ b3 (at') 4 1) (at'+4) 4 b2.length) (at'+8) 4 8) (at'+12) 4 iat).length=b3.length:=by rw[Zo (by rw[L3]; omega)]; exact L3
    have L5:(ZQ (ZQ (ZQ (ZQ (ZQ b3 (at') 4 1) (at'+4) 4 b2.length) (at'+8) 4 8) (at'+12) 4 iat) (at'+16) 4 b.length).length=b3.length:=by rw[Zo (by rw[L4]; omega)]; exact L4
    have L6:(ZQ (ZQ (ZQ (ZQ (ZQ (ZQ b3 (at') 4 1) (at'+4) 4 b2.length) (at'+8) 4 8) (at'+12) 4 iat) (at'+16) 4 b.length) (at'+28) 4 (9+i)).length=b3.length:=by rw[Zo (by rw[L5]; omega)]; exact L5
    exact L6
  | false =>
    rw[if_neg Bool.false_ne_true]
    have L1:(ZQ b3 (at') 4 b.length).length=b3.length:=Zo (by omega) _
    have L2:(ZQ (ZQ b3 (at') 4 b.length) (at'+4) 4 i).length=b3.length:=by rw[Zo (by rw[L1]; omega)]; exact L1
    have L3:(ZQ (ZQ (ZQ b3 (at') 4 b.length) (at'+4) 4 i) (at'+12) 4 b2.length).length=b3.length:=by rw[Zo (by rw[L2]; omega)]; exact L2
    have L4:(ZQ (ZQ (ZQ (ZQ b3 (at') 4 b.length) (at'+4) 4 i) (at'+12) 4 b2.length) (at'+16) 4 iat).length=b3.length:=by rw[Zo (by rw[L3]; omega)]; exact L3
    split
    ·have L5:=Qt (b:=ZQ (ZQ (ZQ (ZQ b3 (at') 4 b.length) (at'+4) 4 i) (at'+12) 4 b2.length) (at'+16) 4 iat) (iat:=iat) (th:=b.length) (m:=8 * k) (by rw[L4]; omega) (by rw[L4]; omega)
     rw[Zo (by show at'+4≤(cpL _ iat b.length (8 * k)).length; rw[L5,L4]; omega)]
     exact L5.trans L4
    ·exact L4
 rw[he]
 omega
noncomputable def Zc9:Code:=Zfq (UZ (ZY 1 (YJ (ZY 5 Xq))))
theorem Zgi:YJ (ZY 5 Xq)=(YJ (YJ (ZY 5 Xq))).seq (Code.block 0 (Code.loop Zc9)):=by kernel_rfl
theorem Zgj:Zc9=(YJ Zc9).seq ((Code.block 1 XA).seq (ZY 2 Zc9)):=by kernel_rfl
theorem Yv {a:Act} {v0 v1 v2 v7 v8 v9:Value} (h:Has 175 [0,1,2,7,8,9] [v0,v1,v2,v7,v8,v9] a): ∃ u:Nat→Value,a=⟨(v0::v1::v2::u 3::u 4::u 5::u 6::v7::v8::v9::u 10::u 11::u 12::u 13::u 14::u 15::u 16::u 17::u 18::u 19::u 20::u 21::u 22::u 23::u 24::u 25::u 26::u 27::u 28::u 29::u 30::u 31::u 32::u 33::u 34::u 35::u 36::u 37::u 38::u 39::u 40::u 41::u 42::u 43::u 44::u 45::u 46::u 47::u 48::u 49::u 50::u 51::u 52::u 53::u 54::u 55::u 56::u 57::u 58::u 59::u 60::u 61::u 62::u 63::u 64::u 65::u 66::u 67::u 68::u 69::u 70::u 71::u 72::u 73::u 74::u 75::u 76::u 77::u 78::u 79::u 80::u 81::u 82::u 83::u 84::u 85::u 86::u 87::u 88::u 89::u 90::u 91::u 92::u 93::u 94::u 95::u 96::u 97::u 98::u 99::u 100::u 101::u 102::u 103::u 104::u 105::u 106::u 107::u 108::u 109::u 110::u 111::u 112::u 113::u 114::u 115::u 116::u 117::u 118::u 119::u 120::u 121::u 122::u 123::u 124::u 125::u 126::u 127::u 128::u 129::u 130::u 131::u 132::u 133::u 134::u 135::u 136::u 137::u 138::u 139::u 140::u 141::u 142::u 143::u 144::u 145::u 146::u 147::u 148::u 149::u 150::u 151::u 152::u 153::u 154::u 155::u 156::u 157::u 158::u 159::u 160::u 161::u 162::u 163::u 164::u 165::u 166::u 167::u 168::u 169::u 170::u 171::u 172::u 173::u 174::[]).toArray,[]⟩:=by
 obtain⟨⟨l⟩,d⟩:=a
 obtain⟨hs,hd,hl⟩:=h
 have hs':l.length=175:=hs
 have hd':d=[]:=hd
 subst hd'
 simp only[at_,List.map_cons,List.map_nil,List.cons.injEq,and_true] at hl
 obtain⟨e0,e1,e2,e7,e8,e9⟩:=hl
 refine⟨sl ⟨⟨l⟩,[]⟩,?_⟩
 have key:=Zz l [] 175 hs'
 rw[Va] at key
 have u0:sl ⟨⟨l⟩,[]⟩ 0=v0:=by unfold sl; rw[e0]; rfl
 have u1:sl ⟨⟨l⟩,[]⟩ 1=v1:=by unfold sl; rw[e1]; rfl
 have u2:sl ⟨⟨l⟩,[]⟩ 2=v2:=by unfold sl; rw[e2]; rfl
 have u7:sl ⟨⟨l⟩,[]⟩ 7=v7:=by unfold sl; rw[e7]; rfl
 have u8:sl ⟨⟨l⟩,[]⟩ 8=v8:=by unfold sl; rw[e8]; rfl
 have u9:sl ⟨⟨l⟩,[]⟩ 9=v9:=by unfold sl; rw[e9]; rfl
 rw[←u0,←u1,←u2,←u7,←u8,←u9]
 exact congrArg (fun x=>(⟨⟨x⟩,[]⟩:Act)) key
theorem WO {a:Act} {v0 v1 v2 v7 v8:Value} (h:Has 175 [0,1,2,7,8] [v0,v1,v2,v7,v8] a): ∃ u:Nat→Value,a=⟨(v0::v1::v2::u 3::u 4::u 5::u 6::v7::v8::u 9::u 10::u 11::u 12::u 13::u 14::u 15::u 16::u 17::u 18::u 19::u 20::u 21::u 22::u 23::u 24::u 25::u 26::u 27::u 28::u 29::u 30::u 31::u 32::u 33::u 34::u 35::u 36::u 37::u 38::u 39::u 40::u 41::u 42::u 43::u 44::u 45::u 46::u 47::u 48::u 49::u 50::u 51::u 52::u 53::u 54::u 55::u 56::u 57::u 58::u 59::u 60::u 61::u 62::u 63::u 64::u 65::u 66::u 67::u 68::u 69::u 70::u 71::u 72::u 73::u 74::u 75::u 76::u 77::u 78::u 79::u 80::u 81::u 82::u 83::u 84::u 85::u 86::u 87::u 88::u 89::u 90::u 91::u 92::u 93::u 94::u 95::u 96::u 97::u 98::u 99::u 100::u 101::u 102::u 103::u 104::u 105::u 106::u 107::u 108::u 109::u 110::u 111::u 112::u 113::u 114::u 115::u 116::u 117::u 118::u 119::u 120::u 121::u 122::u 123::u 124::u 125::u 126::u 127::u 128::u 129::u 130::u 131::u 132::u 133::u 134::u 135::u 136::u 137::u 138::u 139::u 140::u 141::u 142::u 143::u 144::u 145::u 146::u 147::u 148::u 149::u 150::u 151::u 152::u 153::u 154::u 155::u 156::u 157::u 158::u 159::u 160::u 161::u 162::u 163::u 164::u 165::u 166::u 167::u 168::u 169::u 170::u 171::u 172::u 173::u 174::[]).toArray,[]⟩:=by
 obtain⟨⟨l⟩,d⟩:=a
 obtain⟨hs,hd,hl⟩:=h
 have hs':l.length=175:=hs
 have hd':d=[]:=hd
 subst hd'
 simp only[at_,List.map_cons,List.map_nil,List.cons.injEq,and_true] at hl
 obtain⟨e0,e1,e2,e7,e8⟩:=hl
 refine⟨sl ⟨⟨l⟩,[]⟩,?_⟩
 have key:=Zz l [] 175 hs'
 rw[Va] at key
 have u0:sl ⟨⟨l⟩,[]⟩ 0=v0:=by unfold sl; rw[e0]; rfl
 have u1:sl ⟨⟨l⟩,[]⟩ 1=v1:=by unfold sl; rw[e1]; rfl
 have u2:sl ⟨⟨l⟩,[]⟩ 2=v2:=by unfold sl; rw[e2]; rfl
 have u7:sl ⟨⟨l⟩,[]⟩ 7=v7:=by unfold sl; rw[e7]; rfl
 have u8:sl ⟨⟨l⟩,[]⟩ 8=v8:=by unfold sl; rw[e8]; rfl
 rw[←u0,←u1,←u2,←u7,←u8]
 exact congrArg (fun x=>(⟨⟨x⟩,[]⟩:Act)) key
set_option maxHeartbeats 8000000 in
theorem Zh7 (start D n bl offl ll lc g c:Nat) (delay:Bool) (l:List PIm) (b B2:List Nat) (w x0:World) (hD:D=Zc7 delay) (hn:n≤18) (hnl:n≤l.length) (hll:n≤ll) (hbl:b.length≤200000) (hst:start+D * (n+1)≤b.length)
 (HLI:Hid (∀ i x,l[i]? =some x→ ∃ A sc,∀ W,Below w.heap.size w W→W.cell? ⟨bl,offl+i * 2,none⟩=some (.string (txt x.dll))∧W.cell? ⟨bl,offl+i * 2+1,none⟩=some (.slice A x.syms.length sc)∧SymW W A x.syms))
 (HSS:Hid (∀ x∈l,(Lb x.dll∧x.dll.length≤100)∧(∀ s∈x.syms,Lb s.1∧s.1.length≤100)∧x.syms.length≤100000))
 (HO:Hid (YI x0 w.heap.size g c b)) (HB:Hid (Below w.heap.size w x0)) (HB2:Hid (Zf9 delay start (l.take n) 0 b=B2)) (Q:Exit→Act→World→Prop) (a:Act)
 (ha:Has 175 [0,1,2,7,8,9] [.int .i64 start,.slice (some ⟨bl,offl,none⟩) ll lc,.bool delay,.int .i64 D,.int .i64 n,.slice (some ⟨g,0,none⟩) b.length c] a) (hK: ∀ a' w' g' c',Has 175 [0,1,2,7,8,9] [.int .i64 start,.slice (some ⟨bl,offl,none⟩) ll lc,.bool delay,.int .i64 D,.int .i64 n,.slice (some ⟨g',0,none⟩) B2.length c'] a'→YI w' w.heap.size g' c' B2→Below w.heap.size w w'→Q .normal a' w'):(YJ (ZY 5 Xq)).wp Tryz.prog Q a x0:=by
 obtain⟨u,rfl⟩:=Yv ha
 clear ha
 have HK:=Zg hK
 clear hK
 have HSR:=Zg (fun i g c A sc ss dll b' B' x1 hil hi hbl hst HLI HSS HDL hsl HO HB HB2 Q a ha hK=>Zgh start D bl offl ll lc i g c delay A sc ss dll b' B' (.int .i64 n) w x1 hD hil hi hbl hst HLI HSS HDL hsl HO HB HB2 Q a ha hK)
 rw[Zgi,Zgj]
 generalize XA=S8 at *
 conv=>arg 2; arg 1; whnf
 conv=>arg 2; arg 2; arg 2; arg 1; arg 1; whnf
 conv=>arg 2; arg 2; arg 2; arg 1; arg 2; arg 2; whnf
 have HD:=Zg hD
 have hD2:D=20∨D=32:=by rw[hD]; unfold Zc7; split <;> omega
 clear hD
 go_wp2_with fail
 refine UD 175 [0,1,2,7,8] (fun k s wr=> ∃(q g c:Nat) (b':List Nat),k=n - q∧q≤n∧s 10= .int .i64 q∧s 9= .slice (some ⟨g,0,none⟩) b'.length c∧YI wr w.heap.size g c b'∧b.length≤b'.length∧b'.length≤b.length+8500 * q∧Below w.heap.size w wr∧Zf9 delay start ((l.take n).drop q) q b'=B2) n ⟨rfl,rfl,rfl⟩ ⟨0,g,c,b,rfl,Nat.zero_le _,rfl,rfl,HO.out,Nat.le_refl _,by omega,HB.out,HB2.out⟩ ?_
 intro gk a' wr hS hR J1 K3 hJ1 hK3
 have HJ1:=Zg hJ1
 clear hJ1
 obtain⟨u3,rfl⟩:=WO (v0:= .int .i64 start) (v1:= .slice (some ⟨bl,offl,none⟩) ll lc) (v2:= .bool delay) (v7:= .int .i64 D) (v8:= .int .i64 n) ⟨hS.size,hS.dfr,hS.low.trans rfl⟩
 clear hS
 obtain⟨q,g,c,b',hgk,hq,h10,h9,ho,hb1,hb2,hbel,hrec⟩:=hR
 have h10':u3 10= .int .i64 q:=h10
 have h9':u3 9= .slice (some ⟨g,0,none⟩) b'.length c:=h9
 rw[h10',h9']
 subst hgk
 clear h10 h9 h10' h9'
 ·replace HO:=Zg ho
  replace HB:=Zg hbel
  replace HB2:=Zg hrec
  clear ho hbel hrec
  by_cases hlt:q<n
  ·obtain⟨x,hx⟩: ∃ x,l[q]? =some x:=⟨l[q]'(by omega),List.getElem?_eq_getElem (by omega)⟩
   obtain⟨A,sc,hcell⟩:=HLI.out q x hx
   have hss:=HSS.out x (List.mem_of_getElem? hx)
   obtain⟨B',hB'⟩: ∃ z,Wf delay (start+D * q) q b' ⟨x.dll,x.syms⟩=z:=⟨_,rfl⟩
   have hdq:D * q+D≤D * n:=by have:=Nat.mul_le_mul_left D hlt; rw[Nat.mul_succ] at this; exact this
   rw[Nat.mul_succ] at hst
   have hlen:=Jc delay (start+D * q) q b' ⟨x.dll,x.syms⟩ (by omega) (fun s hs=>(hss.2.1 s hs).2) hss.1.2
   rw[hB'] at hlen
   have hrec:=HB2.out
   have hdr:(l.take n).drop q=x::(l.take n).drop (q+1):=by
    have hx2:(l.take n)[q]? =some x:=by rw[List.getElem?_take_of_lt hlt]; exact hx
    obtain⟨hq2,hx3⟩:=List.getElem?_eq_some_iff.mp hx2
    rw[List.drop_eq_getElem_cons hq2,hx3]
   rw[hdr] at hrec
   have hrec':Zf9 delay start ((l.take n).drop (q+1)) (q+1) (Wf delay (start+D * q) q b' ⟨x.dll,x.syms⟩)=B2:=by rw[HD.out]; exact hrec
   rw[hB'] at hrec'
   have HREC:=Zg hrec'
   clear hrec hrec'
   go_wp2_with fail
   refine HSR.out q g c A sc x.syms x.dll b' B' _ (by omega) (by omega) (by omega) (by omega) (Zg hcell) (Zg hss.2.1) (Zg hss.1) hss.2.2 HO HB (Zg hB') _ _ ⟨rfl,rfl,rfl⟩ ?_
   intro a2 x2 g2 c2 ha2 ho2 hbe2
   obtain⟨u4,rfl⟩:=XI ha2
   clear ha2
   have HO5:=Zg ho2
   have HB5:=Zg hbe2
   clear ho2 hbe2
   cases delay
   all_goals
    go_wp2_with fail
    refine Handed.intro (n - (q+1)) (by omega) ?_
    refine HJ1.out _ _ _ ⟨⟨rfl,rfl,rfl⟩,q+1,g2,c2,B',rfl,by omega,rfl,rfl,HO5.out,by omega,by omega,HB5.out,HREC.out⟩
  ·obtain rfl:q=n:=by omega
   have hrec:=HB2.out
   rw[List.drop_eq_nil_of_le (by rw[List.length_take]; omega)] at hrec
   have hrec':b'=B2:=hrec
   subst hrec'
   go_wp2_with fail
   refine HK.out _ _ g c ⟨rfl,rfl,rfl⟩ HO.out HB.out
theorem Zgk:Xq=(YJ Xq).seq ((YJ (ZY 1 Xq)).seq ((YJ (ZY 2 Xq)).seq ((YJ (ZY 3 Xq)).seq ((YJ (ZY 4 Xq)).seq ((YJ (ZY 5 Xq)).seq (ZY 6 Xq)))))):=by kernel_rfl
set_option maxHeartbeats 8000000 in
theorem Zd6 (start bl offl lc n:Nat) (delay:Bool) (l:List PIm) (w:World) (hn:min l.length 18=n) (hs:start≤190000) (hll:l.length≤100000)
 (HLI:Hid (∀ i x,l[i]? =some x→ ∃ A sc,∀ W,Below w.heap.size w W→W.cell? ⟨bl,offl+i * 2,none⟩=some (.string (txt x.dll))∧W.cell? ⟨bl,offl+i * 2+1,none⟩=some (.slice A x.syms.length sc)∧SymW W A x.syms))
 (HSS:Hid (∀ x∈l,(Lb x.dll∧x.dll.length≤100)∧(∀ s∈x.syms,Lb s.1∧s.1.length≤100)∧x.syms.length≤100000)) :
 Calls Tryz.prog 28 #[.int .i64 start,.slice (some ⟨bl,offl,none⟩) l.length lc,.bool delay] w fun e w'=> ∃ g c,e= .returned (.slice (some ⟨g,0,none⟩) (at8 start l delay).length c)∧YI w' w.heap.size g c (at8 start l delay)∧Below w.heap.size w w':=by
 have en:min (l.length:Int) 18=(n:Int):=by omega
 obtain⟨D,hD⟩: ∃ q,Zc7 delay=q:=⟨_,rfl⟩
 have hD2:D=20∨D=32:=by rw[←hD]; unfold Zc7; split <;> omega
 obtain⟨m,hm⟩: ∃ q,D * (n+1)=q:=⟨_,rfl⟩
 have em:(D:Int) * ((n:Int)+1)=(m:Int):=by rw[←hm]; push_cast; rfl
 have hm2:m≤32 * 19:=by rw[←hm]; exact Nat.mul_le_mul (by omega) (by omega)
 obtain⟨n1,hn1⟩: ∃ q,n+1=q:=⟨_,rfl⟩
 have en1:(n:Int)+1=(n1:Int):=by omega
 rw[en1] at em
 obtain⟨z,hz⟩: ∃ q,start+m=q:=⟨_,rfl⟩
 have ez:(start:Int)+(m:Int)=(z:Int):=by omega
 have wn1:IntKind.i64.wrap (n1:Int)=(n1:Int):=by rw[IntKind.wrap_i64]; omega
 have wm:IntKind.i64.wrap (m:Int)=(m:Int):=by rw[IntKind.wrap_i64]; omega
 have wz:IntKind.i64.wrap (z:Int)=(z:Int):=by rw[IntKind.wrap_i64]; omega
 have HLOOP:=Zg (fun g c b B2 x0 hbl hst HO HB HB2 Q a ha hK=>Zh7 start D n bl offl l.length lc g c delay l b B2 w x0 hD.symm (by omega) (by omega) (by omega) hbl hst HLI HSS HO HB HB2 Q a ha hK)
 have hat8:Zf9 delay start (l.take n) 0 (List.replicate z 0)=at8 start l delay:=by
  unfold at8
  rw[hn,hD,hm,hz,show l.take 18=l.take n by rw[List.take_eq_take_iff]; omega]
 have HAT:=Zg hat8
 have hstz:start+D * (n+1)≤(List.replicate z 0).length:=by rw[List.length_replicate,hm]; omega
 have HSTZ:=Zg hstz
 have hD4:D=if delay=true then 32 else 20:=hD.symm
 clear hD hat8 hstz hm hz hn1
 go_enter Tryz.func28,Tryz.ntmps28
 conv=>arg 2; change Xq
 rw[Zgk]
 generalize YJ (ZY 5 Xq)=S8 at *
 conv=>arg 2; arg 1; whnf
 conv=>arg 2; arg 2; arg 1; whnf
 conv=>arg 2; arg 2; arg 2; arg 1; whnf
 conv=>arg 2; arg 2; arg 2; arg 2; arg 1; whnf
 conv=>arg 2; arg 2; arg 2; arg 2; arg 2; arg 1; whnf
 conv=>arg 2; arg 2; arg 2; arg 2; arg 2; arg 2; arg 2; whnf
 cases delay
 all_goals
  simp only[if_true,if_false,Bool.false_eq_true] at hD4
  have em':(D:Int) * (n1:Int)=(m:Int):=em
  rw[hD4] at em'
  have em3:(m:Int)=_:=em'.symm
  first
   | (have em4:(32:Int) * (n1:Int)=(m:Int):=em'; skip)
   | (have em5:(20:Int) * (n1:Int)=(m:Int):=em'; skip)
  clear em em' em3
  subst hD4
  go_wp2_with (first
   | (at_make; refine Yu _ rfl (.tmp 27) (.tmp 27) 25 rfl 5 (.int .u8 0) 1 (by kernel_rfl) (by kernel_rfl) rfl .i64 .i64 z (by simp[Act.eval,Act.put]) (by simp[Act.eval,Act.put]) (by omega) (by omega) ?_; intro w1 hw1 ho1; have HW1:=Zg hw1; have HO1:=Zg (YI.noughts (base:=w.heap.size) ho1 (Nat.le_refl _) (by omega)); clear hw1 ho1)
   | fail)
  have hl0:(List.replicate z 0).length=z:=List.length_replicate
  refine HLOOP.out w.heap.size z (List.replicate z 0) _ w1 (by omega) HSTZ.out HO1 HW1 HAT _ _ ⟨rfl,rfl,by rw[hl0]; rfl⟩ ?_
  intro a2 w2 g2 c2 ha2 ho2 hb2
  have HO2:=Zg ho2
  have HB2:=Zg hb2
  clear ho2 hb2
  obtain⟨u,rfl⟩:=Yv ha2
  clear ha2
  go_wp2_with fail
  refine⟨rfl,.slice (some ⟨g2,0,none⟩) _ c2,?_,g2,c2,rfl,HO2.out,HB2.out⟩
  first|(go_simp; done)|rfl|(simp[results,Tryz.func28]; done)|kernel_rfl
set_option maxHeartbeats 8000000 in
theorem Zd7 (L:Option Addr) (lc:Nat) (start D g c:Nat) (delay:Bool) (b:List Nat) (w x0:World)
 (HO:Hid (YI x0 w.heap.size g c b)) (HB:Hid (Below w.heap.size w x0)) (Q:Exit→Act→World→Prop) (a:Act)
 (ha:Has 175 [0,1,2,7,8,9] [.int .i64 start,.slice L 0 lc,.bool delay,.int .i64 D,.int .i64 (0:Nat),.slice (some ⟨g,0,none⟩) b.length c] a) (hK: ∀ a' w' g' c',Has 175 [0,1,2,7,8,9] [.int .i64 start,.slice L 0 lc,.bool delay,.int .i64 D,.int .i64 (0:Nat),.slice (some ⟨g',0,none⟩) b.length c'] a'→YI w' w.heap.size g' c' b→Below w.heap.size w w'→Q .normal a' w'):(YJ (ZY 5 Xq)).wp Tryz.prog Q a x0:=by
 obtain⟨u,rfl⟩:=Yv ha
 clear ha
 have HK:=Zg hK
 clear hK
 rw[Zgi,Zgj]
 generalize XA=S8 at *
 conv=>arg 2; arg 1; whnf
 conv=>arg 2; arg 2; arg 2; arg 1; arg 1; whnf
 conv=>arg 2; arg 2; arg 2; arg 1; arg 2; arg 2; whnf
 go_wp2_with fail
 refine UD 175 [0,1,2,7,8] (fun k s wr=>s 10= .int .i64 (0:Nat)∧s 9= .slice (some ⟨g,0,none⟩) b.length c∧wr=x0) 0 ⟨rfl,rfl,rfl⟩ ⟨rfl,rfl,rfl⟩ ?_
 intro gk a' wr hS hR J1 K3 hJ1 hK3
 have HJ1:=Zg hJ1
 clear hJ1
 obtain⟨u3,rfl⟩:=WO (v0:= .int .i64 start) (v1:= .slice L 0 lc) (v2:= .bool delay) (v7:= .int .i64 D) (v8:= .int .i64 (0:Nat)) ⟨hS.size,hS.dfr,hS.low.trans rfl⟩
 clear hS
 obtain⟨h10,h9,rfl⟩:=hR
 have h10':u3 10= .int .i64 (0:Nat):=h10
 have h9':u3 9= .slice (some ⟨g,0,none⟩) b.length c:=h9
 rw[h10',h9']
 clear h10 h9 h10' h9'
 go_wp2_with fail
 refine HK.out _ _ g c ⟨rfl,rfl,rfl⟩ HO.out HB.out
set_option maxHeartbeats 8000000 in
theorem Zgl (st:Nat) (hst:st≤400000) (delay:Bool) (L:Option Addr) (lc:Nat) (w:World) :
 Calls Tryz.prog 28 #[.int .i64 st,.slice L 0 lc,.bool delay] w fun e w'=> ∃ g c,e= .returned (.slice (some ⟨g,0,none⟩) (at8 st [] delay).length c)∧YI w' w.heap.size g c (at8 st [] delay)∧Below w.heap.size w w':=by
 obtain⟨D,hD⟩: ∃ q,Zc7 delay=q:=⟨_,rfl⟩
 have hD2:D=20∨D=32:=by rw[←hD]; unfold Zc7; split <;> omega
 obtain⟨z,hz⟩: ∃ q,st+D=q:=⟨_,rfl⟩
 have ez:(st:Int)+(D:Int)=(z:Int):=by omega
 have wz:IntKind.i64.wrap (z:Int)=(z:Int):=by rw[IntKind.wrap_i64]; omega
 have HLOOP:=Zg (fun g c b x0 HO HB Q a ha hK=>Zd7 L lc st D g c delay b w x0 HO HB Q a ha hK)
 have hat8:List.replicate z 0=at8 st [] delay:=by
  unfold at8
  simp only[List.take_nil,Zf9,List.length_nil,Nat.zero_min,Nat.zero_add,Nat.mul_one,hD,hz]
 rw[←hat8]
 have HZB:=Zg (show z≤500000 by omega)
 clear hat8 hz
 have hD4:D=if delay=true then 32 else 20:=hD.symm
 clear hD
 go_enter Tryz.func28,Tryz.ntmps28
 conv=>arg 2; change Xq
 rw[Zgk]
 generalize YJ (ZY 5 Xq)=S8 at *
 conv=>arg 2; arg 1; whnf
 conv=>arg 2; arg 2; arg 1; whnf
 conv=>arg 2; arg 2; arg 2; arg 1; whnf
 conv=>arg 2; arg 2; arg 2; arg 2; arg 1; whnf
 conv=>arg 2; arg 2; arg 2; arg 2; arg 2; arg 1; whnf
 conv=>arg 2; arg 2; arg 2; arg 2; arg 2; arg 2; arg 2; whnf
 cases delay
 ·simp only[if_true,if_false,Bool.false_eq_true] at hD4
  subst hD4
  simp only[Int.cast_ofNat_Int] at ez
  go_wp2_with (first
   | (at_make; refine Yu _ rfl (.tmp 27) (.tmp 27) 25 rfl 5 (.int .u8 0) 1 (by kernel_rfl) (by kernel_rfl) rfl .i64 .i64 z (by simp[Act.eval,Act.put] <;> omega) (by simp[Act.eval,Act.put] <;> omega) (by have:=HZB.out; omega) (by have:=HZB.out; omega) ?_; intro w1 hw1 ho1; have HW1:=Zg hw1; have HO1:=Zg (YI.noughts (base:=w.heap.size) ho1 (Nat.le_refl _) (by have:=HZB.out; omega)); clear hw1 ho1)
   | fail)
  refine HLOOP.out w.heap.size _ (List.replicate z 0) w1 HO1 HW1 _ _ ⟨rfl,rfl,by rw[List.length_replicate]; rfl⟩ ?_
  intro a2 w2 g2 c2 ha2 ho2 hb2
  have HO2:=Zg ho2
  have HB2:=Zg hb2
  clear ho2 hb2
  obtain⟨u,rfl⟩:=Yv ha2
  clear ha2
  go_wp2_with fail
  refine⟨rfl,.slice (some ⟨g2,0,none⟩) _ c2,?_,g2,c2,rfl,HO2.out,HB2.out⟩
  first|(go_simp; done)|rfl|(simp[results,Tryz.func28]; done)|kernel_rfl
 ·simp only[if_true,if_false,Bool.false_eq_true] at hD4
  subst hD4
  simp only[Int.cast_ofNat_Int] at ez
  go_wp2_with (first
   | (at_make; refine Yu _ rfl (.tmp 27) (.tmp 27) 25 rfl 5 (.int .u8 0) 1 (by kernel_rfl) (by kernel_rfl) rfl .i64 .i64 z (by simp[Act.eval,Act.put] <;> omega) (by simp[Act.eval,Act.put] <;> omega) (by have:=HZB.out; omega) (by have:=HZB.out; omega) ?_; intro w1 hw1 ho1; have HW1:=Zg hw1; have HO1:=Zg (YI.noughts (base:=w.heap.size) ho1 (Nat.le_refl _) (by have:=HZB.out; omega)); clear hw1 ho1)
   | fail)
  refine HLOOP.out w.heap.size _ (List.replicate z 0) w1 HO1 HW1 _ _ ⟨rfl,rfl,by rw[List.length_replicate]; rfl⟩ ?_
  intro a2 w2 g2 c2 ha2 ho2 hb2
  have HO2:=Zg ho2
  have HB2:=Zg hb2
  clear ho2 hb2
  obtain⟨u,rfl⟩:=Yv ha2
  clear ha2
  go_wp2_with fail
  refine⟨rfl,.slice (some ⟨g2,0,none⟩) _ c2,?_,g2,c2,rfl,HO2.out,HB2.out⟩
  first|(go_simp; done)|rfl|(simp[results,Tryz.func28]; done)|kernel_rfl
def WB (X:Vq) (n:Nat):List PIm:=(List.range n).map fun i=>⟨byt (X.D i),(List.range (X.M i)).map fun j=>(byt (X.T i j),(X.O i j % 65536).toNat,X.Y i j)⟩
theorem Zh8 {X:Vq} {n i:Nat} (hi:i<n):(WB X n)[i]? =some ⟨byt (X.D i),(List.range (X.M i)).map fun j=>(byt (X.T i j),(X.O i j % 65536).toNat,X.Y i j)⟩:=by simp[WB,hi]
theorem Zj2 {w:World} {X:Vq} {i:Nat} (h:QE w X i):SymW w (X.SA i) ((List.range (X.M i)).map fun j=>(byt (X.T i j),(X.O i j % 65536).toNat,X.Y i j)):=by
 rcases h with h|⟨b,off,hA,hlt,hc⟩
 ·exact .inl (by simp[h])
 ·refine .inr ⟨b,off,hA,hlt,fun j hj=> ?_⟩
  have hj':j<X.M i:=by simpa using hj
  obtain⟨c0,c1,c2,_⟩:=hc j hj'
  refine⟨X.O i j,?_,?_,c1,?_⟩
  ·simp only[List.getElem_map,List.getElem_range]
   omega
  ·simp only[List.getElem_map,List.getElem_range,Qk]
   exact c0
  ·simp only[List.getElem_map,List.getElem_range]
   exact c2
theorem at8w (st:Nat) (hst:st≤190000) (delay:Bool) (A:Option Addr) (n cap:Nat) (X:Vq) (w:World) (h:Zik w A n X) (hn:n≤20) (hf: ∀ i,i<n→FewI X i) :
 Calls Tryz.prog 28 #[.int .i64 st,.slice A n cap,.bool delay] w fun e u=> ∃ g c,e= .returned (.slice (some ⟨g,0,none⟩) (at8 st (WB X n) delay).length c)∧YI u w.heap.size g c (at8 st (WB X n) delay)∧Below w.heap.size w u:=by
 have hlen:(WB X n).length=n:=by simp[WB]
 rcases Nat.eq_zero_or_pos n with rfl|hn0
 ·exact Zgl st (by omega) delay A cap w
 ·obtain⟨b,off,rfl,_⟩: ∃ b off,A=some ⟨b,off,none⟩∧True:=by
   rcases h with h|⟨b,off,h1,_⟩
   ·omega
   ·exact⟨b,off,h1,trivial⟩
  have k:=Zd6 st b off cap (min n 18) delay (WB X n) w (by rw[hlen]) hst (by rw[hlen]; omega) (Zg fun i x hx=>by
   have hi:i<n:=by
    rcases Nat.lt_or_ge i n with hi|hi
    ·exact hi
    ·rw[List.getElem?_eq_none (by rw[hlen]; exact hi)] at hx; cases hx
   rw[Zh8 hi] at hx
   have hx:=Option.some.inj hx
   subst hx
   refine⟨X.SA i,X.SC i,fun W hW=> ?_⟩
   rcases h.below hW with h0|⟨b',off',hA,hlt,hc⟩
   ·omega
   ·injection hA with hA
    injection hA with h1 h2
    subst h1 h2
    obtain⟨c0,c1,_,_,c4⟩:=hc i hi
    refine⟨by simp only[Qk]; exact c0,by simp only[List.length_map,List.length_range]; exact c1,Zj2 c4⟩) (Zg fun x hx=>by
   simp only[WB,List.mem_map,List.mem_range] at hx
   obtain⟨i,hi,rfl⟩:=hx
   obtain⟨h1,h2,h3⟩:=hf i hi
   refine⟨⟨JD _,by rw[Wv]; omega⟩,fun s hs=> ?_,by simp; omega⟩
   simp only[List.mem_map,List.mem_range] at hs
   obtain⟨j,hj,rfl⟩:=hs
   exact⟨JD _,by rw[Wv]; have:=h3 j hj; omega⟩)
  rw[hlen] at k
  exact k
end Go.Proofs.YtplgdpjbkdagfaaGreat
