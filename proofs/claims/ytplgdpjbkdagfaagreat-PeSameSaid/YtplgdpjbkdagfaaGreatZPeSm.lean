import Derived.Test.YtplgdpjbkdagfaaGreatZRPeX
import Derived.Test.YtplgdpjbkdagfaaGreatZRPe
import Derived.Test.YtplgdpjbkdagfaaGreatZPeFw
import Derived.Test.YtplgdpjbkdagfaaGreatPeFx
import Derived.Test.YtplgdpjbkdagfaaGreatZPeH
import Derived.Test.YtplgdpjbkdagfaaGreatZExpM
import Derived.Test.YtplgdpjbkdagfaaGreatRows
import Derived.Lib.SmallJoins
import Derived.Test.YtplgdpjbkdagfaaGreatZOwnT
import Derived.Test.YtplgdpjbkdagfaaGreatZRelParse
namespace Go.Proofs.YtplgdpjbkdagfaaGreat
open List renaming getElem?_toArray→Za, getElem?_cons_succ→Zb, getElem?_cons_zero→Zc, setIfInBounds_toArray→Zd, set_cons_zero→Ze, set_cons_succ→Zf
open Lib renaming hid→Zg
open Go.ChangeShapes Go.WideShapes Go.ChangeAt Go.RowKit
set_option linter.unusedVariables false
set_option linter.unusedSimpArgs false
set_option maxRecDepth 100000
theorem Xa (W:World) (cs:Array Value) (t:TypeId): ∀ j u,cs.toList[j]? =some u→(W.alloc (.cells cs t)).cell? ⟨W.heap.size,j,none⟩=some u:=fun j u hj=>by
 rw[Zh (heap_alloc_new W _)]
 simpa using hj
theorem Zhb:txt [122]=⟨#[122]⟩:=by decide +kernel
theorem UA (L:List XT) (x:XT):((L++[x]).map (·.v)).map ImK≠(L.map (·.v)).map ImK:=fun h=>by
 have:=congrArg List.length h
 simp at this
theorem Zes (s:Zr): ∀ u∈s.cells,u.oneCell'=true:=by
 intro u hu
 simp[Zr.cells] at hu
 rcases hu with rfl|rfl|rfl|rfl|rfl|rfl <;> rfl
theorem Xd (b:Int):wrap64 (b+1)≠b:=by unfold wrap64; omega
theorem Xb.one {W:World} {y:PeV} {d:PeD} (h:Xb W y d):(peC y).all (·.oneCell')=true:=by
 obtain⟨sv,hv,A,c,rfl,_⟩:=h.hv
 have h1:=hv.one rfl
 obtain⟨g,N,C,f,hi,_⟩:=h.img
 obtain⟨_,_,e1,_⟩:=h.fs
 obtain⟨_,_,e2,_⟩:=h.ns
 obtain⟨_,_,_,e3,_⟩:=h.ims
 obtain⟨_,_,_,e4,_⟩:=h.des
 obtain⟨_,_,e5,_⟩:=h.bos
 obtain⟨_,_,e6,_⟩:=h.rls
 obtain⟨_,_,e7,_⟩:=h.tl
 exact Qw y (fun j hj=>Array.all_eq_true_iff_forall_mem.1 h1 (y.hd j) (by simp; exact⟨j,hj,rfl⟩)) (by rw[hi]; rfl) ⟨⟨by rw[h.e0]; rfl,by rw[e1]; rfl,by rw[e2]; rfl⟩,by rw[e3]; rfl,by rw[e6]; rfl,⟨by rw[h.t0]; rfl,by rw[h.t1]; rfl,by rw[e7]; rfl⟩,by rw[e5]; rfl,by rw[e4]; rfl⟩
theorem Jx.split {e:Ending} {u:World} (h:Jx e u): ∃ y er,e= .returned (.tuple #[.agg (peC y),.int .i64 er])∧(peC y).all (·.oneCell')=true∧(er=0→ ∃ d,Xb u y d∧1≤d.sects.length∧4096≤d.im.size∧(Uq d.h∧Ze6 d)):=by
 cases h with
 | bad er h=>exact⟨peZ,er,rfl,Ww,fun k=>absurd k h⟩
 | good y d h h1 h8 h15=>exact⟨y,0,rfl,h.one,fun _=>⟨d,h,h1,h8,h15⟩⟩
theorem Zce (f F:Nat→Int) (w:World) (h255:Zq f) (hm:Vh L12 1 F) (hs:Yx 1 F f) :
 Calls Tryz.prog 19 #[.string (ZB f 0 8704)] w fun e u=>Jx e u∧Below w.heap.size w u:=by
 have hs2:Yx 1 F (PlainAid.bt (ZB f 0 8704)):=fun i h1 h2=>by
  rw[XQ h255 (by omega),Nat.zero_add]
  exact hs i h1 h2
 have hE:=hs2.ok hm 8704 (by rw[at12]; exact Nat.le_refl _) (by omega) (by omega)
 exact Zi8 (ZB f 0 8704) w (by rw[Zt]; omega) (by rw[Zt]; exact hE)
set_option maxHeartbeats 8000000 in
theorem pesamelaw_any (p q:PIn) (fld:Int) (w:World) (hp:p.Is w) (hl:p.Lens) (hp':q.Is w) (hl':q.Lens):Calls Tryz.prog 6 #[.agg p.cells,.agg q.cells,.int .i64 fld] w fun e u=>e= .returned (.bool true)∧Below w.heap.size w u:=by
 have hb0:Below w.heap.size w ((w.alloc (.cells p.cells 32)).alloc (.cells q.cells 32)):=((Below.refl w.heap.size w).alloc (Nat.le_refl _) _).alloc (by simp) _
 have hz:=heap_alloc2_old w (.cells p.cells 32) (.cells q.cells 32)
 have hz':=heap_alloc2_new w (.cells p.cells 32) (.cells q.cells 32)
 obtain⟨w1,hw1⟩: ∃ r,(w.alloc (.cells p.cells 32)).alloc (.cells q.cells 32)=r:=⟨_,rfl⟩
 rw[hw1] at hb0 hz hz'
 have HB0:=Zg hb0
 have HZ:=Zg (And.intro hz hz')
 have HW:=Zg hw1
 have HPB:=Zg (fun W (hW:Below w.heap.size w W)=>And.intro (hp.below hW) (hp'.below hW))
 have HLN:=Zg (And.intro hl hl')
 have HAW:=Zg (fun W=>Zba W)
 have HZW:=Zg (fun W (hW:Below w1.heap.size w1 W)=>And.intro ((hW.block _ (Zi hz)).trans hz) ((hW.block _ (Zi hz')).trans hz'))
 clear hp hp' hl hl' hb0 hz hz' hw1
 go_enter Tryz.func6,Tryz.ntmps6
 go_upto_region 1 with(fail)
 refine(congrArg _ HW.out).mpr ?_
 go_wp2_with (refine wpList_load_row rfl 32 _ rfl w.heap.size rfl 32 p.cells (0,0) _ HZ.out.1 rfl rfl (by kernel_rfl) ?_)
 refine(Ze9 p w1 (HPB.out _ HB0.out).1 HLN.out.1).mono ?_
 rintro e w2 ⟨rfl|⟨rfl,hf⟩,hb⟩
 ·have HB2:=Zg (HB0.out.trans (hb.mono HB0.out.size))
  clear hb
  go_wp2_with fail
  refine(HAW.out w2).mono ?_
  rintro e w3 ⟨rfl,hb⟩
  have HB3:=Zg (HB2.out.trans (hb.mono HB2.out.size))
  clear hb
  go_wp2_with fail
  go_ret
  exact⟨rfl,HB3.out⟩
 have HB2:=Zg (HB0.out.trans (hb.mono HB0.out.size))
 have HV2:=Zg hb
 have HFW:=Zg hf
 clear hb hf
 have HQR:=Zg (show w2.rangeAt (w.heap.size+1) 0 q.cells.toList from fun j v hj=>by
  rw[Nat.zero_add,Zh (HZW.out _ HV2.out).2]
  simpa using hj)
 go_wp2_with (first|(refine Zx (by rfl) 32 (.tmp 4) rfl (w.heap.size+1) 0 rfl q.cells.toList _ HQR.out Tryz.underlying32 rfl (by kernel_rfl) ?_; rw[Array.toArray_toList])|fail)
 refine(Ze9 q w2 (HPB.out _ HB2.out).2 HLN.out.2).mono ?_
 rintro e w3 ⟨rfl|⟨rfl,hf⟩,hb⟩
 ·have HB3:=Zg (HB2.out.trans (hb.mono HB2.out.size))
  clear hb
  go_wp2_with fail
  refine(HAW.out w3).mono ?_
  rintro e w4 ⟨rfl,hb⟩
  have HB4:=Zg (HB3.out.trans (hb.mono HB3.out.size))
  clear hb
  go_wp2_with fail
  go_ret
  exact⟨rfl,HB4.out⟩
 have HB3:=Zg (HB2.out.trans (hb.mono HB2.out.size))
 have HV3:=Zg (HV2.out.trans (hb.mono HV2.out.size))
 have HFW':=Zg hf
 clear hb hf
 go_wp2_with (refine wpList_load_row rfl 32 _ rfl w.heap.size rfl 32 p.cells (0,0) _ (HZW.out _ HV3.out).1 rfl rfl (by kernel_rfl) ?_)
 refine(Ze1 p w3 (HPB.out _ HB3.out).1 HLN.out.1 HFW.out).mono ?_
 rintro e w4 ⟨g,c,F,f,rfl,ho,hm,hs,hb⟩
 have hcv:=YB (cap:=c) ho.row
 have HR:=Zg (fun W=>Zce f F W ho.by255 hm hs)
 have HB4:=Zg (HB3.out.trans (hb.mono HB3.out.size))
 have HV4:=Zg (HV3.out.trans (hb.mono HV3.out.size))
 clear ho hm hs hb
 go_wp2_with fail
 refine(HR.out w4).mono ?_
 rintro e w5 ⟨hq,hb⟩
 obtain⟨y,er,rfl,hone,hgood⟩:=hq.split
 have HB5:=Zg (HB4.out.trans (hb.mono HB4.out.size))
 have HV5:=Zg (HV4.out.trans (hb.mono HV4.out.size))
 have HY:=Zg hgood
 clear hq hb hgood hcv HR
 go_upto_region 4 with(refine wpList_store_row rfl 50 _ _ rfl w5.heap.size (peC y) rfl rfl 50 _ (heap_alloc_new _ _) (by rw[Zu]; kernel_rfl) (by rw[Zu]; rfl) hone ?_)
 rw[Xt]
 have hz:=setRow_heap (w5.alloc (.cells (peC peZ) 50)) w5.heap.size _ (peC y) _ _ (heap_alloc_new _ _)
 have hb6:Below w5.heap.size w5 ((w5.alloc (.cells (peC peZ) 50)).setRow w5.heap.size (peC y)):=below_setRow ((Below.refl _ w5).alloc (Nat.le_refl _) _) (Nat.le_refl _) _
 generalize (w5.alloc (.cells (peC peZ) 50)).setRow w5.heap.size (peC y)=w6 at *
 have HB6:=Zg (HB5.out.trans (hb6.mono HB5.out.size))
 have HV6:=Zg (HV5.out.trans (hb6.mono HV5.out.size))
 have HGA:=Zg hz
 have HY6:=Zg (show er=0→ ∃ d,Xb w6 y d∧1≤d.sects.length∧4096≤d.im.size∧(Uq d.h∧Ze6 d) from fun k=>by
  obtain⟨d,h1,h2⟩:=HY.out k
  exact⟨d,h1.below hb6,h2⟩)
 clear hz hb6 HY hone
 generalize w5.heap.size=ga at *
 have HQR2:=Zg (HZW.out _ HV6.out).2
 go_wp2_with (refine wpList_load_row rfl 32 _ rfl (w.heap.size+1) rfl 32 q.cells (0,0) _ HQR2.out rfl rfl (by kernel_rfl) ?_)
 refine(Ze1 q w6 (HPB.out _ HB6.out).2 HLN.out.2 HFW'.out).mono ?_
 rintro e w7 ⟨g,c,F,f,rfl,ho,hm,hs,hb⟩
 have hcv:=YB (cap:=c) ho.row
 have HR:=Zg (fun W=>Zce f F W ho.by255 hm hs)
 have HV67:=Zg hb
 have HB7:=Zg (HB6.out.trans (hb.mono HB6.out.size))
 clear ho hm hs hb
 go_wp2_with fail
 refine(HR.out w7).mono ?_
 rintro e w8 ⟨hq,hb⟩
 obtain⟨z,er',rfl,hone,hgood⟩:=hq.split
 have HB8:=Zg (HB7.out.trans (hb.mono HB7.out.size))
 have HV68:=Zg (HV67.out.trans (hb.mono HV67.out.size))
 have HY':=Zg hgood
 clear hq hb hgood hcv HR
 go_upto_region 5 with(refine wpList_store_row rfl 50 _ _ rfl w8.heap.size (peC z) rfl rfl 50 _ (heap_alloc_new _ _) (by rw[Zu]; kernel_rfl) (by rw[Zu]; rfl) hone ?_)
 rw[Xt]
 have hz:=setRow_heap (w8.alloc (.cells (peC peZ) 50)) w8.heap.size _ (peC z) _ _ (heap_alloc_new _ _)
 have hb9:Below w8.heap.size w8 ((w8.alloc (.cells (peC peZ) 50)).setRow w8.heap.size (peC z)):=below_setRow ((Below.refl _ w8).alloc (Nat.le_refl _) _) (Nat.le_refl _) _
 generalize (w8.alloc (.cells (peC peZ) 50)).setRow w8.heap.size (peC z)=w9 at *
 have HB9:=Zg (HB8.out.trans (hb9.mono HB8.out.size))
 have hv9:=HV68.out.trans (hb9.mono HV68.out.size)
 have HGA9:=Zg ((hv9.block _ (Zi HGA.out)).trans HGA.out)
 have HGB9:=Zg hz
 have HY9:=Zg (show er'=0→ ∃ d,Xb w9 z d∧1≤d.sects.length∧4096≤d.im.size∧(Uq d.h∧Ze6 d) from fun k=>by
  obtain⟨d,h1,h2⟩:=HY'.out k
  exact⟨d,h1.below hb9,h2⟩)
 have HX9:=Zg (show er=0→ ∃ d,Xb w9 y d∧1≤d.sects.length∧4096≤d.im.size∧(Uq d.h∧Ze6 d) from fun k=>by
  obtain⟨d,h1,h2⟩:=HY6.out k
  exact⟨d,h1.below hv9,h2⟩)
 clear hz hb9 hv9 HY' HY6 hone HQR2 HGA HV68 HV67 HV6 HB7 HB8
 generalize w8.heap.size=gb at *
 by_cases c1:er=0
 rotate_left 1
 ·have n1:(er != 0)=true:=bne_iff_ne.2 c1
  clear c1
  go_wp2_with fail
  refine(HAW.out w9).mono ?_
  rintro e wx ⟨rfl,hb⟩
  have HBX:=Zg (HB9.out.trans (hb.mono HB9.out.size))
  clear hb
  go_wp2_with fail
  go_ret
  exact⟨rfl,HBX.out⟩
 by_cases c2:er'=0
 rotate_left 1
 ·have n1:(er != 0)=false:=bne_eq_false_iff_eq.2 c1
  have n2:(er' != 0)=true:=bne_iff_ne.2 c2
  clear c1 c2
  go_wp2_with fail
  refine(HAW.out w9).mono ?_
  rintro e wx ⟨rfl,hb⟩
  have HBX:=Zg (HB9.out.trans (hb.mono HB9.out.size))
  clear hb
  go_wp2_with fail
  go_ret
  exact⟨rfl,HBX.out⟩
 obtain⟨d,hd,hd1,hd8,hd15⟩:=HX9.out c1
 obtain⟨e',he,_⟩:=HY9.out c2
 have HD:=Zg (And.intro hd (And.intro hd1 (And.intro hd8 hd15)))
 have HE:=Zg he
 subst c1 c2
 have hone:=hd.one
 clear hd hd1 hd8 hd15 he HX9 HY9
 have hra:w9.rangeAt ga 0 ((List.range 50).map (peF y)):=Wq w9 ga y fun j hj=>by rw[Zh HGA9.out]; exact ZJ y hj
 have HRA:=Zg hra
 clear hra
 go_upto_region 8 with(first
  | (refine wpList_load_mid rfl 50 (.tmp 7) rfl ga 0 rfl ((List.range 50).map (peF y)) _ HRA.out Tryz.underlying50 rfl (by rw[List.length_map,List.length_range]; kernel_rfl) ?_)
  | (refine wpList_store_row rfl 50 (.tmp 11) (.tmp 42) rfl w9.heap.size (peC y) rfl rfl 50 _ (heap_alloc_new _ _) (by rw[Zu]; kernel_rfl) (by rw[Zu]; rfl) hone ?_)
  | fail)
 rw[Xt]
 have hb10:Below w9.heap.size w9 ((w9.alloc (.cells (peC peZ) 50)).setRow w9.heap.size (peC y)):=below_setRow ((Below.refl _ w9).alloc (Nat.le_refl _) _) (Nat.le_refl _) _
 have hp10:YV ((w9.alloc (.cells (peC peZ) 50)).setRow w9.heap.size (peC y)) w9.heap.size y:=Vd (setRow_heap _ _ _ _ _ _ (heap_alloc_new _ _))
 have HI:=Zg (fun W (hW:Below w9.heap.size w9 W)=>And.intro (HD.out.1.below hW) (HE.out.below hW))
 have HGS:=Zg (fun W (hW:Below w9.heap.size w9 W)=>And.intro ((hW.block _ (Zi HGA9.out)).trans HGA9.out) ((hW.block _ (Zi HGB9.out)).trans HGB9.out))
 have HB9S:=Zg HB9.out.size
 have HQX:=Zg (And.intro HD.out.2.1 HD.out.2.2)
 have HHV:=Zg HD.out.1
 have hs10:((w9.alloc (.cells (peC peZ) 50)).setRow w9.heap.size (peC y)).heap.size=w9.heap.size+1:=by simp[World.setRow]
 generalize (w9.alloc (.cells (peC peZ) 50)).setRow w9.heap.size (peC y)=w10 at *
 obtain⟨go,hgo⟩: ∃ r,w9.heap.size=r:=⟨_,rfl⟩
 rw[hgo] at hb10 hp10 HI HGS HB9S hs10 ⊢
 have HS10:=Zg hs10
 have HGO:=Zg hgo
 have HB10:=Zg hb10
 have HP:=Zg hp10
 clear hb10 hp10 hone hgo HRA hs10
 obtain⟨P,hP,m0⟩: ∃ P:Nat,P<16∧bits .and .i64 fld 15=(P:Int):=⟨(fld % 16).toNat,by omega,by rw[show(15:Int)=((2 ^ 4 - 1:Nat):Int) from rfl,Xw fld 4 (by omega)]; omega⟩
 go_upto_block 0 with fail
 clear m0
 go_cut [] from 43 to 208 (fun wc=> ∃ y' d',YV wc go y'∧Xb wc y' d'∧(¬ Zjb d d'∧ ¬ Zjb d' d)∧Below go w9 wc)
 case first =>
  obtain⟨hk0,hk1,hk2,hk3,hk4,hk5,hk6,hk7,hk8⟩:=Xc HHV.out.hv.choose_spec.1
  have HK:=Zg (And.intro hk0 (And.intro hk1 (And.intro hk3 (And.intro (hk7 15 (by omega)) hk8))))
  clear hk0 hk1 hk2 hk3 hk4 hk5 hk6 hk7 hk8
  rcases(by omega:P=0∨P=1∨P=2∨P=3∨P=4∨P=5∨P=6∨P=7∨P=8∨P=9∨P=10∨P=11∨P=12∨P=13∨P=14∨P=15) with rfl|rfl|rfl|rfl|rfl|rfl|rfl|rfl|rfl|rfl|rfl|rfl|rfl|rfl|rfl|rfl
  ·
   have a:=HP.out.cell (i:=0) (by omega)
   rw[Xy y (by omega),HK.out.1] at a
   have fz:=HP.out.frozen (i:=0) (by omega)
   go_wp2_with fail
   go_meet
   case rel =>
    have hb:=HB10.out.setCell (p:=⟨go,0,none⟩) (Nat.le_refl go) (.int .u64 (IntKind.u64.wrap (d.h.base+1)))
    exact⟨_,_,HP.out.hdc 0 (by omega) _,(HI.out _ hb).1.tBase _,⟨fun q=>Zcl _ q.hd.1.1.symm,fun q=>Zcl _ q.hd.1.1⟩,hb⟩
  ·
   have a:=HP.out.cell (i:=1) (by omega)
   rw[Xy y (by omega),HK.out.2.1] at a
   have fz:=HP.out.frozen (i:=1) (by omega)
   go_wp2_with fail
   go_meet
   case rel =>
    have hb:=HB10.out.setCell (p:=⟨go,1,none⟩) (Nat.le_refl go) (.int .i64 (wrap64 (d.h.stamp+1)))
    exact⟨_,_,HP.out.hdc 1 (by omega) _,(HI.out _ hb).1.tStamp _,⟨fun q=>Xd _ q.hd.1.2.1.symm,fun q=>Xd _ q.hd.1.2.1⟩,hb⟩
  ·
   have a:=HP.out.cell (i:=37) (by omega)
   rw[Xy y (by omega),HK.out.2.2.2.1] at a
   have fz:=HP.out.frozen (i:=37) (by omega)
   have hz:0≤wrap64 ((d.h.dirs 15).2+1)∧wrap64 ((d.h.dirs 15).2+1)≤4294967296:=by
    have:=HQX.out.2.2.1 15 (by omega)
    unfold wrap64; omega
   have HZ15:=Zg hz
   clear hz
   go_wp2_with fail
   go_meet
   case rel =>
    have hb:=HB10.out.setCell (p:=⟨go,37,none⟩) (Nat.le_refl go) (.int .i64 (wrap64 ((d.h.dirs 15).2+1)))
    exact⟨_,_,HP.out.hdc 37 (by omega) _,(HI.out _ hb).1.tDir _ HZ15.out.1 HZ15.out.2,⟨fun q=>Xd _ (by have:=q.hd.1.2.2.2.2.2.2 15 (by omega); simp at this; exact(congrArg Prod.snd this).symm),fun q=>Xd _ (by have:=q.hd.1.2.2.2.2.2.2 15 (by omega); simp at this; exact congrArg Prod.snd this)⟩,hb⟩
  ·
   obtain⟨sv,hvv,A,cc,hval,hs,h16⟩:=HHV.out.hv
   have h38:=(Xc hvv).2.2.2.2.2.2.2.2
   have a:(w10.alloc (.cells #[] 72)).cell? ⟨ga,38,none⟩=some (.slice A d.sects.length cc):=by
    rw[Zh (HGS.out _ (HB10.out.alloc (Nat.le_trans (Nat.le_succ go) (Nat.le_of_eq HS10.out.symm)) (.cells #[] 72))).1,ZJ y (by omega),Xy y (by omega),h38,hval]
   have hlt0:w9.heap.size≤go:=Nat.le_of_eq HGO.out
   have HT0:=Zg (Below.refl (go+1) w10)
   have HT1:=Zg (HT0.out.alloc (by rw[HS10.out]; exact Nat.le_refl _) (.cells #[] 72))
   have HO1:=Zg (ZR.made (C:=Zr.cells) (sz:=6) w10 (go+1) (by rw[HS10.out]; exact Nat.le_refl _) 72)
   have HSRC:=Zg (show SlT Zr.cells 6 (w10.alloc (.cells #[] 72)) A d.sects from(hs.below (HB10.out.mono hlt0)).below ((Below.refl _ _).alloc (Nat.le_refl _) _))
   have HSZ1:=Zg (show go+1≤(w10.alloc (.cells #[] 72)).heap.size from by simp[HS10.out])
   have HFEW:=Zg h16
   clear hs hval h16 h38 hvv
   go_upto_region 18 with(first
    | (at_builtin; refine Yy rfl (.tmp 81) (.tmp 84) 39 rfl (go+1) 72 _ 56 rfl Zdd rfl (by omega) Zr.cells_len Zes w10.heap.size 0 [] rfl HO1.out A _ cc d.sects rfl rfl HSRC.out (by have:=HFEW.out; unfold maxLen; simp; omega) (by have:=HFEW.out; simp; omega) HSZ1.out ?_; intro g4 cap4 w4 hown4 hg4
       have HT4:=Zg (HO1.out.grew HT1.out (Nat.le_refl _) HSZ1.out hg4)
       simp only[List.length_nil,Nat.zero_add,List.nil_append] at hown4
       have HO4:=Zg hown4
       have hp4:YV w4 go y:=Own.of_block HP.out (HT4.out.block go (Nat.lt_succ_self go)) HT4.out.size
       have hc8:=hp4.cell (i:=38) (by omega)
       have hf8:=hp4.frozen (i:=38) (by omega)
       have HP4:=Zg hp4
       clear hown4 hg4 hp4
       try simp only[List.length_nil,Nat.zero_add])
    | fail)
   have hso:=Zy HO4.out (a:=⟨go,38,none⟩) (Nat.lt_succ_self go) (.slice (some ⟨g4,0,none⟩) d.sects.length cap4)
   have hp5:=HP4.out.hdc 38 (by omega) (.slice (some ⟨g4,0,none⟩) d.sects.length cap4)
   have hb5:=(HB10.out.trans (HT4.out.mono (Nat.le_succ go))).setCell (p:=⟨go,38,none⟩) (Nat.le_refl go) (.slice (some ⟨g4,0,none⟩) d.sects.length cap4)
   have hgg:go+1≤g4:=(HO4.out.lt g4 rfl).1
   clear hc8 hf8 a
   generalize w4.setCell ⟨go,38,none⟩ (.slice (some ⟨g4,0,none⟩) d.sects.length cap4)=w5 at *
   have hk:w5.cell? ⟨go,38,none⟩=some (.slice (some ⟨g4,0,none⟩) d.sects.length cap4):=by
    rw[hp5.cell (i:=38) (by omega),Xy _ (by omega)]
    show some (Vj y.hd 38 (.slice (some ⟨g4,0,none⟩) d.sects.length cap4) 38)=_
    simp[Vj]
   have hsl:=hso.sl Zr.cells_len
   have hl1:=HQX.out.1
   obtain⟨_,_,_,_,_,_,e5⟩:=hsl.at6o 0 (by omega)
   simp only[Nat.zero_mul,Nat.zero_add] at e5
   obtain⟨cur,hcur⟩:=hso.blk
   have fz5:w5.frozen? ⟨g4,5,none⟩=false:=frozen_of_row _ _ _ _ _ hcur
   have hlz:(0:Int)<d.sects.length:=by omega
   have HSL:=Zg hsl
   have HP5:=Zg hp5
   have HB5':=Zg hb5
   have HGG:=Zg hgg
   have HL1:=Zg hl1
   obtain⟨ch,hch⟩: ∃ r,(d.sects[0]'(by omega)).chars=r:=⟨_,rfl⟩
   rw[hch] at e5
   have HCH:=Zg hch
   clear hso hp5 hb5 hgg hsl hcur hch
   go_wp2_with fail
   go_meet
   case rel =>
    have hz:0<d.sects.length:=by have:=HL1.out; omega
    obtain⟨s0,hs0⟩: ∃ s:Zr,s={ d.sects[0] with chars:=wrap64 (ch+1) }:=⟨_,rfl⟩
    have hset:=HSL.out.setT 0 5 hz (by omega) (.int .i64 (wrap64 (ch+1))) s0 Zr.cells_len (by rw[hs0]; rfl) (fun j hj=>by
     rw[hs0]
     rcases j with _|_|_|_|_|_|j
     ·rfl
     ·rfl
     ·rfl
     ·rfl
     ·rfl
     ·exact absurd rfl hj
     ·rfl)
    have hb:=HB5'.out.setCell (p:=⟨g4,5,none⟩) (show go≤g4 from by have:=HGG.out; omega) (.int .i64 (wrap64 (ch+1)))
    have hll:(d.sects.set 0 s0).length=d.sects.length:=by simp
    have ht:=(HI.out _ hb).1.tSects (some ⟨g4,0,none⟩) cap4 (d.sects.set 0 s0) hset (by rw[hll]; exact HFEW.out)
    rw[hll] at ht
    have hne:d.sects.map Zr.cells≠(d.sects.set 0 s0).map Zr.cells:=fun q=>by
     have h2:=congrArg (fun L=>L[0]?) q
     simp only[List.getElem?_map,List.getElem?_eq_getElem hz,List.getElem?_eq_getElem (show 0<(d.sects.set 0 s0).length by rw[hll]; exact hz),Option.map_some,Option.some.injEq,List.getElem_set_self] at h2
     have h3:=congrArg (fun L=>L[5]?) h2
     simp[Zr.cells,hs0,HCH.out] at h3
     exact Xd _ h3.symm
    refine⟨_,_,?_,ht,⟨fun q=>hne q.hd.2,fun q=>hne q.hd.2.symm⟩,hb⟩
    exact HP5.out.kept ((Xg.refl (fun k=>k=go) w5).setCell (p:=⟨g4,5,none⟩) (show ¬ g4=go from by have:=HGG.out; omega) _) rfl
  ·
   obtain⟨gi,N,C,f8,hval,hr,him⟩:=HHV.out.img
   have hN:4096≤N∧N≤262144:=by
    have h1:=HQX.out.2.1
    have h2:=HQX.out.2.2.2.2.2.2.2.2.2.2
    rw[him,Zt] at h1 h2
    exact⟨h1,h2⟩
   have a:(w10.alloc (.cells #[] 5)).cell? ⟨ga,39,none⟩=some (.slice (some ⟨gi,0,none⟩) N C):=by
    rw[Zh (HGS.out _ (HB10.out.alloc (Nat.le_trans (Nat.le_succ go) (Nat.le_of_eq HS10.out.symm)) (.cells #[] 5))).1,ZJ y (by omega),show peF y 39=y.img from rfl,hval]
   have hlt0:w9.heap.size≤go:=Nat.le_of_eq HGO.out
   have HT0:=Zg (Below.refl (go+1) w10)
   have HT1:=Zg (HT0.out.alloc (by rw[HS10.out]; exact Nat.le_refl _) (.cells #[] 5))
   have HO1:=Zg ((YD.empty w10).weaken (show go+1≤w10.heap.size from by rw[HS10.out]; exact Nat.le_refl _))
   have HSRC:=Zg (show VF (w10.alloc (.cells #[] 5)) gi 0 N C f8 from(hr.below (HB10.out.mono hlt0)).below ((Below.refl _ _).alloc (Nat.le_refl _) _))
   have HSZ1:=Zg (show go+1≤(w10.alloc (.cells #[] 5)).heap.size from by simp[HS10.out])
   have HN:=Zg hN
   have HIMG:=Zg him
   clear hr hval him hN
   go_upto_region 21 with(first
    | (at_builtin; refine Vu rfl (.tmp 99) (.tmp 101) rfl HO1.out (.inr ⟨gi,0,rfl,HSRC.out.lt,HSRC.out.row⟩) HSRC.out.by255 (by have:=HN.out; omega) HSZ1.out rfl rfl ?_; intro g4 cap4 w4 ho4 hb4
       have HT4:=Zg (HT1.out.trans hb4)
       rw[Nat.zero_add] at ho4
       have HO4:=Zg (ho4.congr HSRC.out.by255 (f':=f8) (fun i hi=>by unfold Uc; rw[if_neg (by omega)]; rfl))
       have hp4:YV w4 go y:=Own.of_block HP.out (HT4.out.block go (Nat.lt_succ_self go)) HT4.out.size
       have hc8:=hp4.cell (i:=39) (by omega)
       have hf8:=hp4.frozen (i:=39) (by omega)
       have HP4:=Zg hp4
       clear ho4 hb4 hp4
       try simp only[Nat.zero_add])
    | fail)
   have hp5:=HP4.out.imc (.slice (some ⟨g4,0,none⟩) N cap4)
   have hb5:=(HB10.out.trans (HT4.out.mono (Nat.le_succ go))).setCell (p:=⟨go,39,none⟩) (Nat.le_refl go) (.slice (some ⟨g4,0,none⟩) N cap4)
   have hgg:go+1≤g4:=HO4.out.le
   have ho5:YD (w4.setCell ⟨go,39,none⟩ (.slice (some ⟨g4,0,none⟩) N cap4)) (go+1) g4 N cap4 f8:=HO4.out.of_block (by simp) (heap_setCell_other w4 _ _ _ (show g4≠go from by omega))
   clear hc8 hf8 a
   generalize w4.setCell ⟨go,39,none⟩ (.slice (some ⟨g4,0,none⟩) N cap4)=w5 at *
   have hk:w5.cell? ⟨go,39,none⟩=some (.slice (some ⟨g4,0,none⟩) N cap4):=hp5.cell (i:=39) (by omega)
   have hn7:=HN.out
   have e7:=ho5.row 7 (by omega)
   rw[Nat.zero_add] at e7
   obtain⟨hc7,fz7⟩:=ho5.wr 7 (by have:=ho5.len; omega)
   have hlz:(7:Int)<N:=by omega
   obtain⟨v7,hv7⟩: ∃ r,f8 7=r:=⟨_,rfl⟩
   have hbd:=ho5.by255 7
   rw[hv7] at e7 hbd
   have HP5:=Zg hp5
   have HB5':=Zg hb5
   have HGG:=Zg hgg
   have HO5:=Zg ho5
   have HV7:=Zg (And.intro hv7 hbd)
   clear hp5 hb5 hgg ho5 hv7 hbd hn7
   go_wp2_with fail
   go_meet
   case rel =>
    have hw:0≤IntKind.u8.wrap (v7+1)∧IntKind.u8.wrap (v7+1)≤255∧IntKind.u8.wrap (v7+1)≠v7:=by
     have:=HV7.out.2
     have e:IntKind.u8.wrap (v7+1)=(v7+1) % 256:=by simp[IntKind.wrap,IntKind.bits,IntKind.signed]
     rw[e]; omega
    have hset:=HO5.out.set 7 (IntKind.u8.wrap (v7+1)) (by have:=HN.out; omega) hw.1 hw.2.1
    have hb:=HB5'.out.setCell (p:=⟨g4,7,none⟩) (show go≤g4 from by have:=HGG.out; omega) (.int .u8 (IntKind.u8.wrap (v7+1)))
    have ht:=(HI.out _ hb).1.tImg g4 N cap4 _ hset.rowB
    have hne:d.im≠ZB (Qm f8 7 (IntKind.u8.wrap (v7+1))) 0 N:=fun q=>by
     rw[HIMG.out] at q
     have h1:=XQ HO5.out.by255 (o:=0) (n:=N) (i:=7) (by have:=HN.out; omega)
     have h2:=XQ hset.by255 (o:=0) (n:=N) (i:=7) (by have:=HN.out; omega)
     rw[q,h2,Nat.zero_add,HV7.out.1] at h1
     unfold Qm at h1
     rw[if_pos rfl] at h1
     exact hw.2.2 h1
    refine⟨_,_,?_,ht,⟨fun q=>hne q.im,fun q=>hne q.im.symm⟩,hb⟩
    exact HP5.out.kept ((Xg.refl (fun k=>k=go) w5).setCell (p:=⟨g4,7,none⟩) (show ¬ g4=go from by have:=HGG.out; omega) _) rfl
  ·
   have a:=HP.out.cell (i:=40) (by omega)
   rw[show peF y 40=y.e0 from rfl,HHV.out.e0] at a
   have fz:=HP.out.frozen (i:=40) (by omega)
   go_wp2_with fail
   go_meet
   case rel =>
    have hb:=HB10.out.setCell (p:=⟨go,40,none⟩) (Nat.le_refl go) (.int .i64 (wrap64 (d.eb+1)))
    exact⟨_,_,HP.out.ebc _,(HI.out _ hb).1.tEb _,⟨fun q=>Xd _ q.eb.symm,fun q=>Xd _ q.eb⟩,hb⟩
  ·
   obtain⟨A,cc,hval,hs,hl⟩:=HHV.out.fs
   have a:(w10.alloc (.cells #[] 74)).cell? ⟨ga,41,none⟩=some (.slice A d.fs.length cc):=by
    rw[Zh (HGS.out _ (HB10.out.alloc (Nat.le_trans (Nat.le_succ go) (Nat.le_of_eq HS10.out.symm)) (.cells #[] 74))).1,ZJ y (by omega),show peF y 41=y.e1 from rfl,hval]
   have hfew:=HQX.out.2.2.2.1
   have hlt0:w9.heap.size≤go:=Nat.le_of_eq HGO.out
   have HT0:=Zg (Below.refl (go+1) w10)
   have HT1:=Zg (HT0.out.alloc (by rw[HS10.out]; exact Nat.le_refl _) (.cells #[] 74))
   have HO1:=Zg (ZR.made (C:=gC) (sz:=2) w10 (go+1) (by rw[HS10.out]; exact Nat.le_refl _) 74)
   have HSRC:=Zg (show SlT gC 2 (w10.alloc (.cells #[] 74)) A d.fs from(hs.below (HB10.out.mono hlt0)).below ((Below.refl _ _).alloc (Nat.le_refl _) _))
   have HSZ1:=Zg (show go+1≤(w10.alloc (.cells #[] 74)).heap.size from by simp[HS10.out])
   have HFEW:=Zg hfew
   have HLL:=Zg hl
   clear hs hval hfew hl
   go_wp2_with (first
    | (at_builtin; refine Yy rfl (.tmp 120) (.tmp 123) 42 rfl (go+1) 74 _ 24 rfl WT rfl (by omega) Ui Jy w10.heap.size 0 [] rfl HO1.out A _ cc d.fs rfl rfl HSRC.out (by have:=HFEW.out; unfold maxLen; simp; omega) (by have:=HFEW.out; simp; omega) HSZ1.out ?_; intro g4 cap4 w4 hown4 hg4
       have HT4:=Zg (HO1.out.grew HT1.out (Nat.le_refl _) HSZ1.out hg4)
       simp only[List.length_nil,Nat.zero_add,List.nil_append] at hown4
       have HO4:=Zg (hown4.alloc (.cells #[.int .i64 1,.string ⟨#[]⟩] 74))
       have HY4:=Zg (show ∀ j u,(gC ((1,[]):FnV))[j]? =some u→(w4.alloc (.cells #[.int .i64 1,.string ⟨#[]⟩] 74)).cell? ⟨w4.heap.size,j,none⟩=some u from fun j u hj=>Xa w4 #[.int .i64 1,.string ⟨#[]⟩] 74 j u (by simpa [gC,Zel] using hj))
       have HSZ4:=Zg (show go+1≤w4.heap.size from Nat.le_trans (by rw[HS10.out]; exact Nat.le_refl _) HT4.out.size)
       have HT5:=Zg (HT4.out.alloc HSZ4.out (.cells #[.int .i64 1,.string ⟨#[]⟩] 74))
       have HSZ5:=Zg (show go+1≤(w4.alloc (.cells #[.int .i64 1,.string ⟨#[]⟩] 74)).heap.size from Nat.le_trans HSZ4.out (by simp))
       clear hown4 hg4
       try simp only[List.length_nil,Nat.zero_add])
    | (at_builtin; refine Zv rfl (.tmp 124) (.tmp 126) 42 rfl (go+1) 74 _ 24 rfl WT rfl (by omega) Ui Jy _ d.fs rfl HO4.out w4.heap.size 1 rfl ((1,[]):FnV) HY4.out (by have:=HFEW.out; unfold maxLen; omega) (by have:=HFEW.out; omega) HSZ5.out ?_; intro g5 cap5 w8 hown5 hg5 hat5
       have HT8:=Zg (HO4.out.grew HT5.out (Nat.le_refl _) HSZ5.out hg5)
       have HO8:=Zg (show ZR gC 2 w8 (go+1) 74 (.slice (some ⟨g5,0,none⟩) (d.fs++[((1,[]):FnV)]).length cap5) (d.fs++[((1,[]):FnV)]) from by rw[show(d.fs++[((1,[]):FnV)]).length=d.fs.length+1 from by simp]; exact hown5)
       have hp8:YV w8 go y:=Own.of_block HP.out (HT8.out.block go (Nat.lt_succ_self go)) HT8.out.size
       have hc8:=hp8.cell (i:=41) (by omega)
       have hf8:=hp8.frozen (i:=41) (by omega)
       have HP8:=Zg hp8
       clear hown5 hg5 hat5 hp8)
    | fail)
   go_meet
   case rel =>
    rw[show d.fs.length+1=(d.fs++[((1,[]):FnV)]).length from by simp]
    have hb:=(HB10.out.trans (HT8.out.mono (Nat.le_trans (Nat.le_of_eq HGO.out.symm) (Nat.le_refl _) |> fun _=>Nat.le_succ go))).setCell (p:=⟨go,41,none⟩) (Nat.le_refl go) (.slice (some ⟨g5,0,none⟩) (d.fs++[((1,[]):FnV)]).length cap5)
    have hso:=(Zy HO8.out (a:=⟨go,41,none⟩) (Nat.lt_succ_self go) (.slice (some ⟨g5,0,none⟩) (d.fs++[((1,[]):FnV)]).length cap5)).sl (Ui)
    refine⟨_,_,HP8.out.fsc (.slice (some ⟨g5,0,none⟩) (d.fs++[((1,[]):FnV)]).length cap5),(HI.out _ hb).1.tFs _ _ _ hso (by have:=HFEW.out; simp; omega),⟨fun q=>Wc _ _ _ q.fs.symm,fun q=>Wc _ _ _ q.fs⟩,hb⟩
  ·
   obtain⟨A,cc,hval,hs,hl⟩:=HHV.out.ns
   have a:(w10.alloc (.cells #[] 76)).cell? ⟨ga,42,none⟩=some (.slice A d.ns.length cc):=by
    rw[Zh (HGS.out _ (HB10.out.alloc (Nat.le_trans (Nat.le_succ go) (Nat.le_of_eq HS10.out.symm)) (.cells #[] 76))).1,ZJ y (by omega),show peF y 42=y.e2 from rfl,hval]
   have hfew:=HQX.out.2.2.2.2.1
   have hlt0:w9.heap.size≤go:=Nat.le_of_eq HGO.out
   have HT0:=Zg (Below.refl (go+1) w10)
   have HT1:=Zg (HT0.out.alloc (by rw[HS10.out]; exact Nat.le_refl _) (.cells #[] 76))
   have HO1:=Zg (ZR.made (C:=nC) (sz:=2) w10 (go+1) (by rw[HS10.out]; exact Nat.le_refl _) 76)
   have HSRC:=Zg (show SlT nC 2 (w10.alloc (.cells #[] 76)) A d.ns from(hs.below (HB10.out.mono hlt0)).below ((Below.refl _ _).alloc (Nat.le_refl _) _))
   have HSZ1:=Zg (show go+1≤(w10.alloc (.cells #[] 76)).heap.size from by simp[HS10.out])
   have HFEW:=Zg hfew
   have HLL:=Zg hl
   clear hs hval hfew hl
   go_wp2_with (first
    | (at_builtin; refine Yy rfl (.tmp 132) (.tmp 135) 43 rfl (go+1) 76 _ 24 rfl Vx rfl (by omega) UL Zca w10.heap.size 0 [] rfl HO1.out A _ cc d.ns rfl rfl HSRC.out (by have:=HFEW.out; unfold maxLen; simp; omega) (by have:=HFEW.out; simp; omega) HSZ1.out ?_; intro g4 cap4 w4 hown4 hg4
       have HT4:=Zg (HO1.out.grew HT1.out (Nat.le_refl _) HSZ1.out hg4)
       simp only[List.length_nil,Nat.zero_add,List.nil_append] at hown4
       have HO4:=Zg (hown4.alloc (.cells #[.string ⟨#[122]⟩,.int .i64 0] 76))
       have HY4:=Zg (show ∀ j u,(nC (([122],0):NmV))[j]? =some u→(w4.alloc (.cells #[.string ⟨#[122]⟩,.int .i64 0] 76)).cell? ⟨w4.heap.size,j,none⟩=some u from fun j u hj=>Xa w4 #[.string ⟨#[122]⟩,.int .i64 0] 76 j u (by simpa [nC,Zhb] using hj))
       have HSZ4:=Zg (show go+1≤w4.heap.size from Nat.le_trans (by rw[HS10.out]; exact Nat.le_refl _) HT4.out.size)
       have HT5:=Zg (HT4.out.alloc HSZ4.out (.cells #[.string ⟨#[122]⟩,.int .i64 0] 76))
       have HSZ5:=Zg (show go+1≤(w4.alloc (.cells #[.string ⟨#[122]⟩,.int .i64 0] 76)).heap.size from Nat.le_trans HSZ4.out (by simp))
       clear hown4 hg4
       try simp only[List.length_nil,Nat.zero_add])
    | (at_builtin; refine Zv rfl (.tmp 136) (.tmp 138) 43 rfl (go+1) 76 _ 24 rfl Vx rfl (by omega) UL Zca _ d.ns rfl HO4.out w4.heap.size 1 rfl (([122],0):NmV) HY4.out (by have:=HFEW.out; unfold maxLen; omega) (by have:=HFEW.out; omega) HSZ5.out ?_; intro g5 cap5 w8 hown5 hg5 hat5
       have HT8:=Zg (HO4.out.grew HT5.out (Nat.le_refl _) HSZ5.out hg5)
       have HO8:=Zg (show ZR nC 2 w8 (go+1) 76 (.slice (some ⟨g5,0,none⟩) (d.ns++[(([122],0):NmV)]).length cap5) (d.ns++[(([122],0):NmV)]) from by rw[show(d.ns++[(([122],0):NmV)]).length=d.ns.length+1 from by simp]; exact hown5)
       have hp8:YV w8 go y:=Own.of_block HP.out (HT8.out.block go (Nat.lt_succ_self go)) HT8.out.size
       have hc8:=hp8.cell (i:=42) (by omega)
       have hf8:=hp8.frozen (i:=42) (by omega)
       have HP8:=Zg hp8
       clear hown5 hg5 hat5 hp8)
    | fail)
   go_meet
   case rel =>
    rw[show d.ns.length+1=(d.ns++[(([122],0):NmV)]).length from by simp]
    have hb:=(HB10.out.trans (HT8.out.mono (Nat.le_trans (Nat.le_of_eq HGO.out.symm) (Nat.le_refl _) |> fun _=>Nat.le_succ go))).setCell (p:=⟨go,42,none⟩) (Nat.le_refl go) (.slice (some ⟨g5,0,none⟩) (d.ns++[(([122],0):NmV)]).length cap5)
    have hso:=(Zy HO8.out (a:=⟨go,42,none⟩) (Nat.lt_succ_self go) (.slice (some ⟨g5,0,none⟩) (d.ns++[(([122],0):NmV)]).length cap5)).sl (UL)
    refine⟨_,_,HP8.out.nsc (.slice (some ⟨g5,0,none⟩) (d.ns++[(([122],0):NmV)]).length cap5),(HI.out _ hb).1.tNs _ _ _ hso (by have:=HFEW.out; simp; omega),⟨fun q=>Wc _ _ _ q.ns.symm,fun q=>Wc _ _ _ q.ns⟩,hb⟩
  ·
   obtain⟨A,cc,L,hval,hs0,hl0⟩:=HHV.out.ims
   have hs:=hs0.1
   have hl:=hs0.2.1
   have HS0:=Zg hs0
   have HLM:=Zg hl0
   have hll:L.length=d.ims.length:=by rw[←hl0]; simp
   clear hs0 hl0
   have a:(w10.alloc (.cells #[] 78)).cell? ⟨ga,43,none⟩=some (.slice A L.length cc):=by
    rw[Zh (HGS.out _ (HB10.out.alloc (Nat.le_trans (Nat.le_succ go) (Nat.le_of_eq HS10.out.symm)) (.cells #[] 78))).1,ZJ y (by omega),show peF y 43=y.im from rfl,hval]
   have hfew:=(show L.length≤1000 from by rw[hll]; exact HQX.out.2.2.2.2.2.1)
   have hlt0:w9.heap.size≤go:=Nat.le_of_eq HGO.out
   have HT0:=Zg (Below.refl (go+1) w10)
   have HT1:=Zg (HT0.out.alloc (by rw[HS10.out]; exact Nat.le_refl _) (.cells #[] 78))
   have HO1:=Zg (ZR.made (C:=YO) (sz:=5) w10 (go+1) (by rw[HS10.out]; exact Nat.le_refl _) 78)
   have HSRC:=Zg (show SlT YO 5 (w10.alloc (.cells #[] 78)) A L from(hs.below (HB10.out.mono hlt0)).below ((Below.refl _ _).alloc (Nat.le_refl _) _))
   have HSZ1:=Zg (show go+1≤(w10.alloc (.cells #[] 78)).heap.size from by simp[HS10.out])
   have HFEW:=Zg hfew
   have HLL:=Zg hl
   clear hs hval hfew hl
   clear hll
   go_wp2_with (first
    | (at_builtin; refine Yy rfl (.tmp 144) (.tmp 146) 46 rfl (go+1) 78 _ 64 rfl VZ rfl (by omega) Xv WS w10.heap.size 0 [] rfl HO1.out A _ cc L rfl rfl HSRC.out (by have:=HFEW.out; unfold maxLen; simp; omega) (by have:=HFEW.out; simp; omega) HSZ1.out ?_; intro g4 cap4 w4 hown4 hg4
       have HT4:=Zg (HO1.out.grew HT1.out (Nat.le_refl _) HSZ1.out hg4)
       simp only[List.length_nil,Nat.zero_add,List.nil_append] at hown4
       have HO4:=Zg (hown4.alloc (.cells #[.string ⟨#[122]⟩,.int .i64 0,.int .i64 0,.int .i64 0,.slice none 0 0] 78))
       have HY4:=Zg (show ∀ j u,(YO (⟨⟨[122],0,0,0,[]⟩,none,0⟩:XT))[j]? =some u→(w4.alloc (.cells #[.string ⟨#[122]⟩,.int .i64 0,.int .i64 0,.int .i64 0,.slice none 0 0] 78)).cell? ⟨w4.heap.size,j,none⟩=some u from fun j u hj=>Xa w4 #[.string ⟨#[122]⟩,.int .i64 0,.int .i64 0,.int .i64 0,.slice none 0 0] 78 j u (by simpa [YO,Zhb] using hj))
       have HSZ4:=Zg (show go+1≤w4.heap.size from Nat.le_trans (by rw[HS10.out]; exact Nat.le_refl _) HT4.out.size)
       have HT5:=Zg (HT4.out.alloc HSZ4.out (.cells #[.string ⟨#[122]⟩,.int .i64 0,.int .i64 0,.int .i64 0,.slice none 0 0] 78))
       have HSZ5:=Zg (show go+1≤(w4.alloc (.cells #[.string ⟨#[122]⟩,.int .i64 0,.int .i64 0,.int .i64 0,.slice none 0 0] 78)).heap.size from Nat.le_trans HSZ4.out (by simp))
       clear hown4 hg4
       try simp only[List.length_nil,Nat.zero_add])
    | (at_builtin; refine Zv rfl (.tmp 147) (.tmp 149) 46 rfl (go+1) 78 _ 64 rfl VZ rfl (by omega) Xv WS _ L rfl HO4.out w4.heap.size 1 rfl (⟨⟨[122],0,0,0,[]⟩,none,0⟩:XT) HY4.out (by have:=HFEW.out; unfold maxLen; omega) (by have:=HFEW.out; omega) HSZ5.out ?_; intro g5 cap5 w8 hown5 hg5 hat5
       have HT8:=Zg (HO4.out.grew HT5.out (Nat.le_refl _) HSZ5.out hg5)
       have HO8:=Zg (show ZR YO 5 w8 (go+1) 78 (.slice (some ⟨g5,0,none⟩) (L++[(⟨⟨[122],0,0,0,[]⟩,none,0⟩:XT)]).length cap5) (L++[(⟨⟨[122],0,0,0,[]⟩,none,0⟩:XT)]) from by rw[show(L++[(⟨⟨[122],0,0,0,[]⟩,none,0⟩:XT)]).length=L.length+1 from by simp]; exact hown5)
       have hp8:YV w8 go y:=Own.of_block HP.out (HT8.out.block go (Nat.lt_succ_self go)) HT8.out.size
       have hc8:=hp8.cell (i:=43) (by omega)
       have hf8:=hp8.frozen (i:=43) (by omega)
       have HP8:=Zg hp8
       clear hown5 hg5 hat5 hp8)
    | fail)
   go_meet
   case rel =>
    rw[show L.length+1=(L++[(⟨⟨[122],0,0,0,[]⟩,none,0⟩:XT)]).length from by simp]
    have hb:=(HB10.out.trans (HT8.out.mono (Nat.le_trans (Nat.le_of_eq HGO.out.symm) (Nat.le_refl _) |> fun _=>Nat.le_succ go))).setCell (p:=⟨go,43,none⟩) (Nat.le_refl go) (.slice (some ⟨g5,0,none⟩) (L++[(⟨⟨[122],0,0,0,[]⟩,none,0⟩:XT)]).length cap5)
    have hso:=(Zy HO8.out (a:=⟨go,43,none⟩) (Nat.lt_succ_self go) (.slice (some ⟨g5,0,none⟩) (L++[(⟨⟨[122],0,0,0,[]⟩,none,0⟩:XT)]).length cap5)).sl (Xv)
    refine⟨_,_,HP8.out.im (.slice (some ⟨g5,0,none⟩) (L++[(⟨⟨[122],0,0,0,[]⟩,none,0⟩:XT)]).length cap5),(HI.out _ hb).1.tIms _ _ _ ⟨hso,by have:=HFEW.out; simp; omega,fun z hz=>(List.mem_append.1 hz).elim (fun k=>((HS0.out.below (show Below w9.heap.size w9 _ from by rw[HGO.out]; exact hb)).2.2 z k)) (fun k=>by simp at k; subst k; exact⟨.inl rfl,by simp⟩)⟩,⟨fun q=>UA _ _ (by have:=q.ims; rw[←HLM.out] at this; exact this.symm),fun q=>UA _ _ (by have:=q.ims; rw[←HLM.out] at this; exact this)⟩,hb⟩
  ·
   obtain⟨A,cc,L,hval,hs0,hl0⟩:=HHV.out.des
   have hs:=hs0.1
   have hl:=hs0.2.1
   have HS0:=Zg hs0
   have HLM:=Zg hl0
   have hll:L.length=d.des.length:=by rw[←hl0]; simp
   clear hs0 hl0
   have a:(w10.alloc (.cells #[] 78)).cell? ⟨ga,44,none⟩=some (.slice A L.length cc):=by
    rw[Zh (HGS.out _ (HB10.out.alloc (Nat.le_trans (Nat.le_succ go) (Nat.le_of_eq HS10.out.symm)) (.cells #[] 78))).1,ZJ y (by omega),show peF y 44=y.de from rfl,hval]
   have hfew:=(show L.length≤1000 from by rw[hll]; exact HQX.out.2.2.2.2.2.2.1)
   have hlt0:w9.heap.size≤go:=Nat.le_of_eq HGO.out
   have HT0:=Zg (Below.refl (go+1) w10)
   have HT1:=Zg (HT0.out.alloc (by rw[HS10.out]; exact Nat.le_refl _) (.cells #[] 78))
   have HO1:=Zg (ZR.made (C:=YO) (sz:=5) w10 (go+1) (by rw[HS10.out]; exact Nat.le_refl _) 78)
   have HSRC:=Zg (show SlT YO 5 (w10.alloc (.cells #[] 78)) A L from(hs.below (HB10.out.mono hlt0)).below ((Below.refl _ _).alloc (Nat.le_refl _) _))
   have HSZ1:=Zg (show go+1≤(w10.alloc (.cells #[] 78)).heap.size from by simp[HS10.out])
   have HFEW:=Zg hfew
   have HLL:=Zg hl
   clear hs hval hfew hl
   clear hll
   go_wp2_with (first
    | (at_builtin; refine Yy rfl (.tmp 154) (.tmp 156) 46 rfl (go+1) 78 _ 64 rfl VZ rfl (by omega) Xv WS w10.heap.size 0 [] rfl HO1.out A _ cc L rfl rfl HSRC.out (by have:=HFEW.out; unfold maxLen; simp; omega) (by have:=HFEW.out; simp; omega) HSZ1.out ?_; intro g4 cap4 w4 hown4 hg4
       have HT4:=Zg (HO1.out.grew HT1.out (Nat.le_refl _) HSZ1.out hg4)
       simp only[List.length_nil,Nat.zero_add,List.nil_append] at hown4
       have HO4:=Zg (hown4.alloc (.cells #[.string ⟨#[122]⟩,.int .i64 0,.int .i64 0,.int .i64 0,.slice none 0 0] 78))
       have HY4:=Zg (show ∀ j u,(YO (⟨⟨[122],0,0,0,[]⟩,none,0⟩:XT))[j]? =some u→(w4.alloc (.cells #[.string ⟨#[122]⟩,.int .i64 0,.int .i64 0,.int .i64 0,.slice none 0 0] 78)).cell? ⟨w4.heap.size,j,none⟩=some u from fun j u hj=>Xa w4 #[.string ⟨#[122]⟩,.int .i64 0,.int .i64 0,.int .i64 0,.slice none 0 0] 78 j u (by simpa [YO,Zhb] using hj))
       have HSZ4:=Zg (show go+1≤w4.heap.size from Nat.le_trans (by rw[HS10.out]; exact Nat.le_refl _) HT4.out.size)
       have HT5:=Zg (HT4.out.alloc HSZ4.out (.cells #[.string ⟨#[122]⟩,.int .i64 0,.int .i64 0,.int .i64 0,.slice none 0 0] 78))
       have HSZ5:=Zg (show go+1≤(w4.alloc (.cells #[.string ⟨#[122]⟩,.int .i64 0,.int .i64 0,.int .i64 0,.slice none 0 0] 78)).heap.size from Nat.le_trans HSZ4.out (by simp))
       clear hown4 hg4
       try simp only[List.length_nil,Nat.zero_add])
    | (at_builtin; refine Zv rfl (.tmp 157) (.tmp 159) 46 rfl (go+1) 78 _ 64 rfl VZ rfl (by omega) Xv WS _ L rfl HO4.out w4.heap.size 1 rfl (⟨⟨[122],0,0,0,[]⟩,none,0⟩:XT) HY4.out (by have:=HFEW.out; unfold maxLen; omega) (by have:=HFEW.out; omega) HSZ5.out ?_; intro g5 cap5 w8 hown5 hg5 hat5
       have HT8:=Zg (HO4.out.grew HT5.out (Nat.le_refl _) HSZ5.out hg5)
       have HO8:=Zg (show ZR YO 5 w8 (go+1) 78 (.slice (some ⟨g5,0,none⟩) (L++[(⟨⟨[122],0,0,0,[]⟩,none,0⟩:XT)]).length cap5) (L++[(⟨⟨[122],0,0,0,[]⟩,none,0⟩:XT)]) from by rw[show(L++[(⟨⟨[122],0,0,0,[]⟩,none,0⟩:XT)]).length=L.length+1 from by simp]; exact hown5)
       have hp8:YV w8 go y:=Own.of_block HP.out (HT8.out.block go (Nat.lt_succ_self go)) HT8.out.size
       have hc8:=hp8.cell (i:=44) (by omega)
       have hf8:=hp8.frozen (i:=44) (by omega)
       have HP8:=Zg hp8
       clear hown5 hg5 hat5 hp8)
    | fail)
   go_meet
   case rel =>
    rw[show L.length+1=(L++[(⟨⟨[122],0,0,0,[]⟩,none,0⟩:XT)]).length from by simp]
    have hb:=(HB10.out.trans (HT8.out.mono (Nat.le_trans (Nat.le_of_eq HGO.out.symm) (Nat.le_refl _) |> fun _=>Nat.le_succ go))).setCell (p:=⟨go,44,none⟩) (Nat.le_refl go) (.slice (some ⟨g5,0,none⟩) (L++[(⟨⟨[122],0,0,0,[]⟩,none,0⟩:XT)]).length cap5)
    have hso:=(Zy HO8.out (a:=⟨go,44,none⟩) (Nat.lt_succ_self go) (.slice (some ⟨g5,0,none⟩) (L++[(⟨⟨[122],0,0,0,[]⟩,none,0⟩:XT)]).length cap5)).sl (Xv)
    refine⟨_,_,HP8.out.de (.slice (some ⟨g5,0,none⟩) (L++[(⟨⟨[122],0,0,0,[]⟩,none,0⟩:XT)]).length cap5),(HI.out _ hb).1.tDes _ _ _ ⟨hso,by have:=HFEW.out; simp; omega,fun z hz=>(List.mem_append.1 hz).elim (fun k=>((HS0.out.below (show Below w9.heap.size w9 _ from by rw[HGO.out]; exact hb)).2.2 z k)) (fun k=>by simp at k; subst k; exact⟨.inl rfl,by simp⟩)⟩,⟨fun q=>UA _ _ (by have:=q.des; rw[←HLM.out] at this; exact this.symm),fun q=>UA _ _ (by have:=q.des; rw[←HLM.out] at this; exact this)⟩,hb⟩
  ·
   obtain⟨A,cc,hval,hs,hl⟩:=HHV.out.bos
   have a:(w10.alloc (.cells #[] 80)).cell? ⟨ga,45,none⟩=some (.slice A d.bos.length cc):=by
    rw[Zh (HGS.out _ (HB10.out.alloc (Nat.le_trans (Nat.le_succ go) (Nat.le_of_eq HS10.out.symm)) (.cells #[] 80))).1,ZJ y (by omega),show peF y 45=y.bo from rfl,hval]
   have hfew:=HQX.out.2.2.2.2.2.2.2.1
   have hlt0:w9.heap.size≤go:=Nat.le_of_eq HGO.out
   have HT0:=Zg (Below.refl (go+1) w10)
   have HT1:=Zg (HT0.out.alloc (by rw[HS10.out]; exact Nat.le_refl _) (.cells #[] 80))
   have HO1:=Zg (ZR.made (C:=bC) (sz:=2) w10 (go+1) (by rw[HS10.out]; exact Nat.le_refl _) 80)
   have HSRC:=Zg (show SlT bC 2 (w10.alloc (.cells #[] 80)) A d.bos from(hs.below (HB10.out.mono hlt0)).below ((Below.refl _ _).alloc (Nat.le_refl _) _))
   have HSZ1:=Zg (show go+1≤(w10.alloc (.cells #[] 80)).heap.size from by simp[HS10.out])
   have HFEW:=Zg hfew
   have HLL:=Zg hl
   clear hs hval hfew hl
   go_wp2_with (first
    | (at_builtin; refine Yy rfl (.tmp 164) (.tmp 166) 30 rfl (go+1) 80 _ 24 rfl VH rfl (by omega) JB Zcu w10.heap.size 0 [] rfl HO1.out A _ cc d.bos rfl rfl HSRC.out (by have:=HFEW.out; unfold maxLen; simp; omega) (by have:=HFEW.out; simp; omega) HSZ1.out ?_; intro g4 cap4 w4 hown4 hg4
       have HT4:=Zg (HO1.out.grew HT1.out (Nat.le_refl _) HSZ1.out hg4)
       simp only[List.length_nil,Nat.zero_add,List.nil_append] at hown4
       have HO4:=Zg (hown4.alloc (.cells #[.string ⟨#[122]⟩,.int .i64 0] 80))
       have HY4:=Zg (show ∀ j u,(bC (([122],0):Jm))[j]? =some u→(w4.alloc (.cells #[.string ⟨#[122]⟩,.int .i64 0] 80)).cell? ⟨w4.heap.size,j,none⟩=some u from fun j u hj=>Xa w4 #[.string ⟨#[122]⟩,.int .i64 0] 80 j u (by simpa [bC,Zhb] using hj))
       have HSZ4:=Zg (show go+1≤w4.heap.size from Nat.le_trans (by rw[HS10.out]; exact Nat.le_refl _) HT4.out.size)
       have HT5:=Zg (HT4.out.alloc HSZ4.out (.cells #[.string ⟨#[122]⟩,.int .i64 0] 80))
       have HSZ5:=Zg (show go+1≤(w4.alloc (.cells #[.string ⟨#[122]⟩,.int .i64 0] 80)).heap.size from Nat.le_trans HSZ4.out (by simp))
       clear hown4 hg4
       try simp only[List.length_nil,Nat.zero_add])
    | (at_builtin; refine Zv rfl (.tmp 167) (.tmp 169) 30 rfl (go+1) 80 _ 24 rfl VH rfl (by omega) JB Zcu _ d.bos rfl HO4.out w4.heap.size 1 rfl (([122],0):Jm) HY4.out (by have:=HFEW.out; unfold maxLen; omega) (by have:=HFEW.out; omega) HSZ5.out ?_; intro g5 cap5 w8 hown5 hg5 hat5
       have HT8:=Zg (HO4.out.grew HT5.out (Nat.le_refl _) HSZ5.out hg5)
       have HO8:=Zg (show ZR bC 2 w8 (go+1) 80 (.slice (some ⟨g5,0,none⟩) (d.bos++[(([122],0):Jm)]).length cap5) (d.bos++[(([122],0):Jm)]) from by rw[show(d.bos++[(([122],0):Jm)]).length=d.bos.length+1 from by simp]; exact hown5)
       have hp8:YV w8 go y:=Own.of_block HP.out (HT8.out.block go (Nat.lt_succ_self go)) HT8.out.size
       have hc8:=hp8.cell (i:=45) (by omega)
       have hf8:=hp8.frozen (i:=45) (by omega)
       have HP8:=Zg hp8
       clear hown5 hg5 hat5 hp8)
    | fail)
   go_meet
   case rel =>
    rw[show d.bos.length+1=(d.bos++[(([122],0):Jm)]).length from by simp]
    have hb:=(HB10.out.trans (HT8.out.mono (Nat.le_trans (Nat.le_of_eq HGO.out.symm) (Nat.le_refl _) |> fun _=>Nat.le_succ go))).setCell (p:=⟨go,45,none⟩) (Nat.le_refl go) (.slice (some ⟨g5,0,none⟩) (d.bos++[(([122],0):Jm)]).length cap5)
    have hso:=(Zy HO8.out (a:=⟨go,45,none⟩) (Nat.lt_succ_self go) (.slice (some ⟨g5,0,none⟩) (d.bos++[(([122],0):Jm)]).length cap5)).sl (JB)
    refine⟨_,_,HP8.out.bo (.slice (some ⟨g5,0,none⟩) (d.bos++[(([122],0):Jm)]).length cap5),(HI.out _ hb).1.tBos _ _ _ hso (by have:=HFEW.out; simp; omega),⟨fun q=>Wc _ _ _ q.bos.symm,fun q=>Wc _ _ _ q.bos⟩,hb⟩
  ·
   obtain⟨A,cc,hval,hs,hl⟩:=HHV.out.rls
   have a:(w10.alloc (.cells #[] 82)).cell? ⟨ga,46,none⟩=some (.slice A d.rls.length cc):=by
    rw[Zh (HGS.out _ (HB10.out.alloc (Nat.le_trans (Nat.le_succ go) (Nat.le_of_eq HS10.out.symm)) (.cells #[] 82))).1,ZJ y (by omega),show peF y 46=y.re from rfl,hval]
   have hfew:=HQX.out.2.2.2.2.2.2.2.2.1
   have hlt0:w9.heap.size≤go:=Nat.le_of_eq HGO.out
   have HT0:=Zg (Below.refl (go+1) w10)
   have HT1:=Zg (HT0.out.alloc (by rw[HS10.out]; exact Nat.le_refl _) (.cells #[] 82))
   have HO1:=Zg (ZR.made (C:=Wh) (sz:=2) w10 (go+1) (by rw[HS10.out]; exact Nat.le_refl _) 82)
   have HSRC:=Zg (show SlT Wh 2 (w10.alloc (.cells #[] 82)) A d.rls from(hs.below (HB10.out.mono hlt0)).below ((Below.refl _ _).alloc (Nat.le_refl _) _))
   have HSZ1:=Zg (show go+1≤(w10.alloc (.cells #[] 82)).heap.size from by simp[HS10.out])
   have HFEW:=Zg hfew
   have HLL:=Zg hl
   clear hs hval hfew hl
   go_wp2_with (first
    | (at_builtin; refine Yy rfl (.tmp 174) (.tmp 176) 29 rfl (go+1) 82 _ 16 (by kernel_rfl) UV rfl (by omega) Xh VI w10.heap.size 0 [] rfl HO1.out A _ cc d.rls rfl rfl HSRC.out (by have:=HFEW.out; unfold maxLen; simp; omega) (by have:=HFEW.out; simp; omega) HSZ1.out ?_; intro g4 cap4 w4 hown4 hg4
       have HT4:=Zg (HO1.out.grew HT1.out (Nat.le_refl _) HSZ1.out hg4)
       simp only[List.length_nil,Nat.zero_add,List.nil_append] at hown4
       have HO4:=Zg (hown4.alloc (.cells #[.int .i64 3,.int .i64 0] 82))
       have HY4:=Zg (show ∀ j u,(Wh ((3,0):YX))[j]? =some u→(w4.alloc (.cells #[.int .i64 3,.int .i64 0] 82)).cell? ⟨w4.heap.size,j,none⟩=some u from fun j u hj=>Xa w4 #[.int .i64 3,.int .i64 0] 82 j u (by simpa [Wh] using hj))
       have HSZ4:=Zg (show go+1≤w4.heap.size from Nat.le_trans (by rw[HS10.out]; exact Nat.le_refl _) HT4.out.size)
       have HT5:=Zg (HT4.out.alloc HSZ4.out (.cells #[.int .i64 3,.int .i64 0] 82))
       have HSZ5:=Zg (show go+1≤(w4.alloc (.cells #[.int .i64 3,.int .i64 0] 82)).heap.size from Nat.le_trans HSZ4.out (by simp))
       clear hown4 hg4
       try simp only[List.length_nil,Nat.zero_add])
    | (at_builtin; refine Zv rfl (.tmp 177) (.tmp 179) 29 rfl (go+1) 82 _ 16 (by kernel_rfl) UV rfl (by omega) Xh VI _ d.rls rfl HO4.out w4.heap.size 1 rfl ((3,0):YX) HY4.out (by have:=HFEW.out; unfold maxLen; omega) (by have:=HFEW.out; omega) HSZ5.out ?_; intro g5 cap5 w8 hown5 hg5 hat5
       have HT8:=Zg (HO4.out.grew HT5.out (Nat.le_refl _) HSZ5.out hg5)
       have HO8:=Zg (show ZR Wh 2 w8 (go+1) 82 (.slice (some ⟨g5,0,none⟩) (d.rls++[((3,0):YX)]).length cap5) (d.rls++[((3,0):YX)]) from by rw[show(d.rls++[((3,0):YX)]).length=d.rls.length+1 from by simp]; exact hown5)
       have hp8:YV w8 go y:=Own.of_block HP.out (HT8.out.block go (Nat.lt_succ_self go)) HT8.out.size
       have hc8:=hp8.cell (i:=46) (by omega)
       have hf8:=hp8.frozen (i:=46) (by omega)
       have HP8:=Zg hp8
       clear hown5 hg5 hat5 hp8)
    | fail)
   go_meet
   case rel =>
    rw[show d.rls.length+1=(d.rls++[((3,0):YX)]).length from by simp]
    have hb:=(HB10.out.trans (HT8.out.mono (Nat.le_trans (Nat.le_of_eq HGO.out.symm) (Nat.le_refl _) |> fun _=>Nat.le_succ go))).setCell (p:=⟨go,46,none⟩) (Nat.le_refl go) (.slice (some ⟨g5,0,none⟩) (d.rls++[((3,0):YX)]).length cap5)
    have hso:=(Zy HO8.out (a:=⟨go,46,none⟩) (Nat.lt_succ_self go) (.slice (some ⟨g5,0,none⟩) (d.rls++[((3,0):YX)]).length cap5)).sl (Xh)
    refine⟨_,_,HP8.out.re (.slice (some ⟨g5,0,none⟩) (d.rls++[((3,0):YX)]).length cap5),(HI.out _ hb).1.tRls _ _ _ hso (by have:=HFEW.out; simp; omega),⟨fun q=>Wc _ _ _ q.rls.symm,fun q=>Wc _ _ _ q.rls⟩,hb⟩
  ·
   have a:w10.cell? ⟨ga,47,none⟩=some (.bool d.ti):=by
    rw[Zh (HGS.out w10 HB10.out).1,ZJ y (by omega),show peF y 47=y.t0 from rfl,HHV.out.t0]
   have a2:=HP.out.cell (i:=47) (by omega)
   have fz:=HP.out.frozen (i:=47) (by omega)
   go_wp2_with fail
   go_meet
   case rel =>
    have hb:=HB10.out.setCell (p:=⟨go,47,none⟩) (Nat.le_refl go) (.bool (!d.ti))
    exact⟨_,_,HP.out.tic _,(HI.out _ hb).1.tTi _,⟨fun q=>by have:=q.ti; simp at this,fun q=>by have:=q.ti; simp at this⟩,hb⟩
  ·
   obtain⟨A,cc,hval,hs,hl⟩:=HHV.out.tl
   have a:(w10.alloc (.cells #[] 3)).cell? ⟨ga,49,none⟩=some (.slice A d.tl.length cc):=by
    rw[Zh (HGS.out _ (HB10.out.alloc (Nat.le_trans (Nat.le_succ go) (Nat.le_of_eq HS10.out.symm)) (.cells #[] 3))).1,ZJ y (by omega),show peF y 49=y.t2 from rfl,hval]
   have hfew:=HQX.out.2.2.2.2.2.2.2.2.2.1
   have hlt0:w9.heap.size≤go:=Nat.le_of_eq HGO.out
   have HT0:=Zg (Below.refl (go+1) w10)
   have HT1:=Zg (HT0.out.alloc (by rw[HS10.out]; exact Nat.le_refl _) (.cells #[] 3))
   have HO1:=Zg (ZR.made (C:=Ws) (sz:=1) w10 (go+1) (by rw[HS10.out]; exact Nat.le_refl _) 3)
   have HSRC:=Zg (show SlT Ws 1 (w10.alloc (.cells #[] 3)) A d.tl from(hs.below (HB10.out.mono hlt0)).below ((Below.refl _ _).alloc (Nat.le_refl _) _))
   have HSZ1:=Zg (show go+1≤(w10.alloc (.cells #[] 3)).heap.size from by simp[HS10.out])
   have HFEW:=Zg hfew
   have HLL:=Zg hl
   clear hs hval hfew hl
   go_wp2_with (first
    | (at_builtin; refine Yy rfl (.tmp 192) (.tmp 195) 22 rfl (go+1) 3 _ 8 (by kernel_rfl) Zbg rfl (by omega) VJ Qf w10.heap.size 0 [] rfl HO1.out A _ cc d.tl rfl rfl HSRC.out (by have:=HFEW.out; unfold maxLen; simp; omega) (by have:=HFEW.out; simp; omega) HSZ1.out ?_; intro g4 cap4 w4 hown4 hg4
       have HT4:=Zg (HO1.out.grew HT1.out (Nat.le_refl _) HSZ1.out hg4)
       simp only[List.length_nil,Nat.zero_add,List.nil_append] at hown4
       have HO4:=Zg (hown4.alloc (.cells #[.int .i64 1] 3))
       have HY4:=Zg (show ∀ j u,(Ws (1:Int))[j]? =some u→(w4.alloc (.cells #[.int .i64 1] 3)).cell? ⟨w4.heap.size,j,none⟩=some u from fun j u hj=>Xa w4 #[.int .i64 1] 3 j u (by simpa [Ws] using hj))
       have HSZ4:=Zg (show go+1≤w4.heap.size from Nat.le_trans (by rw[HS10.out]; exact Nat.le_refl _) HT4.out.size)
       have HT5:=Zg (HT4.out.alloc HSZ4.out (.cells #[.int .i64 1] 3))
       have HSZ5:=Zg (show go+1≤(w4.alloc (.cells #[.int .i64 1] 3)).heap.size from Nat.le_trans HSZ4.out (by simp))
       clear hown4 hg4
       try simp only[List.length_nil,Nat.zero_add])
    | (at_builtin; refine Zv rfl (.tmp 196) (.tmp 197) 22 rfl (go+1) 3 _ 8 (by kernel_rfl) Zbg rfl (by omega) VJ Qf _ d.tl rfl HO4.out w4.heap.size 1 rfl (1:Int) HY4.out (by have:=HFEW.out; unfold maxLen; omega) (by have:=HFEW.out; omega) HSZ5.out ?_; intro g5 cap5 w8 hown5 hg5 hat5
       have HT8:=Zg (HO4.out.grew HT5.out (Nat.le_refl _) HSZ5.out hg5)
       have HO8:=Zg (show ZR Ws 1 w8 (go+1) 3 (.slice (some ⟨g5,0,none⟩) (d.tl++[(1:Int)]).length cap5) (d.tl++[(1:Int)]) from by rw[show(d.tl++[(1:Int)]).length=d.tl.length+1 from by simp]; exact hown5)
       have hp8:YV w8 go y:=Own.of_block HP.out (HT8.out.block go (Nat.lt_succ_self go)) HT8.out.size
       have hc8:=hp8.cell (i:=49) (by omega)
       have hf8:=hp8.frozen (i:=49) (by omega)
       have HP8:=Zg hp8
       clear hown5 hg5 hat5 hp8)
    | fail)
   go_meet
   case rel =>
    rw[show d.tl.length+1=(d.tl++[(1:Int)]).length from by simp]
    have hb:=(HB10.out.trans (HT8.out.mono (Nat.le_trans (Nat.le_of_eq HGO.out.symm) (Nat.le_refl _) |> fun _=>Nat.le_succ go))).setCell (p:=⟨go,49,none⟩) (Nat.le_refl go) (.slice (some ⟨g5,0,none⟩) (d.tl++[(1:Int)]).length cap5)
    have hso:=(Zy HO8.out (a:=⟨go,49,none⟩) (Nat.lt_succ_self go) (.slice (some ⟨g5,0,none⟩) (d.tl++[(1:Int)]).length cap5)).sl (VJ)
    refine⟨_,_,HP8.out.tlc (.slice (some ⟨g5,0,none⟩) (d.tl++[(1:Int)]).length cap5),(HI.out _ hb).1.tTl _ _ _ hso (by have:=HFEW.out; simp; omega),⟨fun q=>Wc _ _ _ q.tl.symm,fun q=>Wc _ _ _ q.tl⟩,hb⟩
  ·
   have a:=HP.out.cell (i:=3) (by omega)
   rw[Xy y (by omega),HK.out.2.2.1] at a
   have fz:=HP.out.frozen (i:=3) (by omega)
   go_wp2_with fail
   go_meet
   case rel =>
    have hb:=HB10.out.setCell (p:=⟨go,3,none⟩) (Nat.le_refl go) (.int .i64 (wrap64 (d.h.entry+1)))
    exact⟨_,_,HP.out.hdc 3 (by omega) _,(HI.out _ hb).1.tEntry _,⟨fun q=>Xd _ q.hd.1.2.2.2.1.symm,fun q=>Xd _ q.hd.1.2.2.2.1⟩,hb⟩
  ·
   have a:=HP.out.cell (i:=48) (by omega)
   rw[show peF y 48=y.t1 from rfl,HHV.out.t1] at a
   have fz:=HP.out.frozen (i:=48) (by omega)
   go_wp2_with fail
   go_meet
   case rel =>
    have hb:=HB10.out.setCell (p:=⟨go,48,none⟩) (Nat.le_refl go) (.int .i64 (wrap64 (d.tx+1)))
    exact⟨_,_,HP.out.txc _,(HI.out _ hb).1.tTx _,⟨fun q=>Xd _ q.tx.symm,fun q=>Xd _ q.tx⟩,hb⟩
 case rest =>
  obtain⟨y',d',hp',hi',hne,hbc⟩:=hcut
  have HNE:=Zg hne
  have HBW:=Zg (show Below w.heap.size w wc from HB9.out.trans (hbc.mono HB9S.out))
  have HIA:=Zg (fun W (hW:Below wc.heap.size wc W)=>(HI.out wc hbc).1.below hW)
  have HIB:=Zg (fun W (hW:Below wc.heap.size wc W)=>(HI.out wc hbc).2.below hW)
  have HIO:=Zg (fun W (hW:Below wc.heap.size wc W)=>hi'.below hW)
  have hga:=(HGS.out wc hbc).1
  have hgb:=(HGS.out wc hbc).2
  have HRA2:=Zg (fun W (hW:Below wc.heap.size wc W)=>Wq W ga y fun j hj=>(hW.cell (p:=⟨ga,j,none⟩) (Zi hga)).trans ((Zh hga).trans (ZJ y hj)))
  have HRB2:=Zg (fun W (hW:Below wc.heap.size wc W)=>Wq W gb z fun j hj=>(hW.cell (p:=⟨gb,j,none⟩) (Zi hgb)).trans ((Zh hgb).trans (ZJ z hj)))
  have HRO2:=Zg (fun W (hW:Below wc.heap.size wc W)=>Wq W go y' fun j hj=>(hW.cell (p:=⟨go,j,none⟩) hp'.1).trans (Own.cell hp' hj))
  clear hp' hi' hne hbc hga hgb
  go_upto_region 42 with(fail)
  have HS:=Zg (show Below wc.heap.size wc wc.drew from(Below.refl _ _).drew)
  refine wp_region_noPanic ?_
  refine Zw (fun W=>Below wc.heap.size wc W) (fun _=>True) 99 (by kernel_rfl) ?_
  refine wT (i:=0) (oi:= ?_) (v:= ?_) ?_ ?_ HS.out ?_
  rotate_left 2
  ·(simp only[Za,Zb,Zc]; rfl)
  ·refine yieldsIf_load_mid ?_ 50 (.tmp 7) ?_ ga 0 ?_ ((List.range 50).map (peF y)) _ ?_ Tryz.underlying50 ?_ ?_
   ·rfl
   ·rfl
   ·first|rfl|simp[Act.eval]
   ·exact fun W hW=>HRA2.out W hW
   ·rfl
   ·rw[List.length_map,List.length_range]; kernel_rfl
  try simp only[Act.put,Zd,Ze,Zf]
  refine wT (i:=1) (oi:= ?_) (v:= ?_) ?_ ?_ HS.out ?_
  rotate_left 2
  ·(simp only[Za,Zb,Zc]; rfl)
  ·refine yieldsIf_load_mid ?_ 50 (.tmp 7) ?_ ga 0 ?_ ((List.range 50).map (peF y)) _ ?_ Tryz.underlying50 ?_ ?_
   ·rfl
   ·rfl
   ·first|rfl|simp[Act.eval]
   ·exact fun W hW=>HRA2.out W hW
   ·rfl
   ·rw[List.length_map,List.length_range]; kernel_rfl
  try simp only[Act.put,Zd,Ze,Zf]
  refine Zk (i:=2) (o:= ?_) (by kernel_rfl) ?_ (fun K hK=> ?_)
  rotate_left 1
  ·(simp only[Za,Zb,Zc]; rfl)
  go_simp
  go_at_call 22
  refine(WV y y d d wc.drew (HIA.out _ HS.out) (HIA.out _ HS.out)).mono ?_
  rintro e x1 ⟨⟨b,rfl,hq⟩,hb⟩
  have Hx1:=Zg (show Below wc.heap.size wc x1 from HS.out.trans (hb.mono HS.out.size))
  rcases b with _|_
  ·exact absurd (hq.2 (Zjb.refl d)) (by simp)
  clear hb hq
  refine hK.out _ _ Hx1.out (fun _=>trivial) ?_
  clear hK K
  try simp only[Act.put,Zd,Ze,Zf]
  refine wT (i:=3) (oi:= ?_) (v:= ?_) ?_ ?_ Hx1.out ?_
  rotate_left 2
  ·(simp only[Za,Zb,Zc]; rfl)
  ·(first|exact Or.inr ⟨by rfl,rfl⟩|(refine Or.inl ⟨by rfl,?_⟩; intro W hSw; clear hSw; go_simp; try with_reducible rfl))
  try simp only[Act.put,Zd,Ze,Zf]
  refine wT (i:=4) (oi:= ?_) (v:= ?_) ?_ ?_ Hx1.out ?_
  rotate_left 2
  ·(simp only[Za,Zb,Zc]; rfl)
  ·refine yieldsIf_load_mid ?_ 50 (.tmp 7) ?_ ga 0 ?_ ((List.range 50).map (peF y)) _ ?_ Tryz.underlying50 ?_ ?_
   ·rfl
   ·rfl
   ·first|rfl|simp[Act.eval]
   ·exact fun W hW=>HRA2.out W hW
   ·rfl
   ·rw[List.length_map,List.length_range]; kernel_rfl
  try simp only[Act.put,Zd,Ze,Zf]
  refine wT (i:=5) (oi:= ?_) (v:= ?_) ?_ ?_ Hx1.out ?_
  rotate_left 2
  ·(simp only[Za,Zb,Zc]; rfl)
  ·refine yieldsIf_load_mid ?_ 50 (.tmp 11) ?_ go 0 ?_ ((List.range 50).map (peF y')) _ ?_ Tryz.underlying50 ?_ ?_
   ·rfl
   ·rfl
   ·first|rfl|simp[Act.eval]
   ·exact fun W hW=>HRO2.out W hW
   ·rfl
   ·rw[List.length_map,List.length_range]; kernel_rfl
  try simp only[Act.put,Zd,Ze,Zf]
  refine Zk (i:=6) (o:= ?_) (by kernel_rfl) ?_ (fun K hK=> ?_)
  rotate_left 1
  ·(simp only[Za,Zb,Zc]; rfl)
  go_simp
  go_at_call 22
  refine(WV y y' d d' x1 (HIA.out _ Hx1.out) (HIO.out _ Hx1.out)).mono ?_
  rintro e x2 ⟨⟨b,rfl,hq⟩,hb⟩
  have Hx2:=Zg (show Below wc.heap.size wc x2 from Hx1.out.trans (hb.mono Hx1.out.size))
  rcases b with _|_
  rotate_left 1
  ·exact absurd (hq.1 rfl) HNE.out.1
  clear hb hq
  refine hK.out _ _ Hx2.out (fun _=>trivial) ?_
  clear hK K
  try simp only[Act.put,Zd,Ze,Zf]
  refine wT (i:=7) (oi:= ?_) (v:= ?_) ?_ ?_ Hx2.out ?_
  rotate_left 2
  ·(simp only[Za,Zb,Zc]; rfl)
  ·(first|exact Or.inr ⟨by rfl,rfl⟩|(refine Or.inl ⟨by rfl,?_⟩; intro W hSw; clear hSw; go_simp; try with_reducible rfl))
  try simp only[Act.put,Zd,Ze,Zf]
  refine wT (i:=8) (oi:= ?_) (v:= ?_) ?_ ?_ Hx2.out ?_
  rotate_left 2
  ·(simp only[Za,Zb,Zc]; rfl)
  ·(first|exact Or.inr ⟨by rfl,rfl⟩|(refine Or.inl ⟨by rfl,?_⟩; intro W hSw; clear hSw; go_simp; try with_reducible rfl))
  try simp only[Act.put,Zd,Ze,Zf]
  refine wT (i:=9) (oi:= ?_) (v:= ?_) ?_ ?_ Hx2.out ?_
  rotate_left 2
  ·(simp only[Za,Zb,Zc]; rfl)
  ·(first|exact Or.inr ⟨by rfl,rfl⟩|(refine Or.inl ⟨by rfl,?_⟩; intro W hSw; clear hSw; go_simp; try with_reducible rfl))
  try simp only[Act.put,Zd,Ze,Zf]
  refine wT (i:=10) (oi:= ?_) (v:= ?_) ?_ ?_ Hx2.out ?_
  rotate_left 2
  ·(simp only[Za,Zb,Zc]; rfl)
  ·refine yieldsIf_load_mid ?_ 50 (.tmp 11) ?_ go 0 ?_ ((List.range 50).map (peF y')) _ ?_ Tryz.underlying50 ?_ ?_
   ·rfl
   ·rfl
   ·first|rfl|simp[Act.eval]
   ·exact fun W hW=>HRO2.out W hW
   ·rfl
   ·rw[List.length_map,List.length_range]; kernel_rfl
  try simp only[Act.put,Zd,Ze,Zf]
  refine wT (i:=11) (oi:= ?_) (v:= ?_) ?_ ?_ Hx2.out ?_
  rotate_left 2
  ·(simp only[Za,Zb,Zc]; rfl)
  ·refine yieldsIf_load_mid ?_ 50 (.tmp 7) ?_ ga 0 ?_ ((List.range 50).map (peF y)) _ ?_ Tryz.underlying50 ?_ ?_
   ·rfl
   ·rfl
   ·first|rfl|simp[Act.eval]
   ·exact fun W hW=>HRA2.out W hW
   ·rfl
   ·rw[List.length_map,List.length_range]; kernel_rfl
  try simp only[Act.put,Zd,Ze,Zf]
  refine Zk (i:=12) (o:= ?_) (by kernel_rfl) ?_ (fun K hK=> ?_)
  rotate_left 1
  ·(simp only[Za,Zb,Zc]; rfl)
  go_simp
  go_at_call 22
  refine(WV y' y d' d x2 (HIO.out _ Hx2.out) (HIA.out _ Hx2.out)).mono ?_
  rintro e x3 ⟨⟨b,rfl,hq⟩,hb⟩
  have Hx3:=Zg (show Below wc.heap.size wc x3 from Hx2.out.trans (hb.mono Hx2.out.size))
  rcases b with _|_
  rotate_left 1
  ·exact absurd (hq.1 rfl) HNE.out.2
  clear hb hq
  refine hK.out _ _ Hx3.out (fun _=>trivial) ?_
  clear hK K
  try simp only[Act.put,Zd,Ze,Zf]
  refine wT (i:=13) (oi:= ?_) (v:= ?_) ?_ ?_ Hx3.out ?_
  rotate_left 2
  ·(simp only[Za,Zb,Zc]; rfl)
  ·(first|exact Or.inr ⟨by rfl,rfl⟩|(refine Or.inl ⟨by rfl,?_⟩; intro W hSw; clear hSw; go_simp; try with_reducible rfl))
  try simp only[Act.put,Zd,Ze,Zf]
  refine wT (i:=14) (oi:= ?_) (v:= ?_) ?_ ?_ Hx3.out ?_
  rotate_left 2
  ·(simp only[Za,Zb,Zc]; rfl)
  ·(first|exact Or.inr ⟨by rfl,rfl⟩|(refine Or.inl ⟨by rfl,?_⟩; intro W hSw; clear hSw; go_simp; try with_reducible rfl))
  try simp only[Act.put,Zd,Ze,Zf]
  refine wT (i:=15) (oi:= ?_) (v:= ?_) ?_ ?_ Hx3.out ?_
  rotate_left 2
  ·(simp only[Za,Zb,Zc]; rfl)
  ·(first|exact Or.inr ⟨by rfl,rfl⟩|(refine Or.inl ⟨by rfl,?_⟩; intro W hSw; clear hSw; go_simp; try with_reducible rfl))
  try simp only[Act.put,Zd,Ze,Zf]
  refine wT (i:=16) (oi:= ?_) (v:= ?_) ?_ ?_ Hx3.out ?_
  rotate_left 2
  ·(simp only[Za,Zb,Zc]; rfl)
  ·refine yieldsIf_load_mid ?_ 50 (.tmp 7) ?_ ga 0 ?_ ((List.range 50).map (peF y)) _ ?_ Tryz.underlying50 ?_ ?_
   ·rfl
   ·rfl
   ·first|rfl|simp[Act.eval]
   ·exact fun W hW=>HRA2.out W hW
   ·rfl
   ·rw[List.length_map,List.length_range]; kernel_rfl
  try simp only[Act.put,Zd,Ze,Zf]
  refine wT (i:=17) (oi:= ?_) (v:= ?_) ?_ ?_ Hx3.out ?_
  rotate_left 2
  ·(simp only[Za,Zb,Zc]; rfl)
  ·refine yieldsIf_load_mid ?_ 50 (.tmp 9) ?_ gb 0 ?_ ((List.range 50).map (peF z)) _ ?_ Tryz.underlying50 ?_ ?_
   ·rfl
   ·rfl
   ·first|rfl|simp[Act.eval]
   ·exact fun W hW=>HRB2.out W hW
   ·rfl
   ·rw[List.length_map,List.length_range]; kernel_rfl
  try simp only[Act.put,Zd,Ze,Zf]
  refine wT (i:=19) (oi:= ?_) (v:= ?_) ?_ ?_ Hx3.out ?_
  rotate_left 2
  ·(simp only[Za,Zb,Zc]; rfl)
  ·refine yieldsIf_load_mid ?_ 50 (.tmp 7) ?_ ga 0 ?_ ((List.range 50).map (peF y)) _ ?_ Tryz.underlying50 ?_ ?_
   ·rfl
   ·rfl
   ·first|rfl|simp[Act.eval]
   ·exact fun W hW=>HRA2.out W hW
   ·rfl
   ·rw[List.length_map,List.length_range]; kernel_rfl
  try simp only[Act.put,Zd,Ze,Zf]
  refine wT (i:=20) (oi:= ?_) (v:= ?_) ?_ ?_ Hx3.out ?_
  rotate_left 2
  ·(simp only[Za,Zb,Zc]; rfl)
  ·refine yieldsIf_load_mid ?_ 50 (.tmp 9) ?_ gb 0 ?_ ((List.range 50).map (peF z)) _ ?_ Tryz.underlying50 ?_ ?_
   ·rfl
   ·rfl
   ·first|rfl|simp[Act.eval]
   ·exact fun W hW=>HRB2.out W hW
   ·rfl
   ·rw[List.length_map,List.length_range]; kernel_rfl
  try simp only[Act.put,Zd,Ze,Zf]
  refine Zk (i:=18) (o:= ?_) (by kernel_rfl) ?_ (fun K hK=> ?_)
  rotate_left 1
  ·(simp only[Za,Zb,Zc]; rfl)
  go_simp
  go_at_call 22
  refine(WV y z d e' x3 (HIA.out _ Hx3.out) (HIB.out _ Hx3.out)).mono ?_
  rintro e x4 ⟨⟨b4,rfl,hq⟩,hb⟩
  have Hx4:=Zg (show Below wc.heap.size wc x4 from Hx3.out.trans (hb.mono Hx3.out.size))
  have HQ4:=Zg hq
  clear hb hq
  refine hK.out _ _ Hx4.out (fun _=>trivial) ?_
  clear hK K
  try simp only[Act.put,Zd,Ze,Zf]
  refine Zk (i:=21) (o:= ?_) (by kernel_rfl) ?_ (fun K hK=> ?_)
  rotate_left 1
  ·(simp only[Za,Zb,Zc]; rfl)
  go_simp
  go_at_call 20
  refine(Zbd y z d e' x4 (HIA.out _ Hx4.out) (HIB.out _ Hx4.out)).mono ?_
  rintro e x5 ⟨⟨b,rfl,hq⟩,hb⟩
  have Hx5:=Zg (show Below wc.heap.size wc x5 from Hx4.out.trans (hb.mono Hx4.out.size))
  obtain rfl:b=b4:=by rw[Bool.eq_iff_iff,hq,HQ4.out]
  clear hb hq
  refine hK.out _ _ Hx5.out (fun _=>trivial) ?_
  clear hK K
  try simp only[Act.put,Zd,Ze,Zf]
  have hbb:(b == b)=true:=by simp
  refine wT (i:=22) (oi:= ?_) (v:= ?_) ?_ ?_ Hx5.out ?_
  rotate_left 2
  ·(simp only[Za,Zb,Zc]; rfl)
  ·(first|exact Or.inr ⟨by rfl,rfl⟩|(refine Or.inl ⟨by rfl,?_⟩; intro W hSw; clear hSw; go_simp; try with_reducible rfl))
  try simp only[Act.put,Zd,Ze,Zf]
  refine wT (i:=23) (oi:= ?_) (v:= ?_) ?_ ?_ Hx5.out ?_
  rotate_left 2
  ·(simp only[Za,Zb,Zc]; rfl)
  ·(first|exact Or.inr ⟨by rfl,rfl⟩|(refine Or.inl ⟨by rfl,?_⟩; intro W hSw; clear hSw; go_simp; try with_reducible rfl))
  try simp only[Act.put,Zd,Ze,Zf]
  refine wT (i:=24) (oi:= ?_) (v:= ?_) ?_ ?_ Hx5.out ?_
  rotate_left 2
  ·(simp only[Za,Zb,Zc]; rfl)
  ·(first|exact Or.inr ⟨by rfl,rfl⟩|(refine Or.inl ⟨by rfl,?_⟩; intro W hSw; clear hSw; go_simp; try with_reducible rfl))
  try simp only[Act.put,Zd,Ze,Zf]
  refine Zk (i:=25) (o:= ?_) (by kernel_rfl) ?_ (fun K hK=> ?_)
  rotate_left 1
  ·(simp only[Za,Zb,Zc]; rfl)
  go_simp
  go_at_call 12
  refine(HAW.out x5).mono ?_
  rintro e x6 ⟨rfl,hb⟩
  have Hx6:=Zg (show Below wc.heap.size wc x6 from Hx5.out.trans (hb.mono Hx5.out.size))
  clear hb
  refine hK.out _ _ Hx6.out (fun _=>trivial) ?_
  clear hK K
  try simp only[Act.put,Zd,Ze,Zf]
  refine wT (i:=26) (oi:= ?_) (v:= ?_) ?_ ?_ Hx6.out ?_
  rotate_left 2
  ·(simp only[Za,Zb,Zc]; rfl)
  ·(first|exact Or.inr ⟨by rfl,rfl⟩|(refine Or.inl ⟨by rfl,?_⟩; intro W hSw; clear hSw; go_simp; try with_reducible rfl))
  try simp only[Act.put,Zd,Ze,Zf]
  refine wT (i:=27) (oi:= ?_) (v:= ?_) ?_ ?_ Hx6.out ?_
  rotate_left 2
  ·(simp only[Za,Zb,Zc]; rfl)
  ·(first|exact Or.inr ⟨by rfl,rfl⟩|(refine Or.inl ⟨by rfl,?_⟩; intro W hSw; clear hSw; go_simp; try with_reducible rfl))
  try simp only[Act.put,Zd,Ze,Zf]
  refine Zp (by kernel_rfl) ?_ _
  refine NoPanic.normal ?_
  go_wp2_with fail
  go_ret
  exact⟨rfl,HBW.out.trans (Hx6.out.mono HBW.out.size)⟩
end Go.Proofs.YtplgdpjbkdagfaaGreat
namespace Go.Proofs.YtplgdpjbkdagfaaGreat
open List renaming getElem?_toArray→Za, getElem?_cons_succ→Zb, getElem?_cons_zero→Zc, setIfInBounds_toArray→Zd, set_cons_zero→Ze, set_cons_succ→Zf
open Lib renaming hid→Zg
set_option maxRecDepth 100000
open Go Go.Joins Go.WideElems Go.Maps Go.ChangeShapes Go.WideShapes Go.ChangeAt Go.RowKit Go.Deep
set_option linter.unusedVariables false
section
variable {H:Type} {enc:TypeId × Value→H} {P:Program} {w:World} {base:Nat} {spare:Nat→Bool} {held:Bool}
theorem Zet {α :Type} {cs:Array α} (h:cs.size=9): ∃ c0 c1 c2 c3 c4 c5 c6 c7 c8,cs= #[c0,c1,c2,c3,c4,c5,c6,c7,c8]:=by
 obtain⟨l⟩:=cs
 match l,h with
 | [c0,c1,c2,c3,c4,c5,c6,c7,c8],_=>exact⟨c0,c1,c2,c3,c4,c5,c6,c7,c8,rfl⟩
theorem Ji {t:TypeId} {f0 f1 f2 f3 f4 f5 f6 f7 f8:Field} {fuel:Nat} {cs:List Value} {x:DataW H × List MemPlace} (ht:P.underlying t=some (.struct #[f0,f1,f2,f3,f4,f5,f6,f7,f8])) (h:DataW.trod enc P w base spare held fuel t cs=some x) :
 ∃ y0 y1 y2 y3 y4 y5 y6 y7 y8 n,x=(.agg [y0.1,y1.1,y2.1,y3.1,y4.1,y5.1,y6.1,y7.1,y8.1],y0.2++(y1.2++(y2.2++(y3.2++(y4.2++(y5.2++(y6.2++(y7.2++(y8.2)))))))))∧cs.length=P.cellsOf t∧DataW.trod enc P w base spare held n f0.type ((cs.drop f0.offset).take (P.cellsOf f0.type))=some y0∧DataW.trod enc P w base spare held n f1.type ((cs.drop f1.offset).take (P.cellsOf f1.type))=some y1∧DataW.trod enc P w base spare held n f2.type ((cs.drop f2.offset).take (P.cellsOf f2.type))=some y2∧DataW.trod enc P w base spare held n f3.type ((cs.drop f3.offset).take (P.cellsOf f3.type))=some y3∧DataW.trod enc P w base spare held n f4.type ((cs.drop f4.offset).take (P.cellsOf f4.type))=some y4∧DataW.trod enc P w base spare held n f5.type ((cs.drop f5.offset).take (P.cellsOf f5.type))=some y5∧DataW.trod enc P w base spare held n f6.type ((cs.drop f6.offset).take (P.cellsOf f6.type))=some y6∧DataW.trod enc P w base spare held n f7.type ((cs.drop f7.offset).take (P.cellsOf f7.type))=some y7∧DataW.trod enc P w base spare held n f8.type ((cs.drop f8.offset).take (P.cellsOf f8.type))=some y8:=by
 obtain⟨xs,n,_,rfl,hl,hlen,hf⟩:=DataW.trod_struct ht h
 match xs,hlen with
 | [y0,y1,y2,y3,y4,y5,y6,y7,y8],_=>exact⟨y0,y1,y2,y3,y4,y5,y6,y7,y8,n,by simp,hl,by simpa using hf 0 f0 rfl,by simpa using hf 1 f1 rfl,by simpa using hf 2 f2 rfl,by simpa using hf 3 f3 rfl,by simpa using hf 4 f4 rfl,by simpa using hf 5 f5 rfl,by simpa using hf 6 f6 rfl,by simpa using hf 7 f7 rfl,by simpa using hf 8 f8 rfl⟩
theorem Zeu {r:Reach} {b0:Nat} {t:TypeId} {f0 f1 f2 f3 f4 f5 f6 f7 f8:Field} {v:Value} {d:DataW H} {p:List MemPlace} (hs:P.underlying t=some (.struct #[f0,f1,f2,f3,f4,f5,f6,f7,f8])) (hone:oneCellFields P #[f0,f1,f2,f3,f4,f5,f6,f7,f8]=true) (hC:P.cellsOf t=9)
 (hv:Value.okWide P w r b0 t v) (h:DataW.Trod enc P w base spare held t v d p) :
 ∃(v0 v1 v2 v3 v4 v5 v6 v7 v8:Value) (y0 y1 y2 y3 y4 y5 y6 y7 y8:DataW H × List MemPlace) (n:Nat),v= .agg #[v0,v1,v2,v3,v4,v5,v6,v7,v8]∧d= .agg [y0.1,y1.1,y2.1,y3.1,y4.1,y5.1,y6.1,y7.1,y8.1]∧p=y0.2++(y1.2++(y2.2++(y3.2++(y4.2++(y5.2++(y6.2++(y7.2++(y8.2))))))))∧DataW.trod enc P w base spare held n f0.type [v0]=some y0∧DataW.trod enc P w base spare held n f1.type [v1]=some y1∧DataW.trod enc P w base spare held n f2.type [v2]=some y2∧DataW.trod enc P w base spare held n f3.type [v3]=some y3∧DataW.trod enc P w base spare held n f4.type [v4]=some y4∧DataW.trod enc P w base spare held n f5.type [v5]=some y5∧DataW.trod enc P w base spare held n f6.type [v6]=some y6∧DataW.trod enc P w base spare held n f7.type [v7]=some y7∧DataW.trod enc P w base spare held n f8.type [v8]=some y8:=by
 obtain⟨cs,rfl,hsz⟩:=okWide_struct hs hv
 obtain⟨c0,c1,c2,c3,c4,c5,c6,c7,c8,rfl⟩:=Zet (hsz.trans hC)
 obtain⟨fuel,hf⟩:=h
 obtain⟨y0,y1,y2,y3,y4,y5,y6,y7,y8,n,hx,_,h0,h1,h2,h3,h4,h5,h6,h7,h8⟩:=Ji hs hf
 obtain⟨o0,k0⟩:=hone_of hone 0 f0 rfl
 obtain⟨o1,k1⟩:=hone_of hone 1 f1 rfl
 obtain⟨o2,k2⟩:=hone_of hone 2 f2 rfl
 obtain⟨o3,k3⟩:=hone_of hone 3 f3 rfl
 obtain⟨o4,k4⟩:=hone_of hone 4 f4 rfl
 obtain⟨o5,k5⟩:=hone_of hone 5 f5 rfl
 obtain⟨o6,k6⟩:=hone_of hone 6 f6 rfl
 obtain⟨o7,k7⟩:=hone_of hone 7 f7 rfl
 obtain⟨o8,k8⟩:=hone_of hone 8 f8 rfl
 simp only[Prod.mk.injEq] at hx
 exact⟨c0,c1,c2,c3,c4,c5,c6,c7,c8,y0,y1,y2,y3,y4,y5,y6,y7,y8,n,rfl,hx.1,hx.2,by simpa [Value.cells,o0,k0] using h0,by simpa [Value.cells,o1,k1] using h1,by simpa [Value.cells,o2,k2] using h2,by simpa [Value.cells,o3,k3] using h3,by simpa [Value.cells,o4,k4] using h4,by simpa [Value.cells,o5,k5] using h5,by simpa [Value.cells,o6,k6] using h6,by simpa [Value.cells,o7,k7] using h7,by simpa [Value.cells,o8,k8] using h8⟩
end
end Go.Proofs.YtplgdpjbkdagfaaGreat
namespace Go.Proofs.YtplgdpjbkdagfaaGreat
open List renaming getElem?_toArray→Za, getElem?_cons_succ→Zb, getElem?_cons_zero→Zc, setIfInBounds_toArray→Zd, set_cons_zero→Ze, set_cons_succ→Zf
open Lib renaming hid→Zg
set_option maxRecDepth 100000
open Go.ChangeShapes Go.WideShapes Go.ChangeAt Go.RowKit
set_option linter.unusedVariables false
set_option linter.unusedSimpArgs false
theorem Zev {C:Int × Int→List Value} {k0 k1:IntKind} (hC: ∀ x,C x=[.int k0 x.1,.int k1 x.2]) {w:World} {a:Option Addr} {len cap:Nat} {zs:List (Int × Int)}
 (h:(a=none∧len=0∧cap=0∧zs=[])∨ ∃ x,a=some x∧len≤cap∧cap≤maxLen∧zs.length=cap∧ ∀ i (h:i<zs.length),w.cell? (x.add (i * 2))=some (.int k0 zs[i].1)∧w.cell? (x.add (i * 2+1))=some (.int k1 zs[i].2)∧(Lit.int k0 zs[i].1).wf=true∧(Lit.int k1 zs[i].2).wf=true) :
 (zs.take len).length=len∧len≤9223372036854775807∧SlT C 2 w a (zs.take len)∧ ∀ x∈zs.take len,(Lit.int k0 x.1).wf=true∧(Lit.int k1 x.2).wf=true:=by
 rcases h with⟨rfl,rfl,rfl,rfl⟩|⟨x,rfl,hl,hm,hz,hc⟩
 ·exact⟨rfl,by omega,.inl rfl,fun x hx=>by simp at hx⟩
 ·have hlen:(zs.take len).length=len:=by rw[List.length_take]; omega
  refine⟨hlen,by unfold maxLen at hm; omega,?_,fun y hy=> ?_⟩
  ·rcases Nat.eq_zero_or_pos len with h0|h0
   ·left; rw[h0]; rfl
   ·obtain⟨b,off,spot⟩:=x
    have hspot:spot=none:=by simpa [Addr.add] using World.cell?_spot (hc 0 (by omega)).1
    subst hspot
    have hadd: ∀ i,(⟨b,off,none⟩:Addr).add i=⟨b,off+i,none⟩:=fun i=>by unfold Addr.add; split <;> simp_all
    refine .inr ⟨b,off,rfl,?_,fun i hi j v hv=> ?_⟩
    ·have h1:=(hc 0 (by omega)).1
     rw[hadd] at h1
     rcases Nat.lt_or_ge b w.heap.size with hlt|hge
     ·exact hlt
     ·simp[World.cell?,Array.getElem?_eq_none hge] at h1
    ·obtain⟨c0,c1,_,_⟩:=hc i (by omega)
     rw[hadd] at c0 c1
     rw[hC] at hv
     simp only[List.getElem_take] at hv
     rcases j with _|_|j
     ·simp at hv; subst hv; simpa using c0
     ·simp at hv; subst hv; rw[←c1]
     ·simp at hv
  ·obtain⟨i,hi,rfl⟩:=List.mem_iff_getElem.1 hy
   rw[List.getElem_take]
   exact(hc i (by omega)).2.2
theorem Zhc {w:World} {a:Option Addr} {len cap:Nat} {zs:List Int}
 (h:(a=none∧len=0∧cap=0∧zs=[])∨ ∃ x,a=some x∧len≤cap∧cap≤maxLen∧zs.length=cap∧(∀ i,i<zs.length→w.cell? (x.add i)=some (.int .i64 (zs.getD i 0)))∧ ∀ n∈zs,(Lit.int .i64 n).wf=true) :
 (zs.take len).length=len∧len≤9223372036854775807∧SlT Ws 1 w a (zs.take len):=by
 rcases h with⟨rfl,rfl,rfl,rfl⟩|⟨x,rfl,hl,hm,hz,hc,_⟩
 ·exact⟨rfl,by omega,.inl rfl⟩
 ·have hlen:(zs.take len).length=len:=by rw[List.length_take]; omega
  refine⟨hlen,by unfold maxLen at hm; omega,?_⟩
  rcases Nat.eq_zero_or_pos len with h0|h0
  ·left; rw[h0]; rfl
  ·obtain⟨b,off,spot⟩:=x
   have hspot:spot=none:=by simpa [Addr.add] using World.cell?_spot (hc 0 (by omega))
   subst hspot
   have hadd: ∀ i,(⟨b,off,none⟩:Addr).add i=⟨b,off+i,none⟩:=fun i=>by unfold Addr.add; split <;> simp_all
   refine .inr ⟨b,off,rfl,?_,fun i hi j v hv=> ?_⟩
   ·have h1:=hc 0 (by omega)
    rw[hadd] at h1
    rcases Nat.lt_or_ge b w.heap.size with hlt|hge
    ·exact hlt
    ·simp[World.cell?,Array.getElem?_eq_none hge] at h1
   ·have hi':i<zs.length:=by rw[List.length_take] at hi; omega
    have c0:=hc i hi'
    rw[hadd,List.getD_eq_getElem?_getD,List.getElem?_eq_getElem hi'] at c0
    simp only[List.getElem_take] at hv
    rcases j with _|j
    ·simp[Ws] at hv; subst hv; simpa using c0
    ·simp[Ws] at hv
end Go.Proofs.YtplgdpjbkdagfaaGreat
