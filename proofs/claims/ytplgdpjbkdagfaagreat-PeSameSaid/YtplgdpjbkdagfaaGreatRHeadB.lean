import Derived.Test.YtplgdpjbkdagfaaGreatRHdO
import Derived.Test.YtplgdpjbkdagfaaGreatZRHdB6
import Derived.Deep.Cut
import Derived.Deep.CutBlock
import Derived.Deep.RegionHeld3
import Derived.Deep.DrawnRows
import Derived.Deep.DeepFit
namespace Go.Proofs.YtplgdpjbkdagfaaGreat
open Lib renaming hid→Zg
set_option maxRecDepth 100000
open Go.ChangeShapes Go.WideShapes Go.ChangeAt Go.RowKit
set_option linter.unusedVariables false
set_option linter.unusedSimpArgs false
theorem Zig {n:Nat} {f:Nat→Int} (hf:Zq f) (h: ¬ n<64) (c:f 0=77∧f 1=90) :
 (rdF f 60 4<64∨rdF f 60 4 % 4≠0∨(n:Int)<rdF f 60 4+264→ZA n f=(0,2)) ∧
 (¬ (rdF f 60 4<64∨rdF f 60 4 % 4≠0∨(n:Int)<rdF f 60 4+264)→ZA n f=if f (rdF f 60 4).toNat≠80∨f ((rdF f 60 4).toNat+1)≠69∨f ((rdF f 60 4).toNat+2)≠0∨f ((rdF f 60 4).toNat+3)≠0 then(0,3) else(rdF f 60 4,0)):=by
 refine⟨fun k=> ?_,fun k=> ?_⟩
 ·unfold ZA; rw[if_neg h,if_neg (by omega),if_pos k]
 ·unfold ZA; rw[if_neg h,if_neg (by omega),if_neg k]
set_option maxRecDepth 100000 in
set_option maxHeartbeats 4000000 in
theorem Jf (S:ByteArray) (w:World) (hs:S.size≤1000000) :
 Calls Tryz.prog 26 #[.string S] w fun e w'=>(∃ v,e= .returned v∧Zjx w' S.size (PlainAid.bt S) v)∧Below w.heap.size w w':=by
 have hb0:=((Below.refl w.heap.size w).alloc (Nat.le_refl _) (.cells (Zl 0 0 0 0 0 0) 41)).alloc (by simp) (.cells (Zl 0 0 0 0 0 0) 41)
 have hz1:=setRow_heap ((w.alloc (.cells (Zl 0 0 0 0 0 0) 41)).alloc (.cells (Zl 0 0 0 0 0 0) 41)) (w.heap.size+1) _ (Zl 0 0 0 0 0 0) _ _ (heap_alloc2_new _ _ _)
 have hz0:(((w.alloc (.cells (Zl 0 0 0 0 0 0) 41)).alloc (.cells (Zl 0 0 0 0 0 0) 41)).setRow (w.heap.size+1) (Zl 0 0 0 0 0 0)).heap[w.heap.size]? =some (.cells (Zl 0 0 0 0 0 0) 41 (0,0)):=by
  rw[setRow_other _ _ _ _ (by omega)]; exact heap_alloc2_old _ _ _
 have hb1:=below_setRow hb0 (show w.heap.size≤w.heap.size+1 by omega) (Zl 0 0 0 0 0 0)
 clear hb0
 have HZ0:=Zg hz0
 have HZ1:=Zg hz1
 have HB1:=Zg hb1
 clear hz0 hz1 hb1
 have H255:=Zg (WA S)
 obtain⟨f,hf⟩: ∃ f,PlainAid.bt S=f:=⟨_,rfl⟩
 have HF:=Zg hf
 rw[hf] at H255 ⊢
 clear hf
 go_enter Tryz.func26,Tryz.ntmps26
 by_cases c0:S.size<64
 ·have hE:ZT S.size f=2:=by
   have hb:ZA S.size f=(0,2):=by unfold ZA; rw[if_pos c0]
   unfold ZT; rw[if_pos (by rw[hb]; simp),hb]
  have HE:=Zg hE
  clear hE
  go_wp2_with (first
   | (refine wpList_store_row rfl 41 _ _ rfl (w.heap.size+1) (Zl 0 0 0 0 0 0) rfl rfl 41 _ (heap_alloc2_new _ _ _) rfl rfl (ZC _ _ _ _ _ _) ?_; rw[Yp]; generalize ((w.alloc (.cells (Zl 0 0 0 0 0 0) 41)).alloc (.cells (Zl 0 0 0 0 0 0) 41)).setRow (w.heap.size+1) (Zl 0 0 0 0 0 0)=w1 at *)
   | (refine wpList_load_row rfl 41 _ rfl (w.heap.size+1) rfl 41 (Zl 0 0 0 0 0 0) (0,0) _ HZ1.out rfl rfl rfl ?_)
   | (refine wpList_store_row rfl 41 _ _ rfl w.heap.size (Zl 0 0 0 0 0 0) rfl rfl 41 _ HZ0.out rfl rfl (ZC _ _ _ _ _ _) ?_))
  refine bodyPost_ret (v:= .tuple #[.agg (Zl 0 0 0 0 0 0),.int .i64 2]) (Zj rfl _ _ w.heap.size 41 _ (0,0) _ _ rfl rfl (setRow_heap _ _ _ _ _ _ HZ0.out) rfl rfl rfl) rfl ⟨⟨_,rfl,_,by rw[HE.out],.inl ⟨by rw[HE.out]; omega,ZE⟩⟩,below_setRow HB1.out (Nat.le_refl _) _⟩
 ·by_cases c1:f 0=77∧f 1=90
  ·have hmz:((S.extract 0 2).toList == [77,90])=true:=(Zf3 S (by omega)).2 (by rw[HF.out]; exact c1)
   have c0':decide ((S.size:Int)<64)=false:=decide_eq_false (by omega)
   have HI:=Zg (fun W=>Yc S 60 4 W hs (by omega) (by omega))
   rw[HF.out] at HI
   have hpb:=ZS f H255.out 4 60
   go_wp2_with (first
    | (refine wpList_store_row rfl 41 _ _ rfl (w.heap.size+1) (Zl 0 0 0 0 0 0) rfl rfl 41 _ (heap_alloc2_new _ _ _) rfl rfl (ZC _ _ _ _ _ _) ?_; rw[Yp]; generalize ((w.alloc (.cells (Zl 0 0 0 0 0 0) 41)).alloc (.cells (Zl 0 0 0 0 0 0) 41)).setRow (w.heap.size+1) (Zl 0 0 0 0 0 0)=w1 at *))
   refine(HI.out _).mono ?_
   rintro e u ⟨rfl,rfl⟩
   clear HI hmz c0'
   have hP:=Zig H255.out (show ¬ S.size<64 from c0) c1
   obtain⟨P,hPP⟩: ∃ P:Nat,rdF f 60 4=P:=⟨(rdF f 60 4).toNat,by omega⟩
   rw[hPP] at hP hpb ⊢
   have HPP:=Zg hPP
   clear hPP
   have hp32:P<4294967296:=by have:=hpb.2; omega
   have HP32:=Zg hp32
   clear hpb hp32
   by_cases c2:(P:Int)<64∨(P:Int) % 4≠0∨(S.size:Int)<P+264
   ·have hE:ZT S.size f=2:=by
     have hb:=hP.1 c2
     unfold ZT; rw[if_pos (by rw[hb]; simp),hb]
    have HE:=Zg hE
    clear hE hP
    have HN:=Zg (fun(h:(S.size:Int)<P+264) (W:World)=>QU S.size P 264 W (by omega) (by omega) (by omega))
    rcases(by omega:(P:Int)<64∨(64≤(P:Int)∧(P:Int) % 4≠0)∨(64≤(P:Int)∧(P:Int) % 4=0∧(S.size:Int)<P+264)) with h|⟨h,h'⟩|⟨h,h',h''⟩
    ·clear c2
     go_wp2_with (first
      | (refine wpList_load_row rfl 41 _ rfl (w.heap.size+1) rfl 41 (Zl 0 0 0 0 0 0) (0,0) _ HZ1.out rfl rfl rfl ?_)
      | (refine wpList_store_row rfl 41 _ _ rfl w.heap.size (Zl 0 0 0 0 0 0) rfl rfl 41 _ HZ0.out rfl rfl (ZC _ _ _ _ _ _) ?_))
     refine bodyPost_ret (v:= .tuple #[.agg (Zl 0 0 0 0 0 0),.int .i64 2]) (Zj rfl _ _ w.heap.size 41 _ (0,0) _ _ rfl rfl (setRow_heap _ _ _ _ _ _ HZ0.out) rfl rfl rfl) rfl ⟨⟨_,rfl,_,by rw[HE.out],.inl ⟨by rw[HE.out]; omega,ZE⟩⟩,below_setRow HB1.out (Nat.le_refl _) _⟩
    ·clear c2
     go_wp2_with (first
      | (refine wpList_load_row rfl 41 _ rfl (w.heap.size+1) rfl 41 (Zl 0 0 0 0 0 0) (0,0) _ HZ1.out rfl rfl rfl ?_)
      | (refine wpList_store_row rfl 41 _ _ rfl w.heap.size (Zl 0 0 0 0 0 0) rfl rfl 41 _ HZ0.out rfl rfl (ZC _ _ _ _ _ _) ?_))
     refine bodyPost_ret (v:= .tuple #[.agg (Zl 0 0 0 0 0 0),.int .i64 2]) (Zj rfl _ _ w.heap.size 41 _ (0,0) _ _ rfl rfl (setRow_heap _ _ _ _ _ _ HZ0.out) rfl rfl rfl) rfl ⟨⟨_,rfl,_,by rw[HE.out],.inl ⟨by rw[HE.out]; omega,ZE⟩⟩,below_setRow HB1.out (Nat.le_refl _) _⟩
    ·have HN2:=Zg (HN.out h'')
     clear c2 h''
     go_wp2_with (first
      | (go_fit (HN2.out _); rintro e u ⟨rfl,rfl⟩)
      | (refine wpList_load_row rfl 41 _ rfl (w.heap.size+1) rfl 41 (Zl 0 0 0 0 0 0) (0,0) _ HZ1.out rfl rfl rfl ?_)
      | (refine wpList_store_row rfl 41 _ _ rfl w.heap.size (Zl 0 0 0 0 0 0) rfl rfl 41 _ HZ0.out rfl rfl (ZC _ _ _ _ _ _) ?_))
     refine bodyPost_ret (v:= .tuple #[.agg (Zl 0 0 0 0 0 0),.int .i64 2]) (Zj rfl _ _ w.heap.size 41 _ (0,0) _ _ rfl rfl (setRow_heap _ _ _ _ _ _ HZ0.out) rfl rfl rfl) rfl ⟨⟨_,rfl,_,by rw[HE.out],.inl ⟨by rw[HE.out]; omega,ZE⟩⟩,below_setRow HB1.out (Nat.le_refl _) _⟩
   ·have hb:=hP.2 c2
    have p0:64≤(P:Int):=by omega
    have p1:(P:Int) % 4=0:=by omega
    have p2:P+264≤S.size:=by omega
    rw[Int.toNat_natCast] at hb
    have HN:=Zg (fun(W:World)=>Vl S.size P 264 W (by omega) (by omega) (by omega) (by omega))
    have ht:((P:Int)+4).toNat=P+4:=by omega
    have t0:(0:Int)≤(P:Int):=by omega
    have t1:(P:Int)≤(P:Int)+4:=by omega
    have t2:(P:Int)+4≤(S.size:Int):=by omega
    have t3:(0:Int)≤(P:Int)+4:=by omega
    have t4:(P:Int)≤(S.size:Int):=by omega
    have t5:IntKind.i64.wrap ((P:Int)+4)=(P:Int)+4:=IntWalk.i64_in _ ⟨by omega,by omega⟩
    clear c2 hP
    by_cases c3:f P=80∧f (P+1)=69∧f (P+2)=0∧f (P+3)=0
    ·have hpe:((S.extract P (P+4)).toList == [80,69,0,0])=true:=(Zf4 S P (by omega)).2 (by rw[HF.out]; exact c3)
     rw[if_neg (by omega)] at hb
     have HBG:=Zg hb
     clear hb c3
     go_wp2_with (go_fit (HN.out _); rintro e u ⟨rfl,rfl⟩)
     have HI4:=Zg (Yc S (P+4) 2 w1 hs (by omega) (by omega))
     rw[HF.out,show((P+4:Nat):Int)=(P:Int)+4 by omega] at HI4
     have hb1:(ZA S.size f).1=P:=by rw[HBG.out]
     have hb2:(ZA S.size f).2=0:=by rw[HBG.out]
     have hE:ZT S.size f=ZT S.size f:=rfl
     conv at hE=>rhs; unfold ZT
     rw[if_neg (by omega),hb1,Int.toNat_natCast] at hE
     have HE:=Zg hE
     clear hE hb1 hb2 hpe t5
     by_cases c4:rdF f (P+4) 2=34404
     ·rw[c4] at HI4
      refine HI4.out.mono ?_
      rintro e u ⟨rfl,rfl⟩
      have HC4:=Zg c4
      clear HI4 HN t0 t1 t2 t3 t4 ht c4 HE
      go_upto_region 13 with fail
      exact from8 S f w w1 P _ _ hs HF H255 HBG HP32 p2 HC4 HZ0 HZ1 HB1 _ _ (by assumption) (by assumption) _ ⟨rfl,rfl,rfl⟩
     ·have ho:Qe f P=4:=by unfold Qe; rw[if_pos c4]
      have hE4:ZT S.size f=4:=by rw[HE.out,ho]; simp
      have HE4:=Zg hE4
      have e4:(rdF f (P+4) 2 != 34404)=true:=by simpa using c4
      clear hE4 ho c4
      generalize rdF f (P+4) 2=z at *
      go_wp2_with (first
       | (go_fit HI4.out; rintro e u ⟨rfl,rfl⟩)
       | (refine wpList_load_row rfl 41 _ rfl (w.heap.size+1) rfl 41 (Zl 0 0 0 0 0 0) (0,0) _ HZ1.out rfl rfl rfl ?_)
       | (refine wpList_store_row rfl 41 _ _ rfl w.heap.size (Zl 0 0 0 0 0 0) rfl rfl 41 _ HZ0.out rfl rfl (ZC _ _ _ _ _ _) ?_))
      refine bodyPost_ret (v:= .tuple #[.agg (Zl 0 0 0 0 0 0),.int .i64 4]) (Zj rfl _ _ w.heap.size 41 _ (0,0) _ _ rfl rfl (setRow_heap _ _ _ _ _ _ HZ0.out) rfl rfl rfl) rfl ⟨⟨_,rfl,_,by rw[HE4.out],.inl ⟨by rw[HE4.out]; omega,ZE⟩⟩,below_setRow HB1.out (Nat.le_refl _) _⟩
    ·have hpe:((S.extract P (P+4)).toList == [80,69,0,0])=false:=by
      rw[Bool.eq_false_iff]
      intro h
      exact c3 (by have:=(Zf4 S P (by omega)).1 h; rw[HF.out] at this; exact this)
     rw[if_pos (by omega)] at hb
     have hE:ZT S.size f=3:=by unfold ZT; rw[if_pos (by rw[hb]; simp),hb]
     have HE:=Zg hE
     clear hE c3 hb
     go_wp2_with (first
      | (go_fit (HN.out _); rintro e u ⟨rfl,rfl⟩)
      | (refine wpList_load_row rfl 41 _ rfl (w.heap.size+1) rfl 41 (Zl 0 0 0 0 0 0) (0,0) _ HZ1.out rfl rfl rfl ?_)
      | (refine wpList_store_row rfl 41 _ _ rfl w.heap.size (Zl 0 0 0 0 0 0) rfl rfl 41 _ HZ0.out rfl rfl (ZC _ _ _ _ _ _) ?_))
     refine bodyPost_ret (v:= .tuple #[.agg (Zl 0 0 0 0 0 0),.int .i64 3]) (Zj rfl _ _ w.heap.size 41 _ (0,0) _ _ rfl rfl (setRow_heap _ _ _ _ _ _ HZ0.out) rfl rfl rfl) rfl ⟨⟨_,rfl,_,by rw[HE.out],.inl ⟨by rw[HE.out]; omega,ZE⟩⟩,below_setRow HB1.out (Nat.le_refl _) _⟩
  ·have hmz:((S.extract 0 2).toList == [77,90])=false:=by
    rw[Bool.eq_false_iff]
    intro h
    exact c1 (by have:=(Zf3 S (by omega)).1 h; rw[HF.out] at this; exact this)
   have c0':decide ((S.size:Int)<64)=false:=decide_eq_false (by omega)
   have hE:ZT S.size f=3:=by
    have hb:ZA S.size f=(0,3):=by unfold ZA; rw[if_neg c0,if_pos (by omega)]
    unfold ZT; rw[if_pos (by rw[hb]; simp),hb]
   have HE:=Zg hE
   clear hE c1
   go_wp2_with (first
    | (refine wpList_store_row rfl 41 _ _ rfl (w.heap.size+1) (Zl 0 0 0 0 0 0) rfl rfl 41 _ (heap_alloc2_new _ _ _) rfl rfl (ZC _ _ _ _ _ _) ?_; rw[Yp]; generalize ((w.alloc (.cells (Zl 0 0 0 0 0 0) 41)).alloc (.cells (Zl 0 0 0 0 0 0) 41)).setRow (w.heap.size+1) (Zl 0 0 0 0 0 0)=w1 at *)
    | (refine wpList_load_row rfl 41 _ rfl (w.heap.size+1) rfl 41 (Zl 0 0 0 0 0 0) (0,0) _ HZ1.out rfl rfl rfl ?_)
    | (refine wpList_store_row rfl 41 _ _ rfl w.heap.size (Zl 0 0 0 0 0 0) rfl rfl 41 _ HZ0.out rfl rfl (ZC _ _ _ _ _ _) ?_))
   refine bodyPost_ret (v:= .tuple #[.agg (Zl 0 0 0 0 0 0),.int .i64 3]) (Zj rfl _ _ w.heap.size 41 _ (0,0) _ _ rfl rfl (setRow_heap _ _ _ _ _ _ HZ0.out) rfl rfl rfl) rfl ⟨⟨_,rfl,_,by rw[HE.out],.inl ⟨by rw[HE.out]; omega,ZE⟩⟩,below_setRow HB1.out (Nat.le_refl _) _⟩
end Go.Proofs.YtplgdpjbkdagfaaGreat
