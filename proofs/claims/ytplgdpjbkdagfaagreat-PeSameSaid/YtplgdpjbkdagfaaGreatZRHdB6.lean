import Derived.Test.YtplgdpjbkdagfaaGreatRHdO
import Derived.Test.YtplgdpjbkdagfaaGreatZRPe
import Derived.Deep.Cut
import Derived.Deep.CutBlock
import Derived.Deep.RegionHeld3
import Derived.Deep.DrawnRows
import Derived.Deep.DeepFit
namespace Go.Proofs.YtplgdpjbkdagfaaGreat
open Lib renaming hid→Zg
set_option maxRecDepth 100000
open Go.ChangeShapes Go.WideShapes Go.ChangeAt Go.RowKit
set_option linter.unusedVariables false
set_option linter.unusedSimpArgs false
set_option maxRecDepth 100000 in
set_option maxHeartbeats 4000000 in
theorem b3_6 (S:ByteArray) (f:Nat→Int) (w:World) (P K G8 i o:Nat) (h:ZO) (nx N0:Int) (SL TK:List Zr) (s:Zr)
 (HR:Hid (RC S f h nx N0 SL TK s P K i o)) (QB:Exit→Act→World→Prop) (v1 v3 v6 v7 v9 v10:Value)
 (HRet:Hid (∀ a w',QF S f w .ret a w'→QB .ret a w'))
 (HNorm:Hid (∀ a w',Has 323 [0,1,2,3,4,5,6,7,8,9,10,11,12] [.string S,v1,(.pointer (some ⟨w.heap.size,0,none⟩)),v3,(.pointer (some ⟨w.heap.size+1,0,none⟩)),.int .i64 P,v6,v7,(.pointer (some ⟨G8,0,none⟩)),v9,v10,.int .i64 (nx+ZN s.vsize 4096),.int .i64 i] a→XG w w' G8 h (TK++[s])→Uv h.size S.size nx s→QB .normal a w')) (w3:World) (G3:Nat) (HSW3:Hid (XG w w3 G8 h TK)) (HG3:Hid (w3.heap[G3]? =some (.cells s.arr 72 (0,0)))) (HSTP:Hid (Uv h.size S.size nx s)) (a:Act)
 (ha:Has 323 [0,1,2,3,4,5,6,7,8,9,10,11,12,16,17] [.string S,v1,(.pointer (some ⟨w.heap.size,0,none⟩)),v3,(.pointer (some ⟨w.heap.size+1,0,none⟩)),.int .i64 P,v6,v7,(.pointer (some ⟨G8,0,none⟩)),v9,v10,.int .i64 nx,.int .i64 i,(.pointer (some ⟨G3,0,none⟩)),.int .i64 (ZN s.vsize 4096)] a):(ZY 6 bl3).wp Tryz.prog QB a w3:=by
 obtain⟨u,rfl⟩:=ZV ha
 clear ha
 conv=>arg 2; whnf
 obtain⟨cs,A8,c8,hg8,hv8,ho8⟩:=HSW3.out.cs
 rw[HR.out.len] at hv8 ho8
 have c6:w3.cell? ⟨G8,38,none⟩=some (.slice A8 i c8):=by rw[cell_of_row _ _ _ _ _ _ hg8]; exact hv8.c38
 have HV8:=Zg hv8
 have HO8:=Zg ho8
 have HG8:=Zg hg8
 have HLEN:=Zg HR.out.len
 have c2:w3.cell? ⟨G3,2,none⟩=some (.int .i64 nx):=by rw[Zh HG3.out]; show some (Value.int .i64 s.rva)=_; rw[HSTP.out.1]
 clear hv8 ho8 hg8
 have hfb:=XM s.vsize HR.out.sb.v1
 have hNo:=HNorm.out
 clear HNorm
 obtain⟨fu,hfu⟩: ∃ fu,ZN s.vsize 4096=fu:=⟨_,rfl⟩
 rw[hfu] at hfb hNo ⊢
 have HN:=Zg hNo
 clear hNo hfu
 have z6:=frozen_of_row _ _ 38 _ _ HG8.out
 have HLT3:=Zg (Array.getElem?_eq_some_iff.1 HG3.out).1
 have HLT8:=Zg (Array.getElem?_eq_some_iff.1 HG8.out).1
 have HSW4:=Zg (HSW3.out.below ((Below.refl _ w3).alloc (Nat.le_refl _) (.cells #[.string s.name,.int .i64 s.vsize,.int .i64 s.rva,.int .i64 s.raw,.int .i64 s.spot,.int .i64 s.chars] 72)))
 have HO4:=Zg (HO8.out.alloc (.cells #[.string s.name,.int .i64 s.vsize,.int .i64 s.rva,.int .i64 s.raw,.int .i64 s.spot,.int .i64 s.chars] 72))
 have HG84:Hid ((w3.alloc (.cells #[.string s.name,.int .i64 s.vsize,.int .i64 s.rva,.int .i64 s.raw,.int .i64 s.spot,.int .i64 s.chars] 72)).heap[G8]? =some (.cells cs 41 (0,0))):=Zg ((((Below.refl _ w3).alloc (Nat.le_refl _) (.cells #[.string s.name,.int .i64 s.vsize,.int .i64 s.rva,.int .i64 s.raw,.int .i64 s.spot,.int .i64 s.chars] 72)).block _ HLT8.out).trans HG8.out)
 have HN4:=Zg (heap_alloc_new w3 (.cells #[.string s.name,.int .i64 s.vsize,.int .i64 s.rva,.int .i64 s.raw,.int .i64 s.spot,.int .i64 s.chars] 72))
 have hs4:(w3.alloc (.cells #[.string s.name,.int .i64 s.vsize,.int .i64 s.rva,.int .i64 s.raw,.int .i64 s.spot,.int .i64 s.chars] 72)).heap.size=w3.heap.size+1:=by simp
 have HS4:=Zg hs4
 have hlt8:=HLT8.out
 have hi16:i≤16:=by have:=HR.out.k16; have:=HR.out.lt; omega
 have x0:=HR.out.x0
 have x1:=HR.out.x1
 clear hs4
 go_upto_region 39 with fail
 clear c2
 go_wp2_with (first
  | (refine wpList_load_row rfl 72 _ rfl G3 rfl 72 #[.string s.name,.int .i64 s.vsize,.int .i64 s.rva,.int .i64 s.raw,.int .i64 s.spot,.int .i64 s.chars] (0,0) _ HG3.out rfl rfl rfl ?_)
  | (at_builtin; refine Zv rfl (.tmp 306) (.tmp 308) 39 rfl (G8+1) 72 (.agg #[.string ⟨#[]⟩,.int .i64 0,.int .i64 0,.int .i64 0,.int .i64 0,.int .i64 0]) 56 (by kernel_rfl) Zdd rfl (by omega) Zr.cells_len Zgp (.slice A8 i c8) TK rfl HO4.out w3.heap.size 1 rfl s (Zgq (s:=s) HN4.out) (by have:=HLEN.out; unfold maxLen; omega) (by have:=HLEN.out; omega) (by have:=HS4.out; omega) ?_; intro g' cap2 w5 hown5 hg5 hat5
     obtain⟨c38,z38,hsn⟩:=XG.app (s:=s) HSW4.out HG84.out HV8.out HLEN.out HO4.out hg5 hown5
     have HSN:=Zg hsn
     clear hown5 hg5 hat5 hsn))
 exact HN.out _ _ ⟨rfl,rfl,rfl⟩ HSN.out HSTP.out
set_option maxRecDepth 100000 in
set_option maxHeartbeats 4000000 in
theorem r36 (S:ByteArray) (w3:World) (G3 G8:Nat) (nx fu y1 y2 y3 y4 y5:Int) (v1 v2 v3 v4 v5 v6 v7 v9 v10 v12:Value)
 (hs:S.size≤1000000) (c2:w3.cell? ⟨G3,2,none⟩=some (.int .i64 y1)) (c1:w3.cell? ⟨G3,1,none⟩=some (.int .i64 y2)) (c3:w3.cell? ⟨G3,3,none⟩=some (.int .i64 y3)) (c4:w3.cell? ⟨G3,4,none⟩=some (.int .i64 y4))
 (c5:w3.cell? ⟨G8,4,none⟩=some (.int .i64 y5)) (hw0:0≤y3) (hw1:y3<4294967296) (hp0:0≤y4) (hp1:y4<4294967296) (K1:Act→World→Prop) (Q1:Exit→Act→World→Prop)
 (HT:Hid (¬ (y1=nx∧y2≠0∧y2≤y5∧y3 % 512=0∧y3≤fu∧ ¬ (0<y3∧(S.size:Int)<y4+y3))→ ∀ a',Has 323 [0,1,2,3,4,5,6,7,8,9,10,11,12,16,17,299] [.string S,v1,v2,v3,v4,v5,v6,v7,(.pointer (some ⟨G8,0,none⟩)),v9,v10,.int .i64 nx,v12,(.pointer (some ⟨G3,0,none⟩)),.int .i64 fu,.bool true] a'→K1 a' w3))
 (HF:Hid (y1=nx∧y2≠0∧y2≤y5∧y3 % 512=0∧y3≤fu∧ ¬ (0<y3∧(S.size:Int)<y4+y3)→ ∀ a',Has 323 [0,1,2,3,4,5,6,7,8,9,10,11,12,16,17,299] [.string S,v1,v2,v3,v4,v5,v6,v7,(.pointer (some ⟨G8,0,none⟩)),v9,v10,.int .i64 nx,v12,(.pointer (some ⟨G3,0,none⟩)),.int .i64 fu,.bool false] a'→K1 a' w3)) (a:Act)
 (ha:Has 323 [0,1,2,3,4,5,6,7,8,9,10,11,12,16,17] [.string S,v1,v2,v3,v4,v5,v6,v7,(.pointer (some ⟨G8,0,none⟩)),v9,v10,.int .i64 nx,v12,(.pointer (some ⟨G3,0,none⟩)),.int .i64 fu] a):(YJ (YJ (ZY 5 bl3))).wp Tryz.prog (Exit.then K1 Q1) a w3:=by
 obtain⟨u,rfl⟩:=ZV ha
 clear ha
 conv=>arg 2; whnf
 have hs0:(S.size:Int)≤1000000:=by omega
 have hts:y3.tmod 512=y3 % 512:=Int.tmod_eq_emod_of_nonneg hw0
 have HTS:=Zg hts
 have HIY:=Zg (fun(h:y4+y3≤S.size) (W:World)=>Vl S.size y4 y3 W (by omega) (by omega) (by omega) (by omega))
 have HINO:=Zg (fun(h: ¬ y4+y3≤S.size) (W:World)=>QU S.size y4 y3 W (by omega) (by omega) (by omega))
 have HIN:=HIY
 clear hts
 by_cases d1:y1=nx
 ·have e1:(y1 != nx)=false:=by simp[d1]
  have D1:=Zg d1
  clear d1
  by_cases d2:y2=0
  ·have e2:(y2 == 0)=true:=by simp[d2]
   have D2:=Zg d2
   clear d2
   go_wp2_with fail
   exact HT.out (fun h=>h.2.1 D2.out) _ ⟨rfl,rfl,rfl⟩
  ·have e2:(y2 == 0)=false:=by simp[d2]
   have D2:=Zg d2
   clear d2
   by_cases d3:y5<y2
   ·go_wp2_with fail
    exact HT.out (fun h=>by have:=h.2.2.1; omega) _ ⟨rfl,rfl,rfl⟩
   ·by_cases d4:y3 % 512=0
    ·have e4:(y3.tmod 512 != 0)=false:=by rw[HTS.out]; simp[d4]
     have D4:=Zg d4
     clear d4
     by_cases d5:fu<y3
     ·go_wp2_with fail
      exact HT.out (fun h=>by have:=h.2.2.2.2.1; omega) _ ⟨rfl,rfl,rfl⟩
     ·by_cases d6:0<y3
      ·by_cases d7:y4+y3≤S.size
       ·have HI:=Zg (HIY.out d7)
        clear HIY HINO HIN
        go_wp2_with (go_fit (HI.out _); rintro e u ⟨rfl,rfl⟩)
        exact HF.out ⟨D1.out,D2.out,by omega,D4.out,by omega,by omega⟩ _ ⟨rfl,rfl,rfl⟩
       ·have HI:=Zg (HINO.out d7)
        clear HIY HINO HIN
        go_wp2_with (go_fit (HI.out _); rintro e u ⟨rfl,rfl⟩)
        exact HT.out (fun h=>h.2.2.2.2.2 ⟨by omega,by omega⟩) _ ⟨rfl,rfl,rfl⟩
      ·go_wp2_with fail
       exact HF.out ⟨D1.out,D2.out,by omega,D4.out,by omega,by omega⟩ _ ⟨rfl,rfl,rfl⟩
    ·have e4:(y3.tmod 512 != 0)=true:=by rw[HTS.out]; simp[d4]
     have D4:=Zg d4
     clear d4
     go_wp2_with fail
     exact HT.out (fun h=>D4.out h.2.2.2.1) _ ⟨rfl,rfl,rfl⟩
 ·have e1:(y1 != nx)=true:=by simp[d1]
  have D1:=Zg d1
  clear d1
  go_wp2_with fail
  exact HT.out (fun h=>D1.out h.1) _ ⟨rfl,rfl,rfl⟩
set_option maxRecDepth 100000 in
set_option maxHeartbeats 4000000 in
theorem b3_4 (S:ByteArray) (f:Nat→Int) (w:World) (P K G8 i o:Nat) (h:ZO) (nx N0:Int) (SL TK:List Zr) (s:Zr)
 (HR:Hid (RC S f h nx N0 SL TK s P K i o)) (QB:Exit→Act→World→Prop) (v1 v3 v6 v7 v9 v10:Value)
 (HRet:Hid (∀ a w',QF S f w .ret a w'→QB .ret a w'))
 (HNorm:Hid (∀ a w',Has 323 [0,1,2,3,4,5,6,7,8,9,10,11,12] [.string S,v1,(.pointer (some ⟨w.heap.size,0,none⟩)),v3,(.pointer (some ⟨w.heap.size+1,0,none⟩)),.int .i64 P,v6,v7,(.pointer (some ⟨G8,0,none⟩)),v9,v10,.int .i64 (nx+ZN s.vsize 4096),.int .i64 i] a→XG w w' G8 h (TK++[s])→Uv h.size S.size nx s→QB .normal a w')) (w3:World) (G3:Nat) (HSW3:Hid (XG w w3 G8 h TK)) (HG3:Hid (w3.heap[G3]? =some (.cells s.arr 72 (0,0)))) (a:Act)
 (ha:Has 323 [0,1,2,3,4,5,6,7,8,9,10,11,12,16] [.string S,v1,(.pointer (some ⟨w.heap.size,0,none⟩)),v3,(.pointer (some ⟨w.heap.size+1,0,none⟩)),.int .i64 P,v6,v7,(.pointer (some ⟨G8,0,none⟩)),v9,v10,.int .i64 nx,.int .i64 i,(.pointer (some ⟨G3,0,none⟩))] a):(ZY 4 bl3).wp Tryz.prog QB a w3:=by
 obtain⟨u,rfl⟩:=YY ha
 clear ha
 conv=>arg 2; whnf
 obtain⟨cs,A8,c8,hg8,hv8,ho8⟩:=HSW3.out.cs
 have c1:w3.cell? ⟨G3,1,none⟩=some (.int .i64 s.vsize):=by rw[Zh HG3.out]; rfl
 have c2:w3.cell? ⟨G3,2,none⟩=some (.int .i64 s.rva):=by rw[Zh HG3.out]; rfl
 have c3:w3.cell? ⟨G3,3,none⟩=some (.int .i64 s.raw):=by rw[Zh HG3.out]; rfl
 have c4:w3.cell? ⟨G3,4,none⟩=some (.int .i64 s.spot):=by rw[Zh HG3.out]; rfl
 have c5:w3.cell? ⟨G8,4,none⟩=some (.int .i64 h.size):=by rw[cell_of_row _ _ _ _ _ _ hg8]; exact hv8.c4
 clear hg8 hv8 ho8
 have hsv:=HR.out.sb.v0
 have hsv1:=HR.out.sb.v1
 have HRD:=Zg (fun W:World=>Ud s.vsize 4096 W (by omega) (by omega) (by omega) (by omega))
 have hfb:=XM s.vsize hsv1
 have hs0:(S.size:Int)≤1000000:=by have:=HR.out.hs; omega
 refine wp_seq_k ?_
 intro KA hKA
 have HKA:=Zg hKA
 clear hKA
 refine Vt 323 [0,1,2,3,4,5,6,7,8,9,10,11,12,16] (fun zz wx=>zz 17= .int .i64 (ZN s.vsize 4096)∧w3=wx) ?_ ?_
 ·intro J0 K0 hJ0 hK0
  go_wp2_with (go_fit (HRD.out _); rintro e u ⟨rfl,rfl⟩)
  refine Met.intro ?_
  go_step
  exact⟨⟨rfl,rfl,rfl⟩,rfl,rfl⟩
 intro a' wc hS hR
 obtain⟨u2,hu,rfl⟩:=YZ hS _ _ _ _ _ _ _ _ _ _ _ _ _ _ rfl
 rw[hu] at hR
 clear hu hS HRD
 obtain⟨h17,hw⟩:=hR
 subst hw
 rw[h17]
 clear h17
 refine HKA.out _ _ ?_
 clear HKA KA
 refine wp_seq_k ?_
 intro KB hKB
 have HKB:=Zg hKB
 clear hKB
 obtain⟨fu,hfu⟩: ∃ fu,ZN s.vsize 4096=fu:=⟨_,rfl⟩
 rw[hfu] at hfb ⊢
 have HFU:=Zg hfu
 clear hfu
 have hsr:=HR.out.sb.r0
 have hsr1:=HR.out.sb.r1
 have hx0:=HR.out.x0
 refine Vt 323 [0,1,2,3,4,5,6,7,8,9,10,11,12,16,17] (fun zz wx=>Uv h.size S.size nx s∧w3=wx) ?_ ?_
 ·intro J0 K0 hJ0 hK0
  have HJ0:=Zg hJ0
  clear hJ0
  refine wp_seq_k ?_
  intro K1 hK1
  have HK1:=Zg hK1
  clear hK1
  have hsw0:=HR.out.sb.w0
  have hsw1:=HR.out.sb.w1
  have hss0:=HR.out.sb.s0
  have hss1:=HR.out.sb.s1
  refine r36 S w3 G3 G8 nx fu s.rva s.vsize s.raw s.spot h.size v1 _ v3 _ _ v6 v7 v9 v10 _ HR.out.hs c2 c1 c3 c4 c5 hsw0 hsw1 hss0 hss1 K1 _ (Zg fun hst a' ha'=> ?_) (Zg fun hst a' ha'=> ?_) _ ⟨rfl,rfl,rfl⟩
  ·obtain⟨u3,rfl⟩:=ZP ha'
   clear ha'
   have hE9:ZT S.size f=7:=HR.out.e8 (fun hc=>by
    have h1:=HR.out.ch.1 hc
    rw[HR.out.dr] at h1
    have h2:=h1.1
    unfold Uv at h2
    rw[HFU.out] at h2
    exact hst h2)
   have HE9:=Zg hE9
   have HZ0:=Zg HSW3.out.z0
   have HZ1:=Zg HSW3.out.z1
   have HB1:=Zg HSW3.out.bel
   clear hE9 hst c1 c2 c3 c4 c5 HKB HNorm
   refine HK1.out _ _ ?_
   clear HK1 K1
   go_wp2_with (first
    | (refine wpList_load_row rfl 41 _ rfl (w.heap.size+1) rfl 41 (Zl 0 0 0 0 0 0) (0,0) _ HZ1.out rfl rfl rfl ?_)
    | (refine wpList_store_row rfl 41 _ _ rfl w.heap.size (Zl 0 0 0 0 0 0) rfl rfl 41 _ HZ0.out rfl rfl (ZC _ _ _ _ _ _) ?_))
   refine HRet.out _ _ ?_
   refine bodyPost_ret (v:= .tuple #[.agg (Zl 0 0 0 0 0 0),.int .i64 7]) (Zj rfl _ _ w.heap.size 41 _ (0,0) _ _ rfl rfl (setRow_heap _ _ _ _ _ _ HZ0.out) rfl rfl rfl) rfl ⟨⟨_,rfl,_,by rw[HE9.out],.inl ⟨by rw[HE9.out]; omega,ZE⟩⟩,below_setRow HB1.out (Nat.le_refl _) _⟩
  ·obtain⟨u3,rfl⟩:=ZP ha'
   clear ha'
   have HST:=Zg hst
   clear hst c1 c2 c3 c4 c5
   refine HK1.out _ _ ?_
   clear HK1 K1
   go_wp2_with fail
   refine Met.intro ?_
   refine HJ0.out _ _ ?_
   exact⟨⟨rfl,rfl,rfl⟩,by unfold Uv; rw[HFU.out]; exact HST.out,rfl⟩
 intro a' wc hS hR
 obtain⟨u4,hu,rfl⟩:=YM hS _ _ _ _ _ _ _ _ _ _ _ _ _ _ _ rfl
 clear hu hS
 obtain⟨hrv,hw⟩:=hR
 subst hw
 refine HKB.out _ _ ?_
 rw[←HFU.out]
 exact b3_6 S f w P K G8 i o h nx N0 SL TK s HR QB v1 v3 v6 v7 v9 v10 HRet HNorm w3 G3 HSW3 HG3 (Zg hrv) _ ⟨rfl,rfl,rfl⟩
set_option maxRecDepth 100000 in
set_option maxHeartbeats 4000000 in
theorem b3_3 (S:ByteArray) (f:Nat→Int) (w:World) (P K G8 i o:Nat) (h:ZO) (nx N0:Int) (SL TK:List Zr) (s:Zr)
 (HR:Hid (RC S f h nx N0 SL TK s P K i o)) (QB:Exit→Act→World→Prop) (v1 v3 v6 v7 v9 v10:Value)
 (HRet:Hid (∀ a w',QF S f w .ret a w'→QB .ret a w'))
 (HNorm:Hid (∀ a w',Has 323 [0,1,2,3,4,5,6,7,8,9,10,11,12] [.string S,v1,(.pointer (some ⟨w.heap.size,0,none⟩)),v3,(.pointer (some ⟨w.heap.size+1,0,none⟩)),.int .i64 P,v6,v7,(.pointer (some ⟨G8,0,none⟩)),v9,v10,.int .i64 (nx+ZN s.vsize 4096),.int .i64 i] a→XG w w' G8 h (TK++[s])→Uv h.size S.size nx s→QB .normal a w')) (wr:World) (HSW:Hid (XG w wr G8 h TK)) (a:Act)
 (ha:Has 323 [0,1,2,3,4,5,6,7,8,9,10,11,12,13,14] [.string S,v1,(.pointer (some ⟨w.heap.size,0,none⟩)),v3,(.pointer (some ⟨w.heap.size+1,0,none⟩)),.int .i64 P,v6,v7,(.pointer (some ⟨G8,0,none⟩)),v9,v10,.int .i64 nx,.int .i64 i,.int .i64 o,.string s.name] a):(ZY 3 bl3).wp Tryz.prog QB a wr:=by
 obtain⟨u,rfl⟩:=YN ha
 clear ha
 conv=>arg 2; whnf
 have ho1:(o:Int)+40≤1000000:=by have:=HR.out.oS; have:=HR.out.hs; omega
 have hj8:=fun W:World=>Yc S (o+8) 4 W HR.out.hs (by have:=HR.out.oS; omega) (by have:=HR.out.oS; have:=HR.out.hs; omega)
 rw[HR.out.hf,show((o+8:Nat):Int)=(o:Int)+8 by omega,show rdF f (o+8) 4=s.vsize by rw[←HR.out.ss]; rfl] at hj8
 have HJ8:=Zg hj8
 clear hj8
 have hj12:=fun W:World=>Yc S (o+12) 4 W HR.out.hs (by have:=HR.out.oS; omega) (by have:=HR.out.oS; have:=HR.out.hs; omega)
 rw[HR.out.hf,show((o+12:Nat):Int)=(o:Int)+12 by omega,show rdF f (o+12) 4=s.rva by rw[←HR.out.ss]; rfl] at hj12
 have HJ12:=Zg hj12
 clear hj12
 have hj16:=fun W:World=>Yc S (o+16) 4 W HR.out.hs (by have:=HR.out.oS; omega) (by have:=HR.out.oS; have:=HR.out.hs; omega)
 rw[HR.out.hf,show((o+16:Nat):Int)=(o:Int)+16 by omega,show rdF f (o+16) 4=s.raw by rw[←HR.out.ss]; rfl] at hj16
 have HJ16:=Zg hj16
 clear hj16
 have hj20:=fun W:World=>Yc S (o+20) 4 W HR.out.hs (by have:=HR.out.oS; omega) (by have:=HR.out.oS; have:=HR.out.hs; omega)
 rw[HR.out.hf,show((o+20:Nat):Int)=(o:Int)+20 by omega,show rdF f (o+20) 4=s.spot by rw[←HR.out.ss]; rfl] at hj20
 have HJ20:=Zg hj20
 clear hj20
 have hj36:=fun W:World=>Yc S (o+36) 4 W HR.out.hs (by have:=HR.out.oS; omega) (by have:=HR.out.oS; have:=HR.out.hs; omega)
 rw[HR.out.hf,show((o+36:Nat):Int)=(o:Int)+36 by omega,show rdF f (o+36) 4=s.chars by rw[←HR.out.ss]; rfl] at hj36
 have HJ36:=Zg hj36
 clear hj36
 refine wp_seq_k ?_
 intro KA hKA
 have HKA:=Zg hKA
 clear hKA
 refine Vt 323 [0,1,2,3,4,5,6,7,8,9,10,11,12] (fun zz wx=> ∃ G3:Nat,zz 16=(.pointer (some ⟨G3,0,none⟩))∧XG w wx G8 h TK∧wx.heap[G3]? =some (.cells s.arr 72 (0,0))) ?_ ?_
 ·intro J0 K0 hJ0 hK0
  have HJ0:=Zg hJ0
  clear hJ0
  go_wp2_with (first|(go_fit (HJ8.out _); rintro e u ⟨rfl,rfl⟩)|(go_fit (HJ12.out _); rintro e u ⟨rfl,rfl⟩)|(go_fit (HJ16.out _); rintro e u ⟨rfl,rfl⟩)|(go_fit (HJ20.out _); rintro e u ⟨rfl,rfl⟩))
  refine(HJ36.out _).mono ?_
  rintro e u ⟨rfl,rfl⟩
  rename_i hK
  refine hK _ _ ?_
  refine Xl rfl 72 _ rfl [(0,.string s.name),(1,.int .i64 s.vsize),(2,.int .i64 s.rva),(3,.int .i64 s.raw),(4,.int .i64 s.spot),(5,.int .i64 s.chars)] s.arr ?hv ?hb ?_
  case hv=>simp[go_sem]
  case hb=>exact JR _
  clear HJ8 HJ12 HJ16 HJ20 HJ36
  have hg3:=setRow_heap (wr.alloc (.cells #[.string ⟨#[]⟩,.int .i64 0,.int .i64 0,.int .i64 0,.int .i64 0,.int .i64 0] 72)) wr.heap.size _ s.arr _ _ (heap_alloc_new _ _)
  have hb3:Below wr.heap.size wr ((wr.alloc (.cells #[.string ⟨#[]⟩,.int .i64 0,.int .i64 0,.int .i64 0,.int .i64 0,.int .i64 0] 72)).setRow wr.heap.size s.arr):=below_setRow ((Below.refl _ wr).alloc (Nat.le_refl _) _) (Nat.le_refl _) _
  have HSW3:=Zg (HSW.out.below hb3)
  have HG3:=Zg hg3
  clear hb3 hg3
  go_wp2_with (refine wpList_store_row rfl 72 _ _ rfl wr.heap.size s.arr rfl rfl 72 _ (heap_alloc_new _ _) rfl rfl s.arr_one ?_)
  refine Met.intro ?_
  refine HJ0.out _ _ ?_
  exact⟨⟨rfl,rfl,rfl⟩,_,rfl,HSW3.out,HG3.out⟩
 intro a' wc hS hR
 obtain⟨u2,hu,rfl⟩:=Yk hS _ _ _ _ _ _ _ _ _ _ _ _ _ rfl
 rw[hu] at hR
 clear hu hS
 obtain⟨G3,h16,hsw,hg⟩:=hR
 rw[h16]
 exact HKA.out _ _ (b3_4 S f w P K G8 i o h nx N0 SL TK s HR QB v1 v3 v6 v7 v9 v10 HRet HNorm wc G3 (Zg hsw) (Zg hg) _ ⟨rfl,rfl,rfl⟩)
set_option maxRecDepth 100000 in
set_option maxHeartbeats 4000000 in
theorem b3_0 (S:ByteArray) (f:Nat→Int) (w:World) (P K G8 i o:Nat) (h:ZO) (nx N0:Int) (SL TK:List Zr) (s:Zr)
 (HR:Hid (RC S f h nx N0 SL TK s P K i o)) (QB:Exit→Act→World→Prop) (v1 v3 v6 v7 v9 v10:Value)
 (HRet:Hid (∀ a w',QF S f w .ret a w'→QB .ret a w'))
 (HNorm:Hid (∀ a w',Has 323 [0,1,2,3,4,5,6,7,8,9,10,11,12] [.string S,v1,(.pointer (some ⟨w.heap.size,0,none⟩)),v3,(.pointer (some ⟨w.heap.size+1,0,none⟩)),.int .i64 P,v6,v7,(.pointer (some ⟨G8,0,none⟩)),v9,v10,.int .i64 (nx+ZN s.vsize 4096),.int .i64 i] a→XG w w' G8 h (TK++[s])→Uv h.size S.size nx s→QB .normal a w')) (wr:World) (HSW:Hid (XG w wr G8 h TK)) (a:Act)
 (ha:Has 323 [0,1,2,3,4,5,6,7,8,9,10,11,12] [.string S,v1,(.pointer (some ⟨w.heap.size,0,none⟩)),v3,(.pointer (some ⟨w.heap.size+1,0,none⟩)),.int .i64 P,v6,v7,(.pointer (some ⟨G8,0,none⟩)),v9,v10,.int .i64 nx,.int .i64 i] a):bl3.wp Tryz.prog QB a wr:=by
 obtain⟨u,rfl⟩:=Yl ha
 clear ha
 conv=>arg 2; whnf
 have ho1:(o:Int)+40≤1000000:=by have:=HR.out.oS; have:=HR.out.hs; omega
 have hoI:(P:Int)+264+40 * (i:Int)=(o:Int):=by have:=HR.out.ho; omega
 have hi16:(i:Int)≤16:=by have:=HR.out.k16; have:=HR.out.lt; omega
 have hoz:(o:Int)+40≤(S.size:Int):=by have:=HR.out.oS; omega
 refine wp_seq_k ?_
 intro KA hKA
 have HKA:=Zg hKA
 clear hKA
 refine Vt 323 [0,1,2,3,4,5,6,7,8,9,10,11,12] (fun zz wx=>zz 13= .int .i64 o∧wr=wx) ?_ ?_
 ·intro J0 K0 hJ0 hK0
  have HJ0:=Zg hJ0
  clear hJ0
  have HOI:=Zg hoI
  clear hoz
  have hP:(P:Int)+264≤1000000:=by omega
  have hP0:(0:Int)≤(P:Int):=by omega
  clear hoI
  go_wp2_with fail
  refine Met.intro ?_
  refine HJ0.out _ _ ?_
  exact⟨⟨rfl,rfl,rfl⟩,(show Value.int .i64 ((P:Int)+264+40 * (i:Int))=_ by rw[HOI.out]),rfl⟩
 intro a' wc hS hR
 obtain⟨u2,hu,rfl⟩:=Yk hS _ _ _ _ _ _ _ _ _ _ _ _ _ rfl
 rw[hu] at hR
 clear hu hS
 obtain⟨h13,hw⟩:=hR
 subst hw
 rw[h13]
 clear h13
 refine HKA.out _ _ ?_
 clear HKA KA hoI
 refine wp_seq_k ?_
 intro KB hKB
 have HKB:=Zg hKB
 clear hKB
 have t0:(0:Int)≤(o:Int):=by omega
 have t1:(o:Int)≤(o:Int)+8:=by omega
 have t2:(o:Int)+8≤(S.size:Int):=by omega
 have t3:(0:Int)≤(o:Int)+8:=by omega
 have t4:(o:Int)≤(S.size:Int):=by omega
 have t5:IntKind.i64.wrap ((o:Int)+8)=(o:Int)+8:=IntWalk.i64_in _ ⟨by omega,by omega⟩
 have ht:((o:Int)+8).toNat=o+8:=by omega
 have hny:=fun(h8:ZZ f o 8<8) (W:World)=>Zd9 S o W (by omega) (by rw[HR.out.hf]; exact h8)
 have hnn:=fun(h8: ¬ ZZ f o 8<8) (W:World)=>Zgr S o W (by omega) (by rw[HR.out.hf]; exact h8)
 have hna:=fun(h8: ¬ ZZ f o 8<8)=>Zgs S o (by omega) (by rw[HR.out.hf]; exact h8)
 rw[HR.out.hf,show Jr f o=s.name by rw[←HR.out.ss]; rfl] at hny hna
 have HNY:=Zg hny
 have HNN:=Zg hnn
 have HNA:=Zg hna
 clear hny hnn hna
 refine Vt 323 [0,1,2,3,4,5,6,7,8,9,10,11,12,13] (fun zz wx=> ∃ nm ok,zz 14= .string nm∧zz 15= .bool ok∧((ok=true∧nm=s.name)∨(ok=false∧S.extract o (o+8)=s.name))∧wr=wx) ?_ ?_
 ·intro J0 K0 hJ0 hK0
  have HJ0:=Zg hJ0
  clear hJ0
  by_cases h8:ZZ f o 8<8
  ·have HN1:=Zg (HNY.out h8)
   clear h8
   go_wp2_with (go_fit (HN1.out _); rintro e u ⟨rfl,rfl⟩)
   refine Met.intro ?_
   refine HJ0.out _ _ ?_
   exact⟨⟨rfl,rfl,rfl⟩,_,_,rfl,rfl,.inl ⟨rfl,rfl⟩,rfl⟩
  ·have HN1:=Zg (HNN.out h8)
   have HN2:=Zg (HNA.out h8)
   clear h8
   go_wp2_with (go_fit (HN1.out _); rintro e u ⟨rfl,rfl⟩)
   refine Met.intro ?_
   refine HJ0.out _ _ ?_
   exact⟨⟨rfl,rfl,rfl⟩,_,_,rfl,rfl,.inr ⟨rfl,HN2.out⟩,rfl⟩
 intro a' wc hS hR
 obtain⟨u3,hu,rfl⟩:=Ye hS _ _ _ _ _ _ _ _ _ _ _ _ _ _ rfl
 rw[hu] at hR
 clear hu hS HNY HNN HNA
 obtain⟨nm,ok,h14,h15,hok,hw⟩:=hR
 subst hw
 rw[h14,h15]
 clear h14 h15
 refine HKB.out _ _ ?_
 clear HKB KB
 refine wp_seq_k ?_
 intro KC hKC
 have HKC:=Zg hKC
 clear hKC
 refine Vt 323 [0,1,2,3,4,5,6,7,8,9,10,11,12,13] (fun zz wx=>zz 14= .string s.name∧wr=wx) ?_ ?_
 ·intro J0 K0 hJ0 hK0
  have HJ0:=Zg hJ0
  clear hJ0
  rcases hok with⟨rfl,rfl⟩|⟨rfl,hex⟩
  ·go_wp2_with fail
   refine Met.intro ?_
   refine HJ0.out _ _ ?_
   exact⟨⟨rfl,rfl,rfl⟩,rfl,rfl⟩
  ·have HEX:=Zg hex
   clear hex
   go_wp2_with fail
   refine Met.intro ?_
   refine HJ0.out _ _ ?_
   exact⟨⟨rfl,rfl,rfl⟩,(show Value.string (S.extract o (o+8))=_ by rw[HEX.out]),rfl⟩
 intro a' wc hS hR
 obtain⟨u4,hu,rfl⟩:=Ye hS _ _ _ _ _ _ _ _ _ _ _ _ _ _ rfl
 rw[hu] at hR
 clear hu hS
 obtain⟨h14,hw⟩:=hR
 subst hw
 rw[h14]
 exact HKC.out _ _ (b3_3 S f w P K G8 i o h nx N0 SL TK s HR QB v1 v3 v6 v7 v9 v10 HRet HNorm wr HSW _ ⟨rfl,rfl,rfl⟩)
set_option maxRecDepth 100000 in
set_option maxHeartbeats 4000000 in
theorem from17 (S:ByteArray) (f:Nat→Int) (w wr:World) (P K G8:Nat) (h:ZO) (nx N0:Int) (SL:List Zr)
 (HBG:Hid (ZA S.size f=((P:Int),0))) (HH:Hid (ZF f P=h)) (HK6:Hid (rdF f (P+6) 2=K)) (HSL:Hid (Ya f (P+264) K=SL)) (HSEC:Hid (SL.length=K)) (HK16:Hid (K≤16))
 (HE8:Hid ((¬ Yw h.size S.size N0 SL→ZT S.size f=7)∧(Yw h.size S.size N0 SL→ZT S.size f=if h.size≤h.entry then 5 else 0)))
 (HCH2:Hid (Yw h.size S.size N0 SL↔Yw h.size S.size nx [])) (HSW:Hid (XG w wr G8 h SL)) (a:Act)
 (ha:Has 323 [2,4,8,11] [(.pointer (some ⟨w.heap.size,0,none⟩)),(.pointer (some ⟨w.heap.size+1,0,none⟩)),(.pointer (some ⟨G8,0,none⟩)),.int .i64 nx] a) :
 (ZY 17 Us).wp Tryz.prog (QF S f w) a wr:=by
 obtain⟨u,rfl⟩:=Jp ha
 conv=>arg 2; whnf
 obtain⟨cs,A8,c8,hg8,hv8,ho8⟩:=HSW.out.cs
 have HZ0:=Zg HSW.out.z0
 have HZ1:=Zg HSW.out.z1
 have HB1:=Zg HSW.out.bel
 have c4:wr.cell? ⟨G8,4,none⟩=some (.int .i64 h.size):=by rw[cell_of_row _ _ _ _ _ _ hg8]; exact hv8.c4
 have c3:wr.cell? ⟨G8,3,none⟩=some (.int .i64 h.entry):=by rw[cell_of_row _ _ _ _ _ _ hg8]; exact hv8.c3
 have HV8:=Zg hv8
 have HO8:=Zg ho8
 have HG8:=Zg hg8
 clear ha hg8 hv8 ho8
 by_cases en:nx=h.size
 ·have hE10:=HE8.out.2 (HCH2.out.2 (by unfold Yw; exact en))
  have en':(nx != h.size)=false:=by simp[en]
  by_cases ee:h.size≤h.entry
  ·rw[if_pos ee] at hE10
   have HE10:=Zg hE10
   clear hE10
   go_wp2_with (first
    | (refine wpList_load_row rfl 41 _ rfl (w.heap.size+1) rfl 41 (Zl 0 0 0 0 0 0) (0,0) _ HZ1.out rfl rfl rfl ?_)
    | (refine wpList_store_row rfl 41 _ _ rfl w.heap.size (Zl 0 0 0 0 0 0) rfl rfl 41 _ HZ0.out rfl rfl (ZC _ _ _ _ _ _) ?_))
   refine bodyPost_ret (v:= .tuple #[.agg (Zl 0 0 0 0 0 0),.int .i64 5]) (Zj rfl _ _ w.heap.size 41 _ (0,0) _ _ rfl rfl (setRow_heap _ _ _ _ _ _ HZ0.out) rfl rfl rfl) rfl ⟨⟨_,rfl,_,by rw[HE10.out],.inl ⟨by rw[HE10.out]; omega,ZE⟩⟩,below_setRow HB1.out (Nat.le_refl _) _⟩
  ·rw[if_neg ee] at hE10
   have HE10:=Zg hE10
   have ee':h.entry<h.size:=by omega
   have HONE:=Zg (HV8.out.one rfl)
   have HCZ:=Zg HV8.out.size
   have HI44:=Zg (show(Tryz.prog.info? 41).map (·.size)=some cs.size by rw[HCZ.out]; rfl)
   have HO44:=Zg (show(Zl 0 0 0 0 0 0).size=cs.size by rw[HCZ.out]; rfl)
   clear hE10
   go_wp2_with (first
    | (refine wpList_load_row rfl 41 _ rfl G8 rfl 41 cs (0,0) _ HG8.out rfl rfl HI44.out ?_)
    | (refine wpList_store_row rfl 41 _ _ rfl w.heap.size cs rfl rfl 41 _ HZ0.out HI44.out HO44.out HONE.out ?_))
   refine bodyPost_ret (v:= .tuple #[.agg cs,.int .i64 0]) (Zj rfl _ _ w.heap.size 41 cs (0,0) _ _ rfl rfl (setRow_heap _ _ _ _ _ _ HZ0.out) rfl rfl HI44.out) rfl ⟨⟨_,rfl,cs,by rw[HE10.out],.inr ⟨HE10.out,.slice A8 SL.length c8,?_,?_⟩⟩,below_setRow HB1.out (Nat.le_refl _) cs⟩
   ·unfold headP; rw[HBG.out]; simp only[Int.toNat_natCast]; rw[HH.out]; exact HV8.out
   ·unfold headK headP; rw[HBG.out]; simp only[Int.toNat_natCast]; rw[HK6.out,Int.toNat_natCast,HSL.out]
    refine⟨A8,c8,rfl,(HO8.out.sl Zr.cells_len).keep (by simp) fun b' hb'=>setRow_other _ _ _ _ ?_,by rw[HSEC.out]; exact HK16.out⟩
    have h1:=(HO8.out.lt b' (by cases A8 with
     | none=>simp at hb'
     | some a=>simpa [Value.ownBlock] using hb')).1
    have h2:=HSW.out.le
    omega
 ·have hE10:=HE8.out.1 (fun hc=>en (by have:=HCH2.out.1 hc; unfold Yw at this; exact this))
  have en':(nx != h.size)=true:=by simp[en]
  have HE10:=Zg hE10
  clear hE10
  go_wp2_with (first
   | (refine wpList_load_row rfl 41 _ rfl (w.heap.size+1) rfl 41 (Zl 0 0 0 0 0 0) (0,0) _ HZ1.out rfl rfl rfl ?_)
   | (refine wpList_store_row rfl 41 _ _ rfl w.heap.size (Zl 0 0 0 0 0 0) rfl rfl 41 _ HZ0.out rfl rfl (ZC _ _ _ _ _ _) ?_))
  refine bodyPost_ret (v:= .tuple #[.agg (Zl 0 0 0 0 0 0),.int .i64 7]) (Zj rfl _ _ w.heap.size 41 _ (0,0) _ _ rfl rfl (setRow_heap _ _ _ _ _ _ HZ0.out) rfl rfl rfl) rfl ⟨⟨_,rfl,_,by rw[HE10.out],.inl ⟨by rw[HE10.out]; omega,ZE⟩⟩,below_setRow HB1.out (Nat.le_refl _) _⟩
set_option maxRecDepth 100000 in
set_option maxHeartbeats 4000000 in
theorem from15 (S:ByteArray) (f:Nat→Int) (w wr:World) (P K G8:Nat) (h:ZO) (v1 v3 v6 v7 v10:Value) (hs:S.size≤1000000) (HF:Hid (PlainAid.bt S=f)) (H255:Hid (Zq f))
 (HBG:Hid (ZA S.size f=((P:Int),0))) (HH:Hid (ZF f P=h)) (HK6:Hid (rdF f (P+6) 2=K)) (HP32:Hid (P<4294967296)) (hpS:P+264≤S.size) (HQ:Hid (Yt S.size P h.headers K))
 (HE7:Hid (ZT S.size f=Zde S.size f P K h)) (HSW0:Hid (XG w wr G8 h [])) (a:Act) (ha:Has 323 [0,1,2,3,4,5,6,7,8,9,10] [.string S,v1,(.pointer (some ⟨w.heap.size,0,none⟩)),v3,(.pointer (some ⟨w.heap.size+1,0,none⟩)),.int .i64 P,v6,v7,(.pointer (some ⟨G8,0,none⟩)),.int .i64 K,v10] a):(ZY 15 Us).wp Tryz.prog (QF S f w) a wr:=by
 obtain⟨u,rfl⟩:=XK ha
 clear ha
 conv=>arg 2; whnf
 have hq:=HQ.out
 unfold Yt at hq
 obtain⟨q1,q2,q3,q4,q5⟩:=hq
 obtain⟨cs,A8,c8,hg8,hv8,ho8⟩:=HSW0.out.cs
 have c5:wr.cell? ⟨G8,5,none⟩=some (.int .i64 h.headers):=by rw[cell_of_row _ _ _ _ _ _ hg8]; exact hv8.c5
 clear hg8 hv8 ho8
 have HRD:=Zg (fun W:World=>Ud h.headers 4096 W (by omega) (by omega) (by omega) (by omega))
 have hrb:=XM h.headers (by omega)
 have HK16:=Zg (show K≤16 by omega)
 have HK40:=Zg (show P+264+40 * K≤S.size by omega)
 clear q1 q2 q3 q4 q5 HQ
 refine wp_seq_k ?_
 intro KA hKA
 have HKA:=Zg hKA
 clear hKA
 refine Vt 323 [0,1,2,3,4,5,6,7,8,9,10] (fun zz wx=>zz 11= .int .i64 (ZN h.headers 4096)∧wr=wx) ?_ ?_
 ·intro J0 K0 hJ0 hK0
  have HJ0:=Zg hJ0
  clear hJ0
  go_wp2_with (go_fit (HRD.out _); rintro e u ⟨rfl,rfl⟩)
  refine Met.intro ?_
  refine HJ0.out _ _ ?_
  exact⟨⟨rfl,rfl,rfl⟩,rfl,rfl⟩
 intro a' wc hS hR
 obtain⟨u2,hu,rfl⟩:=YL hS _ _ _ _ _ _ _ _ _ _ _ rfl
 rw[hu] at hR
 clear hu hS HRD c5
 obtain⟨h11,hw⟩:=hR
 subst hw
 rw[h11]
 clear h11
 refine HKA.out _ _ ?_
 clear HKA KA
 have hsec:(Ya f (P+264) K).length=K:=by simp[Ya]
 have HGI:=Zg (fun(i:Nat) (hi:i<(Ya f (P+264) K).length)=>show(Ya f (P+264) K)[i]=Xo f (P+264+40 * i) by simp[Ya])
 obtain⟨N0,hN0⟩: ∃ N0,ZN h.headers 4096=N0:=⟨_,rfl⟩
 rw[hN0] at hrb ⊢
 obtain⟨SL,hSL⟩: ∃ SL,Ya f (P+264) K=SL:=⟨_,rfl⟩
 have he8:(¬ Yw h.size S.size N0 SL→ZT S.size f=7)∧(Yw h.size S.size N0 SL→ZT S.size f=if h.size≤h.entry then 5 else 0):=by
  have e:=HE7.out
  unfold Zde at e
  rw[hN0,hSL] at e
  exact⟨fun hc=>by rw[e,if_pos hc],fun hc=>by rw[e,if_neg (fun k=>k hc)]⟩
 rw[hSL] at hsec HGI
 have HE8:=Zg he8
 have HSEC:=Zg hsec
 have HSL:=Zg hSL
 clear he8 HE7 hSL hsec hN0
 refine wp_seq_k ?_
 intro KB hKB
 have HKB:=Zg hKB
 clear hKB
 refine wp_cut (fun a' w'=> ∃ nx,Has 323 [2,4,8,11] [(.pointer (some ⟨w.heap.size,0,none⟩)),(.pointer (some ⟨w.heap.size+1,0,none⟩)),(.pointer (some ⟨G8,0,none⟩)),.int .i64 nx] a'∧(Yw h.size S.size N0 SL↔Yw h.size S.size nx [])∧XG w w' G8 h SL) ?_ ?_
 ·rintro a' w' ⟨nx,ha',hch,hsw⟩
  exact HKB.out _ _ (from17 S f w w' P K G8 h nx N0 SL HBG HH HK6 HSL HSEC HK16 HE8 (Zg hch) (Zg hsw) a' ha')
 intro J0 K0 hJ0 hK0
 have HJ0:=Zg hJ0
 clear hJ0 HKB KB
 go_wp2_with fail
 refine UD 323 [0,1,2,3,4,5,6,7,8,9,10] (fun n s wx=> ∃(i:Nat) (nx:Int),n=K - i∧i≤K∧s 12= .int .i64 i∧s 11= .int .i64 nx∧0≤nx∧nx≤4294967296+i * 4294967296∧(Yw h.size S.size N0 SL↔Yw h.size S.size nx (SL.drop i))∧XG w wx G8 h (SL.take i)) K ⟨rfl,rfl,rfl⟩ ⟨0,N0,by omega,by omega,rfl,rfl,by omega,by omega,by simp,by simpa using HSW0.out⟩ ?_
 intro gk a' wr' hS hR J1 K1 hJ1 hK1
 have HJ1:=Zg hJ1
 clear hJ1
 obtain⟨u3,hu,rfl⟩:=YL hS _ _ _ _ _ _ _ _ _ _ _ rfl
 rw[hu] at hR
 clear hu hS HSW0
 obtain⟨i,nx,hgk,hi,h12,h11,x0,x1,hch,hsw⟩:=hR
 rw[h12,h11]
 subst hgk
 clear h12 h11
 by_cases hlt:i<K
 ·have hlt':(i:Int)<K:=by omega
  have hli:i<SL.length:=by rw[HSEC.out]; exact hlt
  have hgi:=HGI.out i hli
  have hdr:SL.drop i=SL[i]::SL.drop (i+1):=List.drop_eq_getElem_cons hli
  have htk:SL.take (i+1)=SL.take i++[SL[i]]:=List.take_succ_eq_append_getElem hli
  rw[hgi] at hdr htk
  have hsb:=UI H255.out (P+264+40 * i)
  have HRC:Hid (RC S f h nx N0 SL (SL.take i) (Xo f (P+264+40 * i)) P K i (P+264+40 * i)):=Zg
   ⟨hs,HF.out,H255.out,HE8.out.1,hch,hdr,htk,by rw[List.length_take,HSEC.out]; omega,rfl,hsb,by have:=HK40.out; omega,rfl,x0,x1,hlt,HK16.out,HP32.out⟩
  have hfb:=XM (Xo f (P+264+40 * i)).vsize hsb.v1
  have HCH:=Zg hch
  have HDR:=Zg hdr
  have HTK:=Zg htk
  have HSW:=Zg hsw
  clear hgi hdr htk hch hsw hsb hli HGI
  generalize hsS:Xo f (P+264+40 * i)=s at *
  have HSS:=Zg hsS
  clear hsS
  go_upto_block 3 with fail
  refine wp_cut (fun a' w'=>Has 323 [0,1,2,3,4,5,6,7,8,9,10,11,12] [.string S,v1,(.pointer (some ⟨w.heap.size,0,none⟩)),v3,(.pointer (some ⟨w.heap.size+1,0,none⟩)),.int .i64 P,v6,v7,(.pointer (some ⟨G8,0,none⟩)),.int .i64 K,v10,.int .i64 (nx+ZN s.vsize 4096),.int .i64 i] a'∧XG w w' G8 h (SL.take i++[s])∧Uv h.size S.size nx s) ?_ ?_
  ·rintro a' w' ⟨ha',hsw',hst⟩
   obtain⟨u4,rfl⟩:=Yl ha'
   have HSW':=Zg hsw'
   have HSTP:=Zg hst
   have hi16:(i:Int)≤16:=by have:=HK16.out; omega
   clear ha' hsw' hst HRC HSW
   obtain⟨fu,hfu⟩: ∃ fu,ZN s.vsize 4096=fu:=⟨_,rfl⟩
   rw[hfu] at hfb ⊢
   have HFU:=Zg hfu
   clear hfu
   go_wp2_with fail
   refine Handed.intro (K - (i+1)) (by omega) ?_
   refine HJ1.out _ _ _ ?_
   exact⟨⟨rfl,rfl,rfl⟩,i+1,nx+fu,rfl,by omega,(show Value.int .i64 ((i:Int)+1)=_ by go_num),rfl,by omega,by omega,HCH.out.trans ⟨fun hc=>by rw[HDR.out] at hc; have:=hc.2; rw[HFU.out] at this; exact this,fun hc=>by rw[HDR.out]; exact⟨HSTP.out,by rw[HFU.out]; exact hc⟩⟩,by rw[HTK.out]; exact HSW'.out⟩
  ·intro J2 K2 hJ2 hK2
   refine wp_block ?_
   refine b3_0 S f w P K G8 i (P+264+40 * i) h nx N0 SL (SL.take i) s HRC _ v1 v3 v6 v7 (.int .i64 K) v10 ?_ ?_ wr' HSW _ ⟨rfl,rfl,rfl⟩
   ·exact Zg (fun a w' q=>q)
   ·exact Zg (fun a' w' ha' hs' hst'=>hK2 _ _ (Met.intro (hJ2 _ _ ⟨ha',hs',hst'⟩)))
 ·obtain rfl:i=K:=by omega
  rw[List.drop_of_length_le (by rw[HSEC.out]; omega)] at hch
  rw[List.take_of_length_le (by rw[HSEC.out]; omega)] at hsw
  have HCH:=Zg hch
  have HSW:=Zg hsw
  clear hch hsw
  go_wp2_with fail
  refine Met.intro ?_
  refine HJ0.out _ _ ?_
  exact⟨nx,⟨rfl,rfl,rfl⟩,HCH.out,HSW.out⟩
set_option maxRecDepth 100000 in
set_option maxHeartbeats 4000000 in
theorem from14 (S:ByteArray) (f:Nat→Int) (w wr:World) (P K G8:Nat) (h:ZO) (v1 v3 v6 v7:Value) (hs:S.size≤1000000) (HF:Hid (PlainAid.bt S=f)) (H255:Hid (Zq f))
 (HBG:Hid (ZA S.size f=((P:Int),0))) (HH:Hid (ZF f P=h)) (HK6:Hid (rdF f (P+6) 2=K)) (HP32:Hid (P<4294967296)) (hpS:P+264≤S.size) (HQ:Hid (Yt S.size P h.headers K))
 (HE7:Hid (ZT S.size f=Zde S.size f P K h)) (HS0:Hid (XR w wr G8 h 0)) (a:Act) (ha:Has 323 [0,1,2,3,4,5,6,7,8,9] [.string S,v1,(.pointer (some ⟨w.heap.size,0,none⟩)),v3,(.pointer (some ⟨w.heap.size+1,0,none⟩)),.int .i64 P,v6,v7,(.pointer (some ⟨G8,0,none⟩)),.int .i64 K] a):(ZY 14 Us).wp Tryz.prog (QF S f w) a wr:=by
 obtain⟨u,rfl⟩:=Yq ha
 clear ha
 conv=>arg 2; whnf
 have hP0:(P:Int)+264≤1000000:=by omega
 have hP1:(0:Int)≤(P:Int):=by omega
 refine wp_seq_k ?_
 intro KA hKA
 have HKA:=Zg hKA
 clear hKA
 refine wp_cut (fun a' w'=>Has 323 [0,1,2,3,4,5,6,7,8,9,10] [.string S,v1,(.pointer (some ⟨w.heap.size,0,none⟩)),v3,(.pointer (some ⟨w.heap.size+1,0,none⟩)),.int .i64 P,v6,v7,(.pointer (some ⟨G8,0,none⟩)),.int .i64 K,.int .i64 16] a'∧XR w w' G8 h 16) ?_ ?_
 ·rintro a' w' ⟨ha',hh⟩
  exact HKA.out _ _ (from15 S f w w' P K G8 h v1 v3 v6 v7 (.int .i64 16) hs HF H255 HBG HH HK6 HP32 hpS HQ HE7 (Zg hh.all) a' ha')
 intro J0 K0 hJ0 hK0
 have HJ0:=Zg hJ0
 clear hJ0 HKA KA
 go_wp2_with fail
 refine UD 323 [0,1,2,3,4,5,6,7,8,9] (fun n s wx=> ∃ i:Nat,n=16 - i∧i≤16∧s 10= .int .i64 i∧XR w wx G8 h i) 16 ⟨rfl,rfl,rfl⟩ ⟨0,rfl,by omega,rfl,HS0.out⟩ ?_
 intro gk a' wr' hS hR J1 K1 hJ1 hK1
 have HJ1:=Zg hJ1
 clear hJ1
 obtain⟨u3,hu,rfl⟩:=We hS _ _ _ _ _ _ _ _ _ _ rfl
 rw[hu] at hR
 clear hu hS HS0
 obtain⟨i,hgk,hi,h10,hat⟩:=hR
 rw[h10]
 subst hgk
 clear h10
 have HA:=Zg hat
 clear hat
 by_cases hlt:i<16
 ·obtain⟨cs,hg,hp⟩:=HA.out.cs
  have h1:=fun W:World=>Yc S (P+136+8 * i) 4 W hs (by omega) (by omega)
  have h2:=fun W:World=>Yc S (P+136+8 * i+4) 4 W hs (by omega) (by omega)
  have hd1:rdF f (P+136+8 * i) 4=(h.dirs i).1:=by rw[←HH.out]; rfl
  have hd2:rdF f (P+136+8 * i+4) 4=(h.dirs i).2:=by rw[←HH.out]; rfl
  rw[HF.out,hd1,show((P+136+8 * i:Nat):Int)=(P:Int)+136+8 * (i:Int) by omega] at h1
  rw[HF.out,hd2,show((P+136+8 * i+4:Nat):Int)=(P:Int)+140+8 * (i:Int) by omega] at h2
  have H1:=Zg h1
  have H2:=Zg h2
  clear h1 h2 hd1 hd2
  have hlt':(i:Int)<16:=by omega
  have hsz:=hp.size
  have z0:=frozen_of_row _ _ (6+i * 2) _ _ hg
  have z1:=frozen_of_row _ _ (6+i * 2+1) _ _ hg
  have c0:=cell_of_row _ _ (6+i * 2) _ _ _ hg
  have c1:=cell_of_row _ _ (6+i * 2+1) _ _ _ hg
  rw[Array.getElem?_eq_getElem (by omega)] at c0 c1
  generalize cs[6+i * 2]=y0 at c0
  generalize cs[6+i * 2+1]=y1 at c1
  clear hg hp hsz
  go_wp2_with (first|(go_fit (H1.out _); rintro e u ⟨rfl,rfl⟩)|(go_fit (H2.out _); rintro e u ⟨rfl,rfl⟩))
  refine Handed.intro (16 - (i+1)) (by omega) ?_
  refine HJ1.out _ _ _ ?_
  exact⟨⟨rfl,rfl,rfl⟩,i+1,rfl,by omega,(show Value.int .i64 ((i:Int)+1)=_ by go_num),HA.out.next hlt _ _ rfl rfl⟩
 ·obtain rfl:i=16:=by omega
  go_wp2_with fail
  refine Met.intro ?_
  refine HJ0.out _ _ ?_
  exact⟨⟨rfl,rfl,rfl⟩,HA.out⟩
set_option maxRecDepth 100000 in
set_option maxHeartbeats 4000000 in
theorem r20 (S:ByteArray) (w3:World) (P K G8:Nat) (hd:Int) (v1 v2 v3 v4 v6 v7:Value) (hs:S.size≤1000000) (hP:P+264≤S.size) (hK:(K:Int)<65536)
 (c5:w3.cell? ⟨G8,5,none⟩=some (.int .i64 hd)) (K1:Act→World→Prop) (Q1:Exit→Act→World→Prop)
 (HT:Hid (¬ (¬ (K:Int)<1∧ ¬ 16<(K:Int)∧ ¬ hd<(P:Int)+264+40 * (K:Int)∧ ¬ 4096<hd∧ ¬ (S.size:Int)<hd)→ ∀ a',Has 323 [0,1,2,3,4,5,6,7,8,9,179] [.string S,v1,v2,v3,v4,.int .i64 P,v6,v7,(.pointer (some ⟨G8,0,none⟩)),.int .i64 K,.bool true] a'→K1 a' w3))
 (HF:Hid ((¬ (K:Int)<1∧ ¬ 16<(K:Int)∧ ¬ hd<(P:Int)+264+40 * (K:Int)∧ ¬ 4096<hd∧ ¬ (S.size:Int)<hd)→ ∀ a',Has 323 [0,1,2,3,4,5,6,7,8,9,179] [.string S,v1,v2,v3,v4,.int .i64 P,v6,v7,(.pointer (some ⟨G8,0,none⟩)),.int .i64 K,.bool false] a'→K1 a' w3)) (a:Act)
 (ha:Has 323 [0,1,2,3,4,5,6,7,8,9] [.string S,v1,v2,v3,v4,.int .i64 P,v6,v7,(.pointer (some ⟨G8,0,none⟩)),.int .i64 K] a):(YJ (YJ (ZY 13 Us))).wp Tryz.prog (Exit.then K1 Q1) a w3:=by
 obtain⟨u,rfl⟩:=Yq ha
 clear ha
 conv=>arg 2; whnf
 have hs0:(S.size:Int)≤1000000:=by omega
 have hP0:(P:Int)+264≤1000000:=by omega
 have hP1:(0:Int)≤(P:Int):=by omega
 have hK1:(0:Int)≤(K:Int):=by omega
 clear hP
 by_cases d0:(K:Int)<1
 ·go_wp2_with fail
  exact HT.out (fun h=>by obtain⟨h0,h1,h2,h3,h4⟩:=h; omega) _ ⟨rfl,rfl,rfl⟩
 ·have e0:decide ((K:Int)<1)=false:=decide_eq_false d0
  by_cases d1:16<(K:Int)
  ·go_wp2_with fail
   exact HT.out (fun h=>by obtain⟨h0,h1,h2,h3,h4⟩:=h; omega) _ ⟨rfl,rfl,rfl⟩
  ·have e1:decide (16<(K:Int))=false:=decide_eq_false d1
   by_cases d2:hd<(P:Int)+264+40 * (K:Int)
   ·go_wp2_with fail
    exact HT.out (fun h=>by obtain⟨h0,h1,h2,h3,h4⟩:=h; omega) _ ⟨rfl,rfl,rfl⟩
   ·have e2:decide (hd<(P:Int)+264+40 * (K:Int))=false:=decide_eq_false d2
    by_cases d3:4096<hd
    ·go_wp2_with fail
     exact HT.out (fun h=>by obtain⟨h0,h1,h2,h3,h4⟩:=h; omega) _ ⟨rfl,rfl,rfl⟩
    ·have e3:decide (4096<hd)=false:=decide_eq_false d3
     by_cases d4:(S.size:Int)<hd
     ·go_wp2_with fail
      exact HT.out (fun h=>by obtain⟨h0,h1,h2,h3,h4⟩:=h; omega) _ ⟨rfl,rfl,rfl⟩
     ·have e4:decide ((S.size:Int)<hd)=false:=decide_eq_false d4
      go_wp2_with fail
      exact HF.out ⟨by omega,by omega,by omega,by omega,by omega⟩ _ ⟨rfl,rfl,rfl⟩
set_option maxRecDepth 100000 in
set_option maxHeartbeats 4000000 in
theorem from12 (S:ByteArray) (f:Nat→Int) (w wr:World) (P G8:Nat) (h:ZO) (v1 v3 v6 v7:Value) (hs:S.size≤1000000) (HF:Hid (PlainAid.bt S=f)) (H255:Hid (Zq f))
 (HBG:Hid (ZA S.size f=((P:Int),0))) (HH:Hid (ZF f P=h)) (HP32:Hid (P<4294967296)) (hpS:P+264≤S.size)
 (HE6:Hid (ZT S.size f=Zdf S.size f P h)) (HS0:Hid (XR w wr G8 h 0)) (a:Act) (ha:Has 323 [0,1,2,3,4,5,6,7,8] [.string S,v1,(.pointer (some ⟨w.heap.size,0,none⟩)),v3,(.pointer (some ⟨w.heap.size+1,0,none⟩)),.int .i64 P,v6,v7,(.pointer (some ⟨G8,0,none⟩))] a):(ZY 12 Us).wp Tryz.prog (QF S f w) a wr:=by
 obtain⟨u,rfl⟩:=YC ha
 clear ha
 conv=>arg 2; whnf
 have hP0:(P:Int)+264≤1000000:=by omega
 have hP1:(0:Int)≤(P:Int):=by omega
 obtain⟨cs,hg,hp⟩:=HS0.out.cs
 have c5:wr.cell? ⟨G8,5,none⟩=some (.int .i64 h.headers):=by rw[cell_of_row _ _ _ _ _ _ hg]; exact hp.c5
 clear hg hp
 have hi6:=fun W:World=>Yc S (P+6) 2 W hs (by omega) (by omega)
 rw[HF.out,show((P+6:Nat):Int)=(P:Int)+6 by omega] at hi6
 have hk6:=ZS f H255.out 2 (P+6)
 obtain⟨K,hK⟩: ∃ K:Nat,rdF f (P+6) 2=K:=⟨(rdF f (P+6) 2).toNat,by omega⟩
 rw[hK] at hi6 hk6
 have HK6:=Zg hK
 have HI6:=Zg hi6
 have hk7:(K:Int)<65536:=hk6.2
 have hE:=HE6.out
 unfold Zdf at hE
 rw[hK,Int.toNat_natCast] at hE
 have HE:=Zg hE
 clear hK hk6 hi6 hE HE6
 refine wp_seq_k ?_
 intro KA hKA
 have HKA:=Zg hKA
 clear hKA
 refine wp_cut (fun a' w'=>Has 323 [0,1,2,3,4,5,6,7,8,9] [.string S,v1,(.pointer (some ⟨w.heap.size,0,none⟩)),v3,(.pointer (some ⟨w.heap.size+1,0,none⟩)),.int .i64 P,v6,v7,(.pointer (some ⟨G8,0,none⟩)),.int .i64 K] a'∧wr=w') ?_ ?_
 rotate_left
 ·intro J0 K0 hJ0 hK0
  have HJ0:=Zg hJ0
  clear hJ0
  go_wp2_with (go_fit (HI6.out _); rintro e u ⟨rfl,rfl⟩)
  refine Met.intro ?_
  refine HJ0.out _ _ ?_
  exact⟨⟨rfl,rfl,rfl⟩,rfl⟩
 rintro a' w' ⟨ha',rfl⟩
 obtain⟨u2,rfl⟩:=Yq ha'
 clear ha' HI6
 refine HKA.out _ _ ?_
 clear HKA KA
 refine wp_seq_k ?_
 intro KB hKB
 have HKB:=Zg hKB
 clear hKB
 refine wp_cut (fun a' w'=>Has 323 [0,1,2,3,4,5,6,7,8,9] [.string S,v1,(.pointer (some ⟨w.heap.size,0,none⟩)),v3,(.pointer (some ⟨w.heap.size+1,0,none⟩)),.int .i64 P,v6,v7,(.pointer (some ⟨G8,0,none⟩)),.int .i64 K] a'∧wr=w'∧Yt S.size P h.headers K) ?_ ?_
 ·rintro a' w' ⟨ha',rfl,hq⟩
  have hE7:=HE.out
  rw[if_neg (fun hn=>hn hq)] at hE7
  exact HKB.out _ _ (from14 S f w wr P K G8 h v1 v3 v6 v7 hs HF H255 HBG HH HK6 HP32 hpS (Zg hq) (Zg hE7) HS0 a' ha')
 intro J0 K0 hJ0 hK0
 have HJ0:=Zg hJ0
 clear hJ0 HKB KB
 refine wp_seq_k ?_
 intro K1 hK1
 have HK1:=Zg hK1
 clear hK1
 refine r20 S wr P K G8 h.headers v1 _ v3 _ v6 v7 hs hpS hk7 c5 K1 _ (Zg fun hst a' ha'=> ?_) (Zg fun hst a' ha'=> ?_) _ ⟨rfl,rfl,rfl⟩
 ·obtain⟨u3,rfl⟩:=YE ha'
  clear ha'
  have hE7:=HE.out
  rw[if_pos (by unfold Yt; omega)] at hE7
  have HE7:=Zg hE7
  have HZ0:=Zg HS0.out.z0
  have HZ1:=Zg HS0.out.z1
  have HB1:=Zg HS0.out.bel
  clear hE7 hst c5
  refine HK1.out _ _ ?_
  clear HK1 K1
  go_wp2_with (first
   | (refine wpList_load_row rfl 41 _ rfl (w.heap.size+1) rfl 41 (Zl 0 0 0 0 0 0) (0,0) _ HZ1.out rfl rfl rfl ?_)
   | (refine wpList_store_row rfl 41 _ _ rfl w.heap.size (Zl 0 0 0 0 0 0) rfl rfl 41 _ HZ0.out rfl rfl (ZC _ _ _ _ _ _) ?_))
  refine bodyPost_ret (v:= .tuple #[.agg (Zl 0 0 0 0 0 0),.int .i64 7]) (Zj rfl _ _ w.heap.size 41 _ (0,0) _ _ rfl rfl (setRow_heap _ _ _ _ _ _ HZ0.out) rfl rfl rfl) rfl ⟨⟨_,rfl,_,by rw[HE7.out],.inl ⟨by rw[HE7.out]; omega,ZE⟩⟩,below_setRow HB1.out (Nat.le_refl _) _⟩
 ·obtain⟨u3,rfl⟩:=YE ha'
  clear ha'
  have HQ:=Zg (show Yt S.size P h.headers K by unfold Yt; omega)
  clear hst c5
  refine HK1.out _ _ ?_
  clear HK1 K1
  go_wp2_with fail
  refine Met.intro ?_
  refine HJ0.out _ _ ?_
  exact⟨⟨rfl,rfl,rfl⟩,rfl,HQ.out⟩
set_option maxRecDepth 100000 in
set_option maxHeartbeats 4000000 in
theorem r17 (S:ByteArray) (w3:World) (P G8:Nat) (x1 x2 y1 y2:Int) (v1 v2 v3 v4 v7:Value) (hP:(P:Int)≤1000000)
 (b1:0≤y1) (b2:y1≤18446744073709551615) (b3:0≤y2) (b4:y2<4294967296) (c4:w3.cell? ⟨G8,4,none⟩=some (.int .i64 y2))
 (HI56:Hid (∀ W,Calls Tryz.prog 72 #[.string S,.int .i64 ((P:Int)+56),.int .i64 4] W fun e w'=>e= .returned (.int .i64 x1)∧W=w'))
 (HI60:Hid (∀ W,Calls Tryz.prog 72 #[.string S,.int .i64 ((P:Int)+60),.int .i64 4] W fun e w'=>e= .returned (.int .i64 x2)∧W=w')) (K1:Act→World→Prop) (Q1:Exit→Act→World→Prop)
 (HT:Hid (¬ (x1=4096∧x2=512∧y1 % 65536=0∧ ¬ y1<65536∧ ¬ 35184372088832<y1∧y2 % 4096=0∧ ¬ y2<4096∧ ¬ 262144<y2)→ ∀ a',Has 323 [0,1,2,3,4,5,6,7,8,146] [.string S,v1,v2,v3,v4,.int .i64 P,.int .u64 y1,v7,(.pointer (some ⟨G8,0,none⟩)),.bool true] a'→K1 a' w3))
 (HF:Hid ((x1=4096∧x2=512∧y1 % 65536=0∧ ¬ y1<65536∧ ¬ 35184372088832<y1∧y2 % 4096=0∧ ¬ y2<4096∧ ¬ 262144<y2)→ ∀ a',Has 323 [0,1,2,3,4,5,6,7,8,146] [.string S,v1,v2,v3,v4,.int .i64 P,.int .u64 y1,v7,(.pointer (some ⟨G8,0,none⟩)),.bool false] a'→K1 a' w3)) (a:Act)
 (ha:Has 323 [0,1,2,3,4,5,6,7,8] [.string S,v1,v2,v3,v4,.int .i64 P,.int .u64 y1,v7,(.pointer (some ⟨G8,0,none⟩))] a):(YJ (YJ (ZY 11 Us))).wp Tryz.prog (Exit.then K1 Q1) a w3:=by
 obtain⟨u,rfl⟩:=YC ha
 clear ha
 conv=>arg 2; whnf
 have hP1:(0:Int)≤(P:Int):=by omega
 have HM2:=Zg (show y1.tmod 65536=y1 % 65536 from Int.tmod_eq_emod_of_nonneg b1)
 have HM5:=Zg (show y2.tmod 4096=y2 % 4096 from Int.tmod_eq_emod_of_nonneg b3)
 by_cases d0:x1=4096
 ·have e0:(x1 != 4096)=false:=by simp[d0]
  have D0:=Zg d0
  clear d0
  by_cases d1:x2=512
  ·have e1:(x2 != 512)=false:=by simp[d1]
   have D1:=Zg d1
   clear d1
   by_cases d2:y1 % 65536=0
   ·have e2:(y1.tmod 65536 != 0)=false:=by rw[HM2.out]; simp[d2]
    have f2:(y1 % 65536 != 0)=false:=by simp[d2]
    have D2:=Zg d2
    clear d2
    by_cases d3:y1<65536
    ·go_wp2_with (first|(go_fit (HI56.out _); rintro e u ⟨rfl,rfl⟩)|(go_fit (HI60.out _); rintro e u ⟨rfl,rfl⟩))
     exact HT.out (fun h=>by obtain⟨h0,h1,h2,h3,h4,h5,h6,h7⟩:=h; omega) _ ⟨rfl,rfl,rfl⟩
    ·have e3:decide (y1<65536)=false:=decide_eq_false d3
     by_cases d4:35184372088832<y1
     ·go_wp2_with (first|(go_fit (HI56.out _); rintro e u ⟨rfl,rfl⟩)|(go_fit (HI60.out _); rintro e u ⟨rfl,rfl⟩))
      exact HT.out (fun h=>by obtain⟨h0,h1,h2,h3,h4,h5,h6,h7⟩:=h; omega) _ ⟨rfl,rfl,rfl⟩
     ·have e4:decide (35184372088832<y1)=false:=decide_eq_false d4
      by_cases d5:y2 % 4096=0
      ·have e5:(y2.tmod 4096 != 0)=false:=by rw[HM5.out]; simp[d5]
       have f5:(y2 % 4096 != 0)=false:=by simp[d5]
       have D5:=Zg d5
       clear d5
       by_cases d6:y2<4096
       ·go_wp2_with (first|(go_fit (HI56.out _); rintro e u ⟨rfl,rfl⟩)|(go_fit (HI60.out _); rintro e u ⟨rfl,rfl⟩))
        exact HT.out (fun h=>by obtain⟨h0,h1,h2,h3,h4,h5,h6,h7⟩:=h; omega) _ ⟨rfl,rfl,rfl⟩
       ·have e6:decide (y2<4096)=false:=decide_eq_false d6
        by_cases d7:262144<y2
        ·go_wp2_with (first|(go_fit (HI56.out _); rintro e u ⟨rfl,rfl⟩)|(go_fit (HI60.out _); rintro e u ⟨rfl,rfl⟩))
         exact HT.out (fun h=>by obtain⟨h0,h1,h2,h3,h4,h5,h6,h7⟩:=h; omega) _ ⟨rfl,rfl,rfl⟩
        ·have e7:decide (262144<y2)=false:=decide_eq_false d7
         go_wp2_with (first|(go_fit (HI56.out _); rintro e u ⟨rfl,rfl⟩)|(go_fit (HI60.out _); rintro e u ⟨rfl,rfl⟩))
         exact HF.out ⟨D0.out,D1.out,D2.out,by omega,by omega,D5.out,by omega,by omega⟩ _ ⟨rfl,rfl,rfl⟩
      ·have e5:(y2.tmod 4096 != 0)=true:=by rw[HM5.out]; simp[d5]
       have f5:(y2 % 4096 != 0)=true:=by simp[d5]
       have D5:=Zg d5
       clear d5
       go_wp2_with (first|(go_fit (HI56.out _); rintro e u ⟨rfl,rfl⟩)|(go_fit (HI60.out _); rintro e u ⟨rfl,rfl⟩))
       exact HT.out (fun h=>by obtain⟨h0,h1,h2,h3,h4,h5,h6,h7⟩:=h; exact D5.out h5) _ ⟨rfl,rfl,rfl⟩
   ·have e2:(y1.tmod 65536 != 0)=true:=by rw[HM2.out]; simp[d2]
    have f2:(y1 % 65536 != 0)=true:=by simp[d2]
    have D2:=Zg d2
    clear d2
    go_wp2_with (first|(go_fit (HI56.out _); rintro e u ⟨rfl,rfl⟩)|(go_fit (HI60.out _); rintro e u ⟨rfl,rfl⟩))
    exact HT.out (fun h=>by obtain⟨h0,h1,h2,h3,h4,h5,h6,h7⟩:=h; exact D2.out h2) _ ⟨rfl,rfl,rfl⟩
  ·have e1:(x2 != 512)=true:=by simp[d1]
   have D1:=Zg d1
   clear d1
   go_wp2_with (first|(go_fit (HI56.out _); rintro e u ⟨rfl,rfl⟩)|(go_fit (HI60.out _); rintro e u ⟨rfl,rfl⟩))
   exact HT.out (fun h=>by obtain⟨h0,h1,h2,h3,h4,h5,h6,h7⟩:=h; exact D1.out h1) _ ⟨rfl,rfl,rfl⟩
 ·have e0:(x1 != 4096)=true:=by simp[d0]
  have D0:=Zg d0
  clear d0
  go_wp2_with (first|(go_fit (HI56.out _); rintro e u ⟨rfl,rfl⟩)|(go_fit (HI60.out _); rintro e u ⟨rfl,rfl⟩))
  exact HT.out (fun h=>by obtain⟨h0,h1,h2,h3,h4,h5,h6,h7⟩:=h; exact D0.out h0) _ ⟨rfl,rfl,rfl⟩
set_option maxRecDepth 100000 in
set_option maxHeartbeats 4000000 in
theorem from9 (S:ByteArray) (f:Nat→Int) (w w1:World) (P:Nat) (v1 v3:Value) (hs:S.size≤1000000) (HF:Hid (PlainAid.bt S=f)) (H255:Hid (Zq f))
 (HBG:Hid (ZA S.size f=((P:Int),0))) (HP32:Hid (P<4294967296)) (hpS:P+264≤S.size) (HE5:Hid (ZT S.size f=Zax S.size f P (ZF f P)))
 (HZ0:Hid (w1.heap[w.heap.size]? =some (.cells (Zl 0 0 0 0 0 0) 41 (0,0)))) (HZ1:Hid (w1.heap[w.heap.size+1]? =some (.cells (Zl 0 0 0 0 0 0) 41 (0,0)))) (HB1:Hid (Below w.heap.size w w1)) (a:Act)
 (ha:Has 323 [0,1,2,3,4,5] [.string S,v1,(.pointer (some ⟨w.heap.size,0,none⟩)),v3,(.pointer (some ⟨w.heap.size+1,0,none⟩)),.int .i64 P] a):(ZY 9 Us).wp Tryz.prog (QF S f w) a w1:=by
 obtain⟨u,rfl⟩:=Wp ha
 clear ha
 conv=>arg 2; whnf
 have hP0:(P:Int)+264≤1000000:=by omega
 have hP1:(0:Int)≤(P:Int):=by omega
 have hi48:=fun W:World=>WW S (P+48) 8 W (by omega) (by omega) (by omega)
 rw[HF.out,show((P+48:Nat):Int)=(P:Int)+48 by omega] at hi48
 have hi8:=fun W:World=>Yc S (P+8) 4 W hs (by omega) (by omega)
 rw[HF.out,show((P+8:Nat):Int)=(P:Int)+8 by omega] at hi8
 have hi22:=fun W:World=>Yc S (P+22) 2 W hs (by omega) (by omega)
 rw[HF.out,show((P+22:Nat):Int)=(P:Int)+22 by omega] at hi22
 have hi40:=fun W:World=>Yc S (P+40) 4 W hs (by omega) (by omega)
 rw[HF.out,show((P+40:Nat):Int)=(P:Int)+40 by omega] at hi40
 have hi80:=fun W:World=>Yc S (P+80) 4 W hs (by omega) (by omega)
 rw[HF.out,show((P+80:Nat):Int)=(P:Int)+80 by omega] at hi80
 have hi84:=fun W:World=>Yc S (P+84) 4 W hs (by omega) (by omega)
 rw[HF.out,show((P+84:Nat):Int)=(P:Int)+84 by omega] at hi84
 have b1:=ZS f H255.out 8 (P+48)
 have b4:=ZS f H255.out 4 (P+40)
 have b5:=ZS f H255.out 4 (P+80)
 have b6:=ZS f H255.out 4 (P+84)
 rw[show rdF f (P+48) 8=(ZF f P).base from rfl] at hi48 b1
 rw[show rdF f (P+8) 4=(ZF f P).stamp from rfl] at hi8
 rw[show rdF f (P+22) 2=(ZF f P).chars from rfl] at hi22
 rw[show rdF f (P+40) 4=(ZF f P).entry from rfl] at hi40 b4
 rw[show rdF f (P+80) 4=(ZF f P).size from rfl] at hi80 b5
 rw[show rdF f (P+84) 4=(ZF f P).headers from rfl] at hi84 b6
 obtain⟨h,hh⟩: ∃ h,ZF f P=h:=⟨_,rfl⟩
 rw[hh] at hi48 hi8 hi22 hi40 hi80 hi84 HE5 b1 b4 b5 b6
 have HH:=Zg hh
 have HI48:=Zg hi48
 have HI8:=Zg hi8
 have HI22:=Zg hi22
 have HI40:=Zg hi40
 have HI80:=Zg hi80
 have HI84:=Zg hi84
 clear hh hi48 hi8 hi22 hi40 hi80 hi84 b4 b6
 refine wp_seq_k ?_
 intro KA hKA
 have HKA:=Zg hKA
 clear hKA
 refine wp_cut (fun a' w'=>Has 323 [0,1,2,3,4,5,6,7] [.string S,v1,(.pointer (some ⟨w.heap.size,0,none⟩)),v3,(.pointer (some ⟨w.heap.size+1,0,none⟩)),.int .i64 P,.int .u64 h.base,.bool true] a'∧w1=w') ?_ ?_
 rotate_left
 ·intro J0 K0 hJ0 hK0
  have HJ0:=Zg hJ0
  clear hJ0
  go_wp2_with (go_fit (HI48.out _); rintro e u ⟨rfl,rfl⟩)
  refine Met.intro ?_
  refine HJ0.out _ _ ?_
  exact⟨⟨rfl,rfl,rfl⟩,rfl⟩
 rintro a' w' ⟨ha',rfl⟩
 obtain⟨u2,rfl⟩:=WL ha'
 clear ha' HI48
 refine HKA.out _ _ ?_
 clear HKA KA
 refine wp_seq_k ?_
 intro KB hKB
 have HKB:=Zg hKB
 clear hKB
 refine wp_cut (fun a' w'=> ∃ G8:Nat,Has 323 [0,1,2,3,4,5,6,7,8] [.string S,v1,(.pointer (some ⟨w.heap.size,0,none⟩)),v3,(.pointer (some ⟨w.heap.size+1,0,none⟩)),.int .i64 P,.int .u64 h.base,.bool true,(.pointer (some ⟨G8,0,none⟩))] a'∧XR w w' G8 h 0) ?_ ?_
 rotate_left
 ·intro J0 K0 hJ0 hK0
  have HJ0:=Zg hJ0
  clear hJ0 b1 b5
  go_wp2_with (first|(go_fit (HI8.out _); rintro e u ⟨rfl,rfl⟩)|(go_fit (HI22.out _); rintro e u ⟨rfl,rfl⟩)|(go_fit (HI40.out _); rintro e u ⟨rfl,rfl⟩)|(go_fit (HI80.out _); rintro e u ⟨rfl,rfl⟩))
  refine(HI84.out _).mono ?_
  rintro e u ⟨rfl,rfl⟩
  rename_i hK
  refine hK _ _ ?_
  refine Xl rfl 41 _ rfl [(0,.int .u64 h.base),(1,.int .i64 h.stamp),(2,.int .i64 h.chars),(3,.int .i64 h.entry),(4,.int .i64 h.size),(5,.int .i64 h.headers)] (Zl h.base h.stamp h.chars h.entry h.size h.headers) ?hv ?hb ?_
  case hv=>simp[go_sem]
  case hb=>exact Zb0 _ _ _ _ _ _
  have hCs:(Zl h.base h.stamp h.chars h.entry h.size h.headers).size=39:=rfl
  have hC1:(Zl h.base h.stamp h.chars h.entry h.size h.headers).all (·.oneCell')=true:=ZC _ _ _ _ _ _
  have HPS:=Zg (YW.start6 h)
  generalize Zl h.base h.stamp h.chars h.entry h.size h.headers=C1 at hCs hC1 HPS ⊢
  clear HI8 HI22 HI40 HI80 HI84
  have hg2:=setRow_heap (w1.alloc (.cells (Zl 0 0 0 0 0 0) 41)) w1.heap.size _ C1 _ _ (heap_alloc_new _ _)
  have hb2:Below w1.heap.size w1 ((w1.alloc (.cells (Zl 0 0 0 0 0 0) 41)).setRow w1.heap.size C1):=below_setRow ((Below.refl _ w1).alloc (Nat.le_refl _) _) (Nat.le_refl _) _
  have hl0:=(Array.getElem?_eq_some_iff.1 HZ0.out).1
  have hl1:=(Array.getElem?_eq_some_iff.1 HZ1.out).1
  have hz0:=(hb2.block w.heap.size hl0).trans HZ0.out
  have hz1:=(hb2.block (w.heap.size+1) hl1).trans HZ1.out
  have hb1:=HB1.out.trans (hb2.mono HB1.out.size)
  have HS0:=Zg (show XR w ((w1.alloc (.cells (Zl 0 0 0 0 0 0) 41)).setRow w1.heap.size C1) w1.heap.size h 0 from⟨hb1,hl1,hz0,hz1,C1,hg2,HPS.out⟩)
  clear hg2 hb2 hl0 hl1 hz0 hz1 hb1 HPS
  go_wp2_with (refine wpList_store_row rfl 41 _ _ rfl w1.heap.size C1 rfl rfl 41 _ (heap_alloc_new _ _) (by rw[hCs]; rfl) (by rw[hCs]; rfl) hC1 ?_)
  rw[Yp]
  refine Met.intro ?_
  refine HJ0.out _ _ ?_
  exact⟨w1.heap.size,⟨rfl,rfl,rfl⟩,HS0.out⟩
 rintro a' w2 ⟨G8,ha',hs0'⟩
 obtain⟨u3,rfl⟩:=YC ha'
 have HS0:=Zg hs0'
 clear ha' hs0' HI8 HI22 HI40 HI80 HI84 HZ0 HZ1 HB1
 refine HKB.out _ _ ?_
 clear HKB KB
 obtain⟨cs,hg,hp⟩:=HS0.out.cs
 have c4:w2.cell? ⟨G8,4,none⟩=some (.int .i64 h.size):=by rw[cell_of_row _ _ _ _ _ _ hg]; exact hp.c4
 clear hg hp
 have hi56:=fun W:World=>Yc S (P+56) 4 W hs (by omega) (by omega)
 rw[HF.out,show((P+56:Nat):Int)=(P:Int)+56 by omega] at hi56
 have hi60:=fun W:World=>Yc S (P+60) 4 W hs (by omega) (by omega)
 rw[HF.out,show((P+60:Nat):Int)=(P:Int)+60 by omega] at hi60
 have HI56:=Zg hi56
 have HI60:=Zg hi60
 have HE:=Zg (show ZT S.size f=VU S.size f P h from HE5.out)
 clear hi56 hi60 HE5
 refine wp_seq_k ?_
 intro KC hKC
 have HKC:=Zg hKC
 clear hKC
 refine wp_cut (fun a' w'=>Has 323 [0,1,2,3,4,5,6,7,8] [.string S,v1,(.pointer (some ⟨w.heap.size,0,none⟩)),v3,(.pointer (some ⟨w.heap.size+1,0,none⟩)),.int .i64 P,.int .u64 h.base,.bool true,(.pointer (some ⟨G8,0,none⟩))] a'∧w2=w'∧XZ f P h.base h.size) ?_ ?_
 ·rintro a' w' ⟨ha',rfl,hq⟩
  exact HKC.out _ _ (from12 S f w w2 P G8 h v1 v3 (.int .u64 h.base) (.bool true) hs HF H255 HBG HH HP32 hpS (Zg (by rw[HE.out]; exact Zgu hq)) HS0 a' ha')
 intro J0 K0 hJ0 hK0
 have HJ0:=Zg hJ0
 clear hJ0 HKC KC
 refine wp_seq_k ?_
 intro K1 hK1
 have HK1:=Zg hK1
 clear hK1
 refine r17 S w2 P G8 _ _ h.base h.size v1 _ v3 _ (.bool true) (by omega) b1.1 (by have:=b1.2; omega) b5.1 (by have:=b5.2; omega) c4 HI56 HI60 K1 _ (Zg fun hst a' ha'=> ?_) (Zg fun hst a' ha'=> ?_) _ ⟨rfl,rfl,rfl⟩
 ·obtain⟨u4,rfl⟩:=YT ha'
  clear ha'
  have hE6:ZT S.size f=6:=by rw[HE.out]; exact Zif (by unfold XZ; omega)
  have HE6:=Zg hE6
  have HZ0:=Zg HS0.out.z0
  have HZ1:=Zg HS0.out.z1
  have HB1:=Zg HS0.out.bel
  clear hE6 hst c4 HI56 HI60
  refine HK1.out _ _ ?_
  clear HK1 K1
  go_wp2_with (first
   | (refine wpList_load_row rfl 41 _ rfl (w.heap.size+1) rfl 41 (Zl 0 0 0 0 0 0) (0,0) _ HZ1.out rfl rfl rfl ?_)
   | (refine wpList_store_row rfl 41 _ _ rfl w.heap.size (Zl 0 0 0 0 0 0) rfl rfl 41 _ HZ0.out rfl rfl (ZC _ _ _ _ _ _) ?_))
  refine bodyPost_ret (v:= .tuple #[.agg (Zl 0 0 0 0 0 0),.int .i64 6]) (Zj rfl _ _ w.heap.size 41 _ (0,0) _ _ rfl rfl (setRow_heap _ _ _ _ _ _ HZ0.out) rfl rfl rfl) rfl ⟨⟨_,rfl,_,by rw[HE6.out],.inl ⟨by rw[HE6.out]; omega,ZE⟩⟩,below_setRow HB1.out (Nat.le_refl _) _⟩
 ·obtain⟨u4,rfl⟩:=YT ha'
  clear ha'
  have HQ:=Zg (show XZ f P h.base h.size by unfold XZ; omega)
  clear hst c4 HI56 HI60
  refine HK1.out _ _ ?_
  clear HK1 K1
  go_wp2_with fail
  refine Met.intro ?_
  refine HJ0.out _ _ ?_
  exact⟨⟨rfl,rfl,rfl⟩,rfl,HQ.out⟩
set_option maxRecDepth 100000 in
set_option maxHeartbeats 4000000 in
theorem r13 (S:ByteArray) (w3:World) (P:Nat) (x1 x2 x3:Int) (v1 v2 v3 v4:Value) (hP:(P:Int)≤1000000)
 (HI20:Hid (∀ W,Calls Tryz.prog 72 #[.string S,.int .i64 ((P:Int)+20),.int .i64 2] W fun e w'=>e= .returned (.int .i64 x1)∧W=w')) (HI24:Hid (∀ W,Calls Tryz.prog 72 #[.string S,.int .i64 ((P:Int)+24),.int .i64 2] W fun e w'=>e= .returned (.int .i64 x2)∧W=w')) (HI132:Hid (∀ W,Calls Tryz.prog 72 #[.string S,.int .i64 ((P:Int)+132),.int .i64 4] W fun e w'=>e= .returned (.int .i64 x3)∧W=w')) (K1:Act→World→Prop) (Q1:Exit→Act→World→Prop)
 (HT:Hid (¬ (x1=240∧x2=523∧x3=16)→ ∀ a',Has 323 [0,1,2,3,4,5,75] [.string S,v1,v2,v3,v4,.int .i64 P,.bool true] a'→K1 a' w3))
 (HF:Hid ((x1=240∧x2=523∧x3=16)→ ∀ a',Has 323 [0,1,2,3,4,5,75] [.string S,v1,v2,v3,v4,.int .i64 P,.bool false] a'→K1 a' w3)) (a:Act)
 (ha:Has 323 [0,1,2,3,4,5] [.string S,v1,v2,v3,v4,.int .i64 P] a):(YJ (YJ (ZY 8 Us))).wp Tryz.prog (Exit.then K1 Q1) a w3:=by
 obtain⟨u,rfl⟩:=Wp ha
 clear ha
 conv=>arg 2; whnf
 have hP1:(0:Int)≤(P:Int):=by omega
 by_cases d0:x1=240
 ·have e0:(x1 != 240)=false:=by simp[d0]
  have D0:=Zg d0
  clear d0
  by_cases d1:x2=523
  ·have e1:(x2 != 523)=false:=by simp[d1]
   have D1:=Zg d1
   clear d1
   by_cases d2:x3=16
   ·have e2:(x3 != 16)=false:=by simp[d2]
    have D2:=Zg d2
    clear d2
    go_wp2_with (first|(go_fit (HI20.out _); rintro e u ⟨rfl,rfl⟩)|(go_fit (HI24.out _); rintro e u ⟨rfl,rfl⟩)|(go_fit (HI132.out _); rintro e u ⟨rfl,rfl⟩))
    exact HF.out ⟨D0.out,D1.out,D2.out⟩ _ ⟨rfl,rfl,rfl⟩
   ·have e2:(x3 != 16)=true:=by simp[d2]
    have D2:=Zg d2
    clear d2
    go_wp2_with (first|(go_fit (HI20.out _); rintro e u ⟨rfl,rfl⟩)|(go_fit (HI24.out _); rintro e u ⟨rfl,rfl⟩)|(go_fit (HI132.out _); rintro e u ⟨rfl,rfl⟩))
    exact HT.out (fun h=>by obtain⟨h0,h1,h2⟩:=h; exact D2.out h2) _ ⟨rfl,rfl,rfl⟩
  ·have e1:(x2 != 523)=true:=by simp[d1]
   have D1:=Zg d1
   clear d1
   go_wp2_with (first|(go_fit (HI20.out _); rintro e u ⟨rfl,rfl⟩)|(go_fit (HI24.out _); rintro e u ⟨rfl,rfl⟩)|(go_fit (HI132.out _); rintro e u ⟨rfl,rfl⟩))
   exact HT.out (fun h=>by obtain⟨h0,h1,h2⟩:=h; exact D1.out h1) _ ⟨rfl,rfl,rfl⟩
 ·have e0:(x1 != 240)=true:=by simp[d0]
  have D0:=Zg d0
  clear d0
  go_wp2_with (first|(go_fit (HI20.out _); rintro e u ⟨rfl,rfl⟩)|(go_fit (HI24.out _); rintro e u ⟨rfl,rfl⟩)|(go_fit (HI132.out _); rintro e u ⟨rfl,rfl⟩))
  exact HT.out (fun h=>by obtain⟨h0,h1,h2⟩:=h; exact D0.out h0) _ ⟨rfl,rfl,rfl⟩
set_option maxRecDepth 100000 in
set_option maxHeartbeats 4000000 in
theorem from8 (S:ByteArray) (f:Nat→Int) (w w1:World) (P:Nat) (v1 v3:Value) (hs:S.size≤1000000) (HF:Hid (PlainAid.bt S=f)) (H255:Hid (Zq f))
 (HBG:Hid (ZA S.size f=((P:Int),0))) (HP32:Hid (P<4294967296)) (hpS:P+264≤S.size) (HC4:Hid (rdF f (P+4) 2=34404))
 (HZ0:Hid (w1.heap[w.heap.size]? =some (.cells (Zl 0 0 0 0 0 0) 41 (0,0)))) (HZ1:Hid (w1.heap[w.heap.size+1]? =some (.cells (Zl 0 0 0 0 0 0) 41 (0,0)))) (HB1:Hid (Below w.heap.size w w1))
 (K Ki:Act→World→Prop) (hK: ∀ a w',(ZY 9 Us).wp Tryz.prog (QF S f w) a w'→K a w') (hKi: ∀ a w',(ZY 1 (YJ (ZY 8 Us))).wp Tryz.prog (Exit.then K (QF S f w)) a w'→Ki a w') (a:Act)
 (ha:Has 323 [0,1,2,3,4,5] [.string S,v1,(.pointer (some ⟨w.heap.size,0,none⟩)),v3,(.pointer (some ⟨w.heap.size+1,0,none⟩)),.int .i64 P] a):(YJ (YJ (ZY 8 Us))).wp Tryz.prog (Exit.then Ki (Exit.then K (QF S f w))) a w1:=by
 have HK:=Zg hK
 have HKi:=Zg hKi
 clear hK hKi
 have hi20:=fun W:World=>Yc S (P+20) 2 W hs (by omega) (by omega)
 rw[HF.out,show((P+20:Nat):Int)=(P:Int)+20 by omega] at hi20
 have hi24:=fun W:World=>Yc S (P+24) 2 W hs (by omega) (by omega)
 rw[HF.out,show((P+24:Nat):Int)=(P:Int)+24 by omega] at hi24
 have hi132:=fun W:World=>Yc S (P+132) 4 W hs (by omega) (by omega)
 rw[HF.out,show((P+132:Nat):Int)=(P:Int)+132 by omega] at hi132
 have HI20:=Zg hi20
 have HI24:=Zg hi24
 have HI132:=Zg hi132
 clear hi20 hi24 hi132
 refine r13 S w1 P _ _ _ v1 _ v3 _ (by omega) HI20 HI24 HI132 Ki _ (Zg fun hst a' ha'=> ?_) (Zg fun hst a' ha'=> ?_) a ha
 ·obtain⟨u4,rfl⟩:=XH ha'
  clear ha' ha
  have ho:Qe f P=5:=by unfold Qe; rw[if_neg (fun h=>h HC4.out),if_pos (by omega)]
  have HE5:=Zg (Zgt HBG.out ho (by omega))
  clear ho hst HI20 HI24 HI132
  refine HKi.out _ _ ?_
  conv=>arg 2; whnf
  clear HK HKi
  go_wp2_with (first
   | (refine wpList_load_row rfl 41 _ rfl (w.heap.size+1) rfl 41 (Zl 0 0 0 0 0 0) (0,0) _ HZ1.out rfl rfl rfl ?_)
   | (refine wpList_store_row rfl 41 _ _ rfl w.heap.size (Zl 0 0 0 0 0 0) rfl rfl 41 _ HZ0.out rfl rfl (ZC _ _ _ _ _ _) ?_))
  refine bodyPost_ret (v:= .tuple #[.agg (Zl 0 0 0 0 0 0),.int .i64 5]) (Zj rfl _ _ w.heap.size 41 _ (0,0) _ _ rfl rfl (setRow_heap _ _ _ _ _ _ HZ0.out) rfl rfl rfl) rfl ⟨⟨_,rfl,_,by rw[HE5.out],.inl ⟨by rw[HE5.out]; omega,ZE⟩⟩,below_setRow HB1.out (Nat.le_refl _) _⟩
 ·obtain⟨u4,rfl⟩:=XH ha'
  clear ha' ha
  have ho:Qe f P=0:=by unfold Qe; rw[if_neg (fun h=>h HC4.out),if_neg (by omega)]
  have HE5:=Zg (Zj4 HBG.out ho)
  clear ho hst HI20 HI24 HI132
  refine HKi.out _ _ ?_
  conv=>arg 2; whnf
  refine wp_cond_false rfl ?_
  refine wp_skip ?_
  refine HK.out _ _ ?_
  exact from9 S f w w1 P v1 v3 hs HF H255 HBG HP32 hpS HE5 HZ0 HZ1 HB1 _ ⟨rfl,rfl,rfl⟩
end Go.Proofs.YtplgdpjbkdagfaaGreat
