import Derived.Test.YtplgdpjbkdagfaaGreatRHdO
import Derived.Test.YtplgdpjbkdagfaaGreatZRPe
import Derived.Deep.Cut
import Derived.Deep.CutBlock
import Derived.Deep.RegionHeld3
import Derived.Deep.DrawnRows
import Derived.Deep.DeepFit
namespace Go.Proofs.YtplgdpjbkdagfaaGreat
set_option maxHeartbeats 8000000
open List renaming set_cons_zero→Ze, set_cons_succ→Zf
open Lib renaming hid→Zg
set_option maxRecDepth 100000
open Go.ChangeShapes Go.WideShapes Go.ChangeAt Go.RowKit
set_option linter.unusedVariables false
set_option linter.unusedSimpArgs false
theorem b3_6 (S:ByteArray) (f:Nat->Int) (w:World) (P K G8 i o:Nat) (h:ZX) (nx N0:Int) (SL TK:List Zx) (s:Zx)
 (HR:Hid (RC S f h nx N0 SL TK s P K i o)) (QB:Exit->Act->World->Prop) (v1 v3 v6 v7 v9 v10:Value)
 (mE:Hid (∀ a w',QF S f w .ret a w'->QB .ret a w'))
 (fU:Hid (∀ a w',Has 323 [0,1,2,3,4,5,6,7,8,9,10,11,12] [.string S,v1,(.pointer (some ⟨w.heap.size,0,none⟩)),v3,(.pointer (some ⟨w.heap.size+1,0,none⟩)),.int .i64 P,v6,v7,(.pointer (some ⟨G8,0,none⟩)),v9,v10,.int .i64 (nx+ZS s.vsize 4096),.int .i64 i] a->XE w w' G8 h (TK++[s])->UY h.size S.size nx s->QB .normal a w')) (w3:World) (G3:Nat) (jl:Hid (XE w w3 G8 h TK)) (cj:Hid (w3.heap[G3]? =some (.cells s.arr 72 (0,0)))) (rO:Hid (UY h.size S.size nx s)) (a:Act)
 (ha:Has 323 [0,1,2,3,4,5,6,7,8,9,10,11,12,16,17] [.string S,v1,(.pointer (some ⟨w.heap.size,0,none⟩)),v3,(.pointer (some ⟨w.heap.size+1,0,none⟩)),.int .i64 P,v6,v7,(.pointer (some ⟨G8,0,none⟩)),v9,v10,.int .i64 nx,.int .i64 i,(.pointer (some ⟨G3,0,none⟩)),.int .i64 (ZS s.vsize 4096)] a):(Yc 6 bl3).wp Tryz.prog QB a w3:=by
 obtain⟨u,rfl⟩:=Yt ha;simp only[Zy,Xi,Zf,Ze];clear ha;conv=>arg 2; whnf
 obtain⟨cs,A8,c8,nG,jx,fe⟩:=jl.out.cs;rw[HR.out.len] at jx fe;have c6:w3.cell? ⟨G8,38,none⟩=some (.slice A8 i c8):=by rw[cell_of_row _ _ _ _ _ _ nG]; exact jx.c38
 have xo:=Zg jx;have fQ:=Zg fe;have yC:=Zg nG;have og:=Zg HR.out.len;have c2:w3.cell? ⟨G3,2,none⟩=some (.int .i64 nx):=by rw[Zh cj.out]; show some (Value.int .i64 s.rva)=_; rw[rO.out.1]
 clear jx fe nG;have yD:=XN s.vsize HR.out.sb.v1;have Dy:=fU.out;clear fU;obtain⟨fu,pT⟩: ∃ fu,ZS s.vsize 4096=fu:=⟨_,rfl⟩;rw[pT] at yD Dy ⊢;have HN:=Zg Dy;clear Dy pT;have z6:=frozen_of_row _ _ 38 _ _ yC.out;have Lu:=Zg (Array.getElem?_eq_some_iff.1 cj.out).1;have yE:=Zg (Array.getElem?_eq_some_iff.1 yC.out).1;have Dz:=Zg (jl.out.below ((Below.refl _ w3).alloc (Nat.le_refl _) (.cells #[.string s.name,.int .i64 s.vsize,.int .i64 s.rva,.int .i64 s.raw,.int .i64 s.spot,.int .i64 s.chars] 72)));have bV:=Zg (fQ.out.alloc (.cells #[.string s.name,.int .i64 s.vsize,.int .i64 s.rva,.int .i64 s.raw,.int .i64 s.spot,.int .i64 s.chars] 72));have DA:Hid ((w3.alloc (.cells #[.string s.name,.int .i64 s.vsize,.int .i64 s.rva,.int .i64 s.raw,.int .i64 s.spot,.int .i64 s.chars] 72)).heap[G8]? =some (.cells cs 41 (0,0))):=Zg ((((Below.refl _ w3).alloc (Nat.le_refl _) (.cells #[.string s.name,.int .i64 s.vsize,.int .i64 s.rva,.int .i64 s.raw,.int .i64 s.spot,.int .i64 s.chars] 72)).block _ yE.out).trans yC.out);have Lv:=Zg (heap_alloc_new w3 (.cells #[.string s.name,.int .i64 s.vsize,.int .i64 s.rva,.int .i64 s.raw,.int .i64 s.spot,.int .i64 s.chars] 72));have lW:(w3.alloc (.cells #[.string s.name,.int .i64 s.vsize,.int .i64 s.rva,.int .i64 s.raw,.int .i64 s.spot,.int .i64 s.chars] 72)).heap.size=w3.heap.size+1:=by simp
 have lY:=Zg lW;have Lw:=yE.out;have yF:i<=16:=by have:=HR.out.k16; have:=HR.out.lt; omega
 have x0:=HR.out.x0;have x1:=HR.out.x1;clear lW;go_upto_region 39 with fail
 clear c2;go_wp2_with (first
  | (refine wpList_load_row rfl 72 _ rfl G3 rfl 72 #[.string s.name,.int .i64 s.vsize,.int .i64 s.rva,.int .i64 s.raw,.int .i64 s.spot,.int .i64 s.chars] (0,0) _ cj.out rfl rfl rfl ?_)
  | (at_builtin; refine Zq rfl (.tmp 306) (.tmp 308) 39 rfl (G8+1) 72 (.agg #[.string ⟨#[]⟩,.int .i64 0,.int .i64 0,.int .i64 0,.int .i64 0,.int .i64 0]) 56 (by kernel_rfl) Zl4 rfl (by omega) Zx.cells_len Zjn (.slice A8 i c8) TK rfl bV.out w3.heap.size 1 rfl s (Zjo (s:=s) Lv.out) (by have:=og.out; unfold maxLen; omega) (by have:=og.out; omega) (by have:=lY.out; omega) ?_; intro g' fD w5 ag aI aD
     obtain⟨c38,z38,oR⟩:=XE.app (s:=s) Dz.out DA.out xo.out og.out bV.out aI ag;have DB:=Zg oR;clear ag aI aD oR))
 exact HN.out _ _ ⟨rfl,rfl,rfl⟩ DB.out rO.out
theorem r36 (S:ByteArray) (w3:World) (G3 G8:Nat) (nx fu y1 y2 y3 y4 y5:Int) (v1 v2 v3 v4 v5 v6 v7 v9 v10 v12:Value)
 (hs:S.size<=1000000) (c2:w3.cell? ⟨G3,2,none⟩=some (.int .i64 y1)) (c1:w3.cell? ⟨G3,1,none⟩=some (.int .i64 y2)) (c3:w3.cell? ⟨G3,3,none⟩=some (.int .i64 y3)) (c4:w3.cell? ⟨G3,4,none⟩=some (.int .i64 y4))
 (c5:w3.cell? ⟨G8,4,none⟩=some (.int .i64 y5)) (ve:0<=y3) (ao:y3<4294967296) (G7:0<=y4) (yS:y4<4294967296) (K1:Act->World->Prop) (Q1:Exit->Act->World->Prop)
 (HT:Hid (¬ (y1=nx/\y2≠0/\y2<=y5/\y3 % 512=0/\y3<=fu/\ ¬ (0<y3/\(S.size:Int)<y4+y3))-> ∀ a',Has 323 [0,1,2,3,4,5,6,7,8,9,10,11,12,16,17,299] [.string S,v1,v2,v3,v4,v5,v6,v7,(.pointer (some ⟨G8,0,none⟩)),v9,v10,.int .i64 nx,v12,(.pointer (some ⟨G3,0,none⟩)),.int .i64 fu,.bool true] a'->K1 a' w3))
 (HF:Hid (y1=nx/\y2≠0/\y2<=y5/\y3 % 512=0/\y3<=fu/\ ¬ (0<y3/\(S.size:Int)<y4+y3)-> ∀ a',Has 323 [0,1,2,3,4,5,6,7,8,9,10,11,12,16,17,299] [.string S,v1,v2,v3,v4,v5,v6,v7,(.pointer (some ⟨G8,0,none⟩)),v9,v10,.int .i64 nx,v12,(.pointer (some ⟨G3,0,none⟩)),.int .i64 fu,.bool false] a'->K1 a' w3)) (a:Act)
 (ha:Has 323 [0,1,2,3,4,5,6,7,8,9,10,11,12,16,17] [.string S,v1,v2,v3,v4,v5,v6,v7,(.pointer (some ⟨G8,0,none⟩)),v9,v10,.int .i64 nx,v12,(.pointer (some ⟨G3,0,none⟩)),.int .i64 fu] a):(YF (YF (Yc 5 bl3))).wp Tryz.prog (Exit.then K1 Q1) a w3:=by
 obtain⟨u,rfl⟩:=Yt ha;simp only[Zy,Xi,Zf,Ze];clear ha;conv=>arg 2; whnf
 have pJ:(S.size:Int)<=1000000:=by omega
 have BP:y3.tmod 512=y3 % 512:=Int.tmod_eq_emod_of_nonneg ve;have GS:=Zg BP;have BQ:=Zg (fun(h:y4+y3<=S.size) (W:World)=>Vp S.size y4 y3 W (by omega) (by omega) (by omega) (by omega));have uK:=Zg (fun(h: ¬ y4+y3<=S.size) (W:World)=>Zby S.size y4 y3 W (by omega) (by omega) (by omega));have ax:=BQ;clear BP;by_cases d1:y1=nx
 ·have e1:(y1 != nx)=false:=by simp[d1]
  have D1:=Zg d1;clear d1;by_cases d2:y2=0
  ·have e2:(y2 == 0)=true:=by simp[d2]
   have D2:=Zg d2;clear d2;go_wp2_with fail
   exact HT.out (fun h=>h.2.1 D2.out) _ ⟨rfl,rfl,rfl⟩
  ·have e2:(y2 == 0)=false:=by simp[d2]
   have D2:=Zg d2;clear d2;by_cases d3:y5<y2
   ·go_wp2_with fail
    exact HT.out (fun h=>by have:=h.2.2.1; omega) _ ⟨rfl,rfl,rfl⟩
   ·by_cases d4:y3 % 512=0
    ·have e4:(y3.tmod 512 != 0)=false:=by rw[GS.out]; simp[d4]
     have D4:=Zg d4;clear d4;by_cases d5:fu<y3
     ·go_wp2_with fail
      exact HT.out (fun h=>by have:=h.2.2.2.2.1; omega) _ ⟨rfl,rfl,rfl⟩
     ·by_cases d6:0<y3
      ·by_cases d7:y4+y3<=S.size
       ·have HI:=Zg (BQ.out d7);clear BQ uK ax;go_wp2_with (go_fit (HI.out _); rintro e u ⟨rfl,rfl⟩)
        exact HF.out ⟨D1.out,D2.out,by omega,D4.out,by omega,by omega⟩ _ ⟨rfl,rfl,rfl⟩
       ·have HI:=Zg (uK.out d7);clear BQ uK ax;go_wp2_with (go_fit (HI.out _); rintro e u ⟨rfl,rfl⟩)
        exact HT.out (fun h=>h.2.2.2.2.2 ⟨by omega,by omega⟩) _ ⟨rfl,rfl,rfl⟩
      ·go_wp2_with fail
       exact HF.out ⟨D1.out,D2.out,by omega,D4.out,by omega,by omega⟩ _ ⟨rfl,rfl,rfl⟩
    ·have e4:(y3.tmod 512 != 0)=true:=by rw[GS.out]; simp[d4]
     have D4:=Zg d4;clear d4;go_wp2_with fail
     exact HT.out (fun h=>D4.out h.2.2.2.1) _ ⟨rfl,rfl,rfl⟩
 ·have e1:(y1 != nx)=true:=by simp[d1]
  have D1:=Zg d1;clear d1;go_wp2_with fail
  exact HT.out (fun h=>D1.out h.1) _ ⟨rfl,rfl,rfl⟩
theorem b3_4 (S:ByteArray) (f:Nat->Int) (w:World) (P K G8 i o:Nat) (h:ZX) (nx N0:Int) (SL TK:List Zx) (s:Zx)
 (HR:Hid (RC S f h nx N0 SL TK s P K i o)) (QB:Exit->Act->World->Prop) (v1 v3 v6 v7 v9 v10:Value)
 (mE:Hid (∀ a w',QF S f w .ret a w'->QB .ret a w'))
 (fU:Hid (∀ a w',Has 323 [0,1,2,3,4,5,6,7,8,9,10,11,12] [.string S,v1,(.pointer (some ⟨w.heap.size,0,none⟩)),v3,(.pointer (some ⟨w.heap.size+1,0,none⟩)),.int .i64 P,v6,v7,(.pointer (some ⟨G8,0,none⟩)),v9,v10,.int .i64 (nx+ZS s.vsize 4096),.int .i64 i] a->XE w w' G8 h (TK++[s])->UY h.size S.size nx s->QB .normal a w')) (w3:World) (G3:Nat) (jl:Hid (XE w w3 G8 h TK)) (cj:Hid (w3.heap[G3]? =some (.cells s.arr 72 (0,0)))) (a:Act)
 (ha:Has 323 [0,1,2,3,4,5,6,7,8,9,10,11,12,16] [.string S,v1,(.pointer (some ⟨w.heap.size,0,none⟩)),v3,(.pointer (some ⟨w.heap.size+1,0,none⟩)),.int .i64 P,v6,v7,(.pointer (some ⟨G8,0,none⟩)),v9,v10,.int .i64 nx,.int .i64 i,(.pointer (some ⟨G3,0,none⟩))] a):(Yc 4 bl3).wp Tryz.prog QB a w3:=by
 obtain⟨u,rfl⟩:=Yt ha;simp only[Zy,Xi,Zf,Ze];clear ha;conv=>arg 2; whnf
 obtain⟨cs,A8,c8,nG,jx,fe⟩:=jl.out.cs;have c1:w3.cell? ⟨G3,1,none⟩=some (.int .i64 s.vsize):=by rw[Zh cj.out]; rfl
 have c2:w3.cell? ⟨G3,2,none⟩=some (.int .i64 s.rva):=by rw[Zh cj.out]; rfl
 have c3:w3.cell? ⟨G3,3,none⟩=some (.int .i64 s.raw):=by rw[Zh cj.out]; rfl
 have c4:w3.cell? ⟨G3,4,none⟩=some (.int .i64 s.spot):=by rw[Zh cj.out]; rfl
 have c5:w3.cell? ⟨G8,4,none⟩=some (.int .i64 h.size):=by rw[cell_of_row _ _ _ _ _ _ nG]; exact jx.c4
 clear nG jx fe;have yq:=HR.out.sb.v0;have DC:=HR.out.sb.v1;have cZ:=Zg (fun W:World=>Uu s.vsize 4096 W (by omega) (by omega) (by omega) (by omega));have yD:=XN s.vsize DC;have pJ:(S.size:Int)<=1000000:=by have:=HR.out.hs; omega
 refine wp_seq_k ?_;intro KA jH;have fT:=Zg jH;clear jH;refine Vz 323 [0,1,2,3,4,5,6,7,8,9,10,11,12,16] (fun zz wx=>zz 17= .int .i64 (ZS s.vsize 4096)/\w3=wx) ?_ ?_
 ·intro J0 K0 et om;go_wp2_with (go_fit (cZ.out _); rintro e u ⟨rfl,rfl⟩)
  refine Met.intro ?_;go_step
  exact⟨⟨rfl,rfl,rfl⟩,rfl,rfl⟩
 intro a' wc hS hR;obtain⟨u2,hu,rfl⟩:=Zao [_,_,_,_,_,_,_,_,_,_,_,_,_,_] hS rfl;simp only[Zy,Xi,Zf,Ze];rw[hu] at hR;clear hu hS cZ;obtain⟨G',hw⟩:=hR;subst hw;rw[G'];clear G';refine fT.out _ _ ?_;clear fT KA;refine wp_seq_k ?_;intro KB nF;have fN:=Zg nF;clear nF;obtain⟨fu,pT⟩: ∃ fu,ZS s.vsize 4096=fu:=⟨_,rfl⟩;rw[pT] at yD ⊢;have xC:=Zg pT;clear pT;have O6:=HR.out.sb.r0;have Lx:=HR.out.sb.r1;have kA:=HR.out.x0;refine Vz 323 [0,1,2,3,4,5,6,7,8,9,10,11,12,16,17] (fun zz wx=>UY h.size S.size nx s/\w3=wx) ?_ ?_
 ·intro J0 K0 et om;have gf:=Zg et;clear et;refine wp_seq_k ?_;intro K1 jG;have jF:=Zg jG;clear jG;have DD:=HR.out.sb.w0;have DE:=HR.out.sb.w1;have DF:=HR.out.sb.s0;have DG:=HR.out.sb.s1;refine r36 S w3 G3 G8 nx fu s.rva s.vsize s.raw s.spot h.size v1 _ v3 _ _ v6 v7 v9 v10 _ HR.out.hs c2 c1 c3 c4 c5 DD DE DF DG K1 _ (Zg fun aQ a' dt=> ?_) (Zg fun aQ a' dt=> ?_) _ ⟨rfl,rfl,rfl⟩
  ·obtain⟨u3,rfl⟩:=Yt dt;simp only[Zy,Xi,Zf,Ze];clear dt;have GU:ZI S.size f=7:=HR.out.e8 (fun hc=>by
    have h1:=HR.out.ch.1 hc;rw[HR.out.dr] at h1;have h2:=h1.1;unfold UY at h2;rw[xC.out] at h2;exact aQ h2)
   have aP:=Zg GU;have bq:=Zg jl.out.z0;have dL:=Zg jl.out.z1;have av:=Zg jl.out.bel;clear GU aQ c1 c2 c3 c4 c5 fN fU;refine jF.out _ _ ?_;clear jF K1;go_wp2_with (first
    | (refine wpList_load_row rfl 41 _ rfl (w.heap.size+1) rfl 41 (Zl 0 0 0 0 0 0) (0,0) _ dL.out rfl rfl rfl ?_)
    | (refine wpList_store_row rfl 41 _ _ rfl w.heap.size (Zl 0 0 0 0 0 0) rfl rfl 41 _ bq.out rfl rfl (ZC _ _ _ _ _ _) ?_))
   refine mE.out _ _ ?_;refine bodyPost_ret (v:= .tuple #[.agg (Zl 0 0 0 0 0 0),.int .i64 7]) (Zj rfl _ _ w.heap.size 41 _ (0,0) _ _ rfl rfl (setRow_heap _ _ _ _ _ _ bq.out) rfl rfl rfl) rfl ⟨⟨_,rfl,_,by rw[aP.out],.inl ⟨by rw[aP.out]; omega,ZD⟩⟩,below_setRow av.out (Nat.le_refl _) _⟩
  ·obtain⟨u3,rfl⟩:=Yt dt;simp only[Zy,Xi,Zf,Ze];clear dt;have bF:=Zg aQ;clear aQ c1 c2 c3 c4 c5;refine jF.out _ _ ?_;clear jF K1;go_wp2_with fail
   refine Met.intro ?_;refine gf.out _ _ ?_;exact⟨⟨rfl,rfl,rfl⟩,by unfold UY; rw[xC.out]; exact bF.out,rfl⟩
 intro a' wc hS hR;obtain⟨u4,hu,rfl⟩:=Zao [_,_,_,_,_,_,_,_,_,_,_,_,_,_,_] hS rfl;simp only[Zy,Xi,Zf,Ze];clear hu hS;obtain⟨DS,hw⟩:=hR;subst hw;refine fN.out _ _ ?_;rw[<-xC.out];exact b3_6 S f w P K G8 i o h nx N0 SL TK s HR QB v1 v3 v6 v7 v9 v10 mE fU w3 G3 jl cj (Zg DS) _ ⟨rfl,rfl,rfl⟩
theorem b3_3 (S:ByteArray) (f:Nat->Int) (w:World) (P K G8 i o:Nat) (h:ZX) (nx N0:Int) (SL TK:List Zx) (s:Zx)
 (HR:Hid (RC S f h nx N0 SL TK s P K i o)) (QB:Exit->Act->World->Prop) (v1 v3 v6 v7 v9 v10:Value)
 (mE:Hid (∀ a w',QF S f w .ret a w'->QB .ret a w'))
 (fU:Hid (∀ a w',Has 323 [0,1,2,3,4,5,6,7,8,9,10,11,12] [.string S,v1,(.pointer (some ⟨w.heap.size,0,none⟩)),v3,(.pointer (some ⟨w.heap.size+1,0,none⟩)),.int .i64 P,v6,v7,(.pointer (some ⟨G8,0,none⟩)),v9,v10,.int .i64 (nx+ZS s.vsize 4096),.int .i64 i] a->XE w w' G8 h (TK++[s])->UY h.size S.size nx s->QB .normal a w')) (wr:World) (ny:Hid (XE w wr G8 h TK)) (a:Act)
 (ha:Has 323 [0,1,2,3,4,5,6,7,8,9,10,11,12,13,14] [.string S,v1,(.pointer (some ⟨w.heap.size,0,none⟩)),v3,(.pointer (some ⟨w.heap.size+1,0,none⟩)),.int .i64 P,v6,v7,(.pointer (some ⟨G8,0,none⟩)),v9,v10,.int .i64 nx,.int .i64 i,.int .i64 o,.string s.name] a):(Yc 3 bl3).wp Tryz.prog QB a wr:=by
 obtain⟨u,rfl⟩:=Yt ha;simp only[Zy,Xi,Zf,Ze];clear ha;conv=>arg 2; whnf
 have cG:(o:Int)+40<=1000000:=by have:=HR.out.oS; have:=HR.out.hs; omega
 have DH:=fun W:World=>Yf S (o+8) 4 W HR.out.hs (by have:=HR.out.oS; omega) (by have:=HR.out.oS; have:=HR.out.hs; omega);rw[HR.out.hf,show((o+8:Nat):Int)=(o:Int)+8 by omega,show rdF f (o+8) 4=s.vsize by rw[<-HR.out.ss]; rfl] at DH;have GV:=Zg DH;clear DH;have uL:=fun W:World=>Yf S (o+12) 4 W HR.out.hs (by have:=HR.out.oS; omega) (by have:=HR.out.oS; have:=HR.out.hs; omega);rw[HR.out.hf,show((o+12:Nat):Int)=(o:Int)+12 by omega,show rdF f (o+12) 4=s.rva by rw[<-HR.out.ss]; rfl] at uL;have yG:=Zg uL;clear uL;have uM:=fun W:World=>Yf S (o+16) 4 W HR.out.hs (by have:=HR.out.oS; omega) (by have:=HR.out.oS; have:=HR.out.hs; omega);rw[HR.out.hf,show((o+16:Nat):Int)=(o:Int)+16 by omega,show rdF f (o+16) 4=s.raw by rw[<-HR.out.ss]; rfl] at uM;have yH:=Zg uM;clear uM;have uN:=fun W:World=>Yf S (o+20) 4 W HR.out.hs (by have:=HR.out.oS; omega) (by have:=HR.out.oS; have:=HR.out.hs; omega);rw[HR.out.hf,show((o+20:Nat):Int)=(o:Int)+20 by omega,show rdF f (o+20) 4=s.spot by rw[<-HR.out.ss]; rfl] at uN;have yI:=Zg uN;clear uN;have uO:=fun W:World=>Yf S (o+36) 4 W HR.out.hs (by have:=HR.out.oS; omega) (by have:=HR.out.oS; have:=HR.out.hs; omega);rw[HR.out.hf,show((o+36:Nat):Int)=(o:Int)+36 by omega,show rdF f (o+36) 4=s.chars by rw[<-HR.out.ss]; rfl] at uO;have yJ:=Zg uO;clear uO;refine wp_seq_k ?_;intro KA jH;have fT:=Zg jH;clear jH;refine Vz 323 [0,1,2,3,4,5,6,7,8,9,10,11,12] (fun zz wx=> ∃ G3:Nat,zz 16=(.pointer (some ⟨G3,0,none⟩))/\XE w wx G8 h TK/\wx.heap[G3]? =some (.cells s.arr 72 (0,0))) ?_ ?_
 ·intro J0 K0 et om;have gf:=Zg et;clear et;go_wp2_with (first|(go_fit (GV.out _); rintro e u ⟨rfl,rfl⟩)|(go_fit (yG.out _); rintro e u ⟨rfl,rfl⟩)|(go_fit (yH.out _); rintro e u ⟨rfl,rfl⟩)|(go_fit (yI.out _); rintro e u ⟨rfl,rfl⟩))
  refine(yJ.out _).mono ?_;rintro e u ⟨rfl,rfl⟩;rename_i hK;refine hK _ _ ?_;refine Xh rfl 72 _ rfl [(0,.string s.name),(1,.int .i64 s.vsize),(2,.int .i64 s.rva),(3,.int .i64 s.raw),(4,.int .i64 s.spot),(5,.int .i64 s.chars)] s.arr ?hv ?hb ?_
  case hv=>simp[go_sem]
  case hb=>exact QR _
  clear GV yG yH yI yJ;have eU:=setRow_heap (wr.alloc (.cells #[.string ⟨#[]⟩,.int .i64 0,.int .i64 0,.int .i64 0,.int .i64 0,.int .i64 0] 72)) wr.heap.size _ s.arr _ _ (heap_alloc_new _ _);have bJ:Below wr.heap.size wr ((wr.alloc (.cells #[.string ⟨#[]⟩,.int .i64 0,.int .i64 0,.int .i64 0,.int .i64 0,.int .i64 0] 72)).setRow wr.heap.size s.arr):=below_setRow ((Below.refl _ wr).alloc (Nat.le_refl _) _) (Nat.le_refl _) _;have jl:=Zg (ny.out.below bJ);have cj:=Zg eU;clear bJ eU;go_wp2_with (refine wpList_store_row rfl 72 _ _ rfl wr.heap.size s.arr rfl rfl 72 _ (heap_alloc_new _ _) rfl rfl s.arr_one ?_)
  refine Met.intro ?_;refine gf.out _ _ ?_;exact⟨⟨rfl,rfl,rfl⟩,_,rfl,jl.out,cj.out⟩
 intro a' wc hS hR;obtain⟨u2,hu,rfl⟩:=Zao [_,_,_,_,_,_,_,_,_,_,_,_,_] hS rfl;simp only[Zy,Xi,Zf,Ze];rw[hu] at hR;clear hu hS;obtain⟨G3,LF,mF,hg⟩:=hR;rw[LF];exact fT.out _ _ (b3_4 S f w P K G8 i o h nx N0 SL TK s HR QB v1 v3 v6 v7 v9 v10 mE fU wc G3 (Zg mF) (Zg hg) _ ⟨rfl,rfl,rfl⟩)
theorem b3_0 (S:ByteArray) (f:Nat->Int) (w:World) (P K G8 i o:Nat) (h:ZX) (nx N0:Int) (SL TK:List Zx) (s:Zx)
 (HR:Hid (RC S f h nx N0 SL TK s P K i o)) (QB:Exit->Act->World->Prop) (v1 v3 v6 v7 v9 v10:Value)
 (mE:Hid (∀ a w',QF S f w .ret a w'->QB .ret a w'))
 (fU:Hid (∀ a w',Has 323 [0,1,2,3,4,5,6,7,8,9,10,11,12] [.string S,v1,(.pointer (some ⟨w.heap.size,0,none⟩)),v3,(.pointer (some ⟨w.heap.size+1,0,none⟩)),.int .i64 P,v6,v7,(.pointer (some ⟨G8,0,none⟩)),v9,v10,.int .i64 (nx+ZS s.vsize 4096),.int .i64 i] a->XE w w' G8 h (TK++[s])->UY h.size S.size nx s->QB .normal a w')) (wr:World) (ny:Hid (XE w wr G8 h TK)) (a:Act)
 (ha:Has 323 [0,1,2,3,4,5,6,7,8,9,10,11,12] [.string S,v1,(.pointer (some ⟨w.heap.size,0,none⟩)),v3,(.pointer (some ⟨w.heap.size+1,0,none⟩)),.int .i64 P,v6,v7,(.pointer (some ⟨G8,0,none⟩)),v9,v10,.int .i64 nx,.int .i64 i] a):bl3.wp Tryz.prog QB a wr:=by
 obtain⟨u,rfl⟩:=Yt ha;simp only[Zy,Xi,Zf,Ze];clear ha;conv=>arg 2; whnf
 have cG:(o:Int)+40<=1000000:=by have:=HR.out.oS; have:=HR.out.hs; omega
 have DI:(P:Int)+264+40 * (i:Int)=(o:Int):=by have:=HR.out.ho; omega
 have yF:(i:Int)<=16:=by have:=HR.out.k16; have:=HR.out.lt; omega
 have GW:(o:Int)+40<=(S.size:Int):=by have:=HR.out.oS; omega
 refine wp_seq_k ?_;intro KA jH;have fT:=Zg jH;clear jH;refine Vz 323 [0,1,2,3,4,5,6,7,8,9,10,11,12] (fun zz wx=>zz 13= .int .i64 o/\wr=wx) ?_ ?_
 ·intro J0 K0 et om;have gf:=Zg et;clear et;have mA:=Zg DI;clear GW;have hP:(P:Int)+264<=1000000:=by omega
  have BR:(0:Int)<=(P:Int):=by omega
  clear DI;go_wp2_with fail
  refine Met.intro ?_;refine gf.out _ _ ?_;exact⟨⟨rfl,rfl,rfl⟩,(show Value.int .i64 ((P:Int)+264+40 * (i:Int))=_ by rw[mA.out]),rfl⟩
 intro a' wc hS hR;obtain⟨u2,hu,rfl⟩:=Zao [_,_,_,_,_,_,_,_,_,_,_,_,_] hS rfl;simp only[Zy,Xi,Zf,Ze];rw[hu] at hR;clear hu hS;obtain⟨Ha,hw⟩:=hR;subst hw;rw[Ha];clear Ha;refine fT.out _ _ ?_;clear fT KA DI;refine wp_seq_k ?_;intro KB nF;have fN:=Zg nF;clear nF;have t0:(0:Int)<=(o:Int):=by omega
 have t1:(o:Int)<=(o:Int)+8:=by omega
 have t2:(o:Int)+8<=(S.size:Int):=by omega
 have t3:(0:Int)<=(o:Int)+8:=by omega
 have t4:(o:Int)<=(S.size:Int):=by omega
 have t5:IntKind.i64.wrap ((o:Int)+8)=(o:Int)+8:=IntWalk.i64_in _ ⟨by omega,by omega⟩;have ht:((o:Int)+8).toNat=o+8:=by omega
 have DJ:=fun(h8:Ye f o 8<8) (W:World)=>Zg1 S o W (by omega) (by rw[HR.out.hf]; exact h8);have oI:=fun(h8: ¬ Ye f o 8<8) (W:World)=>Zjp S o W (by omega) (by rw[HR.out.hf]; exact h8);have jT:=fun(h8: ¬ Ye f o 8<8)=>Zjq S o (by omega) (by rw[HR.out.hf]; exact h8);rw[HR.out.hf,show Qc f o=s.name by rw[<-HR.out.ss]; rfl] at DJ jT;have GY:=Zg DJ;have nt:=Zg oI;have mB:=Zg jT;clear DJ oI jT;refine Vz 323 [0,1,2,3,4,5,6,7,8,9,10,11,12,13] (fun zz wx=> ∃ nm ok,zz 14= .string nm/\zz 15= .bool ok/\((ok=true/\nm=s.name)\/(ok=false/\S.extract o (o+8)=s.name))/\wr=wx) ?_ ?_
 ·intro J0 K0 et om;have gf:=Zg et;clear et;by_cases h8:Ye f o 8<8
  ·have ia:=Zg (GY.out h8);clear h8;go_wp2_with (go_fit (ia.out _); rintro e u ⟨rfl,rfl⟩)
   refine Met.intro ?_;refine gf.out _ _ ?_;exact⟨⟨rfl,rfl,rfl⟩,_,_,rfl,rfl,.inl ⟨rfl,rfl⟩,rfl⟩
  ·have ia:=Zg (nt.out h8);have fH:=Zg (mB.out h8);clear h8;go_wp2_with (go_fit (ia.out _); rintro e u ⟨rfl,rfl⟩)
   refine Met.intro ?_;refine gf.out _ _ ?_;exact⟨⟨rfl,rfl,rfl⟩,_,_,rfl,rfl,.inr ⟨rfl,fH.out⟩,rfl⟩
 intro a' wc hS hR;obtain⟨u3,hu,rfl⟩:=Zao [_,_,_,_,_,_,_,_,_,_,_,_,_,_] hS rfl;simp only[Zy,Xi,Zf,Ze];rw[hu] at hR;clear hu hS GY nt mB;obtain⟨nm,ok,l9,yU,ba,hw⟩:=hR;subst hw;rw[l9,yU];clear l9 yU;refine fN.out _ _ ?_;clear fN KB;refine wp_seq_k ?_;intro KC yR;have BS:=Zg yR;clear yR;refine Vz 323 [0,1,2,3,4,5,6,7,8,9,10,11,12,13] (fun zz wx=>zz 14= .string s.name/\wr=wx) ?_ ?_
 ·intro J0 K0 et om;have gf:=Zg et;clear et;rcases ba with⟨rfl,rfl⟩|⟨rfl,hex⟩
  ·go_wp2_with fail
   refine Met.intro ?_;refine gf.out _ _ ?_;exact⟨⟨rfl,rfl,rfl⟩,rfl,rfl⟩
  ·have Ly:=Zg hex;clear hex;go_wp2_with fail
   refine Met.intro ?_;refine gf.out _ _ ?_;exact⟨⟨rfl,rfl,rfl⟩,(show Value.string (S.extract o (o+8))=_ by rw[Ly.out]),rfl⟩
 intro a' wc hS hR;obtain⟨u4,hu,rfl⟩:=Zao [_,_,_,_,_,_,_,_,_,_,_,_,_,_] hS rfl;simp only[Zy,Xi,Zf,Ze];rw[hu] at hR;clear hu hS;obtain⟨l9,hw⟩:=hR;subst hw;rw[l9];exact BS.out _ _ (b3_3 S f w P K G8 i o h nx N0 SL TK s HR QB v1 v3 v6 v7 v9 v10 mE fU wr ny _ ⟨rfl,rfl,rfl⟩)
theorem from17 (S:ByteArray) (f:Nat->Int) (w wr:World) (P K G8:Nat) (h:ZX) (nx N0:Int) (SL:List Zx)
 (kn:Hid (Zv S.size f=((P:Int),0))) (HH:Hid (Zw f P=h)) (qU:Hid (rdF f (P+6) 2=K)) (df:Hid (ZM f (P+264) K=SL)) (mC:Hid (SL.length=K)) (pK:Hid (K<=16))
 (yK:Hid ((¬ Yo h.size S.size N0 SL->ZI S.size f=7)/\(Yo h.size S.size N0 SL->ZI S.size f=if h.size<=h.entry then 5 else 0)))
 (yT:Hid (Yo h.size S.size N0 SL↔Yo h.size S.size nx [])) (ny:Hid (XE w wr G8 h SL)) (a:Act)
 (ha:Has 323 [2,4,8,11] [(.pointer (some ⟨w.heap.size,0,none⟩)),(.pointer (some ⟨w.heap.size+1,0,none⟩)),(.pointer (some ⟨G8,0,none⟩)),.int .i64 nx] a) :
 (Yc 17 UV).wp Tryz.prog (QF S f w) a wr:=by
 obtain⟨u,rfl⟩:=Yt ha;simp only[Zy,Xi,Zf,Ze];conv=>arg 2; whnf
 obtain⟨cs,A8,c8,nG,jx,fe⟩:=ny.out.cs;have bq:=Zg ny.out.z0;have dL:=Zg ny.out.z1;have av:=Zg ny.out.bel;have c4:wr.cell? ⟨G8,4,none⟩=some (.int .i64 h.size):=by rw[cell_of_row _ _ _ _ _ _ nG]; exact jx.c4
 have c3:wr.cell? ⟨G8,3,none⟩=some (.int .i64 h.entry):=by rw[cell_of_row _ _ _ _ _ _ nG]; exact jx.c3
 have xo:=Zg jx;have fQ:=Zg fe;have yC:=Zg nG;clear ha nG jx fe;by_cases en:nx=h.size
 ·have jU:=yK.out.2 (yT.out.2 (by unfold Yo; exact en));have LA:(nx != h.size)=false:=by simp[en]
  by_cases ee:h.size<=h.entry
  ·rw[if_pos ee] at jU;have kN:=Zg jU;clear jU;go_wp2_with (first
    | (refine wpList_load_row rfl 41 _ rfl (w.heap.size+1) rfl 41 (Zl 0 0 0 0 0 0) (0,0) _ dL.out rfl rfl rfl ?_)
    | (refine wpList_store_row rfl 41 _ _ rfl w.heap.size (Zl 0 0 0 0 0 0) rfl rfl 41 _ bq.out rfl rfl (ZC _ _ _ _ _ _) ?_))
   refine bodyPost_ret (v:= .tuple #[.agg (Zl 0 0 0 0 0 0),.int .i64 5]) (Zj rfl _ _ w.heap.size 41 _ (0,0) _ _ rfl rfl (setRow_heap _ _ _ _ _ _ bq.out) rfl rfl rfl) rfl ⟨⟨_,rfl,_,by rw[kN.out],.inl ⟨by rw[kN.out]; omega,ZD⟩⟩,below_setRow av.out (Nat.le_refl _) _⟩
  ·rw[if_neg ee] at jU;have kN:=Zg jU;have LB:h.entry<h.size:=by omega
   have jm:=Zg (xo.out.one rfl);have tn:=Zg xo.out.size;have uP:=Zg (show(Tryz.prog.info? 41).map (·.size)=some cs.size by rw[tn.out]; rfl);have DK:=Zg (show(Zl 0 0 0 0 0 0).size=cs.size by rw[tn.out]; rfl);clear jU;go_wp2_with (first
    | (refine wpList_load_row rfl 41 _ rfl G8 rfl 41 cs (0,0) _ yC.out rfl rfl uP.out ?_)
    | (refine wpList_store_row rfl 41 _ _ rfl w.heap.size cs rfl rfl 41 _ bq.out uP.out DK.out jm.out ?_))
   refine bodyPost_ret (v:= .tuple #[.agg cs,.int .i64 0]) (Zj rfl _ _ w.heap.size 41 cs (0,0) _ _ rfl rfl (setRow_heap _ _ _ _ _ _ bq.out) rfl rfl uP.out) rfl ⟨⟨_,rfl,cs,by rw[kN.out],.inr ⟨kN.out,.slice A8 SL.length c8,?_,?_⟩⟩,below_setRow av.out (Nat.le_refl _) cs⟩
   ·unfold headP; rw[kn.out]; simp only[Int.toNat_natCast]; rw[HH.out]; exact xo.out
   ·unfold headK headP; rw[kn.out]; simp only[Int.toNat_natCast]; rw[qU.out,Int.toNat_natCast,df.out];refine⟨A8,c8,rfl,(fQ.out.sl Zx.cells_len).keep (by simp) fun b' dD=>setRow_other _ _ _ _ ?_,by rw[mC.out]; exact pK.out⟩;have h1:=(fQ.out.lt b' (by cases A8 with
     | none=>simp at dD
     | some a=>simpa [Value.ownBlock] using dD)).1
    have h2:=ny.out.le;omega
 ·have jU:=yK.out.1 (fun hc=>en (by have:=yT.out.1 hc; unfold Yo at this; exact this));have LA:(nx != h.size)=true:=by simp[en]
  have kN:=Zg jU;clear jU;go_wp2_with (first
   | (refine wpList_load_row rfl 41 _ rfl (w.heap.size+1) rfl 41 (Zl 0 0 0 0 0 0) (0,0) _ dL.out rfl rfl rfl ?_)
   | (refine wpList_store_row rfl 41 _ _ rfl w.heap.size (Zl 0 0 0 0 0 0) rfl rfl 41 _ bq.out rfl rfl (ZC _ _ _ _ _ _) ?_))
  refine bodyPost_ret (v:= .tuple #[.agg (Zl 0 0 0 0 0 0),.int .i64 7]) (Zj rfl _ _ w.heap.size 41 _ (0,0) _ _ rfl rfl (setRow_heap _ _ _ _ _ _ bq.out) rfl rfl rfl) rfl ⟨⟨_,rfl,_,by rw[kN.out],.inl ⟨by rw[kN.out]; omega,ZD⟩⟩,below_setRow av.out (Nat.le_refl _) _⟩
theorem from15 (S:ByteArray) (f:Nat->Int) (w wr:World) (P K G8:Nat) (h:ZX) (v1 v3 v6 v7 v10:Value) (hs:S.size<=1000000) (HF:Hid (PlainAid.bt S=f)) (bh:Hid (Zm f))
 (kn:Hid (Zv S.size f=((P:Int),0))) (HH:Hid (Zw f P=h)) (qU:Hid (rdF f (P+6) 2=K)) (iC:Hid (P<4294967296)) (rP:P+264<=S.size) (HQ:Hid (Ys S.size P h.headers K))
 (uS:Hid (ZI S.size f=Zf5 S.size f P K h)) (vf:Hid (XE w wr G8 h [])) (a:Act) (ha:Has 323 [0,1,2,3,4,5,6,7,8,9,10] [.string S,v1,(.pointer (some ⟨w.heap.size,0,none⟩)),v3,(.pointer (some ⟨w.heap.size+1,0,none⟩)),.int .i64 P,v6,v7,(.pointer (some ⟨G8,0,none⟩)),.int .i64 K,v10] a):(Yc 15 UV).wp Tryz.prog (QF S f w) a wr:=by
 obtain⟨u,rfl⟩:=Yt ha;simp only[Zy,Xi,Zf,Ze];clear ha;conv=>arg 2; whnf
 have hq:=HQ.out;unfold Ys at hq;obtain⟨q1,q2,q3,q4,q5⟩:=hq;obtain⟨cs,A8,c8,nG,jx,fe⟩:=vf.out.cs;have c5:wr.cell? ⟨G8,5,none⟩=some (.int .i64 h.headers):=by rw[cell_of_row _ _ _ _ _ _ nG]; exact jx.c5
 clear nG jx fe;have cZ:=Zg (fun W:World=>Uu h.headers 4096 W (by omega) (by omega) (by omega) (by omega));have qS:=XN h.headers (by omega);have pK:=Zg (show K<=16 by omega);have DL:=Zg (show P+264+40 * K<=S.size by omega);clear q1 q2 q3 q4 q5 HQ;refine wp_seq_k ?_;intro KA jH;have fT:=Zg jH;clear jH;refine Vz 323 [0,1,2,3,4,5,6,7,8,9,10] (fun zz wx=>zz 11= .int .i64 (ZS h.headers 4096)/\wr=wx) ?_ ?_
 ·intro J0 K0 et om;have gf:=Zg et;clear et;go_wp2_with (go_fit (cZ.out _); rintro e u ⟨rfl,rfl⟩)
  refine Met.intro ?_;refine gf.out _ _ ?_;exact⟨⟨rfl,rfl,rfl⟩,rfl,rfl⟩
 intro a' wc hS hR;obtain⟨u2,hu,rfl⟩:=Zao [_,_,_,_,_,_,_,_,_,_,_] hS rfl;simp only[Zy,Xi,Zf,Ze];rw[hu] at hR;clear hu hS cZ c5;obtain⟨yV,hw⟩:=hR;subst hw;rw[yV];clear yV;refine fT.out _ _ ?_;clear fT KA;have uQ:(ZM f (P+264) K).length=K:=by simp[ZM]
 have DM:=Zg (fun(i:Nat) (hi:i<(ZM f (P+264) K).length)=>show(ZM f (P+264) K)[i]=Xm f (P+264+40 * i) by simp[ZM]);obtain⟨N0,DT⟩: ∃ N0,ZS h.headers 4096=N0:=⟨_,rfl⟩;rw[DT] at qS ⊢;obtain⟨SL,BX⟩: ∃ SL,ZM f (P+264) K=SL:=⟨_,rfl⟩;have GZ:(¬ Yo h.size S.size N0 SL->ZI S.size f=7)/\(Yo h.size S.size N0 SL->ZI S.size f=if h.size<=h.entry then 5 else 0):=by
  have e:=uS.out;unfold Zf5 at e;rw[DT,BX] at e;exact⟨fun hc=>by rw[e,if_pos hc],fun hc=>by rw[e,if_neg (fun k=>k hc)]⟩
 rw[BX] at uQ DM;have yK:=Zg GZ;have mC:=Zg uQ;have df:=Zg BX;clear GZ uS BX uQ DT;refine wp_seq_k ?_;intro KB nF;have fN:=Zg nF;clear nF;refine wp_cut (fun a' w'=> ∃ nx,Has 323 [2,4,8,11] [(.pointer (some ⟨w.heap.size,0,none⟩)),(.pointer (some ⟨w.heap.size+1,0,none⟩)),(.pointer (some ⟨G8,0,none⟩)),.int .i64 nx] a'/\(Yo h.size S.size N0 SL↔Yo h.size S.size nx [])/\XE w w' G8 h SL) ?_ ?_
 ·rintro a' w' ⟨nx,dt,iB,mF⟩;exact fN.out _ _ (from17 S f w w' P K G8 h nx N0 SL kn HH qU df mC pK yK (Zg iB) (Zg mF) a' dt)
 intro J0 K0 et om;have gf:=Zg et;clear et fN KB;go_wp2_with fail
 refine Ji 323 [0,1,2,3,4,5,6,7,8,9,10] (fun n s wx=> ∃(i:Nat) (nx:Int),n=K - i/\i<=K/\s 12= .int .i64 i/\s 11= .int .i64 nx/\0<=nx/\nx<=4294967296+i * 4294967296/\(Yo h.size S.size N0 SL↔Yo h.size S.size nx (SL.drop i))/\XE w wx G8 h (SL.take i)) K ⟨rfl,rfl,rfl⟩ ⟨0,N0,by omega,by omega,rfl,rfl,by omega,by omega,by simp,by simpa using vf.out⟩ ?_;intro gk a' vd hS hR J1 K1 kQ jG;have oQ:=Zg kQ;clear kQ;obtain⟨u3,hu,rfl⟩:=Zao [_,_,_,_,_,_,_,_,_,_,_] hS rfl;simp only[Zy,Xi,Zf,Ze];rw[hu] at hR;clear hu hS vf;obtain⟨i,nx,pU,hi,Hb,yV,x0,x1,iB,mF⟩:=hR;rw[Hb,yV];subst pU;clear Hb yV;by_cases af:i<K
 ·have aE:(i:Int)<K:=by omega
  have lV:i<SL.length:=by rw[mC.out]; exact af
  have uR:=DM.out i lV;have mD:SL.drop i=SL[i]::SL.drop (i+1):=List.drop_eq_getElem_cons lV;have lZ:SL.take (i+1)=SL.take i++[SL[i]]:=List.take_succ_eq_append_getElem lV;rw[uR] at mD lZ;have tp:=Uk bh.out (P+264+40 * i);have G0:Hid (RC S f h nx N0 SL (SL.take i) (Xm f (P+264+40 * i)) P K i (P+264+40 * i)):=Zg
   ⟨hs,HF.out,bh.out,yK.out.1,iB,mD,lZ,by rw[List.length_take,mC.out]; omega,rfl,tp,by have:=DL.out; omega,rfl,x0,x1,af,pK.out,iC.out⟩
  have yD:=XN (Xm f (P+264+40 * i)).vsize tp.v1;have pL:=Zg iB;have rN:=Zg mD;have DN:=Zg lZ;have ny:=Zg mF;clear uR mD lZ iB mF tp lV DM;generalize G1:Xm f (P+264+40 * i)=s at *;have l8:=Zg G1;clear G1;go_upto_block 3 with fail
  refine wp_cut (fun a' w'=>Has 323 [0,1,2,3,4,5,6,7,8,9,10,11,12] [.string S,v1,(.pointer (some ⟨w.heap.size,0,none⟩)),v3,(.pointer (some ⟨w.heap.size+1,0,none⟩)),.int .i64 P,v6,v7,(.pointer (some ⟨G8,0,none⟩)),.int .i64 K,v10,.int .i64 (nx+ZS s.vsize 4096),.int .i64 i] a'/\XE w w' G8 h (SL.take i++[s])/\UY h.size S.size nx s) ?_ ?_
  ·rintro a' w' ⟨dt,yW,aQ⟩;obtain⟨u4,rfl⟩:=Yt dt;simp only[Zy,Xi,Zf,Ze];have DO:=Zg yW;have rO:=Zg aQ;have yF:(i:Int)<=16:=by have:=pK.out; omega
   clear dt yW aQ G0 ny;obtain⟨fu,pT⟩: ∃ fu,ZS s.vsize 4096=fu:=⟨_,rfl⟩;rw[pT] at yD ⊢;have xC:=Zg pT;clear pT;go_wp2_with fail
   refine Handed.intro (K - (i+1)) (by omega) ?_;refine oQ.out _ _ _ ?_;exact⟨⟨rfl,rfl,rfl⟩,i+1,nx+fu,rfl,by omega,(show Value.int .i64 ((i:Int)+1)=_ by go_num),rfl,by omega,by omega,pL.out.trans ⟨fun hc=>by rw[rN.out] at hc; have:=hc.2; rw[xC.out] at this; exact this,fun hc=>by rw[rN.out]; exact⟨rO.out,by rw[xC.out]; exact hc⟩⟩,by rw[DN.out]; exact DO.out⟩
  ·intro J2 K2 LD qV;refine wp_block ?_;refine b3_0 S f w P K G8 i (P+264+40 * i) h nx N0 SL (SL.take i) s G0 _ v1 v3 v6 v7 (.int .i64 K) v10 ?_ ?_ vd ny _ ⟨rfl,rfl,rfl⟩
   ·exact Zg (fun a w' q=>q)
   ·exact Zg (fun a' w' dt lM DR=>qV _ _ (Met.intro (LD _ _ ⟨dt,lM,DR⟩)))
 ·obtain rfl:i=K:=by omega
  rw[List.drop_of_length_le (by rw[mC.out]; omega)] at iB;rw[List.take_of_length_le (by rw[mC.out]; omega)] at mF;have pL:=Zg iB;have ny:=Zg mF;clear iB mF;go_wp2_with fail
  refine Met.intro ?_;refine gf.out _ _ ?_;exact⟨nx,⟨rfl,rfl,rfl⟩,pL.out,ny.out⟩
theorem from14 (S:ByteArray) (f:Nat->Int) (w wr:World) (P K G8:Nat) (h:ZX) (v1 v3 v6 v7:Value) (hs:S.size<=1000000) (HF:Hid (PlainAid.bt S=f)) (bh:Hid (Zm f))
 (kn:Hid (Zv S.size f=((P:Int),0))) (HH:Hid (Zw f P=h)) (qU:Hid (rdF f (P+6) 2=K)) (iC:Hid (P<4294967296)) (rP:P+264<=S.size) (HQ:Hid (Ys S.size P h.headers K))
 (uS:Hid (ZI S.size f=Zf5 S.size f P K h)) (km:Hid (XT w wr G8 h 0)) (a:Act) (ha:Has 323 [0,1,2,3,4,5,6,7,8,9] [.string S,v1,(.pointer (some ⟨w.heap.size,0,none⟩)),v3,(.pointer (some ⟨w.heap.size+1,0,none⟩)),.int .i64 P,v6,v7,(.pointer (some ⟨G8,0,none⟩)),.int .i64 K] a):(Yc 14 UV).wp Tryz.prog (QF S f w) a wr:=by
 obtain⟨u,rfl⟩:=Yt ha;simp only[Zy,Xi,Zf,Ze];clear ha;conv=>arg 2; whnf
 have BR:(P:Int)+264<=1000000:=by omega
 have qQ:(0:Int)<=(P:Int):=by omega
 refine wp_seq_k ?_;intro KA jH;have fT:=Zg jH;clear jH;refine wp_cut (fun a' w'=>Has 323 [0,1,2,3,4,5,6,7,8,9,10] [.string S,v1,(.pointer (some ⟨w.heap.size,0,none⟩)),v3,(.pointer (some ⟨w.heap.size+1,0,none⟩)),.int .i64 P,v6,v7,(.pointer (some ⟨G8,0,none⟩)),.int .i64 K,.int .i64 16] a'/\XT w w' G8 h 16) ?_ ?_
 ·rintro a' w' ⟨dt,hh⟩;exact fT.out _ _ (from15 S f w w' P K G8 h v1 v3 v6 v7 (.int .i64 16) hs HF bh kn HH qU iC rP HQ uS (Zg hh.all) a' dt)
 intro J0 K0 et om;have gf:=Zg et;clear et fT KA;go_wp2_with fail
 refine Ji 323 [0,1,2,3,4,5,6,7,8,9] (fun n s wx=> ∃ i:Nat,n=16 - i/\i<=16/\s 10= .int .i64 i/\XT w wx G8 h i) 16 ⟨rfl,rfl,rfl⟩ ⟨0,rfl,by omega,rfl,km.out⟩ ?_;intro gk a' vd hS hR J1 K1 kQ jG;have oQ:=Zg kQ;clear kQ;obtain⟨u3,hu,rfl⟩:=Zao [_,_,_,_,_,_,_,_,_,_] hS rfl;simp only[Zy,Xi,Zf,Ze];rw[hu] at hR;clear hu hS km;obtain⟨i,pU,hi,oT,br⟩:=hR;rw[oT];subst pU;clear oT;have HA:=Zg br;clear br;by_cases af:i<16
 ·obtain⟨cs,hg,hp⟩:=HA.out.cs;have h1:=fun W:World=>Yf S (P+136+8 * i) 4 W hs (by omega) (by omega);have h2:=fun W:World=>Yf S (P+136+8 * i+4) 4 W hs (by omega) (by omega);have hd1:rdF f (P+136+8 * i) 4=(h.dirs i).1:=by rw[<-HH.out]; rfl
  have kj:rdF f (P+136+8 * i+4) 4=(h.dirs i).2:=by rw[<-HH.out]; rfl
  rw[HF.out,hd1,show((P+136+8 * i:Nat):Int)=(P:Int)+136+8 * (i:Int) by omega] at h1;rw[HF.out,kj,show((P+136+8 * i+4:Nat):Int)=(P:Int)+140+8 * (i:Int) by omega] at h2;have H1:=Zg h1;have H2:=Zg h2;clear h1 h2 hd1 kj;have aE:(i:Int)<16:=by omega
  have aT:=hp.size;have z0:=frozen_of_row _ _ (6+i * 2) _ _ hg;have z1:=frozen_of_row _ _ (6+i * 2+1) _ _ hg;have c0:=cell_of_row _ _ (6+i * 2) _ _ _ hg;have c1:=cell_of_row _ _ (6+i * 2+1) _ _ _ hg;rw[Array.getElem?_eq_getElem (by omega)] at c0 c1;generalize cs[6+i * 2]=y0 at c0;generalize cs[6+i * 2+1]=y1 at c1;clear hg hp aT;go_wp2_with (first|(go_fit (H1.out _); rintro e u ⟨rfl,rfl⟩)|(go_fit (H2.out _); rintro e u ⟨rfl,rfl⟩))
  refine Handed.intro (16 - (i+1)) (by omega) ?_;refine oQ.out _ _ _ ?_;exact⟨⟨rfl,rfl,rfl⟩,i+1,rfl,by omega,(show Value.int .i64 ((i:Int)+1)=_ by go_num),HA.out.next af _ _ rfl rfl⟩
 ·obtain rfl:i=16:=by omega
  go_wp2_with fail
  refine Met.intro ?_;refine gf.out _ _ ?_;exact⟨⟨rfl,rfl,rfl⟩,HA.out⟩
theorem r20 (S:ByteArray) (w3:World) (P K G8:Nat) (hd:Int) (v1 v2 v3 v4 v6 v7:Value) (hs:S.size<=1000000) (hP:P+264<=S.size) (hK:(K:Int)<65536)
 (c5:w3.cell? ⟨G8,5,none⟩=some (.int .i64 hd)) (K1:Act->World->Prop) (Q1:Exit->Act->World->Prop)
 (HT:Hid (¬ (¬ (K:Int)<1/\ ¬ 16<(K:Int)/\ ¬ hd<(P:Int)+264+40 * (K:Int)/\ ¬ 4096<hd/\ ¬ (S.size:Int)<hd)-> ∀ a',Has 323 [0,1,2,3,4,5,6,7,8,9,179] [.string S,v1,v2,v3,v4,.int .i64 P,v6,v7,(.pointer (some ⟨G8,0,none⟩)),.int .i64 K,.bool true] a'->K1 a' w3))
 (HF:Hid ((¬ (K:Int)<1/\ ¬ 16<(K:Int)/\ ¬ hd<(P:Int)+264+40 * (K:Int)/\ ¬ 4096<hd/\ ¬ (S.size:Int)<hd)-> ∀ a',Has 323 [0,1,2,3,4,5,6,7,8,9,179] [.string S,v1,v2,v3,v4,.int .i64 P,v6,v7,(.pointer (some ⟨G8,0,none⟩)),.int .i64 K,.bool false] a'->K1 a' w3)) (a:Act)
 (ha:Has 323 [0,1,2,3,4,5,6,7,8,9] [.string S,v1,v2,v3,v4,.int .i64 P,v6,v7,(.pointer (some ⟨G8,0,none⟩)),.int .i64 K] a):(YF (YF (Yc 13 UV))).wp Tryz.prog (Exit.then K1 Q1) a w3:=by
 obtain⟨u,rfl⟩:=Yt ha;simp only[Zy,Xi,Zf,Ze];clear ha;conv=>arg 2; whnf
 have pJ:(S.size:Int)<=1000000:=by omega
 have BR:(P:Int)+264<=1000000:=by omega
 have qQ:(0:Int)<=(P:Int):=by omega
 have jG:(0:Int)<=(K:Int):=by omega
 clear hP;by_cases d0:(K:Int)<1
 ·go_wp2_with fail
  exact HT.out (fun h=>by obtain⟨h0,h1,h2,h3,h4⟩:=h; omega) _ ⟨rfl,rfl,rfl⟩
 ·have e0:decide ((K:Int)<1)=false:=decide_eq_false d0;by_cases d1:16<(K:Int)
  ·go_wp2_with fail
   exact HT.out (fun h=>by obtain⟨h0,h1,h2,h3,h4⟩:=h; omega) _ ⟨rfl,rfl,rfl⟩
  ·have e1:decide (16<(K:Int))=false:=decide_eq_false d1;by_cases d2:hd<(P:Int)+264+40 * (K:Int)
   ·go_wp2_with fail
    exact HT.out (fun h=>by obtain⟨h0,h1,h2,h3,h4⟩:=h; omega) _ ⟨rfl,rfl,rfl⟩
   ·have e2:decide (hd<(P:Int)+264+40 * (K:Int))=false:=decide_eq_false d2;by_cases d3:4096<hd
    ·go_wp2_with fail
     exact HT.out (fun h=>by obtain⟨h0,h1,h2,h3,h4⟩:=h; omega) _ ⟨rfl,rfl,rfl⟩
    ·have e3:decide (4096<hd)=false:=decide_eq_false d3;by_cases d4:(S.size:Int)<hd
     ·go_wp2_with fail
      exact HT.out (fun h=>by obtain⟨h0,h1,h2,h3,h4⟩:=h; omega) _ ⟨rfl,rfl,rfl⟩
     ·have e4:decide ((S.size:Int)<hd)=false:=decide_eq_false d4;go_wp2_with fail
      exact HF.out ⟨by omega,by omega,by omega,by omega,by omega⟩ _ ⟨rfl,rfl,rfl⟩
theorem from12 (S:ByteArray) (f:Nat->Int) (w wr:World) (P G8:Nat) (h:ZX) (v1 v3 v6 v7:Value) (hs:S.size<=1000000) (HF:Hid (PlainAid.bt S=f)) (bh:Hid (Zm f))
 (kn:Hid (Zv S.size f=((P:Int),0))) (HH:Hid (Zw f P=h)) (iC:Hid (P<4294967296)) (rP:P+264<=S.size)
 (pR:Hid (ZI S.size f=Zf6 S.size f P h)) (km:Hid (XT w wr G8 h 0)) (a:Act) (ha:Has 323 [0,1,2,3,4,5,6,7,8] [.string S,v1,(.pointer (some ⟨w.heap.size,0,none⟩)),v3,(.pointer (some ⟨w.heap.size+1,0,none⟩)),.int .i64 P,v6,v7,(.pointer (some ⟨G8,0,none⟩))] a):(Yc 12 UV).wp Tryz.prog (QF S f w) a wr:=by
 obtain⟨u,rfl⟩:=Yt ha;simp only[Zy,Xi,Zf,Ze];clear ha;conv=>arg 2; whnf
 have BR:(P:Int)+264<=1000000:=by omega
 have qQ:(0:Int)<=(P:Int):=by omega
 obtain⟨cs,hg,hp⟩:=km.out.cs;have c5:wr.cell? ⟨G8,5,none⟩=some (.int .i64 h.headers):=by rw[cell_of_row _ _ _ _ _ _ hg]; exact hp.c5
 clear hg hp;have yL:=fun W:World=>Yf S (P+6) 2 W hs (by omega) (by omega);rw[HF.out,show((P+6:Nat):Int)=(P:Int)+6 by omega] at yL;have DP:=ZR f bh.out 2 (P+6);obtain⟨K,hK⟩: ∃ K:Nat,rdF f (P+6) 2=K:=⟨(rdF f (P+6) 2).toNat,by omega⟩;rw[hK] at yL DP;have qU:=Zg hK;have G2:=Zg yL;have LC:(K:Int)<65536:=DP.2;have hE:=pR.out;unfold Zf6 at hE;rw[hK,Int.toNat_natCast] at hE;have HE:=Zg hE;clear hK DP yL hE pR;refine wp_seq_k ?_;intro KA jH;have fT:=Zg jH;clear jH;refine wp_cut (fun a' w'=>Has 323 [0,1,2,3,4,5,6,7,8,9] [.string S,v1,(.pointer (some ⟨w.heap.size,0,none⟩)),v3,(.pointer (some ⟨w.heap.size+1,0,none⟩)),.int .i64 P,v6,v7,(.pointer (some ⟨G8,0,none⟩)),.int .i64 K] a'/\wr=w') ?_ ?_;rotate_left
 ·intro J0 K0 et om;have gf:=Zg et;clear et;go_wp2_with (go_fit (G2.out _); rintro e u ⟨rfl,rfl⟩)
  refine Met.intro ?_;refine gf.out _ _ ?_;exact⟨⟨rfl,rfl,rfl⟩,rfl⟩
 rintro a' w' ⟨dt,rfl⟩;obtain⟨u2,rfl⟩:=Yt dt;simp only[Zy,Xi,Zf,Ze];clear dt G2;refine fT.out _ _ ?_;clear fT KA;refine wp_seq_k ?_;intro KB nF;have fN:=Zg nF;clear nF;refine wp_cut (fun a' w'=>Has 323 [0,1,2,3,4,5,6,7,8,9] [.string S,v1,(.pointer (some ⟨w.heap.size,0,none⟩)),v3,(.pointer (some ⟨w.heap.size+1,0,none⟩)),.int .i64 P,v6,v7,(.pointer (some ⟨G8,0,none⟩)),.int .i64 K] a'/\wr=w'/\Ys S.size P h.headers K) ?_ ?_
 ·rintro a' w' ⟨dt,rfl,hq⟩;have xF:=HE.out;rw[if_neg (fun hn=>hn hq)] at xF;exact fN.out _ _ (from14 S f w wr P K G8 h v1 v3 v6 v7 hs HF bh kn HH qU iC rP (Zg hq) (Zg xF) km a' dt)
 intro J0 K0 et om;have gf:=Zg et;clear et fN KB;refine wp_seq_k ?_;intro K1 jG;have jF:=Zg jG;clear jG;refine r20 S wr P K G8 h.headers v1 _ v3 _ v6 v7 hs rP LC c5 K1 _ (Zg fun aQ a' dt=> ?_) (Zg fun aQ a' dt=> ?_) _ ⟨rfl,rfl,rfl⟩
 ·obtain⟨u3,rfl⟩:=Yt dt;simp only[Zy,Xi,Zf,Ze];clear dt;have xF:=HE.out;rw[if_pos (by unfold Ys; omega)] at xF;have uS:=Zg xF;have bq:=Zg km.out.z0;have dL:=Zg km.out.z1;have av:=Zg km.out.bel;clear xF aQ c5;refine jF.out _ _ ?_;clear jF K1;go_wp2_with (first
   | (refine wpList_load_row rfl 41 _ rfl (w.heap.size+1) rfl 41 (Zl 0 0 0 0 0 0) (0,0) _ dL.out rfl rfl rfl ?_)
   | (refine wpList_store_row rfl 41 _ _ rfl w.heap.size (Zl 0 0 0 0 0 0) rfl rfl 41 _ bq.out rfl rfl (ZC _ _ _ _ _ _) ?_))
  refine bodyPost_ret (v:= .tuple #[.agg (Zl 0 0 0 0 0 0),.int .i64 7]) (Zj rfl _ _ w.heap.size 41 _ (0,0) _ _ rfl rfl (setRow_heap _ _ _ _ _ _ bq.out) rfl rfl rfl) rfl ⟨⟨_,rfl,_,by rw[uS.out],.inl ⟨by rw[uS.out]; omega,ZD⟩⟩,below_setRow av.out (Nat.le_refl _) _⟩
 ·obtain⟨u3,rfl⟩:=Yt dt;simp only[Zy,Xi,Zf,Ze];clear dt;have HQ:=Zg (show Ys S.size P h.headers K by unfold Ys; omega);clear aQ c5;refine jF.out _ _ ?_;clear jF K1;go_wp2_with fail
  refine Met.intro ?_;refine gf.out _ _ ?_;exact⟨⟨rfl,rfl,rfl⟩,rfl,HQ.out⟩
theorem r17 (S:ByteArray) (w3:World) (P G8:Nat) (x1 x2 y1 y2:Int) (v1 v2 v3 v4 v7:Value) (hP:(P:Int)<=1000000)
 (b1:0<=y1) (b2:y1<=18446744073709551615) (b3:0<=y2) (b4:y2<4294967296) (c4:w3.cell? ⟨G8,4,none⟩=some (.int .i64 y2))
 (gg:Hid (∀ W,Calls Tryz.prog 72 #[.string S,.int .i64 ((P:Int)+56),.int .i64 4] W fun e w'=>e= .returned (.int .i64 x1)/\W=w'))
 (gj:Hid (∀ W,Calls Tryz.prog 72 #[.string S,.int .i64 ((P:Int)+60),.int .i64 4] W fun e w'=>e= .returned (.int .i64 x2)/\W=w')) (K1:Act->World->Prop) (Q1:Exit->Act->World->Prop)
 (HT:Hid (¬ (x1=4096/\x2=512/\y1 % 65536=0/\ ¬ y1<65536/\ ¬ 35184372088832<y1/\y2 % 4096=0/\ ¬ y2<4096/\ ¬ 262144<y2)-> ∀ a',Has 323 [0,1,2,3,4,5,6,7,8,146] [.string S,v1,v2,v3,v4,.int .i64 P,.int .u64 y1,v7,(.pointer (some ⟨G8,0,none⟩)),.bool true] a'->K1 a' w3))
 (HF:Hid ((x1=4096/\x2=512/\y1 % 65536=0/\ ¬ y1<65536/\ ¬ 35184372088832<y1/\y2 % 4096=0/\ ¬ y2<4096/\ ¬ 262144<y2)-> ∀ a',Has 323 [0,1,2,3,4,5,6,7,8,146] [.string S,v1,v2,v3,v4,.int .i64 P,.int .u64 y1,v7,(.pointer (some ⟨G8,0,none⟩)),.bool false] a'->K1 a' w3)) (a:Act)
 (ha:Has 323 [0,1,2,3,4,5,6,7,8] [.string S,v1,v2,v3,v4,.int .i64 P,.int .u64 y1,v7,(.pointer (some ⟨G8,0,none⟩))] a):(YF (YF (Yc 11 UV))).wp Tryz.prog (Exit.then K1 Q1) a w3:=by
 obtain⟨u,rfl⟩:=Yt ha;simp only[Zy,Xi,Zf,Ze];clear ha;conv=>arg 2; whnf
 have qQ:(0:Int)<=(P:Int):=by omega
 have tg:=Zg (show y1.tmod 65536=y1 % 65536 from Int.tmod_eq_emod_of_nonneg b1);have BU:=Zg (show y2.tmod 4096=y2 % 4096 from Int.tmod_eq_emod_of_nonneg b3);by_cases d0:x1=4096
 ·have e0:(x1 != 4096)=false:=by simp[d0]
  have D0:=Zg d0;clear d0;by_cases d1:x2=512
  ·have e1:(x2 != 512)=false:=by simp[d1]
   have D1:=Zg d1;clear d1;by_cases d2:y1 % 65536=0
   ·have e2:(y1.tmod 65536 != 0)=false:=by rw[tg.out]; simp[d2]
    have f2:(y1 % 65536 != 0)=false:=by simp[d2]
    have D2:=Zg d2;clear d2;by_cases d3:y1<65536
    ·go_wp2_with (first|(go_fit (gg.out _); rintro e u ⟨rfl,rfl⟩)|(go_fit (gj.out _); rintro e u ⟨rfl,rfl⟩))
     exact HT.out (fun h=>by obtain⟨h0,h1,h2,h3,h4,h5,h6,h7⟩:=h; omega) _ ⟨rfl,rfl,rfl⟩
    ·have e3:decide (y1<65536)=false:=decide_eq_false d3;by_cases d4:35184372088832<y1
     ·go_wp2_with (first|(go_fit (gg.out _); rintro e u ⟨rfl,rfl⟩)|(go_fit (gj.out _); rintro e u ⟨rfl,rfl⟩))
      exact HT.out (fun h=>by obtain⟨h0,h1,h2,h3,h4,h5,h6,h7⟩:=h; omega) _ ⟨rfl,rfl,rfl⟩
     ·have e4:decide (35184372088832<y1)=false:=decide_eq_false d4;by_cases d5:y2 % 4096=0
      ·have e5:(y2.tmod 4096 != 0)=false:=by rw[BU.out]; simp[d5]
       have f5:(y2 % 4096 != 0)=false:=by simp[d5]
       have D5:=Zg d5;clear d5;by_cases d6:y2<4096
       ·go_wp2_with (first|(go_fit (gg.out _); rintro e u ⟨rfl,rfl⟩)|(go_fit (gj.out _); rintro e u ⟨rfl,rfl⟩))
        exact HT.out (fun h=>by obtain⟨h0,h1,h2,h3,h4,h5,h6,h7⟩:=h; omega) _ ⟨rfl,rfl,rfl⟩
       ·have e6:decide (y2<4096)=false:=decide_eq_false d6;by_cases d7:262144<y2
        ·go_wp2_with (first|(go_fit (gg.out _); rintro e u ⟨rfl,rfl⟩)|(go_fit (gj.out _); rintro e u ⟨rfl,rfl⟩))
         exact HT.out (fun h=>by obtain⟨h0,h1,h2,h3,h4,h5,h6,h7⟩:=h; omega) _ ⟨rfl,rfl,rfl⟩
        ·have e7:decide (262144<y2)=false:=decide_eq_false d7;go_wp2_with (first|(go_fit (gg.out _); rintro e u ⟨rfl,rfl⟩)|(go_fit (gj.out _); rintro e u ⟨rfl,rfl⟩))
         exact HF.out ⟨D0.out,D1.out,D2.out,by omega,by omega,D5.out,by omega,by omega⟩ _ ⟨rfl,rfl,rfl⟩
      ·have e5:(y2.tmod 4096 != 0)=true:=by rw[BU.out]; simp[d5]
       have f5:(y2 % 4096 != 0)=true:=by simp[d5]
       have D5:=Zg d5;clear d5;go_wp2_with (first|(go_fit (gg.out _); rintro e u ⟨rfl,rfl⟩)|(go_fit (gj.out _); rintro e u ⟨rfl,rfl⟩))
       exact HT.out (fun h=>by obtain⟨h0,h1,h2,h3,h4,h5,h6,h7⟩:=h; exact D5.out h5) _ ⟨rfl,rfl,rfl⟩
   ·have e2:(y1.tmod 65536 != 0)=true:=by rw[tg.out]; simp[d2]
    have f2:(y1 % 65536 != 0)=true:=by simp[d2]
    have D2:=Zg d2;clear d2;go_wp2_with (first|(go_fit (gg.out _); rintro e u ⟨rfl,rfl⟩)|(go_fit (gj.out _); rintro e u ⟨rfl,rfl⟩))
    exact HT.out (fun h=>by obtain⟨h0,h1,h2,h3,h4,h5,h6,h7⟩:=h; exact D2.out h2) _ ⟨rfl,rfl,rfl⟩
  ·have e1:(x2 != 512)=true:=by simp[d1]
   have D1:=Zg d1;clear d1;go_wp2_with (first|(go_fit (gg.out _); rintro e u ⟨rfl,rfl⟩)|(go_fit (gj.out _); rintro e u ⟨rfl,rfl⟩))
   exact HT.out (fun h=>by obtain⟨h0,h1,h2,h3,h4,h5,h6,h7⟩:=h; exact D1.out h1) _ ⟨rfl,rfl,rfl⟩
 ·have e0:(x1 != 4096)=true:=by simp[d0]
  have D0:=Zg d0;clear d0;go_wp2_with (first|(go_fit (gg.out _); rintro e u ⟨rfl,rfl⟩)|(go_fit (gj.out _); rintro e u ⟨rfl,rfl⟩))
  exact HT.out (fun h=>by obtain⟨h0,h1,h2,h3,h4,h5,h6,h7⟩:=h; exact D0.out h0) _ ⟨rfl,rfl,rfl⟩
theorem from9 (S:ByteArray) (f:Nat->Int) (w w1:World) (P:Nat) (v1 v3:Value) (hs:S.size<=1000000) (HF:Hid (PlainAid.bt S=f)) (bh:Hid (Zm f))
 (kn:Hid (Zv S.size f=((P:Int),0))) (iC:Hid (P<4294967296)) (rP:P+264<=S.size) (jQ:Hid (ZI S.size f=Zc3 S.size f P (Zw f P)))
 (bq:Hid (w1.heap[w.heap.size]? =some (.cells (Zl 0 0 0 0 0 0) 41 (0,0)))) (dL:Hid (w1.heap[w.heap.size+1]? =some (.cells (Zl 0 0 0 0 0 0) 41 (0,0)))) (av:Hid (Below w.heap.size w w1)) (a:Act)
 (ha:Has 323 [0,1,2,3,4,5] [.string S,v1,(.pointer (some ⟨w.heap.size,0,none⟩)),v3,(.pointer (some ⟨w.heap.size+1,0,none⟩)),.int .i64 P] a):(Yc 9 UV).wp Tryz.prog (QF S f w) a w1:=by
 obtain⟨u,rfl⟩:=Yt ha;simp only[Zy,Xi,Zf,Ze];clear ha;conv=>arg 2; whnf
 have BR:(P:Int)+264<=1000000:=by omega
 have qQ:(0:Int)<=(P:Int):=by omega
 have pM:=fun W:World=>Vd S (P+48) 8 W (by omega) (by omega) (by omega);rw[HF.out,show((P+48:Nat):Int)=(P:Int)+48 by omega] at pM;have yM:=fun W:World=>Yf S (P+8) 4 W hs (by omega) (by omega);rw[HF.out,show((P+8:Nat):Int)=(P:Int)+8 by omega] at yM;have pN:=fun W:World=>Yf S (P+22) 2 W hs (by omega) (by omega);rw[HF.out,show((P+22:Nat):Int)=(P:Int)+22 by omega] at pN;have pO:=fun W:World=>Yf S (P+40) 4 W hs (by omega) (by omega);rw[HF.out,show((P+40:Nat):Int)=(P:Int)+40 by omega] at pO;have pP:=fun W:World=>Yf S (P+80) 4 W hs (by omega) (by omega);rw[HF.out,show((P+80:Nat):Int)=(P:Int)+80 by omega] at pP;have pQ:=fun W:World=>Yf S (P+84) 4 W hs (by omega) (by omega);rw[HF.out,show((P+84:Nat):Int)=(P:Int)+84 by omega] at pQ;have b1:=ZR f bh.out 8 (P+48);have b4:=ZR f bh.out 4 (P+40);have b5:=ZR f bh.out 4 (P+80);have b6:=ZR f bh.out 4 (P+84);rw[show rdF f (P+48) 8=(Zw f P).base from rfl] at pM b1;rw[show rdF f (P+8) 4=(Zw f P).stamp from rfl] at yM;rw[show rdF f (P+22) 2=(Zw f P).chars from rfl] at pN;rw[show rdF f (P+40) 4=(Zw f P).entry from rfl] at pO b4;rw[show rdF f (P+80) 4=(Zw f P).size from rfl] at pP b5;rw[show rdF f (P+84) 4=(Zw f P).headers from rfl] at pQ b6;obtain⟨h,hh⟩: ∃ h,Zw f P=h:=⟨_,rfl⟩;rw[hh] at pM yM pN pO pP pQ jQ b1 b4 b5 b6;have HH:=Zg hh;have yN:=Zg pM;have xm:=Zg yM;have uT:=Zg pN;have uU:=Zg pO;have uV:=Zg pP;have uW:=Zg pQ;clear hh pM yM pN pO pP pQ b4 b6;refine wp_seq_k ?_;intro KA jH;have fT:=Zg jH;clear jH;refine wp_cut (fun a' w'=>Has 323 [0,1,2,3,4,5,6,7] [.string S,v1,(.pointer (some ⟨w.heap.size,0,none⟩)),v3,(.pointer (some ⟨w.heap.size+1,0,none⟩)),.int .i64 P,.int .u64 h.base,.bool true] a'/\w1=w') ?_ ?_;rotate_left
 ·intro J0 K0 et om;have gf:=Zg et;clear et;go_wp2_with (go_fit (yN.out _); rintro e u ⟨rfl,rfl⟩)
  refine Met.intro ?_;refine gf.out _ _ ?_;exact⟨⟨rfl,rfl,rfl⟩,rfl⟩
 rintro a' w' ⟨dt,rfl⟩;obtain⟨u2,rfl⟩:=Yt dt;simp only[Zy,Xi,Zf,Ze];clear dt yN;refine fT.out _ _ ?_;clear fT KA;refine wp_seq_k ?_;intro KB nF;have fN:=Zg nF;clear nF;refine wp_cut (fun a' w'=> ∃ G8:Nat,Has 323 [0,1,2,3,4,5,6,7,8] [.string S,v1,(.pointer (some ⟨w.heap.size,0,none⟩)),v3,(.pointer (some ⟨w.heap.size+1,0,none⟩)),.int .i64 P,.int .u64 h.base,.bool true,(.pointer (some ⟨G8,0,none⟩))] a'/\XT w w' G8 h 0) ?_ ?_;rotate_left
 ·intro J0 K0 et om;have gf:=Zg et;clear et b1 b5;go_wp2_with (first|(go_fit (xm.out _); rintro e u ⟨rfl,rfl⟩)|(go_fit (uT.out _); rintro e u ⟨rfl,rfl⟩)|(go_fit (uU.out _); rintro e u ⟨rfl,rfl⟩)|(go_fit (uV.out _); rintro e u ⟨rfl,rfl⟩))
  refine(uW.out _).mono ?_;rintro e u ⟨rfl,rfl⟩;rename_i hK;refine hK _ _ ?_;refine Xh rfl 41 _ rfl [(0,.int .u64 h.base),(1,.int .i64 h.stamp),(2,.int .i64 h.chars),(3,.int .i64 h.entry),(4,.int .i64 h.size),(5,.int .i64 h.headers)] (Zl h.base h.stamp h.chars h.entry h.size h.headers) ?hv ?hb ?_
  case hv=>simp[go_sem]
  case hb=>exact Zd5 _ _ _ _ _ _
  have uX:(Zl h.base h.stamp h.chars h.entry h.size h.headers).size=39:=rfl;have tq:(Zl h.base h.stamp h.chars h.entry h.size h.headers).all (·.oneCell')=true:=ZC _ _ _ _ _ _;have uC:=Zg (YP.start6 h);generalize Zl h.base h.stamp h.chars h.entry h.size h.headers=C1 at uX tq uC ⊢;clear xm uT uU uV uW;have oh:=setRow_heap (w1.alloc (.cells (Zl 0 0 0 0 0 0) 41)) w1.heap.size _ C1 _ _ (heap_alloc_new _ _);have aC:Below w1.heap.size w1 ((w1.alloc (.cells (Zl 0 0 0 0 0 0) 41)).setRow w1.heap.size C1):=below_setRow ((Below.refl _ w1).alloc (Nat.le_refl _) _) (Nat.le_refl _) _;have lQ:=(Array.getElem?_eq_some_iff.1 bq.out).1;have dP:=(Array.getElem?_eq_some_iff.1 dL.out).1;have dQ:=(aC.block w.heap.size lQ).trans bq.out;have bw:=(aC.block (w.heap.size+1) dP).trans dL.out;have az:=av.out.trans (aC.mono av.out.size);have km:=Zg (show XT w ((w1.alloc (.cells (Zl 0 0 0 0 0 0) 41)).setRow w1.heap.size C1) w1.heap.size h 0 from⟨az,dP,dQ,bw,C1,oh,uC.out⟩);clear oh aC lQ dP dQ bw az uC;go_wp2_with (refine wpList_store_row rfl 41 _ _ rfl w1.heap.size C1 rfl rfl 41 _ (heap_alloc_new _ _) (by rw[uX]; rfl) (by rw[uX]; rfl) tq ?_)
  rw[Yh];refine Met.intro ?_;refine gf.out _ _ ?_;exact⟨w1.heap.size,⟨rfl,rfl,rfl⟩,km.out⟩
 rintro a' w2 ⟨G8,dt,yX⟩;obtain⟨u3,rfl⟩:=Yt dt;simp only[Zy,Xi,Zf,Ze];have km:=Zg yX;clear dt yX xm uT uU uV uW bq dL av;refine fN.out _ _ ?_;clear fN KB;obtain⟨cs,hg,hp⟩:=km.out.cs;have c4:w2.cell? ⟨G8,4,none⟩=some (.int .i64 h.size):=by rw[cell_of_row _ _ _ _ _ _ hg]; exact hp.c4
 clear hg hp;have uY:=fun W:World=>Yf S (P+56) 4 W hs (by omega) (by omega);rw[HF.out,show((P+56:Nat):Int)=(P:Int)+56 by omega] at uY;have uZ:=fun W:World=>Yf S (P+60) 4 W hs (by omega) (by omega);rw[HF.out,show((P+60:Nat):Int)=(P:Int)+60 by omega] at uZ;have gg:=Zg uY;have gj:=Zg uZ;have HE:=Zg (show ZI S.size f=Ui S.size f P h from jQ.out);clear uY uZ jQ;refine wp_seq_k ?_;intro KC yR;have BS:=Zg yR;clear yR;refine wp_cut (fun a' w'=>Has 323 [0,1,2,3,4,5,6,7,8] [.string S,v1,(.pointer (some ⟨w.heap.size,0,none⟩)),v3,(.pointer (some ⟨w.heap.size+1,0,none⟩)),.int .i64 P,.int .u64 h.base,.bool true,(.pointer (some ⟨G8,0,none⟩))] a'/\w2=w'/\XS f P h.base h.size) ?_ ?_
 ·rintro a' w' ⟨dt,rfl,hq⟩;exact BS.out _ _ (from12 S f w w2 P G8 h v1 v3 (.int .u64 h.base) (.bool true) hs HF bh kn HH iC rP (Zg (by rw[HE.out]; exact Zki hq)) km a' dt)
 intro J0 K0 et om;have gf:=Zg et;clear et BS KC;refine wp_seq_k ?_;intro K1 jG;have jF:=Zg jG;clear jG;refine r17 S w2 P G8 _ _ h.base h.size v1 _ v3 _ (.bool true) (by omega) b1.1 (by have:=b1.2; omega) b5.1 (by have:=b5.2; omega) c4 gg gj K1 _ (Zg fun aQ a' dt=> ?_) (Zg fun aQ a' dt=> ?_) _ ⟨rfl,rfl,rfl⟩
 ·obtain⟨u4,rfl⟩:=Yt dt;simp only[Zy,Xi,Zf,Ze];clear dt;have G4:ZI S.size f=6:=by rw[HE.out]; exact Zmr (by unfold XS; omega)
  have pR:=Zg G4;have bq:=Zg km.out.z0;have dL:=Zg km.out.z1;have av:=Zg km.out.bel;clear G4 aQ c4 gg gj;refine jF.out _ _ ?_;clear jF K1;go_wp2_with (first
   | (refine wpList_load_row rfl 41 _ rfl (w.heap.size+1) rfl 41 (Zl 0 0 0 0 0 0) (0,0) _ dL.out rfl rfl rfl ?_)
   | (refine wpList_store_row rfl 41 _ _ rfl w.heap.size (Zl 0 0 0 0 0 0) rfl rfl 41 _ bq.out rfl rfl (ZC _ _ _ _ _ _) ?_))
  refine bodyPost_ret (v:= .tuple #[.agg (Zl 0 0 0 0 0 0),.int .i64 6]) (Zj rfl _ _ w.heap.size 41 _ (0,0) _ _ rfl rfl (setRow_heap _ _ _ _ _ _ bq.out) rfl rfl rfl) rfl ⟨⟨_,rfl,_,by rw[pR.out],.inl ⟨by rw[pR.out]; omega,ZD⟩⟩,below_setRow av.out (Nat.le_refl _) _⟩
 ·obtain⟨u4,rfl⟩:=Yt dt;simp only[Zy,Xi,Zf,Ze];clear dt;have HQ:=Zg (show XS f P h.base h.size by unfold XS; omega);clear aQ c4 gg gj;refine jF.out _ _ ?_;clear jF K1;go_wp2_with fail
  refine Met.intro ?_;refine gf.out _ _ ?_;exact⟨⟨rfl,rfl,rfl⟩,rfl,HQ.out⟩
theorem r13 (S:ByteArray) (w3:World) (P:Nat) (x1 x2 x3:Int) (v1 v2 v3 v4:Value) (hP:(P:Int)<=1000000)
 (kO:Hid (∀ W,Calls Tryz.prog 72 #[.string S,.int .i64 ((P:Int)+20),.int .i64 2] W fun e w'=>e= .returned (.int .i64 x1)/\W=w')) (kP:Hid (∀ W,Calls Tryz.prog 72 #[.string S,.int .i64 ((P:Int)+24),.int .i64 2] W fun e w'=>e= .returned (.int .i64 x2)/\W=w')) (gz:Hid (∀ W,Calls Tryz.prog 72 #[.string S,.int .i64 ((P:Int)+132),.int .i64 4] W fun e w'=>e= .returned (.int .i64 x3)/\W=w')) (K1:Act->World->Prop) (Q1:Exit->Act->World->Prop)
 (HT:Hid (¬ (x1=240/\x2=523/\x3=16)-> ∀ a',Has 323 [0,1,2,3,4,5,75] [.string S,v1,v2,v3,v4,.int .i64 P,.bool true] a'->K1 a' w3))
 (HF:Hid ((x1=240/\x2=523/\x3=16)-> ∀ a',Has 323 [0,1,2,3,4,5,75] [.string S,v1,v2,v3,v4,.int .i64 P,.bool false] a'->K1 a' w3)) (a:Act)
 (ha:Has 323 [0,1,2,3,4,5] [.string S,v1,v2,v3,v4,.int .i64 P] a):(YF (YF (Yc 8 UV))).wp Tryz.prog (Exit.then K1 Q1) a w3:=by
 obtain⟨u,rfl⟩:=Yt ha;simp only[Zy,Xi,Zf,Ze];clear ha;conv=>arg 2; whnf
 have qQ:(0:Int)<=(P:Int):=by omega
 by_cases d0:x1=240
 ·have e0:(x1 != 240)=false:=by simp[d0]
  have D0:=Zg d0;clear d0;by_cases d1:x2=523
  ·have e1:(x2 != 523)=false:=by simp[d1]
   have D1:=Zg d1;clear d1;by_cases d2:x3=16
   ·have e2:(x3 != 16)=false:=by simp[d2]
    have D2:=Zg d2;clear d2;go_wp2_with (first|(go_fit (kO.out _); rintro e u ⟨rfl,rfl⟩)|(go_fit (kP.out _); rintro e u ⟨rfl,rfl⟩)|(go_fit (gz.out _); rintro e u ⟨rfl,rfl⟩))
    exact HF.out ⟨D0.out,D1.out,D2.out⟩ _ ⟨rfl,rfl,rfl⟩
   ·have e2:(x3 != 16)=true:=by simp[d2]
    have D2:=Zg d2;clear d2;go_wp2_with (first|(go_fit (kO.out _); rintro e u ⟨rfl,rfl⟩)|(go_fit (kP.out _); rintro e u ⟨rfl,rfl⟩)|(go_fit (gz.out _); rintro e u ⟨rfl,rfl⟩))
    exact HT.out (fun h=>by obtain⟨h0,h1,h2⟩:=h; exact D2.out h2) _ ⟨rfl,rfl,rfl⟩
  ·have e1:(x2 != 523)=true:=by simp[d1]
   have D1:=Zg d1;clear d1;go_wp2_with (first|(go_fit (kO.out _); rintro e u ⟨rfl,rfl⟩)|(go_fit (kP.out _); rintro e u ⟨rfl,rfl⟩)|(go_fit (gz.out _); rintro e u ⟨rfl,rfl⟩))
   exact HT.out (fun h=>by obtain⟨h0,h1,h2⟩:=h; exact D1.out h1) _ ⟨rfl,rfl,rfl⟩
 ·have e0:(x1 != 240)=true:=by simp[d0]
  have D0:=Zg d0;clear d0;go_wp2_with (first|(go_fit (kO.out _); rintro e u ⟨rfl,rfl⟩)|(go_fit (kP.out _); rintro e u ⟨rfl,rfl⟩)|(go_fit (gz.out _); rintro e u ⟨rfl,rfl⟩))
  exact HT.out (fun h=>by obtain⟨h0,h1,h2⟩:=h; exact D0.out h0) _ ⟨rfl,rfl,rfl⟩
theorem from8 (S:ByteArray) (f:Nat->Int) (w w1:World) (P:Nat) (v1 v3:Value) (hs:S.size<=1000000) (HF:Hid (PlainAid.bt S=f)) (bh:Hid (Zm f))
 (kn:Hid (Zv S.size f=((P:Int),0))) (iC:Hid (P<4294967296)) (rP:P+264<=S.size) (oc:Hid (rdF f (P+4) 2=34404))
 (bq:Hid (w1.heap[w.heap.size]? =some (.cells (Zl 0 0 0 0 0 0) 41 (0,0)))) (dL:Hid (w1.heap[w.heap.size+1]? =some (.cells (Zl 0 0 0 0 0 0) 41 (0,0)))) (av:Hid (Below w.heap.size w w1))
 (K Ki:Act->World->Prop) (hK: ∀ a w',(Yc 9 UV).wp Tryz.prog (QF S f w) a w'->K a w') (G9: ∀ a w',(Yc 1 (YF (Yc 8 UV))).wp Tryz.prog (Exit.then K (QF S f w)) a w'->Ki a w') (a:Act)
 (ha:Has 323 [0,1,2,3,4,5] [.string S,v1,(.pointer (some ⟨w.heap.size,0,none⟩)),v3,(.pointer (some ⟨w.heap.size+1,0,none⟩)),.int .i64 P] a):(YF (YF (Yc 8 UV))).wp Tryz.prog (Exit.then Ki (Exit.then K (QF S f w))) a w1:=by
 have HK:=Zg hK;have DQ:=Zg G9;clear hK G9;have va:=fun W:World=>Yf S (P+20) 2 W hs (by omega) (by omega);rw[HF.out,show((P+20:Nat):Int)=(P:Int)+20 by omega] at va;have vb:=fun W:World=>Yf S (P+24) 2 W hs (by omega) (by omega);rw[HF.out,show((P+24:Nat):Int)=(P:Int)+24 by omega] at vb;have pS:=fun W:World=>Yf S (P+132) 4 W hs (by omega) (by omega);rw[HF.out,show((P+132:Nat):Int)=(P:Int)+132 by omega] at pS;have kO:=Zg va;have kP:=Zg vb;have gz:=Zg pS;clear va vb pS;refine r13 S w1 P _ _ _ v1 _ v3 _ (by omega) kO kP gz Ki _ (Zg fun aQ a' dt=> ?_) (Zg fun aQ a' dt=> ?_) a ha
 ·obtain⟨u4,rfl⟩:=Yt dt;simp only[Zy,Xi,Zf,Ze];clear dt ha;have ho:Qz f P=5:=by unfold Qz; rw[if_neg (fun h=>h oc.out),if_pos (by omega)]
  have jQ:=Zg (Zkh kn.out ho (by omega));clear ho aQ kO kP gz;refine DQ.out _ _ ?_;conv=>arg 2; whnf
  clear HK DQ;go_wp2_with (first
   | (refine wpList_load_row rfl 41 _ rfl (w.heap.size+1) rfl 41 (Zl 0 0 0 0 0 0) (0,0) _ dL.out rfl rfl rfl ?_)
   | (refine wpList_store_row rfl 41 _ _ rfl w.heap.size (Zl 0 0 0 0 0 0) rfl rfl 41 _ bq.out rfl rfl (ZC _ _ _ _ _ _) ?_))
  refine bodyPost_ret (v:= .tuple #[.agg (Zl 0 0 0 0 0 0),.int .i64 5]) (Zj rfl _ _ w.heap.size 41 _ (0,0) _ _ rfl rfl (setRow_heap _ _ _ _ _ _ bq.out) rfl rfl rfl) rfl ⟨⟨_,rfl,_,by rw[jQ.out],.inl ⟨by rw[jQ.out]; omega,ZD⟩⟩,below_setRow av.out (Nat.le_refl _) _⟩
 ·obtain⟨u4,rfl⟩:=Yt dt;simp only[Zy,Xi,Zf,Ze];clear dt ha;have ho:Qz f P=0:=by unfold Qz; rw[if_neg (fun h=>h oc.out),if_neg (by omega)]
  have jQ:=Zg (Zot kn.out ho);clear ho aQ kO kP gz;refine DQ.out _ _ ?_;conv=>arg 2; whnf
  refine wp_cond_false rfl ?_;refine wp_skip ?_;refine HK.out _ _ ?_;exact from9 S f w w1 P v1 v3 hs HF bh kn iC rP jQ bq dL av _ ⟨rfl,rfl,rfl⟩
theorem Zle {n:Nat} {f:Nat->Int} (hf:Zm f) (h: ¬ n<64) (c:f 0=77/\f 1=90) :
 (rdF f 60 4<64\/rdF f 60 4 % 4≠0\/(n:Int)<rdF f 60 4+264->Zv n f=(0,2)) /\
 (¬ (rdF f 60 4<64\/rdF f 60 4 % 4≠0\/(n:Int)<rdF f 60 4+264)->Zv n f=if f (rdF f 60 4).toNat≠80\/f ((rdF f 60 4).toNat+1)≠69\/f ((rdF f 60 4).toNat+2)≠0\/f ((rdF f 60 4).toNat+3)≠0 then(0,3) else(rdF f 60 4,0)):=by
 refine⟨fun k=> ?_,fun k=> ?_⟩
 ·unfold Zv; rw[if_neg h,if_neg (by omega),if_pos k]
 ·unfold Zv; rw[if_neg h,if_neg (by omega),if_neg k]
theorem VP (S:ByteArray) (w:World) (hs:S.size<=1000000) :
 Calls Tryz.prog 26 #[.string S] w fun e w'=>(∃ v,e= .returned v/\Zog w' S.size (PlainAid.bt S) v)/\Below w.heap.size w w':=by
 have bO:=((Below.refl w.heap.size w).alloc (Nat.le_refl _) (.cells (Zl 0 0 0 0 0 0) 41)).alloc (by simp) (.cells (Zl 0 0 0 0 0 0) 41);have bw:=setRow_heap ((w.alloc (.cells (Zl 0 0 0 0 0 0) 41)).alloc (.cells (Zl 0 0 0 0 0 0) 41)) (w.heap.size+1) _ (Zl 0 0 0 0 0 0) _ _ (heap_alloc2_new _ _ _);have dQ:(((w.alloc (.cells (Zl 0 0 0 0 0 0) 41)).alloc (.cells (Zl 0 0 0 0 0 0) 41)).setRow (w.heap.size+1) (Zl 0 0 0 0 0 0)).heap[w.heap.size]? =some (.cells (Zl 0 0 0 0 0 0) 41 (0,0)):=by
  rw[setRow_other _ _ _ _ (by omega)]; exact heap_alloc2_old _ _ _
 have az:=below_setRow bO (show w.heap.size<=w.heap.size+1 by omega) (Zl 0 0 0 0 0 0);clear bO;have bq:=Zg dQ;have dL:=Zg bw;have av:=Zg az;clear dQ bw az;have bh:=Zg (Xx S);obtain⟨f,hf⟩: ∃ f,PlainAid.bt S=f:=⟨_,rfl⟩;have HF:=Zg hf;rw[hf] at bh ⊢;clear hf;go_enter Tryz.func26,Tryz.ntmps26;by_cases c0:S.size<64
 ·have hE:ZI S.size f=2:=by
   have hb:Zv S.size f=(0,2):=by unfold Zv; rw[if_pos c0]
   unfold ZI; rw[if_pos (by rw[hb]; simp),hb]
  have HE:=Zg hE;clear hE;go_wp2_with (first
   | (refine wpList_store_row rfl 41 _ _ rfl (w.heap.size+1) (Zl 0 0 0 0 0 0) rfl rfl 41 _ (heap_alloc2_new _ _ _) rfl rfl (ZC _ _ _ _ _ _) ?_; rw[Yh]; generalize ((w.alloc (.cells (Zl 0 0 0 0 0 0) 41)).alloc (.cells (Zl 0 0 0 0 0 0) 41)).setRow (w.heap.size+1) (Zl 0 0 0 0 0 0)=w1 at *)
   | (refine wpList_load_row rfl 41 _ rfl (w.heap.size+1) rfl 41 (Zl 0 0 0 0 0 0) (0,0) _ dL.out rfl rfl rfl ?_)
   | (refine wpList_store_row rfl 41 _ _ rfl w.heap.size (Zl 0 0 0 0 0 0) rfl rfl 41 _ bq.out rfl rfl (ZC _ _ _ _ _ _) ?_))
  refine bodyPost_ret (v:= .tuple #[.agg (Zl 0 0 0 0 0 0),.int .i64 2]) (Zj rfl _ _ w.heap.size 41 _ (0,0) _ _ rfl rfl (setRow_heap _ _ _ _ _ _ bq.out) rfl rfl rfl) rfl ⟨⟨_,rfl,_,by rw[HE.out],.inl ⟨by rw[HE.out]; omega,ZD⟩⟩,below_setRow av.out (Nat.le_refl _) _⟩
 ·by_cases c1:f 0=77/\f 1=90
  ·have G5:((S.extract 0 2).toList == [77,90])=true:=(Zjl S (by omega)).2 (by rw[HF.out]; exact c1);have yO:decide ((S.size:Int)<64)=false:=decide_eq_false (by omega);have HI:=Zg (fun W=>Yf S 60 4 W hs (by omega) (by omega));rw[HF.out] at HI;have xG:=ZR f bh.out 4 60;go_wp2_with (first
    | (refine wpList_store_row rfl 41 _ _ rfl (w.heap.size+1) (Zl 0 0 0 0 0 0) rfl rfl 41 _ (heap_alloc2_new _ _ _) rfl rfl (ZC _ _ _ _ _ _) ?_; rw[Yh]; generalize ((w.alloc (.cells (Zl 0 0 0 0 0 0) 41)).alloc (.cells (Zl 0 0 0 0 0 0) 41)).setRow (w.heap.size+1) (Zl 0 0 0 0 0 0)=w1 at *))
   refine(HI.out _).mono ?_;rintro e u ⟨rfl,rfl⟩;clear HI G5 yO;have hP:=Zle bh.out (show ¬ S.size<64 from c0) c1;obtain⟨P,kR⟩: ∃ P:Nat,rdF f 60 4=P:=⟨(rdF f 60 4).toNat,by omega⟩;rw[kR] at hP xG ⊢;have BV:=Zg kR;clear kR;have yP:P<4294967296:=by have:=xG.2; omega
   have iC:=Zg yP;clear xG yP;by_cases c2:(P:Int)<64\/(P:Int) % 4≠0\/(S.size:Int)<P+264
   ·have hE:ZI S.size f=2:=by
     have hb:=hP.1 c2;unfold ZI; rw[if_pos (by rw[hb]; simp),hb]
    have HE:=Zg hE;clear hE hP;have HN:=Zg (fun(h:(S.size:Int)<P+264) (W:World)=>Zby S.size P 264 W (by omega) (by omega) (by omega));rcases(by omega:(P:Int)<64\/(64<=(P:Int)/\(P:Int) % 4≠0)\/(64<=(P:Int)/\(P:Int) % 4=0/\(S.size:Int)<P+264)) with h|⟨h,h'⟩|⟨h,h',BZ⟩
    ·clear c2;go_wp2_with (first
      | (refine wpList_load_row rfl 41 _ rfl (w.heap.size+1) rfl 41 (Zl 0 0 0 0 0 0) (0,0) _ dL.out rfl rfl rfl ?_)
      | (refine wpList_store_row rfl 41 _ _ rfl w.heap.size (Zl 0 0 0 0 0 0) rfl rfl 41 _ bq.out rfl rfl (ZC _ _ _ _ _ _) ?_))
     refine bodyPost_ret (v:= .tuple #[.agg (Zl 0 0 0 0 0 0),.int .i64 2]) (Zj rfl _ _ w.heap.size 41 _ (0,0) _ _ rfl rfl (setRow_heap _ _ _ _ _ _ bq.out) rfl rfl rfl) rfl ⟨⟨_,rfl,_,by rw[HE.out],.inl ⟨by rw[HE.out]; omega,ZD⟩⟩,below_setRow av.out (Nat.le_refl _) _⟩
    ·clear c2;go_wp2_with (first
      | (refine wpList_load_row rfl 41 _ rfl (w.heap.size+1) rfl 41 (Zl 0 0 0 0 0 0) (0,0) _ dL.out rfl rfl rfl ?_)
      | (refine wpList_store_row rfl 41 _ _ rfl w.heap.size (Zl 0 0 0 0 0 0) rfl rfl 41 _ bq.out rfl rfl (ZC _ _ _ _ _ _) ?_))
     refine bodyPost_ret (v:= .tuple #[.agg (Zl 0 0 0 0 0 0),.int .i64 2]) (Zj rfl _ _ w.heap.size 41 _ (0,0) _ _ rfl rfl (setRow_heap _ _ _ _ _ _ bq.out) rfl rfl rfl) rfl ⟨⟨_,rfl,_,by rw[HE.out],.inl ⟨by rw[HE.out]; omega,ZD⟩⟩,below_setRow av.out (Nat.le_refl _) _⟩
    ·have fH:=Zg (HN.out BZ);clear c2 BZ;go_wp2_with (first
      | (go_fit (fH.out _); rintro e u ⟨rfl,rfl⟩)
      | (refine wpList_load_row rfl 41 _ rfl (w.heap.size+1) rfl 41 (Zl 0 0 0 0 0 0) (0,0) _ dL.out rfl rfl rfl ?_)
      | (refine wpList_store_row rfl 41 _ _ rfl w.heap.size (Zl 0 0 0 0 0 0) rfl rfl 41 _ bq.out rfl rfl (ZC _ _ _ _ _ _) ?_))
     refine bodyPost_ret (v:= .tuple #[.agg (Zl 0 0 0 0 0 0),.int .i64 2]) (Zj rfl _ _ w.heap.size 41 _ (0,0) _ _ rfl rfl (setRow_heap _ _ _ _ _ _ bq.out) rfl rfl rfl) rfl ⟨⟨_,rfl,_,by rw[HE.out],.inl ⟨by rw[HE.out]; omega,ZD⟩⟩,below_setRow av.out (Nat.le_refl _) _⟩
   ·have hb:=hP.2 c2;have p0:64<=(P:Int):=by omega
    have p1:(P:Int) % 4=0:=by omega
    have p2:P+264<=S.size:=by omega
    rw[Int.toNat_natCast] at hb;have HN:=Zg (fun(W:World)=>Vp S.size P 264 W (by omega) (by omega) (by omega) (by omega));have ht:((P:Int)+4).toNat=P+4:=by omega
    have t0:(0:Int)<=(P:Int):=by omega
    have t1:(P:Int)<=(P:Int)+4:=by omega
    have t2:(P:Int)+4<=(S.size:Int):=by omega
    have t3:(0:Int)<=(P:Int)+4:=by omega
    have t4:(P:Int)<=(S.size:Int):=by omega
    have t5:IntKind.i64.wrap ((P:Int)+4)=(P:Int)+4:=IntWalk.i64_in _ ⟨by omega,by omega⟩;clear c2 hP;by_cases c3:f P=80/\f (P+1)=69/\f (P+2)=0/\f (P+3)=0
    ·have vc:((S.extract P (P+4)).toList == [80,69,0,0])=true:=(Zjm S P (by omega)).2 (by rw[HF.out]; exact c3);rw[if_neg (by omega)] at hb;have kn:=Zg hb;clear hb c3;go_wp2_with (go_fit (HN.out _); rintro e u ⟨rfl,rfl⟩)
     have yQ:=Zg (Yf S (P+4) 2 w1 hs (by omega) (by omega));rw[HF.out,show((P+4:Nat):Int)=(P:Int)+4 by omega] at yQ;have az:(Zv S.size f).1=P:=by rw[kn.out]
     have aC:(Zv S.size f).2=0:=by rw[kn.out]
     have hE:ZI S.size f=ZI S.size f:=rfl;conv at hE=>rhs; unfold ZI
     rw[if_neg (by omega),az,Int.toNat_natCast] at hE;have HE:=Zg hE;clear hE az aC vc t5;by_cases c4:rdF f (P+4) 2=34404
     ·rw[c4] at yQ;refine yQ.out.mono ?_;rintro e u ⟨rfl,rfl⟩;have oc:=Zg c4;clear yQ HN t0 t1 t2 t3 t4 ht c4 HE;go_upto_region 13 with fail
      exact from8 S f w w1 P _ _ hs HF bh kn iC p2 oc bq dL av _ _ (by assumption) (by assumption) _ ⟨rfl,rfl,rfl⟩
     ·have ho:Qz f P=4:=by unfold Qz; rw[if_pos c4]
      have G6:ZI S.size f=4:=by rw[HE.out,ho]; simp
      have gW:=Zg G6;have e4:(rdF f (P+4) 2 != 34404)=true:=by simpa using c4
      clear G6 ho c4;generalize rdF f (P+4) 2=z at *;go_wp2_with (first
       | (go_fit yQ.out; rintro e u ⟨rfl,rfl⟩)
       | (refine wpList_load_row rfl 41 _ rfl (w.heap.size+1) rfl 41 (Zl 0 0 0 0 0 0) (0,0) _ dL.out rfl rfl rfl ?_)
       | (refine wpList_store_row rfl 41 _ _ rfl w.heap.size (Zl 0 0 0 0 0 0) rfl rfl 41 _ bq.out rfl rfl (ZC _ _ _ _ _ _) ?_))
      refine bodyPost_ret (v:= .tuple #[.agg (Zl 0 0 0 0 0 0),.int .i64 4]) (Zj rfl _ _ w.heap.size 41 _ (0,0) _ _ rfl rfl (setRow_heap _ _ _ _ _ _ bq.out) rfl rfl rfl) rfl ⟨⟨_,rfl,_,by rw[gW.out],.inl ⟨by rw[gW.out]; omega,ZD⟩⟩,below_setRow av.out (Nat.le_refl _) _⟩
    ·have vc:((S.extract P (P+4)).toList == [80,69,0,0])=false:=by
      rw[Bool.eq_false_iff];intro h;exact c3 (by have:=(Zjm S P (by omega)).1 h; rw[HF.out] at this; exact this)
     rw[if_pos (by omega)] at hb;have hE:ZI S.size f=3:=by unfold ZI; rw[if_pos (by rw[hb]; simp),hb]
     have HE:=Zg hE;clear hE c3 hb;go_wp2_with (first
      | (go_fit (HN.out _); rintro e u ⟨rfl,rfl⟩)
      | (refine wpList_load_row rfl 41 _ rfl (w.heap.size+1) rfl 41 (Zl 0 0 0 0 0 0) (0,0) _ dL.out rfl rfl rfl ?_)
      | (refine wpList_store_row rfl 41 _ _ rfl w.heap.size (Zl 0 0 0 0 0 0) rfl rfl 41 _ bq.out rfl rfl (ZC _ _ _ _ _ _) ?_))
     refine bodyPost_ret (v:= .tuple #[.agg (Zl 0 0 0 0 0 0),.int .i64 3]) (Zj rfl _ _ w.heap.size 41 _ (0,0) _ _ rfl rfl (setRow_heap _ _ _ _ _ _ bq.out) rfl rfl rfl) rfl ⟨⟨_,rfl,_,by rw[HE.out],.inl ⟨by rw[HE.out]; omega,ZD⟩⟩,below_setRow av.out (Nat.le_refl _) _⟩
  ·have G5:((S.extract 0 2).toList == [77,90])=false:=by
    rw[Bool.eq_false_iff];intro h;exact c1 (by have:=(Zjl S (by omega)).1 h; rw[HF.out] at this; exact this)
   have yO:decide ((S.size:Int)<64)=false:=decide_eq_false (by omega);have hE:ZI S.size f=3:=by
    have hb:Zv S.size f=(0,3):=by unfold Zv; rw[if_neg c0,if_pos (by omega)]
    unfold ZI; rw[if_pos (by rw[hb]; simp),hb]
   have HE:=Zg hE;clear hE c1;go_wp2_with (first
    | (refine wpList_store_row rfl 41 _ _ rfl (w.heap.size+1) (Zl 0 0 0 0 0 0) rfl rfl 41 _ (heap_alloc2_new _ _ _) rfl rfl (ZC _ _ _ _ _ _) ?_; rw[Yh]; generalize ((w.alloc (.cells (Zl 0 0 0 0 0 0) 41)).alloc (.cells (Zl 0 0 0 0 0 0) 41)).setRow (w.heap.size+1) (Zl 0 0 0 0 0 0)=w1 at *)
    | (refine wpList_load_row rfl 41 _ rfl (w.heap.size+1) rfl 41 (Zl 0 0 0 0 0 0) (0,0) _ dL.out rfl rfl rfl ?_)
    | (refine wpList_store_row rfl 41 _ _ rfl w.heap.size (Zl 0 0 0 0 0 0) rfl rfl 41 _ bq.out rfl rfl (ZC _ _ _ _ _ _) ?_))
   refine bodyPost_ret (v:= .tuple #[.agg (Zl 0 0 0 0 0 0),.int .i64 3]) (Zj rfl _ _ w.heap.size 41 _ (0,0) _ _ rfl rfl (setRow_heap _ _ _ _ _ _ bq.out) rfl rfl rfl) rfl ⟨⟨_,rfl,_,by rw[HE.out],.inl ⟨by rw[HE.out]; omega,ZD⟩⟩,below_setRow av.out (Nat.le_refl _) _⟩
end Go.Proofs.YtplgdpjbkdagfaaGreat
