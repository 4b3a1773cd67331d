import Derived.Test.YtplgdpjbkdagfaaGreatZPeV
import Derived.Test.YtplgdpjbkdagfaaGreatZExpD
import Derived.Test.YtplgdpjbkdagfaaGreatZOwnT
import Derived.Test.YtplgdpjbkdagfaaGreatZStoreRow
import Derived.Deep.Cut
import Derived.Deep.CutRange
import Derived.Test.YtplgdpjbkdagfaaGreatZRelParse
namespace Go.Proofs.YtplgdpjbkdagfaaGreat
open List renaming getElem?_toArray→Za, getElem?_cons_succ→Zb, getElem?_cons_zero→Zc, setIfInBounds_toArray→Zd, set_cons_zero→Ze, set_cons_succ→Zf
open Lib renaming hid→Zg
open Go.ChangeShapes Go.WideShapes Go.ChangeAt Go.RowKit
set_option linter.unusedVariables false
set_option linter.unusedSimpArgs false
set_option maxRecDepth 100000
theorem Qd {w:World} {b o:Nat} {v:Value} (h:w.cell? ⟨b,o,none⟩=some v):b<w.heap.size:=by
 rcases Nat.lt_or_ge b w.heap.size with k|k
 ·exact k
 ·simp[World.cell?,Array.getElem?_eq_none k] at h
def ImK (v:Za7):ByteArray × Nat × Nat × Nat × List (List Value):=(txt v.dll,v.iat,v.stamp,v.handle,v.syms.map Xu)
theorem XE (a b:Za7):ImK a=ImK b↔txt a.dll=txt b.dll∧a.iat=b.iat∧a.stamp=b.stamp∧a.handle=b.handle∧a.syms.map Xu=b.syms.map Xu:=by
 simp[ImK]
def Zfd (w:World) (A:Option Addr) (l:List XT):Prop:=SlT YO 5 w A l∧l.length≤1000000∧ ∀ y∈l,SlT Xu 3 w y.A y.v.syms∧y.v.syms.length≤1000000
theorem Zfd.below {w w':World} {A:Option Addr} {l:List XT} (h:Zfd w A l) (hb:Below w.heap.size w w'):Zfd w' A l:=⟨h.1.below hb,h.2.1,fun y hy=>⟨(h.2.2 y hy).1.below hb,(h.2.2 y hy).2⟩⟩
theorem SlT.at5 {w:World} {A:Option Addr} {l:List XT} (h:SlT YO 5 w A l) {i:Nat} (hi:i<l.length): ∃ b o,A=some ⟨b,o,none⟩∧w.cell? ⟨b,o+i * 5,none⟩=some (.string (txt l[i].v.dll))∧w.cell? ⟨b,o+i * 5+1,none⟩=some (.int .i64 l[i].v.iat)∧w.cell? ⟨b,o+i * 5+2,none⟩=some (.int .i64 l[i].v.stamp)∧w.cell? ⟨b,o+i * 5+3,none⟩=some (.int .i64 l[i].v.handle)∧w.cell? ⟨b,o+i * 5+4,none⟩=some (.slice l[i].A l[i].v.syms.length l[i].c):=by
 rcases h with h|⟨b,o,rfl,_,hc⟩
 ·rw[h] at hi; simp at hi
 ·exact⟨b,o,rfl,hc i hi 0 _ rfl,hc i hi 1 _ rfl,hc i hi 2 _ rfl,hc i hi 3 _ rfl,hc i hi 4 _ rfl⟩
set_option maxHeartbeats 4000000 in
theorem VD (A A':Option Addr) (l l':List XT) (c c':Nat) (w:World) (h:Zfd w A l) (h':Zfd w A' l') :
 Calls Tryz.prog 45 #[.slice A l.length c,.slice A' l'.length c'] w fun e u=>VL (l.map (fun y=>ImK y.v)=l'.map (fun y=>ImK y.v)) e∧Below w.heap.size w u:=by
 have H:=Zg h
 have H':=Zg h'
 have hl1:=h.2.1
 clear h h'
 by_cases cl:l.length=l'.length
 rotate_left 1
 ·have n1:((l.length:Int) != (l'.length:Int))=true:=by rw[bne_iff_ne]; omega
  have HQ:=Zg cl
  clear cl
  go_enter Tryz.func45,Tryz.ntmps45
  go_wp2_with fail
  go_ret
  exact⟨.no fun k=>HQ.out (by have:=congrArg List.length k; simpa using this),Below.refl _ _⟩
 have n1:((l.length:Int) != (l'.length:Int))=false:=by rw[bne_eq_false_iff_eq]; omega
 have HLL:=Zg cl
 clear cl
 go_enter Tryz.func45,Tryz.ntmps45
 go_wp2_with fail
 clear n1
 go_loopw [5] (fun v5 wr=> ∃ i:Nat,i≤l.length∧v5= .int .i64 i∧(∀(j:Nat) (h1:j<l.length) (h2:j<l'.length),j<i→ImK l[j].v=ImK l'[j].v)∧Below w.heap.size w wr) (fun v5 _=>l.length - (intOf v5).toNat)
 case atStart=>exact⟨0,by omega,rfl,fun j _ _ h=>by omega,Below.refl _ _⟩
 case round =>
  obtain⟨i,hi,rfl,hall,hbw⟩:=hrel
  have HALL:=Zg hall
  have HB:=Zg hbw
  clear hall hbw
  by_cases hlt:i<l.length
  ·have hlt':(i:Int)<l.length:=by omega
   have hlt2:i<l'.length:=by have:=HLL.out; omega
   have hlt2':(i:Int)<l'.length:=by omega
   obtain⟨bb,o,rfl,d0,d1,d2,d3,d4⟩:=(H.out.below HB.out).1.at5 hlt
   obtain⟨bb',o',rfl,e0,e1,e2,e3,e4⟩:=(H'.out.below HB.out).1.at5 hlt2
   have hsy:=(H.out.below HB.out).2.2 l[i] (List.getElem_mem hlt)
   have hsz:=(H'.out.below HB.out).2.2 l'[i] (List.getElem_mem hlt2)
   obtain⟨y,hy⟩: ∃ y,l[i]=y:=⟨_,rfl⟩
   obtain⟨z,hz⟩: ∃ y,l'[i]=y:=⟨_,rfl⟩
   rw[hy] at d0 d1 d2 d3 d4 hsy
   rw[hz] at e0 e1 e2 e3 e4 hsz
   have HLB:=Zg (show bb<wr.heap.size∧bb'<wr.heap.size from⟨(Qd d0),(Qd e0)⟩)
   have HSY:=Zg hsy
   have HSZ:=Zg hsz
   have HYZ:=Zg (And.intro hy hz)
   clear hsy hsz hy hz
   go_upto_region 6 with(fail)
   go_cut [6,7] from 18 to 80 (fun v6 v7 wc=> ∃ bx bz,v6= .pointer (some ⟨bx,0,none⟩)∧v7= .pointer (some ⟨bz,0,none⟩)∧wc.heap[bx]? =some (.cells (YO y).toArray 78 (0,0))∧wc.heap[bz]? =some (.cells (YO z).toArray 78 (0,0))∧Below wr.heap.size wr wc)
   case first =>
    rename_i J1 K1 hJ1 hK1
    have HJ1:=Zg hJ1
    have HK1:=Zg hK1
    clear hJ1 hK1
    have hry:wr.rangeAt bb (o+i * 5) (YO y):=fun j v hj=>by
     rcases j with _|_|_|_|_|j
     ·simp[YO] at hj; subst hj; exact d0
     ·simp[YO] at hj; subst hj; exact d1
     ·simp[YO] at hj; subst hj; exact d2
     ·simp[YO] at hj; subst hj; exact d3
     ·simp[YO] at hj; subst hj; exact d4
     ·simp[YO] at hj
    have hrz:wr.rangeAt bb' (o'+i * 5) (YO z):=fun j v hj=>by
     rcases j with _|_|_|_|_|j
     ·simp[YO] at hj; subst hj; exact e0
     ·simp[YO] at hj; subst hj; exact e1
     ·simp[YO] at hj; subst hj; exact e2
     ·simp[YO] at hj; subst hj; exact e3
     ·simp[YO] at hj; subst hj; exact e4
     ·simp[YO] at hj
    have HRY:=Zg (fun W (hW:Below wr.heap.size wr W)=>show W.rangeAt bb (o+i * 5) (YO y) from fun j v hj=>(hW.cell (p:=⟨bb,o+i * 5+j,none⟩) HLB.out.1).trans (hry j v hj))
    have HRZ:=Zg (fun W (hW:Below wr.heap.size wr W)=>show W.rangeAt bb' (o'+i * 5) (YO z) from fun j v hj=>(hW.cell (p:=⟨bb',o'+i * 5+j,none⟩) HLB.out.2).trans (hrz j v hj))
    clear hry hrz d0 d1 d2 d3 d4 e0 e1 e2 e3 e4
    have HS:=Zg (show Below wr.heap.size wr wr.drew from(Below.refl _ _).drew)
    refine wp_region_noPanic ?_
    refine Zw (fun W=>Below wr.heap.size wr W) (fun _=>True) 10 (by kernel_rfl) ?_
    refine wT (i:=0) (oi:= ?_) (v:= ?_) ?_ ?_ HS.out ?_
    rotate_left 2
    ·(simp only[Za,Zb,Zc]; rfl)
    ·(first|exact Or.inr ⟨by rfl,rfl⟩|(refine Or.inl ⟨by rfl,?_⟩; intro W hSw; clear hSw; go_simp; try with_reducible rfl))
    try simp only[Act.put,Zd,Ze,Zf]
    refine wT (i:=1) (oi:= ?_) (v:= ?_) ?_ ?_ HS.out ?_
    rotate_left 2
    ·(simp only[Za,Zb,Zc]; rfl)
    ·(first|exact Or.inr ⟨by rfl,rfl⟩|(refine Or.inl ⟨by rfl,?_⟩; intro W hSw; clear hSw; go_simp; try with_reducible rfl))
    try simp only[Act.put,Zd,Ze,Zf]
    refine wT (i:=2) (oi:= ?_) (v:= ?_) ?_ ?_ HS.out ?_
    rotate_left 2
    ·(simp only[Za,Zb,Zc]; rfl)
    ·(first|exact Or.inr ⟨by rfl,rfl⟩|(refine Or.inl ⟨by rfl,?_⟩; intro W hSw; clear hSw; go_simp; try with_reducible rfl))
    try simp only[Act.put,Zd,Ze,Zf]
    refine wT (i:=3) (oi:= ?_) (v:= ?_) ?_ ?_ HS.out ?_
    rotate_left 2
    ·(simp only[Za,Zb,Zc]; rfl)
    ·refine yieldsIf_load_mid ?_ 78 (.tmp 22) ?_ bb (o+i * 5) ?_ (YO y) _ ?_ Tryz.underlying78 ?_ ?_
     ·rfl
     ·rfl
     ·first|rfl|simp[Act.eval]
     ·exact fun W hW=>HRY.out W hW
     ·rfl
     ·rfl
    try simp only[Act.put,Zd,Ze,Zf]
    refine wT (i:=4) (oi:= ?_) (v:= ?_) ?_ ?_ HS.out ?_
    rotate_left 2
    ·(simp only[Za,Zb,Zc]; rfl)
    ·(first|exact Or.inr ⟨by rfl,rfl⟩|(refine Or.inl ⟨by rfl,?_⟩; intro W hSw; clear hSw; go_simp; try with_reducible rfl))
    try simp only[Act.put,Zd,Ze,Zf]
    refine wT (i:=5) (oi:= ?_) (v:= ?_) ?_ ?_ HS.out ?_
    rotate_left 2
    ·(simp only[Za,Zb,Zc]; rfl)
    ·(first|exact Or.inr ⟨by rfl,rfl⟩|(refine Or.inl ⟨by rfl,?_⟩; intro W hSw; clear hSw; go_simp; try with_reducible rfl))
    try simp only[Act.put,Zd,Ze,Zf]
    refine wT (i:=6) (oi:= ?_) (v:= ?_) ?_ ?_ HS.out ?_
    rotate_left 2
    ·(simp only[Za,Zb,Zc]; rfl)
    ·(first|exact Or.inr ⟨by rfl,rfl⟩|(refine Or.inl ⟨by rfl,?_⟩; intro W hSw; clear hSw; go_simp; try with_reducible rfl))
    try simp only[Act.put,Zd,Ze,Zf]
    refine wT (i:=7) (oi:= ?_) (v:= ?_) ?_ ?_ HS.out ?_
    rotate_left 2
    ·(simp only[Za,Zb,Zc]; rfl)
    ·refine yieldsIf_load_mid ?_ 78 (.tmp 26) ?_ bb' (o'+i * 5) ?_ (YO z) _ ?_ Tryz.underlying78 ?_ ?_
     ·rfl
     ·rfl
     ·first|rfl|simp[Act.eval]
     ·exact fun W hW=>HRZ.out W hW
     ·rfl
     ·rfl
    try simp only[Act.put,Zd,Ze,Zf]
    refine Wk (i:=8) (j:=9) (by kernel_rfl) rfl rfl (fun K hK=> ?_) (fun K hK=> ?_)
    ·go_simp
     have HS2:=Zg (show Below wr.heap.size wr ((wr.alloc (.cells #[.string ⟨#[]⟩,.int .i64 0,.int .i64 0,.int .i64 0,.slice none 0 0] 78)).drew) from HS.out.alloc (Nat.le_refl _) _)
     have HA2:=Zg (show((wr.alloc (.cells #[.string ⟨#[]⟩,.int .i64 0,.int .i64 0,.int .i64 0,.slice none 0 0] 78)).drew).heap[wr.heap.size]? =some (.cells #[.string ⟨#[]⟩,.int .i64 0,.int .i64 0,.int .i64 0,.slice none 0 0] 78 (0,0)) from heap_alloc_new wr.drew _)
     have HSA:=Zg (show((wr.alloc (.cells #[.string ⟨#[]⟩,.int .i64 0,.int .i64 0,.int .i64 0,.slice none 0 0] 78)).drew).heap.size=wr.heap.size+1 from by simp)
     generalize (wr.alloc (.cells #[.string ⟨#[]⟩,.int .i64 0,.int .i64 0,.int .i64 0,.slice none 0 0] 78)).drew=wa at *
     refine hK.out _ _ HS2.out (fun _=>trivial) ?_
     clear hK K
     try simp only[Act.put,Zd,Ze,Zf]
     refine Zk (i:=9) (o:= ?_) (by kernel_rfl) ?_ (fun K hK=> ?_)
     rotate_left 1
     ·(simp only[Za,Zb,Zc]; rfl)
     go_simp
     have HS3:=Zg (show Below wr.heap.size wr (wa.alloc (.cells #[.string ⟨#[]⟩,.int .i64 0,.int .i64 0,.int .i64 0,.slice none 0 0] 78)) from HS2.out.alloc HS2.out.size _)
     have HA3:=Zg (show(wa.alloc (.cells #[.string ⟨#[]⟩,.int .i64 0,.int .i64 0,.int .i64 0,.slice none 0 0] 78)).heap[wr.heap.size]? =some (.cells #[.string ⟨#[]⟩,.int .i64 0,.int .i64 0,.int .i64 0,.slice none 0 0] 78 (0,0)) from(Below.heap_alloc _ _ _ (Zi HA2.out)).trans HA2.out)
     have HB3:=Zg (show(wa.alloc (.cells #[.string ⟨#[]⟩,.int .i64 0,.int .i64 0,.int .i64 0,.slice none 0 0] 78)).heap[wr.heap.size+1]? =some (.cells #[.string ⟨#[]⟩,.int .i64 0,.int .i64 0,.int .i64 0,.slice none 0 0] 78 (0,0)) from by
      have h:=heap_alloc_new wa (.cells #[.string ⟨#[]⟩,.int .i64 0,.int .i64 0,.int .i64 0,.slice none 0 0] 78)
      rwa [HSA.out] at h)
     have hsa:=HSA.out
     rw[hsa]
     clear hsa
     generalize wa.alloc (.cells #[.string ⟨#[]⟩,.int .i64 0,.int .i64 0,.int .i64 0,.slice none 0 0] 78)=wb at *
     obtain⟨ga,hga⟩: ∃ q,wr.heap.size=q:=⟨_,rfl⟩
     obtain⟨gb,hgb⟩: ∃ q,wr.heap.size+1=q:=⟨_,rfl⟩
     have HNE:=Zg (show ga≠gb∧wr.heap.size≤ga∧wr.heap.size≤gb from by omega)
     have hA3:=HA3.out
     have hB3:=HB3.out
     have hS3:=HS3.out
     simp only[hgb]
     simp only[hga]
     rw[hga] at hA3
     rw[hgb] at hB3
     have HA4:=Zg hA3
     have HB4:=Zg hB3
     clear hA3 hB3 hS3 hga hgb HA2 HA3 HB3 HSA HS2
     refine hK.out _ _ HS3.out (fun _=>trivial) ?_
     clear hK K
     try simp only[Act.put,Zd,Ze,Zf]
     refine Zk (i:=10) (o:= ?_) (by kernel_rfl) ?_ (fun K hK=> ?_)
     rotate_left 1
     ·(simp only[Za,Zb,Zc]; rfl)
     refine Yi rfl 78 (.tmp 6) (.tmp 23) rfl ga (YO y).toArray rfl rfl 78 #[.string ⟨#[]⟩,.int .i64 0,.int .i64 0,.int .i64 0,.slice none 0 0] HA4.out (by kernel_rfl) rfl (by simp[YO,Value.oneCell']) ?_
     have HS5:=Zg (show Below wr.heap.size wr (wb.setRow ga (YO y).toArray) from below_setRow HS3.out (by have:=HNE.out; omega) _)
     have HX5:=Zg (setRow_heap wb ga _ (YO y).toArray _ _ HA4.out)
     have HY5:=Zg ((setRow_other wb ga gb (YO y).toArray (by have:=HNE.out; omega)).trans HB4.out)
     generalize wb.setRow ga (YO y).toArray=wd at *
     refine hK.out _ _ HS5.out (fun _=>trivial) ?_
     clear hK K
     try simp only[Act.put,Zd,Ze,Zf]
     refine Zk (i:=11) (o:= ?_) (by kernel_rfl) ?_ (fun K hK=> ?_)
     rotate_left 1
     ·(simp only[Za,Zb,Zc]; rfl)
     refine Yi rfl 78 (.tmp 7) (.tmp 27) rfl gb (YO z).toArray rfl rfl 78 #[.string ⟨#[]⟩,.int .i64 0,.int .i64 0,.int .i64 0,.slice none 0 0] HY5.out (by kernel_rfl) rfl (by simp[YO,Value.oneCell']) ?_
     have HS6:=Zg (show Below wr.heap.size wr (wd.setRow gb (YO z).toArray) from below_setRow HS5.out (by have:=HNE.out; omega) _)
     have HX6:=Zg ((setRow_other wd gb ga (YO z).toArray (by have:=HNE.out; omega)).trans HX5.out)
     have HY6:=Zg (setRow_heap wd gb _ (YO z).toArray _ _ HY5.out)
     generalize wd.setRow gb (YO z).toArray=we at *
     refine hK.out _ _ HS6.out (fun _=>trivial) ?_
     clear hK K
     try simp only[Act.put,Zd,Ze,Zf]
     refine Zp (by kernel_rfl) ?_ _
     refine NoPanic.normal ?_
     refine HK1.out _ _ ?_
     refine Met.intro (HJ1.out _ _ ?_)
     repeat apply Exists.intro
     exact⟨⟨ga,gb,rfl,rfl,HX6.out,HY6.out,HS6.out⟩,rfl⟩
    ·go_simp
     have HS2:=Zg (show Below wr.heap.size wr ((wr.alloc (.cells #[.string ⟨#[]⟩,.int .i64 0,.int .i64 0,.int .i64 0,.slice none 0 0] 78)).drew) from HS.out.alloc (Nat.le_refl _) _)
     have HA2:=Zg (show((wr.alloc (.cells #[.string ⟨#[]⟩,.int .i64 0,.int .i64 0,.int .i64 0,.slice none 0 0] 78)).drew).heap[wr.heap.size]? =some (.cells #[.string ⟨#[]⟩,.int .i64 0,.int .i64 0,.int .i64 0,.slice none 0 0] 78 (0,0)) from heap_alloc_new wr.drew _)
     have HSA:=Zg (show((wr.alloc (.cells #[.string ⟨#[]⟩,.int .i64 0,.int .i64 0,.int .i64 0,.slice none 0 0] 78)).drew).heap.size=wr.heap.size+1 from by simp)
     generalize (wr.alloc (.cells #[.string ⟨#[]⟩,.int .i64 0,.int .i64 0,.int .i64 0,.slice none 0 0] 78)).drew=wa at *
     refine hK.out _ _ HS2.out (fun _=>trivial) ?_
     clear hK K
     try simp only[Act.put,Zd,Ze,Zf]
     refine Zk (i:=8) (o:= ?_) (by kernel_rfl) ?_ (fun K hK=> ?_)
     rotate_left 1
     ·(simp only[Za,Zb,Zc]; rfl)
     go_simp
     have HS3:=Zg (show Below wr.heap.size wr (wa.alloc (.cells #[.string ⟨#[]⟩,.int .i64 0,.int .i64 0,.int .i64 0,.slice none 0 0] 78)) from HS2.out.alloc HS2.out.size _)
     have HA3:=Zg (show(wa.alloc (.cells #[.string ⟨#[]⟩,.int .i64 0,.int .i64 0,.int .i64 0,.slice none 0 0] 78)).heap[wr.heap.size]? =some (.cells #[.string ⟨#[]⟩,.int .i64 0,.int .i64 0,.int .i64 0,.slice none 0 0] 78 (0,0)) from(Below.heap_alloc _ _ _ (Zi HA2.out)).trans HA2.out)
     have HB3:=Zg (show(wa.alloc (.cells #[.string ⟨#[]⟩,.int .i64 0,.int .i64 0,.int .i64 0,.slice none 0 0] 78)).heap[wr.heap.size+1]? =some (.cells #[.string ⟨#[]⟩,.int .i64 0,.int .i64 0,.int .i64 0,.slice none 0 0] 78 (0,0)) from by
      have h:=heap_alloc_new wa (.cells #[.string ⟨#[]⟩,.int .i64 0,.int .i64 0,.int .i64 0,.slice none 0 0] 78)
      rwa [HSA.out] at h)
     have hsa:=HSA.out
     rw[hsa]
     clear hsa
     generalize wa.alloc (.cells #[.string ⟨#[]⟩,.int .i64 0,.int .i64 0,.int .i64 0,.slice none 0 0] 78)=wb at *
     obtain⟨ga,hga⟩: ∃ q,wr.heap.size=q:=⟨_,rfl⟩
     obtain⟨gb,hgb⟩: ∃ q,wr.heap.size+1=q:=⟨_,rfl⟩
     have HNE:=Zg (show ga≠gb∧wr.heap.size≤ga∧wr.heap.size≤gb from by omega)
     have hA3:=HA3.out
     have hB3:=HB3.out
     have hS3:=HS3.out
     simp only[hgb]
     simp only[hga]
     rw[hga] at hA3
     rw[hgb] at hB3
     have HA4:=Zg hA3
     have HB4:=Zg hB3
     clear hA3 hB3 hS3 hga hgb HA2 HA3 HB3 HSA HS2
     refine hK.out _ _ HS3.out (fun _=>trivial) ?_
     clear hK K
     try simp only[Act.put,Zd,Ze,Zf]
     refine Zk (i:=10) (o:= ?_) (by kernel_rfl) ?_ (fun K hK=> ?_)
     rotate_left 1
     ·(simp only[Za,Zb,Zc]; rfl)
     refine Yi rfl 78 (.tmp 6) (.tmp 23) rfl gb (YO y).toArray rfl rfl 78 #[.string ⟨#[]⟩,.int .i64 0,.int .i64 0,.int .i64 0,.slice none 0 0] HB4.out (by kernel_rfl) rfl (by simp[YO,Value.oneCell']) ?_
     have HS5:=Zg (show Below wr.heap.size wr (wb.setRow gb (YO y).toArray) from below_setRow HS3.out (by have:=HNE.out; omega) _)
     have HX5:=Zg (setRow_heap wb gb _ (YO y).toArray _ _ HB4.out)
     have HY5:=Zg ((setRow_other wb gb ga (YO y).toArray (by have:=HNE.out; omega)).trans HA4.out)
     generalize wb.setRow gb (YO y).toArray=wd at *
     refine hK.out _ _ HS5.out (fun _=>trivial) ?_
     clear hK K
     try simp only[Act.put,Zd,Ze,Zf]
     refine Zk (i:=11) (o:= ?_) (by kernel_rfl) ?_ (fun K hK=> ?_)
     rotate_left 1
     ·(simp only[Za,Zb,Zc]; rfl)
     refine Yi rfl 78 (.tmp 7) (.tmp 27) rfl ga (YO z).toArray rfl rfl 78 #[.string ⟨#[]⟩,.int .i64 0,.int .i64 0,.int .i64 0,.slice none 0 0] HY5.out (by kernel_rfl) rfl (by simp[YO,Value.oneCell']) ?_
     have HS6:=Zg (show Below wr.heap.size wr (wd.setRow ga (YO z).toArray) from below_setRow HS5.out (by have:=HNE.out; omega) _)
     have HX6:=Zg ((setRow_other wd ga gb (YO z).toArray (by have:=HNE.out; omega)).trans HX5.out)
     have HY6:=Zg (setRow_heap wd ga _ (YO z).toArray _ _ HY5.out)
     generalize wd.setRow ga (YO z).toArray=we at *
     refine hK.out _ _ HS6.out (fun _=>trivial) ?_
     clear hK K
     try simp only[Act.put,Zd,Ze,Zf]
     refine Zp (by kernel_rfl) ?_ _
     refine NoPanic.normal ?_
     refine HK1.out _ _ ?_
     refine Met.intro (HJ1.out _ _ ?_)
     repeat apply Exists.intro
     exact⟨⟨gb,ga,rfl,rfl,HX6.out,HY6.out,HS6.out⟩,rfl⟩
   case rest =>
    obtain⟨bx,bz,rfl,rfl,hxb,hzb,hbc⟩:=hcut
    have HXB:=Zg hxb
    have HZB:=Zg hzb
    have HBC:=Zg hbc
    clear d0 d1 d2 d3 d4 e0 e1 e2 e3 e4 hxb hzb hbc
    obtain⟨⟨dy,iy,sy,ty,ys⟩,Ay,cy⟩:=y
    obtain⟨⟨dz,iz,sz,tz,zs⟩,Az,cz⟩:=z
    have HCX:=Zg (fun W (hW:Below wc.heap.size wc W)=>show((W.cell? ⟨bx,0,none⟩=some (.string (txt dy))∧W.cell? ⟨bx,1,none⟩=some (.int .i64 iy)∧W.cell? ⟨bx,2,none⟩=some (.int .i64 sy))∧W.cell? ⟨bx,3,none⟩=some (.int .i64 ty)∧W.cell? ⟨bx,4,none⟩=some (.slice Ay ys.length cy)) from by
     have h0:=(hW.block _ (Zi HXB.out)).trans HXB.out
     exact⟨⟨by rw[Zh h0]; rfl,by rw[Zh h0]; rfl,by rw[Zh h0]; rfl⟩,by rw[Zh h0]; rfl,by rw[Zh h0]; rfl⟩)
    have HCZ:=Zg (fun W (hW:Below wc.heap.size wc W)=>show((W.cell? ⟨bz,0,none⟩=some (.string (txt dz))∧W.cell? ⟨bz,1,none⟩=some (.int .i64 iz)∧W.cell? ⟨bz,2,none⟩=some (.int .i64 sz))∧W.cell? ⟨bz,3,none⟩=some (.int .i64 tz)∧W.cell? ⟨bz,4,none⟩=some (.slice Az zs.length cz)) from by
     have h0:=(hW.block _ (Zi HZB.out)).trans HZB.out
     exact⟨⟨by rw[Zh h0]; rfl,by rw[Zh h0]; rfl,by rw[Zh h0]; rfl⟩,by rw[Zh h0]; rfl,by rw[Zh h0]; rfl⟩)
    have HBW:=Zg (HB.out.trans (HBC.out.mono HB.out.size))
    have HNO:=Zg (show ¬ ImK ⟨dy,iy,sy,ty,ys⟩=ImK ⟨dz,iz,sz,tz,zs⟩→ ¬ l.map (fun y=>ImK y.v)=l'.map (fun y=>ImK y.v) from fun h k=>h (by
     have k3:=congrArg (fun q=>q[i]?) k
     simp only[List.getElem?_map,List.getElem?_eq_getElem hlt,List.getElem?_eq_getElem hlt2,Option.map_some,Option.some.injEq] at k3
     rw[HYZ.out.1,HYZ.out.2] at k3
     exact k3))
    have hsy:=HSY.out
    have hsz:=HSZ.out
    simp only at hsy hsz
    have HSY:=Zg hsy
    have HSZ:=Zg hsz
    clear hsy hsz
    obtain⟨⟨x0,x1,x2⟩,x3,x4⟩:=HCX.out wc (Below.refl _ _)
    obtain⟨⟨z0,z1,z2⟩,z3,z4⟩:=HCZ.out wc (Below.refl _ _)
    by_cases q0:txt dy=txt dz
    rotate_left 1
    ·have n0:((txt dy).toList != (txt dz).toList)=true:=by rw[bne_iff_ne]; exact fun k=>q0 (toList_eq.1 k)
     have m0:((txt dy).toList == (txt dz).toList)=false:=beq_eq_false_iff_ne.2 fun k=>q0 (toList_eq.1 k)
     have HN:=Zg q0
     clear q0
     go_wp2_with fail
     go_ret
     exact⟨.no (HNO.out fun k=>HN.out ((XE _ _).1 k).1),HBW.out⟩
    have n0:((txt dy).toList != (txt dz).toList)=false:=by rw[q0]; simp
    have m0:((txt dy).toList == (txt dz).toList)=true:=by rw[q0]; simp
    have Q0:=Zg q0
    clear q0
    by_cases q1:iy=iz
    rotate_left 1
    ·have n1:((iy:Int) != (iz:Int))=true:=by rw[bne_iff_ne]; omega
     have m1:((iy:Int) == (iz:Int))=false:=beq_eq_false_iff_ne.2 (by omega)
     have HN:=Zg q1
     clear q1
     go_wp2_with fail
     go_ret
     exact⟨.no (HNO.out fun k=>HN.out ((XE _ _).1 k).2.1),HBW.out⟩
    have n1:((iy:Int) != (iz:Int))=false:=by rw[bne_eq_false_iff_eq]; omega
    have m1:((iy:Int) == (iz:Int))=true:=by rw[beq_iff_eq]; omega
    have Q1:=Zg q1
    clear q1
    by_cases q2:sy=sz
    rotate_left 1
    ·have n2:((sy:Int) != (sz:Int))=true:=by rw[bne_iff_ne]; omega
     have m2:((sy:Int) == (sz:Int))=false:=beq_eq_false_iff_ne.2 (by omega)
     have HN:=Zg q2
     clear q2
     go_wp2_with fail
     go_ret
     exact⟨.no (HNO.out fun k=>HN.out ((XE _ _).1 k).2.2.1),HBW.out⟩
    have n2:((sy:Int) != (sz:Int))=false:=by rw[bne_eq_false_iff_eq]; omega
    have m2:((sy:Int) == (sz:Int))=true:=by rw[beq_iff_eq]; omega
    have Q2:=Zg q2
    clear q2
    by_cases q3:ty=tz
    rotate_left 1
    ·have n3:((ty:Int) != (tz:Int))=true:=by rw[bne_iff_ne]; omega
     have m3:((ty:Int) == (tz:Int))=false:=beq_eq_false_iff_ne.2 (by omega)
     have HN:=Zg q3
     clear q3
     go_wp2_with fail
     go_ret
     exact⟨.no (HNO.out fun k=>HN.out ((XE _ _).1 k).2.2.2.1),HBW.out⟩
    have n3:((ty:Int) != (tz:Int))=false:=by rw[bne_eq_false_iff_eq]; omega
    have m3:((ty:Int) == (tz:Int))=true:=by rw[beq_iff_eq]; omega
    have Q3:=Zg q3
    clear q3
    by_cases q4:ys.length=zs.length
    rotate_left 1
    ·have n4:((ys.length:Int) != (zs.length:Int))=true:=by rw[bne_iff_ne]; omega
     have HN:=Zg q4
     clear q4
     go_wp2_with fail
     go_ret
     exact⟨.no (HNO.out fun k=>HN.out (by have:=congrArg List.length ((XE _ _).1 k).2.2.2.2; simpa using this)),HBW.out⟩
    have n4:((ys.length:Int) != (zs.length:Int))=false:=by rw[bne_eq_false_iff_eq]; omega
    have Q4:=Zg q4
    clear q4
    go_wp2_with fail
    clear x0 x1 x2 x3 x4 z0 z1 z2 z3 z4 n0 n1 n2 n3 n4 m0 m1 m2 m3
    go_loopw [8] (fun v8 ws=> ∃ k:Nat,k≤ys.length∧v8= .int .i64 k∧(∀(j:Nat) (h1:j<ys.length) (h2:j<zs.length),j<k→Xu ys[j]=Xu zs[j])∧Below wc.heap.size wc ws) (fun v8 _=>ys.length - (intOf v8).toNat)
    case atStart=>exact⟨0,by omega,rfl,fun j _ _ h=>by omega,Below.refl _ _⟩
    case round =>
     obtain⟨k,hk,rfl,hall,hbs⟩:=hrel
     have HAL2:=Zg hall
     have HBS:=Zg hbs
     have HBV:=Zg (HBW.out.trans (hbs.mono HBW.out.size))
     have x4:=(HCX.out _ hbs).2.2
     have z4:=(HCZ.out _ hbs).2.2
     have hys:=HSY.out.2
     clear hall hbs
     have HWS:=Zg (HBC.out.trans (HBS.out.mono HBC.out.size))
     by_cases hkl:k<ys.length
     ·have hkl':(k:Int)<ys.length:=by omega
      have hkl2:k<zs.length:=by have:=Q4.out; omega
      have hkl2':(k:Int)<zs.length:=by omega
      obtain⟨b1,o1,rfl,_,hc⟩: ∃ b o,Ay=some ⟨b,o,none⟩∧b<wr.heap.size∧ ∀(i:Nat) (hi:i<ys.length) (j:Nat) (v:Value),(Xu ys[i])[j]? =some v→wr.cell? ⟨b,o+(i * 3+j),none⟩=some v:=by
       rcases HSY.out.1.below HWS.out with h|h
       ·rw[h] at hkl; simp at hkl
       ·exact h
      obtain⟨b2,o2,rfl,_,hc'⟩: ∃ b o,Az=some ⟨b,o,none⟩∧b<wr.heap.size∧ ∀(i:Nat) (hi:i<zs.length) (j:Nat) (v:Value),(Xu zs[i])[j]? =some v→wr.cell? ⟨b,o+(i * 3+j),none⟩=some v:=by
       rcases HSZ.out.1.below HWS.out with h|h
       ·rw[h] at hkl2; simp at hkl2
       ·exact h
      have d0:=hc k hkl 0 (.string (txt ys[k].1)) rfl
      have d1:=hc k hkl 1 (.int .i64 ys[k].2.1) rfl
      have d2:=hc k hkl 2 (.bool ys[k].2.2) rfl
      have e0:=hc' k hkl2 0 (.string (txt zs[k].1)) rfl
      have e1:=hc' k hkl2 1 (.int .i64 zs[k].2.1) rfl
      have e2:=hc' k hkl2 2 (.bool zs[k].2.2) rfl
      rw[show o1+(k * 3+0)=o1+k * 3 by omega] at d0
      rw[show o2+(k * 3+0)=o2+k * 3 by omega] at e0
      rw[show o1+(k * 3+1)=o1+k * 3+1 by omega] at d1
      rw[show o2+(k * 3+1)=o2+k * 3+1 by omega] at e1
      rw[show o1+(k * 3+2)=o1+k * 3+2 by omega] at d2
      rw[show o2+(k * 3+2)=o2+k * 3+2 by omega] at e2
      obtain⟨y1,hy1⟩: ∃ y,ys[k]=y:=⟨_,rfl⟩
      obtain⟨z1,hz1⟩: ∃ y,zs[k]=y:=⟨_,rfl⟩
      rw[hy1] at d0 d1 d2
      rw[hz1] at e0 e1 e2
      obtain⟨r,hes,hr⟩:=Zej (txt y1.1) (txt z1.1) y1.2.1 z1.2.1 y1.2.2 z1.2.2
      have HCC:=Zg (show Xu ys[k]=Xu zs[k]↔r=true from by rw[hy1,hz1,hr]; simp[Xu])
      clear hc hc' hr hy1 hz1
      rcases r with _|_
      ·go_wp2_with fail
       go_region
       go_wp2_with fail
       go_ret
       exact⟨.no (HNO.out fun q=>by
        have h2:=congrArg (fun L=>L[k]?) ((XE _ _).1 q).2.2.2.2
        simp only[List.getElem?_map,List.getElem?_eq_getElem hkl,List.getElem?_eq_getElem hkl2,Option.map_some,Option.some.injEq] at h2
        have h3:=HCC.out.1 h2
        simp at h3),HBV.out.drew⟩
      ·have HNX:=Zg (show ∀(j:Nat) (h1:j<ys.length) (h2:j<zs.length),j<k+1→Xu ys[j]=Xu zs[j] from fun j h1 h2 h3=>(by
        rcases(by omega:j<k∨j=k) with h4|h4
        ·exact HAL2.out j h1 h2 h4
        ·subst h4; exact HCC.out.2 rfl))
       go_wp2_with fail
       go_region
       go_wp2_with fail
       go_roundw
       case rel=>exact⟨k+1,by omega,by go_num,HNX.out,HBS.out.drew⟩
       case measure=>simp[intOf]; omega
     ·obtain rfl:k=ys.length:=by omega
      have HM:=Zg (show ys.map Xu=zs.map Xu from by
       apply List.ext_getElem
       ·simp[Q4.out]
       ·intro j h1 h2
        simp only[List.length_map] at h1 h2
        simp only[List.getElem_map]
        exact HAL2.out j h1 h2 h1)
      have hNk: ¬ (ys.length:Int)<(ys.length:Int):=by omega
      have HYE:=Zg (show ImK ⟨dy,iy,sy,ty,ys⟩=ImK ⟨dz,iz,sz,tz,zs⟩ from(XE _ _).2 ⟨Q0.out,Q1.out,Q2.out,Q3.out,HM.out⟩)
      go_wp2_with fail
      go_roundw
      case rel=>exact⟨i+1,by omega,by go_num,fun j h1 h2 h3=>(by
       rcases(by omega:j<i∨j=i) with h4|h4
       ·exact HALL.out j h1 h2 h4
       ·subst h4; rw[HYZ.out.1,HYZ.out.2]; exact HYE.out),HB.out.trans (HWS.out.mono HB.out.size)⟩
      case measure=>simp[intOf]; omega
  ·obtain rfl:i=l.length:=by omega
   have hNi: ¬ (l.length:Int)<(l.length:Int):=by omega
   go_wp2_with fail
   go_ret
   refine⟨.yes ?_,HB.out⟩
   apply List.ext_getElem
   ·simp[HLL.out]
   ·intro j h1 h2
    simp only[List.length_map] at h1 h2
    simp only[List.getElem_map]
    exact HALL.out j h1 h2 h1
set_option maxHeartbeats 2000000 in
theorem Zbc (dy dz:List Nat) (iy sy ty iz sz tz:Nat) (ys zs:List Wg) (Ay Az:Option Addr) (cy cz:Nat) (w:World) (hy:SlT Xu 3 w Ay ys) (hz:SlT Xu 3 w Az zs) (hyl:ys.length≤1000000) (hzl:zs.length≤1000000) :
 Calls Tryz.prog 57 #[.agg #[.string (txt dy),.int .i64 iy,.int .i64 sy,.int .i64 ty,.slice Ay ys.length cy],.agg #[.string (txt dz),.int .i64 iz,.int .i64 sz,.int .i64 tz,.slice Az zs.length cz]] w fun e u=>VL (ImK ⟨dy,iy,sy,ty,ys⟩=ImK ⟨dz,iz,sz,tz,zs⟩) e∧Below w.heap.size w u:=by
 classical
 have HB1:=Zg (((Below.refl w.heap.size w).alloc (Nat.le_refl _) (.cells #[.string (txt dy),.int .i64 iy,.int .i64 sy,.int .i64 ty,.slice Ay ys.length cy] 78)).alloc (by simp) (.cells #[.string (txt dz),.int .i64 iz,.int .i64 sz,.int .i64 tz,.slice Az zs.length cz] 78))
 have HE:=Zg (fun W (hW:Below w.heap.size w W)=>Zek Xu (fun x=>txt x.1) (fun x=>(x.2.1:Int)) (fun x=>x.2.2) (fun _=>rfl) Ay Az ys zs cy cz W (hy.below hW) (hz.below hW) hyl hzl (decide (ys.map Xu=zs.map Xu)) decide_eq_true_iff)
 clear hy hz hyl hzl
 by_cases q0:txt dy=txt dz
 rotate_left 1
 ·have m0:((txt dy).toList == (txt dz).toList)=false:=beq_eq_false_iff_ne.2 fun k=>q0 (toList_eq.1 k)
  have HN:=Zg q0
  clear q0
  go_enter Tryz.func57,Tryz.ntmps57
  go_wp2_with fail
  go_ret
  exact⟨.no (fun k=>HN.out ((XE _ _).1 k).1),HB1.out⟩
 have m0:((txt dy).toList == (txt dz).toList)=true:=by rw[q0]; simp
 have Q0:=Zg q0
 clear q0
 by_cases q1:iy=iz
 rotate_left 1
 ·have m1:((iy:Int) == (iz:Int))=false:=beq_eq_false_iff_ne.2 (by omega)
  have HN:=Zg q1
  clear q1
  go_enter Tryz.func57,Tryz.ntmps57
  go_wp2_with fail
  go_ret
  exact⟨.no (fun k=>HN.out ((XE _ _).1 k).2.1),HB1.out⟩
 have m1:((iy:Int) == (iz:Int))=true:=by rw[beq_iff_eq]; omega
 have Q1:=Zg q1
 clear q1
 by_cases q2:sy=sz
 rotate_left 1
 ·have m2:((sy:Int) == (sz:Int))=false:=beq_eq_false_iff_ne.2 (by omega)
  have HN:=Zg q2
  clear q2
  go_enter Tryz.func57,Tryz.ntmps57
  go_wp2_with fail
  go_ret
  exact⟨.no (fun k=>HN.out ((XE _ _).1 k).2.2.1),HB1.out⟩
 have m2:((sy:Int) == (sz:Int))=true:=by rw[beq_iff_eq]; omega
 have Q2:=Zg q2
 clear q2
 by_cases q3:ty=tz
 rotate_left 1
 ·have m3:((ty:Int) == (tz:Int))=false:=beq_eq_false_iff_ne.2 (by omega)
  have HN:=Zg q3
  clear q3
  go_enter Tryz.func57,Tryz.ntmps57
  go_wp2_with fail
  go_ret
  exact⟨.no (fun k=>HN.out ((XE _ _).1 k).2.2.2.1),HB1.out⟩
 have m3:((ty:Int) == (tz:Int))=true:=by rw[beq_iff_eq]; omega
 have Q3:=Zg q3
 clear q3
 go_enter Tryz.func57,Tryz.ntmps57
 go_wp2_with fail
 refine(HE.out _ HB1.out).mono ?_
 rintro e u ⟨rfl,hb⟩
 have HB2:=Zg (HB1.out.trans (hb.mono HB1.out.size))
 clear hb
 obtain⟨b,hbq⟩: ∃ q,decide (ys.map Xu=zs.map Xu)=q:=⟨_,rfl⟩
 rw[hbq]
 have HQ:=Zg (show b=true↔ImK ⟨dy,iy,sy,ty,ys⟩=ImK ⟨dz,iz,sz,tz,zs⟩ from by rw[←hbq,decide_eq_true_iff,XE]; exact⟨fun k=>⟨Q0.out,Q1.out,Q2.out,Q3.out,k⟩,fun k=>k.2.2.2.2⟩)
 clear hbq
 go_wp2_with fail
 go_ret
 exact⟨.of HQ.out,HB2.out⟩
set_option maxHeartbeats 4000000 in
theorem VE (A A':Option Addr) (l l':List XT) (c c':Nat) (w:World) (h:Zfd w A l) (h':Zfd w A' l') :
 Calls Tryz.prog 56 #[.slice A l.length c,.slice A' l'.length c',.func (.func 57) #[] #[]] w fun e u=>VL (l.map (fun y=>ImK y.v)=l'.map (fun y=>ImK y.v)) e∧Below w.heap.size w u:=by
 have H:=Zg h
 have H':=Zg h'
 have hl1:=h.2.1
 have eg: ∀ args w,(callFunc 57 args).run Tryz.prog w= .ok (.enter 57 args) w:=enters_of Tryz.func57 (by kernel_rfl) rfl
 clear h h'
 by_cases cl:l.length=l'.length
 rotate_left 1
 ·have n1:((l.length:Int) != (l'.length:Int))=true:=by rw[bne_iff_ne]; omega
  have HQ:=Zg cl
  clear cl
  go_enter Tryz.func56,Tryz.ntmps56
  go_wp2_with fail
  go_ret
  exact⟨.no fun k=>HQ.out (by have:=congrArg List.length k; simpa using this),Below.refl _ _⟩
 have n1:((l.length:Int) != (l'.length:Int))=false:=by rw[bne_eq_false_iff_eq]; omega
 have HLL:=Zg cl
 clear cl
 go_enter Tryz.func56,Tryz.ntmps56
 go_wp2_with fail
 clear n1
 go_loopw [17] (fun v17 wr=> ∃ i:Nat,i≤l.length∧v17= .int .i64 i∧(∀(j:Nat) (h1:j<l.length) (h2:j<l'.length),j<i→ImK l[j].v=ImK l'[j].v)∧Below w.heap.size w wr) (fun v17 _=>l.length - (intOf v17).toNat)
 case atStart=>exact⟨0,by omega,rfl,fun j _ _ h=>by omega,Below.refl _ _⟩
 case round =>
  obtain⟨i,hi,rfl,hall,hbw⟩:=hrel
  have HALL:=Zg hall
  have HB:=Zg hbw
  clear hall hbw
  by_cases hlt:i<l.length
  ·have hlt':(i:Int)<l.length:=by omega
   have hlt2:i<l'.length:=by have:=HLL.out; omega
   have hlt2':(i:Int)<l'.length:=by omega
   obtain⟨bb,o,rfl,d0,d1,d2,d3,d4⟩:=(H.out.below HB.out).1.at5 hlt
   obtain⟨bb',o',rfl,e0,e1,e2,e3,e4⟩:=(H'.out.below HB.out).1.at5 hlt2
   have hsy:=(H.out.below HB.out).2.2 l[i] (List.getElem_mem hlt)
   have hsz:=(H'.out.below HB.out).2.2 l'[i] (List.getElem_mem hlt2)
   obtain⟨y,hy⟩: ∃ y,l[i]=y:=⟨_,rfl⟩
   obtain⟨z,hz⟩: ∃ y,l'[i]=y:=⟨_,rfl⟩
   rw[hy] at d0 d1 d2 d3 d4 hsy
   rw[hz] at e0 e1 e2 e3 e4 hsz
   obtain⟨⟨dy,iy,sy,ty,ys⟩,Ay,cy⟩:=y
   obtain⟨⟨dz,iz,sz,tz,zs⟩,Az,cz⟩:=z
   simp only at d0 d1 d2 d3 d4 e0 e1 e2 e3 e4 hsy hsz
   have HYZ:=Zg (And.intro hy hz)
   have HLB:=Zg (show bb'<wr.heap.size from Qd e0)
   have HSI:=Zg (fun W (hW:Below wr.heap.size wr W)=>Zbc dy dz iy sy ty iz sz tz ys zs Ay Az cy cz W (hsy.1.below hW) (hsz.1.below hW) hsy.2 hsz.2)
   clear hsy hsz hy hz
   obtain⟨w3,hw3⟩: ∃ q,wr.alloc (.cells #[.string (txt dy),.int .i64 iy,.int .i64 sy,.int .i64 ty,.slice Ay ys.length cy] 78)=q:=⟨_,rfl⟩
   have HE3:=Zg hw3
   have hb3:Below wr.heap.size wr w3:=by rw[←hw3]; exact(Below.refl _ _).alloc (Nat.le_refl _) _
   have HB3:=Zg hb3
   have HX3:=Zg (show w3.heap[wr.heap.size]? =some (.cells #[.string (txt dy),.int .i64 iy,.int .i64 sy,.int .i64 ty,.slice Ay ys.length cy] 78 (0,0)) from by rw[←hw3]; exact heap_alloc_new wr _)
   have f0:=(hb3.cell (p:=⟨bb',o'+i * 5,none⟩) HLB.out).trans e0
   have f1:=(hb3.cell (p:=⟨bb',o'+i * 5+1,none⟩) HLB.out).trans e1
   have f2:=(hb3.cell (p:=⟨bb',o'+i * 5+2,none⟩) HLB.out).trans e2
   have f3:=(hb3.cell (p:=⟨bb',o'+i * 5+3,none⟩) HLB.out).trans e3
   have f4:=(hb3.cell (p:=⟨bb',o'+i * 5+4,none⟩) HLB.out).trans e4
   clear hw3 hb3 e0 e1 e2 e3 e4
   go_upto_region 6 with(fail)
   refine(congrArg _ HE3.out).mpr ?_
   clear d0 d1 d2 d3 d4
   obtain⟨w4,hw4⟩: ∃ q,w3.alloc (.cells #[.string (txt dz),.int .i64 iz,.int .i64 sz,.int .i64 tz,.slice Az zs.length cz] 78)=q:=⟨_,rfl⟩
   have HE4:=Zg hw4
   have hb4:Below w3.heap.size w3 w4:=by rw[←hw4]; exact(Below.refl _ _).alloc (Nat.le_refl _) _
   have HB4:=Zg (HB3.out.trans (hb4.mono HB3.out.size))
   have hx3:=(hb4.block _ (Zi HX3.out)).trans HX3.out
   have hx4:w4.heap[w3.heap.size]? =some (.cells #[.string (txt dz),.int .i64 iz,.int .i64 sz,.int .i64 tz,.slice Az zs.length cz] 78 (0,0)):=by rw[←hw4]; exact heap_alloc_new w3 _
   have g0:w4.cell? ⟨wr.heap.size,0,none⟩=some (.string (txt dy)):=by rw[Zh hx3]; rfl
   have g1:w4.cell? ⟨wr.heap.size,1,none⟩=some (.int .i64 iy):=by rw[Zh hx3]; rfl
   have g2:w4.cell? ⟨wr.heap.size,2,none⟩=some (.int .i64 sy):=by rw[Zh hx3]; rfl
   have g3:w4.cell? ⟨wr.heap.size,3,none⟩=some (.int .i64 ty):=by rw[Zh hx3]; rfl
   have g4:w4.cell? ⟨wr.heap.size,4,none⟩=some (.slice Ay ys.length cy):=by rw[Zh hx3]; rfl
   have h0:w4.cell? ⟨w3.heap.size,0,none⟩=some (.string (txt dz)):=by rw[Zh hx4]; rfl
   have h1:w4.cell? ⟨w3.heap.size,1,none⟩=some (.int .i64 iz):=by rw[Zh hx4]; rfl
   have h2:w4.cell? ⟨w3.heap.size,2,none⟩=some (.int .i64 sz):=by rw[Zh hx4]; rfl
   have h3:w4.cell? ⟨w3.heap.size,3,none⟩=some (.int .i64 tz):=by rw[Zh hx4]; rfl
   have h4:w4.cell? ⟨w3.heap.size,4,none⟩=some (.slice Az zs.length cz):=by rw[Zh hx4]; rfl
   clear hw4 hb4 hx3 hx4
   go_upto_region 7 with(fail)
   refine(congrArg _ HE4.out).mpr ?_
   clear f0 f1 f2 f3 f4
   go_wp2_with fail
   go_at_fn 57
   refine(HSI.out _ HB4.out).mono ?_
   rintro e w5 ⟨⟨b,rfl,hb⟩,hb5⟩
   have HQ:=Zg hb
   have HB5:=Zg (HB4.out.trans (hb5.mono HB4.out.size))
   clear hb hb5 g0 g1 g2 g3 g4 h0 h1 h2 h3 h4
   rcases b with _|_
   ·go_wp2_with fail
    go_ret
    exact⟨.no fun q=>by
     have k3:=congrArg (fun q=>q[i]?) q
     simp only[List.getElem?_map,List.getElem?_eq_getElem hlt,List.getElem?_eq_getElem hlt2,Option.map_some,Option.some.injEq] at k3
     rw[HYZ.out.1,HYZ.out.2] at k3
     have:=HQ.out.2 k3
     simp at this,HB.out.trans (HB5.out.mono HB.out.size)⟩
   ·go_wp2_with fail
    go_roundw
    case rel=>exact⟨i+1,by omega,by go_num,fun j h1 h2 h3=>(by
     rcases(by omega:j<i∨j=i) with h4|h4
     ·exact HALL.out j h1 h2 h4
     ·subst h4; rw[HYZ.out.1,HYZ.out.2]; exact(by have q:=HQ.out; simpa using q)),HB.out.trans (HB5.out.mono HB.out.size)⟩
    case measure=>simp[intOf]; omega
  ·obtain rfl:i=l.length:=by omega
   have hNi: ¬ (l.length:Int)<(l.length:Int):=by omega
   go_wp2_with fail
   go_ret
   refine⟨.yes ?_,HB.out⟩
   apply List.ext_getElem
   ·simp[HLL.out]
   ·intro j h1 h2
    simp only[List.length_map] at h1 h2
    simp only[List.getElem_map]
    exact HALL.out j h1 h2 h1
set_option maxHeartbeats 2000000 in
theorem Zdq {α :Type} (C: α →List Value) (f0: α →Int) (hC: ∀ x,C x=[.int .i64 (f0 x)]) (A A':Option Addr) (l l2:List α) (c c':Nat) (w:World) (h:SlT C 1 w A l) (h':SlT C 1 w A' l2) (hn:l.length≤1000000) (hn':l2.length≤1000000) (b:Bool) (hb:b=true↔l.map C=l2.map C) :
 Calls Tryz.prog 60 #[.slice A l.length c,.slice A' l2.length c'] w fun e u=>e= .returned (.bool b)∧Below w.heap.size w u:=by
 have HS:=Zg h
 have HS':=Zg h'
 have HC:=Zg hC
 have HN:=Zg (And.intro hn hn')
 have HBB:=Zg hb
 clear h h' hC hb
 by_cases hl:l.length=l2.length
 ·have HL:=Zg hl
  have e0:((l.length:Int) != (l2.length:Int))=false:=by simp[hl]
  have HN1:=Zg hn
  clear hn hn' hl
  go_enter Tryz.func60,Tryz.ntmps60
  go_wp2_with fail
  go_loopw [13] (fun v13 wr=> ∃ i:Nat,i≤l.length∧v13= .int .i64 i∧(∀(j:Nat) (h1:j<l.length) (h2:j<l2.length),j<i→C l[j]=C l2[j])∧Below w.heap.size w wr) (fun v13 _=>l.length - (intOf v13).toNat)
  case atStart=>exact⟨0,by omega,rfl,fun j _ _ h=>by omega,Below.refl _ _⟩
  case round =>
   obtain⟨i,hi,rfl,hall,hbw⟩:=hrel
   have HALL:=Zg hall
   have HB:=Zg hbw
   clear hall hbw
   by_cases hlt:i<l.length
   ·have hlt':(i:Int)<l.length:=by omega
    have hlt2:i<l2.length:=by have:=HL.out; omega
    have hlt2':(i:Int)<l2.length:=by omega
    obtain⟨bb,o,rfl,_,hc⟩: ∃ b o,A=some ⟨b,o,none⟩∧b<wr.heap.size∧ ∀(i:Nat) (hi:i<l.length) (j:Nat) (v:Value),(C l[i])[j]? =some v→wr.cell? ⟨b,o+(i * 1+j),none⟩=some v:=by
     rcases HS.out.below HB.out with h|h
     ·rw[h] at hlt; simp at hlt
     ·exact h
    obtain⟨bb',o',rfl,_,hc'⟩: ∃ b o,A'=some ⟨b,o,none⟩∧b<wr.heap.size∧ ∀(i:Nat) (hi:i<l2.length) (j:Nat) (v:Value),(C l2[i])[j]? =some v→wr.cell? ⟨b,o+(i * 1+j),none⟩=some v:=by
     rcases HS'.out.below HB.out with h|h
     ·rw[h] at hlt2; simp at hlt2
     ·exact h
    have hC:=HC.out
    have d0:=hc i hlt 0 (.int .i64 (f0 l[i])) (by rw[hC]; rfl)
    have e0:=hc' i hlt2 0 (.int .i64 (f0 l2[i])) (by rw[hC]; rfl)
    rw[show o+(i * 1+0)=o+i by omega] at d0
    rw[show o'+(i * 1+0)=o'+i by omega] at e0
    obtain⟨r,hes,hr⟩: ∃ r:Bool,(f0 l[i] == f0 l2[i])=r∧(r=true↔f0 l[i]=f0 l2[i]):=⟨_,rfl,beq_iff_eq⟩
    have hen:(f0 l[i] != f0 l2[i])= !r:=by rw[←hes]; rfl
    have hCC:C l[i]=C l2[i]↔r=true:=by
     rw[hC,hC,hr]
     simp
    have HCC:=Zg hCC
    clear hc hc' hC hr hCC
    generalize f0 l[i]=p0 at *
    generalize f0 l2[i]=q0 at *
    rcases r with _|_
    ·go_wp2_with fail
     go_region
     go_wp2_with fail
     go_ret
     refine⟨?_,HB.out.drew⟩
     rcases b with _|_
     ·rfl
     ·exfalso
      have h1:=HBB.out.1 rfl
      have h2:=congrArg (fun L=>L[i]?) h1
      simp only[List.getElem?_map,List.getElem?_eq_getElem hlt,List.getElem?_eq_getElem hlt2,Option.map_some,Option.some.injEq] at h2
      have h3:=HCC.out.1 h2
      simp at h3
    ·have HNX:=Zg (show ∀(j:Nat) (h1:j<l.length) (h2:j<l2.length),j<i+1→C l[j]=C l2[j] from fun j h1 h2 h3=>(by
      rcases(by omega:j<i∨j=i) with h4|h4
      ·exact HALL.out j h1 h2 h4
      ·subst h4; exact HCC.out.2 rfl))
     go_wp2_with fail
     go_region
     have hnn:=HN.out.1
     go_wp2_with fail
     go_roundw
     case rel=>exact⟨i+1,by omega,by go_num,HNX.out,HB.out.drew⟩
     case measure=>simp[intOf]; omega
   ·obtain rfl:i=l.length:=by omega
    go_wp2_with fail
    go_ret
    refine⟨?_,HB.out⟩
    rcases b with _|_
    ·exfalso
     have h1:l.map C=l2.map C:=by
      apply List.ext_getElem
      ·simp[HL.out]
      ·intro j h1 h2
       simp only[List.length_map] at h1 h2
       simp only[List.getElem_map]
       exact HALL.out j h1 h2 h1
     have h2:=HBB.out.2 h1
     simp at h2
    ·rfl
 ·have e0:((l.length:Int) != (l2.length:Int))=true:=by simp; omega
  have HL:=Zg hl
  clear hl
  go_enter Tryz.func60,Tryz.ntmps60
  go_wp2_with fail
  go_ret
  refine⟨?_,Below.refl _ _⟩
  rcases b with _|_
  ·rfl
  ·exfalso
   have h1:=congrArg List.length (HBB.out.1 rfl)
   simp only[List.length_map] at h1
   exact HL.out h1
structure PeD where
 h:ZO
 sects:List Zr
 im:ByteArray
 eb:Int
 fs:List FnV
 ns:List NmV
 ims:List Za7
 des:List Za7
 bos:List Jm
 rls:List YX
 ti:Bool
 tx:Int
 tl:List Int
structure Zjb (d e:PeD):Prop where
 hd:QW d.h e.h∧d.sects.map Zr.cells=e.sects.map Zr.cells
 im:d.im=e.im
 eb:d.eb=e.eb
 fs:d.fs.map gC=e.fs.map gC
 ns:d.ns.map nC=e.ns.map nC
 ims:d.ims.map ImK=e.ims.map ImK
 des:d.des.map ImK=e.des.map ImK
 bos:d.bos.map bC=e.bos.map bC
 rls:d.rls.map Wh=e.rls.map Wh
 ti:d.ti=e.ti
 tx:d.tx=e.tx
 tl:d.tl.map Ws=e.tl.map Ws
theorem Zjb.refl (d:PeD):Zjb d d:=⟨⟨⟨rfl,rfl,rfl,rfl,rfl,rfl,fun _ _=>rfl⟩,rfl⟩,rfl,rfl,rfl,rfl,rfl,rfl,rfl,rfl,rfl,rfl,rfl⟩
structure Xb (W:World) (y:PeV) (d:PeD):Prop where
 hv: ∃ sv,YR ((List.range 39).map y.hd).toArray d.h sv∧Vn W sv d.sects
 db:Jn d.h
 img: ∃ g N C f,y.img= .slice (some ⟨g,0,none⟩) N C∧VF W g 0 N C f∧d.im=ZB f 0 N
 e0:y.e0= .int .i64 d.eb
 fs: ∃ A c,y.e1= .slice A d.fs.length c∧SlT gC 2 W A d.fs∧d.fs.length≤1000000
 ns: ∃ A c,y.e2= .slice A d.ns.length c∧SlT nC 2 W A d.ns∧d.ns.length≤1000000
 ims: ∃ A c l,y.im= .slice A l.length c∧Zfd W A l∧l.map (·.v)=d.ims
 des: ∃ A c l,y.de= .slice A l.length c∧Zfd W A l∧l.map (·.v)=d.des
 bos: ∃ A c,y.bo= .slice A d.bos.length c∧SlT bC 2 W A d.bos∧d.bos.length≤1000000
 rls: ∃ A c,y.re= .slice A d.rls.length c∧SlT Wh 2 W A d.rls∧d.rls.length≤1000000
 t0:y.t0= .bool d.ti
 t1:y.t1= .int .i64 d.tx
 tl: ∃ A c,y.t2= .slice A d.tl.length c∧SlT Ws 1 W A d.tl∧d.tl.length≤1000000
theorem Xb.below {W W':World} {y:PeV} {d:PeD} (h:Xb W y d) (hb:Below W.heap.size W W'):Xb W' y d:=by
 refine⟨?_,h.db,?_,h.e0,?_,?_,?_,?_,?_,?_,h.t0,h.t1,?_⟩
 ·obtain⟨sv,h1,A,c,h2,h3,h4⟩:=h.hv
  exact⟨sv,h1,A,c,h2,h3.below hb,h4⟩
 ·obtain⟨g,N,C,f,h1,h2,h3⟩:=h.img
  exact⟨g,N,C,f,h1,h2.below hb,h3⟩
 ·obtain⟨A,c,h1,h2,h3⟩:=h.fs; exact⟨A,c,h1,h2.below hb,h3⟩
 ·obtain⟨A,c,h1,h2,h3⟩:=h.ns; exact⟨A,c,h1,h2.below hb,h3⟩
 ·obtain⟨A,c,l,h1,h2,h3⟩:=h.ims; exact⟨A,c,l,h1,h2.below hb,h3⟩
 ·obtain⟨A,c,l,h1,h2,h3⟩:=h.des; exact⟨A,c,l,h1,h2.below hb,h3⟩
 ·obtain⟨A,c,h1,h2,h3⟩:=h.bos; exact⟨A,c,h1,h2.below hb,h3⟩
 ·obtain⟨A,c,h1,h2,h3⟩:=h.rls; exact⟨A,c,h1,h2.below hb,h3⟩
 ·obtain⟨A,c,h1,h2,h3⟩:=h.tl; exact⟨A,c,h1,h2.below hb,h3⟩
theorem UC {l l':List XT} {a b:List Za7} (h:l.map (·.v)=a) (h':l'.map (·.v)=b):(l.map (fun y=>ImK y.v)=l'.map (fun y=>ImK y.v))↔a.map ImK=b.map ImK:=by
 subst h h'
 rw[List.map_map,List.map_map]
 exact Iff.rfl
set_option maxHeartbeats 8000000 in
theorem WV (y z:PeV) (d e:PeD) (w:World) (hy:Xb w y d) (hz:Xb w z e) :
 Calls Tryz.prog 22 #[.agg (peC y),.agg (peC z)] w fun x u=>VL (Zjb d e) x∧Below w.heap.size w u:=by
 classical
 have hb0:Below w.heap.size w ((w.alloc (.cells (peC y) 50)).alloc (.cells (peC z) 50)):=((Below.refl w.heap.size w).alloc (Nat.le_refl _) _).alloc (by simp) _
 have hg0:=heap_alloc2_old w (.cells (peC y) 50) (.cells (peC z) 50)
 have hg1:=heap_alloc2_new w (.cells (peC y) 50) (.cells (peC z) 50)
 obtain⟨w2,hw2⟩: ∃ q,(w.alloc (.cells (peC y) 50)).alloc (.cells (peC z) 50)=q:=⟨_,rfl⟩
 rw[hw2] at hb0 hg0 hg1
 have HB0:=Zg hb0
 have HW2:=Zg hw2
 have HCF:=Zg (show ∀ W,Below w2.heap.size w2 W→ ∀ j u v,j<50→peF y j=u→peF z j=v→W.cell? ⟨w.heap.size,j,none⟩=some u∧W.cell? ⟨w.heap.size+1,j,none⟩=some v from fun W hW j u v hj hu hv=>by
  subst hu hv
  exact⟨(hW.cell (p:=⟨w.heap.size,j,none⟩) (Zi hg0)).trans ((Zh hg0).trans (ZJ y hj)),(hW.cell (p:=⟨w.heap.size+1,j,none⟩) (Zi hg1)).trans ((Zh hg1).trans (ZJ z hj))⟩)
 have hrg: ∀ P (x:PeV),(∀ j,j<50→w2.cell? ⟨P,j,none⟩=some (peF x j))→w2.rangeAt P 0 ((List.range 39).map x.hd):=fun P x hP j v hv=>by
  have hj:j<39:=by
   rcases Nat.lt_or_ge j 39 with hj|hj
   ·exact hj
   ·simp[hj] at hv
  simp[hj] at hv
  subst hv
  rw[Nat.zero_add,hP j (by omega),Xy x hj]
 have HR0:=Zg (hrg w.heap.size y (fun j hj=>(HCF.out w2 (Below.refl _ _) j _ _ hj rfl rfl).1))
 have HR1:=Zg (hrg (w.heap.size+1) z (fun j hj=>(HCF.out w2 (Below.refl _ _) j _ _ hj rfl rfl).2))
 have HYW:=Zg (fun W (hW:Below w2.heap.size w2 W)=>hy.below (HB0.out.trans (hW.mono HB0.out.size)))
 have HZW:=Zg (fun W (hW:Below w2.heap.size w2 W)=>hz.below (HB0.out.trans (hW.mono HB0.out.size)))
 clear hrg hb0 hg0 hg1 hw2
 obtain⟨sv,hv1,A0,c0,hsv,hs1,hs2⟩:=hy.hv
 obtain⟨sv',hv1',A0',c0',hsv',hs1',hs2'⟩:=hz.hv
 obtain⟨g,N,C,f,hi,hr,him⟩:=hy.img
 obtain⟨g',N',C',f',hi',hr',him'⟩:=hz.img
 obtain⟨A1,c1,h41,h1,l1⟩:=hy.fs
 obtain⟨A1',c1',h41',h1',l1'⟩:=hz.fs
 obtain⟨A2,c2,h42,h2,l2⟩:=hy.ns
 obtain⟨A2',c2',h42',h2',l2'⟩:=hz.ns
 obtain⟨A3,c3,L3,h43,h3,l3⟩:=hy.ims
 obtain⟨A3',c3',L3',h43',h3',l3'⟩:=hz.ims
 obtain⟨A4,c4,L4,h44,h4,l4⟩:=hy.des
 obtain⟨A4',c4',L4',h44',h4',l4'⟩:=hz.des
 obtain⟨A5,c5,h45,h5,l5⟩:=hy.bos
 obtain⟨A5',c5',h45',h5',l5'⟩:=hz.bos
 obtain⟨A6,c6,h46,h6,l6⟩:=hy.rls
 obtain⟨A6',c6',h46',h6',l6'⟩:=hz.rls
 obtain⟨A7,c7,h49,h7,l7⟩:=hy.tl
 obtain⟨A7',c7',h49',h7',l7'⟩:=hz.tl
 have BW:=fun W (hW:Below w2.heap.size w2 W)=>HB0.out.trans (hW.mono HB0.out.size)
 have HHD:=Zg (fun W (hW:Below w2.heap.size w2 W)=>QZ ((List.range 39).map y.hd).toArray ((List.range 39).map z.hd).toArray d.h e.h sv sv' d.sects e.sects W hv1 hv1' ⟨A0,c0,hsv,hs1.below (BW W hW),hs2⟩ ⟨A0',c0',hsv',hs1'.below (BW W hW),hs2'⟩ hy.db hz.db)
 have HBY:=Zg (fun W (hW:Below w2.heap.size w2 W)=>Tryz.bytes_Equal_strs (.slice (some ⟨g,0,none⟩) N C) (.slice (some ⟨g',0,none⟩) N' C') (ZB f 0 N) (ZB f' 0 N') W (YB (cap:=C) (hr.below (BW W hW)).row) (YB (cap:=C') (hr'.below (BW W hW)).row))
 have HF1:=Zg (fun W (hW:Below w2.heap.size w2 W)=>Zdg gC (fun x=>(x.1:Int)) (fun x=>txt x.2) (fun _=>rfl) A1 A1' d.fs e.fs c1 c1' W (h1.below (BW W hW)) (h1'.below (BW W hW)) l1 l1' (decide (d.fs.map gC=e.fs.map gC)) decide_eq_true_iff)
 have HF2:=Zg (fun W (hW:Below w2.heap.size w2 W)=>Za3 nC (fun x=>txt x.1) (fun x=>(x.2:Int)) (fun _=>rfl) A2 A2' d.ns e.ns c2 c2' W (h2.below (BW W hW)) (h2'.below (BW W hW)) l2 l2' (decide (d.ns.map nC=e.ns.map nC)) decide_eq_true_iff)
 have HF3:=Zg (fun W (hW:Below w2.heap.size w2 W)=>VE A3 A3' L3 L3' c3 c3' W (h3.below (BW W hW)) (h3'.below (BW W hW)))
 have HF4:=Zg (fun W (hW:Below w2.heap.size w2 W)=>VE A4 A4' L4 L4' c4 c4' W (h4.below (BW W hW)) (h4'.below (BW W hW)))
 have HF5:=Zg (fun W (hW:Below w2.heap.size w2 W)=>Za4 bC (fun x=>txt x.1) (fun x=>(x.2:Int)) (fun _=>rfl) A5 A5' d.bos e.bos c5 c5' W (h5.below (BW W hW)) (h5'.below (BW W hW)) l5 l5' (decide (d.bos.map bC=e.bos.map bC)) decide_eq_true_iff)
 have HF6:=Zg (fun W (hW:Below w2.heap.size w2 W)=>Zei Wh (fun x=>x.1) (fun x=>x.2) (fun _=>rfl) A6 A6' d.rls e.rls c6 c6' W (h6.below (BW W hW)) (h6'.below (BW W hW)) l6 l6' (decide (d.rls.map Wh=e.rls.map Wh)) decide_eq_true_iff)
 have HF7:=Zg (fun W (hW:Below w2.heap.size w2 W)=>Zdq Ws (fun x=>x) (fun _=>rfl) A7 A7' d.tl e.tl c7 c7' W (h7.below (BW W hW)) (h7'.below (BW W hW)) l7 l7' (decide (d.tl.map Ws=e.tl.map Ws)) decide_eq_true_iff)
 have HIM:=Zg (And.intro him him')
 have H39:=Zg (And.intro hi hi')
 have H40:=Zg (And.intro hy.e0 hz.e0)
 have H41:=Zg (And.intro h41 h41')
 have H42:=Zg (And.intro h42 h42')
 have H43:=Zg (And.intro h43 h43')
 have H44:=Zg (And.intro h44 h44')
 have H45:=Zg (And.intro h45 h45')
 have H46:=Zg (And.intro h46 h46')
 have H47:=Zg (And.intro hy.t0 hz.t0)
 have H48:=Zg (And.intro hy.t1 hz.t1)
 have H49:=Zg (And.intro h49 h49')
 have HK3:=Zg (UC l3 l3')
 have HK4:=Zg (UC l4 l4')
 clear hv1 hv1' hsv hsv' hs1 hs1' hs2 hs2' hi hi' hr hr' him him' h41 h41' h1 h1' l1 l1' h42 h42' h2 h2' l2 l2' h43 h43' h3 h3' l3 l3' h44 h44' h4 h4' l4 l4' h45 h45' h5 h5' l5 l5' h46 h46' h6 h6' l6 l6' h49 h49' h7 h7' l7 l7' BW hy hz
 go_enter Tryz.func22,Tryz.ntmps22
 go_upto_region 1 with(fail)
 refine(congrArg _ HW2.out).mpr ?_
 have HZ:=Zg (Below.refl w2.heap.size w2)
 try simp only[List.append_eq,List.cons_append,List.nil_append]
 go_wp2_with (first
  | (refine wpList_load_mid rfl 41 (.tmp 5) rfl w.heap.size 0 rfl ((List.range 39).map y.hd) _ HR0.out Tryz.underlying41 rfl (by rw[List.length_map,List.length_range]; kernel_rfl) ?_)
  | (refine wpList_load_mid rfl 41 (.tmp 7) rfl (w.heap.size+1) 0 rfl ((List.range 39).map z.hd) _ HR1.out Tryz.underlying41 rfl (by rw[List.length_map,List.length_range]; kernel_rfl) ?_)
  | fail)
 refine(HHD.out _ HZ.out).mono ?_
 rintro x w3 ⟨⟨b,rfl,hq⟩,hb⟩
 replace HZ:=Zg (HZ.out.trans (hb.mono HZ.out.size))
 have HQ0:=Zg hq
 clear hb hq
 rcases b with _|_
 ·go_wp2_with fail
  go_ret
  exact⟨.no fun k=>(by have:=HQ0.out.2 k.hd; simp at this),HB0.out.trans (HZ.out.mono HB0.out.size)⟩
 have HP0:=Zg (HQ0.out.1 rfl)
 have a39:=(HCF.out _ HZ.out 39 _ _ (by omega) H39.out.1 H39.out.2).1
 have b39:=(HCF.out _ HZ.out 39 _ _ (by omega) H39.out.1 H39.out.2).2
 go_wp2_with fail
 refine(HBY.out _ HZ.out).mono ?_
 rintro x w4 ⟨rfl,rfl⟩
 clear a39 b39
 obtain⟨b,hq⟩: ∃ q,((ZB f 0 N).toList == (ZB f' 0 N').toList)=q:=⟨_,rfl⟩
 rw[hq]
 rcases b with _|_
 ·have HN:=Zg (show ¬ d.im=e.im from fun k=>beq_eq_false_iff_ne.1 hq (by rw[←HIM.out.1,←HIM.out.2,k]))
  clear hq
  go_wp2_with fail
  go_ret
  exact⟨.no fun k=>(HN.out k.im),HB0.out.trans (HZ.out.mono HB0.out.size)⟩
 have HPI:=Zg (show d.im=e.im from by rw[HIM.out.1,HIM.out.2]; exact toList_eq.1 (beq_iff_eq.1 hq))
 clear hq
 have a40:=(HCF.out _ HZ.out 40 _ _ (by omega) H40.out.1 H40.out.2).1
 have b40:=(HCF.out _ HZ.out 40 _ _ (by omega) H40.out.1 H40.out.2).2
 by_cases qe:d.eb=e.eb
 rotate_left 1
 ·have me:(d.eb == e.eb)=false:=beq_eq_false_iff_ne.2 qe
  have HN:=Zg qe
  clear qe
  go_wp2_with fail
  go_ret
  exact⟨.no fun k=>(HN.out k.eb),HB0.out.trans (HZ.out.mono HB0.out.size)⟩
 have me:(d.eb == e.eb)=true:=beq_iff_eq.2 qe
 have HPe:=Zg qe
 clear qe
 have a41:=(HCF.out _ HZ.out 41 _ _ (by omega) H41.out.1 H41.out.2).1
 have b41:=(HCF.out _ HZ.out 41 _ _ (by omega) H41.out.1 H41.out.2).2
 go_wp2_with fail
 refine(HF1.out _ HZ.out).mono ?_
 rintro x w5 ⟨rfl,hb⟩
 replace HZ:=Zg (HZ.out.trans (hb.mono HZ.out.size))
 clear hb a41 b41
 obtain⟨b,hq⟩: ∃ q,decide (d.fs.map gC=e.fs.map gC)=q:=⟨_,rfl⟩
 rw[hq]
 rcases b with _|_
 ·have HN:=Zg (of_decide_eq_false hq)
  clear hq
  go_wp2_with fail
  go_ret
  exact⟨.no fun k=>(HN.out k.fs),HB0.out.trans (HZ.out.mono HB0.out.size)⟩
 have HP1:=Zg (of_decide_eq_true hq)
 clear hq
 clear a40 b40 me
 have a42:=(HCF.out _ HZ.out 42 _ _ (by omega) H42.out.1 H42.out.2).1
 have b42:=(HCF.out _ HZ.out 42 _ _ (by omega) H42.out.1 H42.out.2).2
 go_wp2_with fail
 refine(HF2.out _ HZ.out).mono ?_
 rintro x w6 ⟨rfl,hb⟩
 replace HZ:=Zg (HZ.out.trans (hb.mono HZ.out.size))
 clear hb a42 b42
 obtain⟨b,hq⟩: ∃ q,decide (d.ns.map nC=e.ns.map nC)=q:=⟨_,rfl⟩
 rw[hq]
 rcases b with _|_
 ·have HN:=Zg (of_decide_eq_false hq)
  clear hq
  go_wp2_with fail
  go_ret
  exact⟨.no fun k=>(HN.out k.ns),HB0.out.trans (HZ.out.mono HB0.out.size)⟩
 have HP2:=Zg (of_decide_eq_true hq)
 clear hq
 have a43:=(HCF.out _ HZ.out 43 _ _ (by omega) H43.out.1 H43.out.2).1
 have b43:=(HCF.out _ HZ.out 43 _ _ (by omega) H43.out.1 H43.out.2).2
 go_wp2_with fail
 refine(HF3.out _ HZ.out).mono ?_
 rintro x w7 ⟨⟨b,rfl,hq⟩,hb⟩
 replace HZ:=Zg (HZ.out.trans (hb.mono HZ.out.size))
 have HQ:=Zg hq
 clear hb hq a43 b43
 rcases b with _|_
 ·go_wp2_with fail
  go_ret
  exact⟨.no fun k=>(by have:=HQ.out.2 (HK3.out.2 k.ims); simp at this),HB0.out.trans (HZ.out.mono HB0.out.size)⟩
 have HP3:=Zg (HQ.out.1 rfl)
 have a44:=(HCF.out _ HZ.out 44 _ _ (by omega) H44.out.1 H44.out.2).1
 have b44:=(HCF.out _ HZ.out 44 _ _ (by omega) H44.out.1 H44.out.2).2
 go_wp2_with fail
 refine(HF4.out _ HZ.out).mono ?_
 rintro x w8 ⟨⟨b,rfl,hq⟩,hb⟩
 replace HZ:=Zg (HZ.out.trans (hb.mono HZ.out.size))
 have HQ:=Zg hq
 clear hb hq a44 b44
 rcases b with _|_
 ·go_wp2_with fail
  go_ret
  exact⟨.no fun k=>(by have:=HQ.out.2 (HK4.out.2 k.des); simp at this),HB0.out.trans (HZ.out.mono HB0.out.size)⟩
 have HP4:=Zg (HQ.out.1 rfl)
 have a45:=(HCF.out _ HZ.out 45 _ _ (by omega) H45.out.1 H45.out.2).1
 have b45:=(HCF.out _ HZ.out 45 _ _ (by omega) H45.out.1 H45.out.2).2
 go_wp2_with fail
 refine(HF5.out _ HZ.out).mono ?_
 rintro x w9 ⟨rfl,hb⟩
 replace HZ:=Zg (HZ.out.trans (hb.mono HZ.out.size))
 clear hb a45 b45
 obtain⟨b,hq⟩: ∃ q,decide (d.bos.map bC=e.bos.map bC)=q:=⟨_,rfl⟩
 rw[hq]
 rcases b with _|_
 ·have HN:=Zg (of_decide_eq_false hq)
  clear hq
  go_wp2_with fail
  go_ret
  exact⟨.no fun k=>(HN.out k.bos),HB0.out.trans (HZ.out.mono HB0.out.size)⟩
 have HP5:=Zg (of_decide_eq_true hq)
 clear hq
 have a46:=(HCF.out _ HZ.out 46 _ _ (by omega) H46.out.1 H46.out.2).1
 have b46:=(HCF.out _ HZ.out 46 _ _ (by omega) H46.out.1 H46.out.2).2
 go_wp2_with fail
 refine(HF6.out _ HZ.out).mono ?_
 rintro x w10 ⟨rfl,hb⟩
 replace HZ:=Zg (HZ.out.trans (hb.mono HZ.out.size))
 clear hb a46 b46
 obtain⟨b,hq⟩: ∃ q,decide (d.rls.map Wh=e.rls.map Wh)=q:=⟨_,rfl⟩
 rw[hq]
 rcases b with _|_
 ·have HN:=Zg (of_decide_eq_false hq)
  clear hq
  go_wp2_with fail
  go_ret
  exact⟨.no fun k=>(HN.out k.rls),HB0.out.trans (HZ.out.mono HB0.out.size)⟩
 have HP6:=Zg (of_decide_eq_true hq)
 clear hq
 have a47:=(HCF.out _ HZ.out 47 _ _ (by omega) H47.out.1 H47.out.2).1
 have b47:=(HCF.out _ HZ.out 47 _ _ (by omega) H47.out.1 H47.out.2).2
 by_cases qt:d.ti=e.ti
 rotate_left 1
 ·have mt:(d.ti == e.ti)=false:=beq_eq_false_iff_ne.2 qt
  have HN:=Zg qt
  clear qt
  go_wp2_with fail
  go_ret
  exact⟨.no fun k=>(HN.out k.ti),HB0.out.trans (HZ.out.mono HB0.out.size)⟩
 have mt:(d.ti == e.ti)=true:=beq_iff_eq.2 qt
 have HPt:=Zg qt
 clear qt
 have a48:=(HCF.out _ HZ.out 48 _ _ (by omega) H48.out.1 H48.out.2).1
 have b48:=(HCF.out _ HZ.out 48 _ _ (by omega) H48.out.1 H48.out.2).2
 by_cases qx:d.tx=e.tx
 rotate_left 1
 ·have mx:(d.tx == e.tx)=false:=beq_eq_false_iff_ne.2 qx
  have HN:=Zg qx
  clear qx
  go_wp2_with fail
  go_ret
  exact⟨.no fun k=>(HN.out k.tx),HB0.out.trans (HZ.out.mono HB0.out.size)⟩
 have mx:(d.tx == e.tx)=true:=beq_iff_eq.2 qx
 have HPx:=Zg qx
 clear qx
 have a49:=(HCF.out _ HZ.out 49 _ _ (by omega) H49.out.1 H49.out.2).1
 have b49:=(HCF.out _ HZ.out 49 _ _ (by omega) H49.out.1 H49.out.2).2
 go_wp2_with fail
 refine(HF7.out _ HZ.out).mono ?_
 rintro x w11 ⟨rfl,hb⟩
 replace HZ:=Zg (HZ.out.trans (hb.mono HZ.out.size))
 clear hb a49 b49
 obtain⟨b,hq⟩: ∃ q,decide (d.tl.map Ws=e.tl.map Ws)=q:=⟨_,rfl⟩
 rw[hq]
 rcases b with _|_
 ·have HN:=Zg (of_decide_eq_false hq)
  clear hq
  go_wp2_with fail
  go_ret
  exact⟨.no fun k=>(HN.out k.tl),HB0.out.trans (HZ.out.mono HB0.out.size)⟩
 have HP7:=Zg (of_decide_eq_true hq)
 clear hq
 go_wp2_with fail
 go_ret
 exact⟨.yes ⟨HP0.out,HPI.out,HPe.out,HP1.out,HP2.out,HK3.out.1 HP3.out,HK4.out.1 HP4.out,HP5.out,HP6.out,HPt.out,HPx.out,HP7.out⟩,HB0.out.trans (HZ.out.mono HB0.out.size)⟩
set_option maxHeartbeats 8000000 in
theorem Zbd (y z:PeV) (d e:PeD) (w:World) (hy:Xb w y d) (hz:Xb w z e) :
 Calls Tryz.prog 20 #[.agg (peC y),.agg (peC z)] w fun x u=>VL (Zjb d e) x∧Below w.heap.size w u:=by
 classical
 have hb0:Below w.heap.size w ((w.alloc (.cells (peC y) 50)).alloc (.cells (peC z) 50)):=((Below.refl w.heap.size w).alloc (Nat.le_refl _) _).alloc (by simp) _
 have hg0:=heap_alloc2_old w (.cells (peC y) 50) (.cells (peC z) 50)
 have hg1:=heap_alloc2_new w (.cells (peC y) 50) (.cells (peC z) 50)
 obtain⟨w2,hw2⟩: ∃ q,(w.alloc (.cells (peC y) 50)).alloc (.cells (peC z) 50)=q:=⟨_,rfl⟩
 rw[hw2] at hb0 hg0 hg1
 have HB0:=Zg hb0
 have HW2:=Zg hw2
 have HCF:=Zg (show ∀ W,Below w2.heap.size w2 W→ ∀ j u v,j<50→peF y j=u→peF z j=v→W.cell? ⟨w.heap.size,j,none⟩=some u∧W.cell? ⟨w.heap.size+1,j,none⟩=some v from fun W hW j u v hj hu hv=>by
  subst hu hv
  exact⟨(hW.cell (p:=⟨w.heap.size,j,none⟩) (Zi hg0)).trans ((Zh hg0).trans (ZJ y hj)),(hW.cell (p:=⟨w.heap.size+1,j,none⟩) (Zi hg1)).trans ((Zh hg1).trans (ZJ z hj))⟩)
 have hrg: ∀ P (x:PeV),(∀ j,j<50→w2.cell? ⟨P,j,none⟩=some (peF x j))→w2.rangeAt P 0 ((List.range 39).map x.hd):=fun P x hP j v hv=>by
  have hj:j<39:=by
   rcases Nat.lt_or_ge j 39 with hj|hj
   ·exact hj
   ·simp[hj] at hv
  simp[hj] at hv
  subst hv
  rw[Nat.zero_add,hP j (by omega),Xy x hj]
 have HR0:=Zg (hrg w.heap.size y (fun j hj=>(HCF.out w2 (Below.refl _ _) j _ _ hj rfl rfl).1))
 have HR1:=Zg (hrg (w.heap.size+1) z (fun j hj=>(HCF.out w2 (Below.refl _ _) j _ _ hj rfl rfl).2))
 have HYW:=Zg (fun W (hW:Below w2.heap.size w2 W)=>hy.below (HB0.out.trans (hW.mono HB0.out.size)))
 have HZW:=Zg (fun W (hW:Below w2.heap.size w2 W)=>hz.below (HB0.out.trans (hW.mono HB0.out.size)))
 clear hrg hb0 hg0 hg1 hw2
 obtain⟨sv,hv1,A0,c0,hsv,hs1,hs2⟩:=hy.hv
 obtain⟨sv',hv1',A0',c0',hsv',hs1',hs2'⟩:=hz.hv
 obtain⟨g,N,C,f,hi,hr,him⟩:=hy.img
 obtain⟨g',N',C',f',hi',hr',him'⟩:=hz.img
 obtain⟨A1,c1,h41,h1,l1⟩:=hy.fs
 obtain⟨A1',c1',h41',h1',l1'⟩:=hz.fs
 obtain⟨A2,c2,h42,h2,l2⟩:=hy.ns
 obtain⟨A2',c2',h42',h2',l2'⟩:=hz.ns
 obtain⟨A3,c3,L3,h43,h3,l3⟩:=hy.ims
 obtain⟨A3',c3',L3',h43',h3',l3'⟩:=hz.ims
 obtain⟨A4,c4,L4,h44,h4,l4⟩:=hy.des
 obtain⟨A4',c4',L4',h44',h4',l4'⟩:=hz.des
 obtain⟨A5,c5,h45,h5,l5⟩:=hy.bos
 obtain⟨A5',c5',h45',h5',l5'⟩:=hz.bos
 obtain⟨A6,c6,h46,h6,l6⟩:=hy.rls
 obtain⟨A6',c6',h46',h6',l6'⟩:=hz.rls
 obtain⟨A7,c7,h49,h7,l7⟩:=hy.tl
 obtain⟨A7',c7',h49',h7',l7'⟩:=hz.tl
 have BW:=fun W (hW:Below w2.heap.size w2 W)=>HB0.out.trans (hW.mono HB0.out.size)
 have HHD:=Zg (fun W (hW:Below w2.heap.size w2 W)=>Qi ((List.range 39).map y.hd).toArray ((List.range 39).map z.hd).toArray d.h e.h sv sv' d.sects e.sects W hv1 hv1' ⟨A0,c0,hsv,hs1.below (BW W hW),hs2⟩ ⟨A0',c0',hsv',hs1'.below (BW W hW),hs2'⟩ hy.db hz.db)
 have HBY:=Zg (fun W (hW:Below w2.heap.size w2 W)=>And.intro (YB (cap:=C) (hr.below (BW W hW)).row) (YB (cap:=C') (hr'.below (BW W hW)).row))
 have HF1:=Zg (fun W (hW:Below w2.heap.size w2 W)=>Zaz d.eb e.eb d.fs e.fs d.ns e.ns A1 A1' A2 A2' c1 c1' c2 c2' W (h1.below (BW W hW)) (h1'.below (BW W hW)) (h2.below (BW W hW)) (h2'.below (BW W hW)) l1 l1' l2 l2')
 have HF3:=Zg (fun W (hW:Below w2.heap.size w2 W)=>VD A3 A3' L3 L3' c3 c3' W (h3.below (BW W hW)) (h3'.below (BW W hW)))
 have HF4:=Zg (fun W (hW:Below w2.heap.size w2 W)=>VD A4 A4' L4 L4' c4 c4' W (h4.below (BW W hW)) (h4'.below (BW W hW)))
 have HF5:=Zg (fun W (hW:Below w2.heap.size w2 W)=>Zbh bC (fun x=>txt x.1) (fun x=>(x.2:Int)) (fun _=>rfl) A5 A5' d.bos e.bos c5 c5' W (h5.below (BW W hW)) (h5'.below (BW W hW)) l5 l5' (decide (d.bos.map bC=e.bos.map bC)) decide_eq_true_iff)
 have HF6:=Zg (fun W (hW:Below w2.heap.size w2 W)=>Zfk Wh (fun x=>x.1) (fun x=>x.2) (fun _=>rfl) A6 A6' d.rls e.rls c6 c6' W (h6.below (BW W hW)) (h6'.below (BW W hW)) l6 l6' (decide (d.rls.map Wh=e.rls.map Wh)) decide_eq_true_iff)
 have HF7:=Zg (fun W (hW:Below w2.heap.size w2 W)=>Zay d.ti e.ti d.tx e.tx d.tl e.tl A7 A7' c7 c7' W (h7.below (BW W hW)) (h7'.below (BW W hW)) l7 l7')
 have HIM:=Zg (And.intro him him')
 have H39:=Zg (And.intro hi hi')
 have H40:=Zg (And.intro hy.e0 hz.e0)
 have H41:=Zg (And.intro h41 h41')
 have H42:=Zg (And.intro h42 h42')
 have H43:=Zg (And.intro h43 h43')
 have H44:=Zg (And.intro h44 h44')
 have H45:=Zg (And.intro h45 h45')
 have H46:=Zg (And.intro h46 h46')
 have H47:=Zg (And.intro hy.t0 hz.t0)
 have H48:=Zg (And.intro hy.t1 hz.t1)
 have H49:=Zg (And.intro h49 h49')
 have HK3:=Zg (UC l3 l3')
 have HK4:=Zg (UC l4 l4')
 clear hv1 hv1' hsv hsv' hs1 hs1' hs2 hs2' hi hi' hr hr' him him' h41 h41' h1 h1' l1 l1' h42 h42' h2 h2' l2 l2' h43 h43' h3 h3' l3 l3' h44 h44' h4 h4' l4 l4' h45 h45' h5 h5' l5 l5' h46 h46' h6 h6' l6 l6' h49 h49' h7 h7' l7 l7' BW hy hz
 go_enter Tryz.func20,Tryz.ntmps20
 go_upto_region 1 with(fail)
 refine(congrArg _ HW2.out).mpr ?_
 have HZ:=Zg (Below.refl w2.heap.size w2)
 try simp only[List.append_eq,List.cons_append,List.nil_append]
 go_wp2_with (first
  | (refine wpList_load_mid rfl 41 (.tmp 5) rfl w.heap.size 0 rfl ((List.range 39).map y.hd) _ HR0.out Tryz.underlying41 rfl (by rw[List.length_map,List.length_range]; kernel_rfl) ?_)
  | (refine wpList_load_mid rfl 41 (.tmp 7) rfl (w.heap.size+1) 0 rfl ((List.range 39).map z.hd) _ HR1.out Tryz.underlying41 rfl (by rw[List.length_map,List.length_range]; kernel_rfl) ?_)
  | fail)
 refine(HHD.out _ HZ.out).mono ?_
 rintro x w3 ⟨⟨b,rfl,hq⟩,hb⟩
 replace HZ:=Zg (HZ.out.trans (hb.mono HZ.out.size))
 have HQ0:=Zg hq
 clear hb hq
 rcases b with _|_
 ·go_wp2_with fail
  go_ret
  exact⟨.no fun k=>(by have:=HQ0.out.2 k.hd; simp at this),HB0.out.trans (HZ.out.mono HB0.out.size)⟩
 have HP0:=Zg (HQ0.out.1 rfl)
 have a39:=(HCF.out _ HZ.out 39 _ _ (by omega) H39.out.1 H39.out.2).1
 have b39:=(HCF.out _ HZ.out 39 _ _ (by omega) H39.out.1 H39.out.2).2
 have hcv:=(HBY.out _ HZ.out).1
 have hcv':=(HBY.out _ HZ.out).2
 have a40:=(HCF.out _ HZ.out 40 _ _ (by omega) H40.out.1 H40.out.2).1
 have b40:=(HCF.out _ HZ.out 40 _ _ (by omega) H40.out.1 H40.out.2).2
 have a41:=(HCF.out _ HZ.out 41 _ _ (by omega) H41.out.1 H41.out.2).1
 have b41:=(HCF.out _ HZ.out 41 _ _ (by omega) H41.out.1 H41.out.2).2
 have a42:=(HCF.out _ HZ.out 42 _ _ (by omega) H42.out.1 H42.out.2).1
 have b42:=(HCF.out _ HZ.out 42 _ _ (by omega) H42.out.1 H42.out.2).2
 obtain⟨b,hq⟩: ∃ q,((ZB f 0 N).toList == (ZB f' 0 N').toList)=q:=⟨_,rfl⟩
 rcases b with _|_
 ·have HN:=Zg (show ¬ d.im=e.im from fun k=>beq_eq_false_iff_ne.1 hq (by rw[←HIM.out.1,←HIM.out.2,k]))
  go_wp2_with fail
  go_ret
  exact⟨.no fun k=>(HN.out k.im),HB0.out.trans (HZ.out.mono HB0.out.size)⟩
 have HPI:=Zg (show d.im=e.im from by rw[HIM.out.1,HIM.out.2]; exact toList_eq.1 (beq_iff_eq.1 hq))
 go_wp2_with fail
 refine(HF1.out _ HZ.out).mono ?_
 rintro x w5 ⟨⟨b,rfl,hqq⟩,hb⟩
 replace HZ:=Zg (HZ.out.trans (hb.mono HZ.out.size))
 have HQ:=Zg hqq
 clear hb hqq hq hcv hcv' a39 b39 a40 b40 a41 b41 a42 b42
 rcases b with _|_
 ·go_wp2_with fail
  go_ret
  exact⟨.no fun k=>(by have:=HQ.out.2 ⟨k.eb,k.fs,k.ns⟩; simp at this),HB0.out.trans (HZ.out.mono HB0.out.size)⟩
 have HP1:=Zg (HQ.out.1 rfl)
 have a43:=(HCF.out _ HZ.out 43 _ _ (by omega) H43.out.1 H43.out.2).1
 have b43:=(HCF.out _ HZ.out 43 _ _ (by omega) H43.out.1 H43.out.2).2
 go_wp2_with fail
 refine(HF3.out _ HZ.out).mono ?_
 rintro x w7 ⟨⟨b,rfl,hq⟩,hb⟩
 replace HZ:=Zg (HZ.out.trans (hb.mono HZ.out.size))
 have HQ:=Zg hq
 clear hb hq a43 b43
 rcases b with _|_
 ·go_wp2_with fail
  go_ret
  exact⟨.no fun k=>(by have:=HQ.out.2 (HK3.out.2 k.ims); simp at this),HB0.out.trans (HZ.out.mono HB0.out.size)⟩
 have HP3:=Zg (HQ.out.1 rfl)
 have a44:=(HCF.out _ HZ.out 44 _ _ (by omega) H44.out.1 H44.out.2).1
 have b44:=(HCF.out _ HZ.out 44 _ _ (by omega) H44.out.1 H44.out.2).2
 go_wp2_with fail
 refine(HF4.out _ HZ.out).mono ?_
 rintro x w8 ⟨⟨b,rfl,hq⟩,hb⟩
 replace HZ:=Zg (HZ.out.trans (hb.mono HZ.out.size))
 have HQ:=Zg hq
 clear hb hq a44 b44
 rcases b with _|_
 ·go_wp2_with fail
  go_ret
  exact⟨.no fun k=>(by have:=HQ.out.2 (HK4.out.2 k.des); simp at this),HB0.out.trans (HZ.out.mono HB0.out.size)⟩
 have HP4:=Zg (HQ.out.1 rfl)
 have a45:=(HCF.out _ HZ.out 45 _ _ (by omega) H45.out.1 H45.out.2).1
 have b45:=(HCF.out _ HZ.out 45 _ _ (by omega) H45.out.1 H45.out.2).2
 go_wp2_with fail
 refine(HF5.out _ HZ.out).mono ?_
 rintro x w9 ⟨rfl,hb⟩
 replace HZ:=Zg (HZ.out.trans (hb.mono HZ.out.size))
 clear hb a45 b45
 obtain⟨b,hq⟩: ∃ q,decide (d.bos.map bC=e.bos.map bC)=q:=⟨_,rfl⟩
 rw[hq]
 rcases b with _|_
 ·have HN:=Zg (of_decide_eq_false hq)
  clear hq
  go_wp2_with fail
  go_ret
  exact⟨.no fun k=>(HN.out k.bos),HB0.out.trans (HZ.out.mono HB0.out.size)⟩
 have HP5:=Zg (of_decide_eq_true hq)
 clear hq
 have a46:=(HCF.out _ HZ.out 46 _ _ (by omega) H46.out.1 H46.out.2).1
 have b46:=(HCF.out _ HZ.out 46 _ _ (by omega) H46.out.1 H46.out.2).2
 go_wp2_with fail
 refine(HF6.out _ HZ.out).mono ?_
 rintro x w10 ⟨rfl,hb⟩
 replace HZ:=Zg (HZ.out.trans (hb.mono HZ.out.size))
 clear hb a46 b46
 obtain⟨b,hq⟩: ∃ q,decide (d.rls.map Wh=e.rls.map Wh)=q:=⟨_,rfl⟩
 rw[hq]
 rcases b with _|_
 ·have HN:=Zg (of_decide_eq_false hq)
  clear hq
  go_wp2_with fail
  go_ret
  exact⟨.no fun k=>(HN.out k.rls),HB0.out.trans (HZ.out.mono HB0.out.size)⟩
 have HP6:=Zg (of_decide_eq_true hq)
 clear hq
 have a47:=(HCF.out _ HZ.out 47 _ _ (by omega) H47.out.1 H47.out.2).1
 have b47:=(HCF.out _ HZ.out 47 _ _ (by omega) H47.out.1 H47.out.2).2
 have a48:=(HCF.out _ HZ.out 48 _ _ (by omega) H48.out.1 H48.out.2).1
 have b48:=(HCF.out _ HZ.out 48 _ _ (by omega) H48.out.1 H48.out.2).2
 have a49:=(HCF.out _ HZ.out 49 _ _ (by omega) H49.out.1 H49.out.2).1
 have b49:=(HCF.out _ HZ.out 49 _ _ (by omega) H49.out.1 H49.out.2).2
 go_wp2_with fail
 refine(HF7.out _ HZ.out).mono ?_
 rintro x w11 ⟨⟨b,rfl,hqq⟩,hb⟩
 replace HZ:=Zg (HZ.out.trans (hb.mono HZ.out.size))
 have HQ:=Zg hqq
 clear hb hqq a47 b47 a48 b48 a49 b49
 rcases b with _|_
 ·go_wp2_with fail
  go_ret
  exact⟨.no fun k=>(by have:=HQ.out.2 ⟨k.ti,k.tx,k.tl⟩; simp at this),HB0.out.trans (HZ.out.mono HB0.out.size)⟩
 have HP7:=Zg (HQ.out.1 rfl)
 go_wp2_with fail
 go_ret
 exact⟨.yes ⟨HP0.out,HPI.out,HP1.out.1,HP1.out.2.1,HP1.out.2.2,HK3.out.1 HP3.out,HK4.out.1 HP4.out,HP5.out,HP6.out,HP7.out.1,HP7.out.2.1,HP7.out.2.2⟩,HB0.out.trans (HZ.out.mono HB0.out.size)⟩
end Go.Proofs.YtplgdpjbkdagfaaGreat
