import Derived.Test.YtplgdpjbkdagfaaGreatZPeEqB
import Derived.Test.YtplgdpjbkdagfaaGreatZImpD
import Derived.Test.YtplgdpjbkdagfaaGreatZOwnT
import Derived.Test.YtplgdpjbkdagfaaGreatZPMap
import Derived.Deep.Cut
import Derived.Deep.CutRange
import Derived.Test.YtplgdpjbkdagfaaGreatZPeV
namespace Go.Proofs.YtplgdpjbkdagfaaGreat
set_option maxHeartbeats 8000000
open List renaming getElem?_toArray→Za, getElem?_cons_succ→Zb, getElem?_cons_zero→Zc, setIfInBounds_toArray→Zd, set_cons_zero→Ze, set_cons_succ→Zf
open Lib renaming hid→Zg
open Go.ChangeShapes Go.WideShapes Go.ChangeAt Go.RowKit
set_option linter.unusedVariables false
set_option linter.unusedSimpArgs false
set_option maxRecDepth 100000
theorem Zfr {w:World} {b o:Nat} {v:Value} (h:w.cell? ⟨b,o,none⟩=some v):b<w.heap.size:=by
 rcases Nat.lt_or_ge b w.heap.size with k|k
 ·exact k
 ·simp[World.cell?,Array.getElem?_eq_none k] at h
def ImK (v:Jf):ByteArray × Nat × Nat × Nat × List (List Value):=(txt v.dll,v.iat,v.stamp,v.handle,v.syms.map YX)
theorem VD (a b:Jf):ImK a=ImK b↔txt a.dll=txt b.dll/\a.iat=b.iat/\a.stamp=b.stamp/\a.handle=b.handle/\a.syms.map YX=b.syms.map YX:=by
 simp[ImK]
def Zl0 (w:World) (A:Option Addr) (l:List WN):Prop:=SlT YS 5 w A l/\l.length<=1000000/\ ∀ y∈l,SlT YX 3 w y.A y.v.syms/\y.v.syms.length<=1000000
theorem Zl0.below {w w':World} {A:Option Addr} {l:List WN} (h:Zl0 w A l) (hb:Below w.heap.size w w'):Zl0 w' A l:=⟨h.1.below hb,h.2.1,fun y hy=>⟨(h.2.2 y hy).1.below hb,(h.2.2 y hy).2⟩⟩
theorem SlT.at5 {w:World} {A:Option Addr} {l:List WN} (h:SlT YS 5 w A l) {i:Nat} (hi:i<l.length): ∃ b o,A=some ⟨b,o,none⟩/\w.cell? ⟨b,o+i * 5,none⟩=some (.string (txt l[i].v.dll))/\w.cell? ⟨b,o+i * 5+1,none⟩=some (.int .i64 l[i].v.iat)/\w.cell? ⟨b,o+i * 5+2,none⟩=some (.int .i64 l[i].v.stamp)/\w.cell? ⟨b,o+i * 5+3,none⟩=some (.int .i64 l[i].v.handle)/\w.cell? ⟨b,o+i * 5+4,none⟩=some (.slice l[i].A l[i].v.syms.length l[i].c):=by
 rcases h with h|⟨b,o,rfl,_,hc⟩
 ·rw[h] at hi; simp at hi
 ·exact⟨b,o,rfl,hc i hi 0 _ rfl,hc i hi 1 _ rfl,hc i hi 2 _ rfl,hc i hi 3 _ rfl,hc i hi 4 _ rfl⟩
theorem VY (A A':Option Addr) (l l':List WN) (c c':Nat) (w:World) (h:Zl0 w A l) (h':Zl0 w A' l') :
 Calls Tryz.prog 45 #[.slice A l.length c,.slice A' l'.length c'] w fun e u=>JS (l.map (fun y=>ImK y.v)=l'.map (fun y=>ImK y.v)) e/\Below w.heap.size w u:=by
 have H:=Zg h;have H':=Zg h';have dP:=h.2.1;clear h h';by_cases cl:l.length=l'.length;rotate_left 1
 ·have n1:((l.length:Int) != (l'.length:Int))=true:=by rw[bne_iff_ne]; omega
  have HQ:=Zg cl;clear cl;go_enter Tryz.func45,Tryz.ntmps45;go_wp2_with fail
  go_ret;exact⟨.no fun k=>HQ.out (by have:=congrArg List.length k; simpa using this),Below.refl _ _⟩
 have n1:((l.length:Int) != (l'.length:Int))=false:=by rw[bne_eq_false_iff_eq]; omega
 have vZ:=Zg cl;clear cl;go_enter Tryz.func45,Tryz.ntmps45;go_wp2_with fail
 clear n1;go_loopw [5] (fun v5 wr=> ∃ i:Nat,i<=l.length/\v5= .int .i64 i/\(∀(j:Nat) (h1:j<l.length) (h2:j<l'.length),j<i->ImK l[j].v=ImK l'[j].v)/\Below w.heap.size w wr) (fun v5 _=>l.length - (intOf v5).toNat)
 case atStart=>exact⟨0,by omega,rfl,fun j _ _ h=>by omega,Below.refl _ _⟩
 case round =>
  obtain⟨i,hi,rfl,bu,bZ⟩:=hrel;have cw:=Zg bu;have HB:=Zg bZ;clear bu bZ;by_cases af:i<l.length
  ·have aE:(i:Int)<l.length:=by omega
   have aB:i<l'.length:=by have:=vZ.out; omega
   have ib:(i:Int)<l'.length:=by omega
   obtain⟨bb,o,rfl,d0,d1,d2,d3,d4⟩:=(H.out.below HB.out).1.at5 af;obtain⟨oM,o',rfl,e0,e1,e2,e3,e4⟩:=(H'.out.below HB.out).1.at5 aB;have jM:=(H.out.below HB.out).2.2 l[i] (List.getElem_mem af);have aT:=(H'.out.below HB.out).2.2 l'[i] (List.getElem_mem aB);obtain⟨y,hy⟩: ∃ y,l[i]=y:=⟨_,rfl⟩;obtain⟨z,hz⟩: ∃ y,l'[i]=y:=⟨_,rfl⟩;rw[hy] at d0 d1 d2 d3 d4 jM;rw[hz] at e0 e1 e2 e3 e4 aT;have aJ:=Zg (show bb<wr.heap.size/\oM<wr.heap.size from⟨(Zfr d0),(Zfr e0)⟩);have cO:=Zg jM;have eV:=Zg aT;have CE:=Zg (And.intro hy hz);clear jM aT hy hz;go_upto_region 6 with(fail)
   go_cut [6,7] from 18 to 80 (fun v6 v7 wc=> ∃ bx bz,v6= .pointer (some ⟨bx,0,none⟩)/\v7= .pointer (some ⟨bz,0,none⟩)/\wc.heap[bx]? =some (.cells (YS y).toArray 78 (0,0))/\wc.heap[bz]? =some (.cells (YS z).toArray 78 (0,0))/\Below wr.heap.size wr wc)
   case first =>
    rename_i J1 K1 kQ jG;have oQ:=Zg kQ;have jF:=Zg jG;clear kQ jG;have IG:wr.rangeAt bb (o+i * 5) (YS y):=fun j v hj=>by
     rcases j with _|_|_|_|_|j
     ·simp[YS] at hj; subst hj; exact d0
     ·simp[YS] at hj; subst hj; exact d1
     ·simp[YS] at hj; subst hj; exact d2
     ·simp[YS] at hj; subst hj; exact d3
     ·simp[YS] at hj; subst hj; exact d4
     ·simp[YS] at hj
    have xA:wr.rangeAt oM (o'+i * 5) (YS z):=fun j v hj=>by
     rcases j with _|_|_|_|_|j
     ·simp[YS] at hj; subst hj; exact e0
     ·simp[YS] at hj; subst hj; exact e1
     ·simp[YS] at hj; subst hj; exact e2
     ·simp[YS] at hj; subst hj; exact e3
     ·simp[YS] at hj; subst hj; exact e4
     ·simp[YS] at hj
    have MQ:=Zg (fun W (hW:Below wr.heap.size wr W)=>show W.rangeAt bb (o+i * 5) (YS y) from fun j v hj=>(hW.cell (p:=⟨bb,o+i * 5+j,none⟩) aJ.out.1).trans (IG j v hj));have nw:=Zg (fun W (hW:Below wr.heap.size wr W)=>show W.rangeAt oM (o'+i * 5) (YS z) from fun j v hj=>(hW.cell (p:=⟨oM,o'+i * 5+j,none⟩) aJ.out.2).trans (xA j v hj));clear IG xA d0 d1 d2 d3 d4 e0 e1 e2 e3 e4;have HS:=Zg (show Below wr.heap.size wr wr.drew from(Below.refl _ _).drew);refine wp_region_noPanic ?_;refine Zt (fun W=>Below wr.heap.size wr W) (fun _=>True) 10 (by kernel_rfl) ?_;refine wU (i:=0) HS.out ?_;refine wU (i:=1) HS.out ?_;refine wU (i:=2) HS.out ?_;refine wT (i:=3) (oi:= ?_) (v:= ?_) ?_ ?_ HS.out ?_;rotate_left 2
    ·(simp only[Za,Zb,Zc]; rfl)
    ·refine yieldsIf_load_mid ?_ 78 (.tmp 22) ?_ bb (o+i * 5) ?_ (YS y) _ ?_ Tryz.underlying78 ?_ ?_
     ·rfl
     ·rfl
     ·first|rfl|simp[Act.eval]
     ·exact fun W hW=>MQ.out W hW
     ·rfl
     ·rfl
    try simp only[Act.put,Zd,Ze,Zf]
    refine wU (i:=4) HS.out ?_;refine wU (i:=5) HS.out ?_;refine wU (i:=6) HS.out ?_;refine wT (i:=7) (oi:= ?_) (v:= ?_) ?_ ?_ HS.out ?_;rotate_left 2
    ·(simp only[Za,Zb,Zc]; rfl)
    ·refine yieldsIf_load_mid ?_ 78 (.tmp 26) ?_ oM (o'+i * 5) ?_ (YS z) _ ?_ Tryz.underlying78 ?_ ?_
     ·rfl
     ·rfl
     ·first|rfl|simp[Act.eval]
     ·exact fun W hW=>nw.out W hW
     ·rfl
     ·rfl
    try simp only[Act.put,Zd,Ze,Zf]
    refine XM (i:=8) (j:=9) (by kernel_rfl) rfl rfl (fun K hK=> ?_) (fun K hK=> ?_)
    ·go_simp;have aF:=Zg (show Below wr.heap.size wr ((wr.alloc (.cells #[.string ⟨#[]⟩,.int .i64 0,.int .i64 0,.int .i64 0,.slice none 0 0] 78)).drew) from HS.out.alloc (Nat.le_refl _) _);have oK:=Zg (show((wr.alloc (.cells #[.string ⟨#[]⟩,.int .i64 0,.int .i64 0,.int .i64 0,.slice none 0 0] 78)).drew).heap[wr.heap.size]? =some (.cells #[.string ⟨#[]⟩,.int .i64 0,.int .i64 0,.int .i64 0,.slice none 0 0] 78 (0,0)) from heap_alloc_new wr.drew _);have rj:=Zg (show((wr.alloc (.cells #[.string ⟨#[]⟩,.int .i64 0,.int .i64 0,.int .i64 0,.slice none 0 0] 78)).drew).heap.size=wr.heap.size+1 from by simp);generalize (wr.alloc (.cells #[.string ⟨#[]⟩,.int .i64 0,.int .i64 0,.int .i64 0,.slice none 0 0] 78)).drew=wa at *;refine hK.out _ _ aF.out (fun _=>trivial) ?_;clear hK K;try simp only[Act.put,Zd,Ze,Zf]
     refine wO (i:=9) (fun K hK=> ?_);go_simp;have bY:=Zg (show Below wr.heap.size wr (wa.alloc (.cells #[.string ⟨#[]⟩,.int .i64 0,.int .i64 0,.int .i64 0,.slice none 0 0] 78)) from aF.out.alloc aF.out.size _);have qW:=Zg (show(wa.alloc (.cells #[.string ⟨#[]⟩,.int .i64 0,.int .i64 0,.int .i64 0,.slice none 0 0] 78)).heap[wr.heap.size]? =some (.cells #[.string ⟨#[]⟩,.int .i64 0,.int .i64 0,.int .i64 0,.slice none 0 0] 78 (0,0)) from(Below.heap_alloc _ _ _ (Zi oK.out)).trans oK.out);have aN:=Zg (show(wa.alloc (.cells #[.string ⟨#[]⟩,.int .i64 0,.int .i64 0,.int .i64 0,.slice none 0 0] 78)).heap[wr.heap.size+1]? =some (.cells #[.string ⟨#[]⟩,.int .i64 0,.int .i64 0,.int .i64 0,.slice none 0 0] 78 (0,0)) from by
      have h:=heap_alloc_new wa (.cells #[.string ⟨#[]⟩,.int .i64 0,.int .i64 0,.int .i64 0,.slice none 0 0] 78);rwa [rj.out] at h)
     have sq:=rj.out;rw[sq];clear sq;generalize wa.alloc (.cells #[.string ⟨#[]⟩,.int .i64 0,.int .i64 0,.int .i64 0,.slice none 0 0] 78)=wb at *;obtain⟨ga,wC⟩: ∃ q,wr.heap.size=q:=⟨_,rfl⟩;obtain⟨gb,kg⟩: ∃ q,wr.heap.size+1=q:=⟨_,rfl⟩;have ko:=Zg (show ga≠gb/\wr.heap.size<=ga/\wr.heap.size<=gb from by omega);have wj:=qW.out;have nP:=aN.out;have Fg:=bY.out;simp only[kg];simp only[wC];rw[wC] at wj;rw[kg] at nP;have qX:=Zg wj;have bH:=Zg nP;clear wj nP Fg wC kg oK qW aN rj aF;refine hK.out _ _ bY.out (fun _=>trivial) ?_;clear hK K;try simp only[Act.put,Zd,Ze,Zf]
     refine wO (i:=10) (fun K hK=> ?_);refine Yd rfl 78 (.tmp 6) (.tmp 23) rfl ga (YS y).toArray rfl rfl 78 #[.string ⟨#[]⟩,.int .i64 0,.int .i64 0,.int .i64 0,.slice none 0 0] qX.out (by kernel_rfl) rfl (by simp[YS,Value.oneCell']) ?_;have gF:=Zg (show Below wr.heap.size wr (wb.setRow ga (YS y).toArray) from below_setRow bY.out (by have:=ko.out; omega) _);have qk:=Zg (setRow_heap wb ga _ (YS y).toArray _ _ qX.out);have gQ:=Zg ((setRow_other wb ga gb (YS y).toArray (by have:=ko.out; omega)).trans bH.out);generalize wb.setRow ga (YS y).toArray=wd at *;refine hK.out _ _ gF.out (fun _=>trivial) ?_;clear hK K;try simp only[Act.put,Zd,Ze,Zf]
     refine wO (i:=11) (fun K hK=> ?_);refine Yd rfl 78 (.tmp 7) (.tmp 27) rfl gb (YS z).toArray rfl rfl 78 #[.string ⟨#[]⟩,.int .i64 0,.int .i64 0,.int .i64 0,.slice none 0 0] gQ.out (by kernel_rfl) rfl (by simp[YS,Value.oneCell']) ?_;have ld:=Zg (show Below wr.heap.size wr (wd.setRow gb (YS z).toArray) from below_setRow gF.out (by have:=ko.out; omega) _);have ke:=Zg ((setRow_other wd gb ga (YS z).toArray (by have:=ko.out; omega)).trans qk.out);have lv:=Zg (setRow_heap wd gb _ (YS z).toArray _ _ gQ.out);generalize wd.setRow gb (YS z).toArray=we at *;refine hK.out _ _ ld.out (fun _=>trivial) ?_;clear hK K;try simp only[Act.put,Zd,Ze,Zf]
     refine Zo (by kernel_rfl) ?_ _;refine NoPanic.normal ?_;refine jF.out _ _ ?_;refine Met.intro (oQ.out _ _ ?_);repeat apply Exists.intro
     exact⟨⟨ga,gb,rfl,rfl,ke.out,lv.out,ld.out⟩,rfl⟩
    ·go_simp;have aF:=Zg (show Below wr.heap.size wr ((wr.alloc (.cells #[.string ⟨#[]⟩,.int .i64 0,.int .i64 0,.int .i64 0,.slice none 0 0] 78)).drew) from HS.out.alloc (Nat.le_refl _) _);have oK:=Zg (show((wr.alloc (.cells #[.string ⟨#[]⟩,.int .i64 0,.int .i64 0,.int .i64 0,.slice none 0 0] 78)).drew).heap[wr.heap.size]? =some (.cells #[.string ⟨#[]⟩,.int .i64 0,.int .i64 0,.int .i64 0,.slice none 0 0] 78 (0,0)) from heap_alloc_new wr.drew _);have rj:=Zg (show((wr.alloc (.cells #[.string ⟨#[]⟩,.int .i64 0,.int .i64 0,.int .i64 0,.slice none 0 0] 78)).drew).heap.size=wr.heap.size+1 from by simp);generalize (wr.alloc (.cells #[.string ⟨#[]⟩,.int .i64 0,.int .i64 0,.int .i64 0,.slice none 0 0] 78)).drew=wa at *;refine hK.out _ _ aF.out (fun _=>trivial) ?_;clear hK K;try simp only[Act.put,Zd,Ze,Zf]
     refine wO (i:=8) (fun K hK=> ?_);go_simp;have bY:=Zg (show Below wr.heap.size wr (wa.alloc (.cells #[.string ⟨#[]⟩,.int .i64 0,.int .i64 0,.int .i64 0,.slice none 0 0] 78)) from aF.out.alloc aF.out.size _);have qW:=Zg (show(wa.alloc (.cells #[.string ⟨#[]⟩,.int .i64 0,.int .i64 0,.int .i64 0,.slice none 0 0] 78)).heap[wr.heap.size]? =some (.cells #[.string ⟨#[]⟩,.int .i64 0,.int .i64 0,.int .i64 0,.slice none 0 0] 78 (0,0)) from(Below.heap_alloc _ _ _ (Zi oK.out)).trans oK.out);have aN:=Zg (show(wa.alloc (.cells #[.string ⟨#[]⟩,.int .i64 0,.int .i64 0,.int .i64 0,.slice none 0 0] 78)).heap[wr.heap.size+1]? =some (.cells #[.string ⟨#[]⟩,.int .i64 0,.int .i64 0,.int .i64 0,.slice none 0 0] 78 (0,0)) from by
      have h:=heap_alloc_new wa (.cells #[.string ⟨#[]⟩,.int .i64 0,.int .i64 0,.int .i64 0,.slice none 0 0] 78);rwa [rj.out] at h)
     have sq:=rj.out;rw[sq];clear sq;generalize wa.alloc (.cells #[.string ⟨#[]⟩,.int .i64 0,.int .i64 0,.int .i64 0,.slice none 0 0] 78)=wb at *;obtain⟨ga,wC⟩: ∃ q,wr.heap.size=q:=⟨_,rfl⟩;obtain⟨gb,kg⟩: ∃ q,wr.heap.size+1=q:=⟨_,rfl⟩;have ko:=Zg (show ga≠gb/\wr.heap.size<=ga/\wr.heap.size<=gb from by omega);have wj:=qW.out;have nP:=aN.out;have Fg:=bY.out;simp only[kg];simp only[wC];rw[wC] at wj;rw[kg] at nP;have qX:=Zg wj;have bH:=Zg nP;clear wj nP Fg wC kg oK qW aN rj aF;refine hK.out _ _ bY.out (fun _=>trivial) ?_;clear hK K;try simp only[Act.put,Zd,Ze,Zf]
     refine wO (i:=10) (fun K hK=> ?_);refine Yd rfl 78 (.tmp 6) (.tmp 23) rfl gb (YS y).toArray rfl rfl 78 #[.string ⟨#[]⟩,.int .i64 0,.int .i64 0,.int .i64 0,.slice none 0 0] bH.out (by kernel_rfl) rfl (by simp[YS,Value.oneCell']) ?_;have gF:=Zg (show Below wr.heap.size wr (wb.setRow gb (YS y).toArray) from below_setRow bY.out (by have:=ko.out; omega) _);have qk:=Zg (setRow_heap wb gb _ (YS y).toArray _ _ bH.out);have gQ:=Zg ((setRow_other wb gb ga (YS y).toArray (by have:=ko.out; omega)).trans qX.out);generalize wb.setRow gb (YS y).toArray=wd at *;refine hK.out _ _ gF.out (fun _=>trivial) ?_;clear hK K;try simp only[Act.put,Zd,Ze,Zf]
     refine wO (i:=11) (fun K hK=> ?_);refine Yd rfl 78 (.tmp 7) (.tmp 27) rfl ga (YS z).toArray rfl rfl 78 #[.string ⟨#[]⟩,.int .i64 0,.int .i64 0,.int .i64 0,.slice none 0 0] gQ.out (by kernel_rfl) rfl (by simp[YS,Value.oneCell']) ?_;have ld:=Zg (show Below wr.heap.size wr (wd.setRow ga (YS z).toArray) from below_setRow gF.out (by have:=ko.out; omega) _);have ke:=Zg ((setRow_other wd ga gb (YS z).toArray (by have:=ko.out; omega)).trans qk.out);have lv:=Zg (setRow_heap wd ga _ (YS z).toArray _ _ gQ.out);generalize wd.setRow ga (YS z).toArray=we at *;refine hK.out _ _ ld.out (fun _=>trivial) ?_;clear hK K;try simp only[Act.put,Zd,Ze,Zf]
     refine Zo (by kernel_rfl) ?_ _;refine NoPanic.normal ?_;refine jF.out _ _ ?_;refine Met.intro (oQ.out _ _ ?_);repeat apply Exists.intro
     exact⟨⟨gb,ga,rfl,rfl,ke.out,lv.out,ld.out⟩,rfl⟩
   case rest =>
    obtain⟨bx,bz,rfl,rfl,rI,s9,yt⟩:=hcut;have IH:=Zg rI;have n7:=Zg s9;have pA:=Zg yt;clear d0 d1 d2 d3 d4 e0 e1 e2 e3 e4 rI s9 yt;obtain⟨⟨dy,iy,sy,ty,ys⟩,Ay,cy⟩:=y;obtain⟨⟨dz,iz,sz,tz,zs⟩,Az,cz⟩:=z;have II:=Zg (fun W (hW:Below wc.heap.size wc W)=>show((W.cell? ⟨bx,0,none⟩=some (.string (txt dy))/\W.cell? ⟨bx,1,none⟩=some (.int .i64 iy)/\W.cell? ⟨bx,2,none⟩=some (.int .i64 sy))/\W.cell? ⟨bx,3,none⟩=some (.int .i64 ty)/\W.cell? ⟨bx,4,none⟩=some (.slice Ay ys.length cy)) from by
     have h0:=(hW.block _ (Zi IH.out)).trans IH.out;exact⟨⟨by rw[Zh h0]; rfl,by rw[Zh h0]; rfl,by rw[Zh h0]; rfl⟩,by rw[Zh h0]; rfl,by rw[Zh h0]; rfl⟩)
    have tn:=Zg (fun W (hW:Below wc.heap.size wc W)=>show((W.cell? ⟨bz,0,none⟩=some (.string (txt dz))/\W.cell? ⟨bz,1,none⟩=some (.int .i64 iz)/\W.cell? ⟨bz,2,none⟩=some (.int .i64 sz))/\W.cell? ⟨bz,3,none⟩=some (.int .i64 tz)/\W.cell? ⟨bz,4,none⟩=some (.slice Az zs.length cz)) from by
     have h0:=(hW.block _ (Zi n7.out)).trans n7.out;exact⟨⟨by rw[Zh h0]; rfl,by rw[Zh h0]; rfl,by rw[Zh h0]; rfl⟩,by rw[Zh h0]; rfl,by rw[Zh h0]; rfl⟩)
    have aw:=Zg (HB.out.trans (pA.out.mono HB.out.size));have fh:=Zg (show ¬ ImK ⟨dy,iy,sy,ty,ys⟩=ImK ⟨dz,iz,sz,tz,zs⟩-> ¬ l.map (fun y=>ImK y.v)=l'.map (fun y=>ImK y.v) from fun h k=>h (by
     have k3:=congrArg (fun q=>q[i]?) k;simp only[List.getElem?_map,List.getElem?_eq_getElem af,List.getElem?_eq_getElem aB,Option.map_some,Option.some.injEq] at k3;rw[CE.out.1,CE.out.2] at k3;exact k3))
    have jM:=cO.out;have aT:=eV.out;simp only at jM aT;have cO:=Zg jM;have eV:=Zg aT;clear jM aT;obtain⟨⟨x0,x1,x2⟩,x3,x4⟩:=II.out wc (Below.refl _ _);obtain⟨⟨z0,z1,z2⟩,z3,z4⟩:=tn.out wc (Below.refl _ _);by_cases q0:txt dy=txt dz;rotate_left 1
    ·have n0:((txt dy).toList != (txt dz).toList)=true:=by rw[bne_iff_ne]; exact fun k=>q0 (toList_eq.1 k)
     have m0:((txt dy).toList == (txt dz).toList)=false:=beq_eq_false_iff_ne.2 fun k=>q0 (toList_eq.1 k);have HN:=Zg q0;clear q0;go_wp2_with fail
     go_ret;exact⟨.no (fh.out fun k=>HN.out ((VD _ _).1 k).1),aw.out⟩
    have n0:((txt dy).toList != (txt dz).toList)=false:=by rw[q0]; simp
    have m0:((txt dy).toList == (txt dz).toList)=true:=by rw[q0]; simp
    have Q0:=Zg q0;clear q0;by_cases q1:iy=iz;rotate_left 1
    ·have n1:((iy:Int) != (iz:Int))=true:=by rw[bne_iff_ne]; omega
     have m1:((iy:Int) == (iz:Int))=false:=beq_eq_false_iff_ne.2 (by omega);have HN:=Zg q1;clear q1;go_wp2_with fail
     go_ret;exact⟨.no (fh.out fun k=>HN.out ((VD _ _).1 k).2.1),aw.out⟩
    have n1:((iy:Int) != (iz:Int))=false:=by rw[bne_eq_false_iff_eq]; omega
    have m1:((iy:Int) == (iz:Int))=true:=by rw[beq_iff_eq]; omega
    have Q1:=Zg q1;clear q1;by_cases q2:sy=sz;rotate_left 1
    ·have n2:((sy:Int) != (sz:Int))=true:=by rw[bne_iff_ne]; omega
     have m2:((sy:Int) == (sz:Int))=false:=beq_eq_false_iff_ne.2 (by omega);have HN:=Zg q2;clear q2;go_wp2_with fail
     go_ret;exact⟨.no (fh.out fun k=>HN.out ((VD _ _).1 k).2.2.1),aw.out⟩
    have n2:((sy:Int) != (sz:Int))=false:=by rw[bne_eq_false_iff_eq]; omega
    have m2:((sy:Int) == (sz:Int))=true:=by rw[beq_iff_eq]; omega
    have Q2:=Zg q2;clear q2;by_cases q3:ty=tz;rotate_left 1
    ·have n3:((ty:Int) != (tz:Int))=true:=by rw[bne_iff_ne]; omega
     have m3:((ty:Int) == (tz:Int))=false:=beq_eq_false_iff_ne.2 (by omega);have HN:=Zg q3;clear q3;go_wp2_with fail
     go_ret;exact⟨.no (fh.out fun k=>HN.out ((VD _ _).1 k).2.2.2.1),aw.out⟩
    have n3:((ty:Int) != (tz:Int))=false:=by rw[bne_eq_false_iff_eq]; omega
    have m3:((ty:Int) == (tz:Int))=true:=by rw[beq_iff_eq]; omega
    have Q3:=Zg q3;clear q3;by_cases q4:ys.length=zs.length;rotate_left 1
    ·have n4:((ys.length:Int) != (zs.length:Int))=true:=by rw[bne_iff_ne]; omega
     have HN:=Zg q4;clear q4;go_wp2_with fail
     go_ret;exact⟨.no (fh.out fun k=>HN.out (by have:=congrArg List.length ((VD _ _).1 k).2.2.2.2; simpa using this)),aw.out⟩
    have n4:((ys.length:Int) != (zs.length:Int))=false:=by rw[bne_eq_false_iff_eq]; omega
    have Q4:=Zg q4;clear q4;go_wp2_with fail
    clear x0 x1 x2 x3 x4 z0 z1 z2 z3 z4 n0 n1 n2 n3 n4 m0 m1 m2 m3;go_loopw [8] (fun v8 ws=> ∃ k:Nat,k<=ys.length/\v8= .int .i64 k/\(∀(j:Nat) (h1:j<ys.length) (h2:j<zs.length),j<k->YX ys[j]=YX zs[j])/\Below wc.heap.size wc ws) (fun v8 _=>ys.length - (intOf v8).toNat)
    case atStart=>exact⟨0,by omega,rfl,fun j _ _ h=>by omega,Below.refl _ _⟩
    case round =>
     obtain⟨k,hk,rfl,bu,gX⟩:=hrel;have Aa:=Zg bu;have gw:=Zg gX;have MR:=Zg (aw.out.trans (gX.mono aw.out.size));have x4:=(II.out _ gX).2.2;have z4:=(tn.out _ gX).2.2;have PJ:=cO.out.2;clear bu gX;have Fh:=Zg (pA.out.trans (gw.out.mono pA.out.size));by_cases jy:k<ys.length
     ·have Fi:(k:Int)<ys.length:=by omega
      have oC:k<zs.length:=by have:=Q4.out; omega
      have IJ:(k:Int)<zs.length:=by omega
      obtain⟨b1,o1,rfl,_,hc⟩: ∃ b o,Ay=some ⟨b,o,none⟩/\b<wr.heap.size/\ ∀(i:Nat) (hi:i<ys.length) (j:Nat) (v:Value),(YX ys[i])[j]? =some v->wr.cell? ⟨b,o+(i * 3+j),none⟩=some v:=by
       rcases cO.out.1.below Fh.out with h|h
       ·rw[h] at jy; simp at jy
       ·exact h
      obtain⟨b2,o2,rfl,_,eN⟩: ∃ b o,Az=some ⟨b,o,none⟩/\b<wr.heap.size/\ ∀(i:Nat) (hi:i<zs.length) (j:Nat) (v:Value),(YX zs[i])[j]? =some v->wr.cell? ⟨b,o+(i * 3+j),none⟩=some v:=by
       rcases eV.out.1.below Fh.out with h|h
       ·rw[h] at oC; simp at oC
       ·exact h
      have d0:=hc k jy 0 (.string (txt ys[k].1)) rfl;have d1:=hc k jy 1 (.int .i64 ys[k].2.1) rfl;have d2:=hc k jy 2 (.bool ys[k].2.2) rfl;have e0:=eN k oC 0 (.string (txt zs[k].1)) rfl;have e1:=eN k oC 1 (.int .i64 zs[k].2.1) rfl;have e2:=eN k oC 2 (.bool zs[k].2.2) rfl;rw[show o1+(k * 3+0)=o1+k * 3 by omega] at d0;rw[show o2+(k * 3+0)=o2+k * 3 by omega] at e0;rw[show o1+(k * 3+1)=o1+k * 3+1 by omega] at d1;rw[show o2+(k * 3+1)=o2+k * 3+1 by omega] at e1;rw[show o1+(k * 3+2)=o1+k * 3+2 by omega] at d2;rw[show o2+(k * 3+2)=o2+k * 3+2 by omega] at e2;obtain⟨y1,gN⟩: ∃ y,ys[k]=y:=⟨_,rfl⟩;obtain⟨z1,bw⟩: ∃ y,zs[k]=y:=⟨_,rfl⟩;rw[gN] at d0 d1 d2;rw[bw] at e0 e1 e2;obtain⟨r,rD,hr⟩:=Znj (txt y1.1) (txt z1.1) y1.2.1 z1.2.1 y1.2.2 z1.2.2;have eF:=Zg (show YX ys[k]=YX zs[k]↔r=true from by rw[gN,bw,hr]; simp[YX]);clear hc eN hr gN bw;rcases r with _|_
      ·go_wp2_with fail
       go_region
       go_wp2_with fail
       go_ret;exact⟨.no (fh.out fun q=>by
        have h2:=congrArg (fun L=>L[k]?) ((VD _ _).1 q).2.2.2.2;simp only[List.getElem?_map,List.getElem?_eq_getElem jy,List.getElem?_eq_getElem oC,Option.map_some,Option.some.injEq] at h2;have h3:=eF.out.1 h2;simp at h3),MR.out.drew⟩
      ·have dN:=Zg (show ∀(j:Nat) (h1:j<ys.length) (h2:j<zs.length),j<k+1->YX ys[j]=YX zs[j] from fun j h1 h2 h3=>(by
        rcases(by omega:j<k\/j=k) with h4|h4
        ·exact Aa.out j h1 h2 h4
        ·subst h4; exact eF.out.2 rfl))
       go_wp2_with fail
       go_region
       go_wp2_with fail
       go_roundw
       case rel=>exact⟨k+1,by omega,by go_num,dN.out,gw.out.drew⟩
       case measure=>simp[intOf]; omega
     ·obtain rfl:k=ys.length:=by omega
      have HM:=Zg (show ys.map YX=zs.map YX from by
       apply List.ext_getElem
       ·simp[Q4.out]
       ·intro j h1 h2;simp only[List.length_map] at h1 h2;simp only[List.getElem_map];exact Aa.out j h1 h2 h1)
      have PK: ¬ (ys.length:Int)<(ys.length:Int):=by omega
      have CF:=Zg (show ImK ⟨dy,iy,sy,ty,ys⟩=ImK ⟨dz,iz,sz,tz,zs⟩ from(VD _ _).2 ⟨Q0.out,Q1.out,Q2.out,Q3.out,HM.out⟩);go_wp2_with fail
      go_roundw
      case rel=>exact⟨i+1,by omega,by go_num,fun j h1 h2 h3=>(by
       rcases(by omega:j<i\/j=i) with h4|h4
       ·exact cw.out j h1 h2 h4
       ·subst h4; rw[CE.out.1,CE.out.2]; exact CF.out),HB.out.trans (Fh.out.mono HB.out.size)⟩
      case measure=>simp[intOf]; omega
  ·obtain rfl:i=l.length:=by omega
   have PL: ¬ (l.length:Int)<(l.length:Int):=by omega
   go_wp2_with fail
   go_ret;refine⟨.yes ?_,HB.out⟩;apply List.ext_getElem
   ·simp[vZ.out]
   ·intro j h1 h2;simp only[List.length_map] at h1 h2;simp only[List.getElem_map];exact cw.out j h1 h2 h1
structure PeD where
 h:ZX
 sects:List Zx
 im:ByteArray
 eb:Int
 fs:List FnV
 ns:List NmV
 ims:List Jf
 des:List Jf
 bos:List Zge
 rls:List YQ
 ti:Bool
 tx:Int
 tl:List Int
structure PeEq (d e:PeD):Prop where
 hd:Zkj d.h e.h/\d.sects.map Zx.cells=e.sects.map Zx.cells
 im:d.im=e.im
 eb:d.eb=e.eb
 fs:d.fs.map gC=e.fs.map gC
 ns:d.ns.map nC=e.ns.map nC
 ims:d.ims.map ImK=e.ims.map ImK
 des:d.des.map ImK=e.des.map ImK
 bos:d.bos.map bC=e.bos.map bC
 rls:d.rls.map Wk=e.rls.map Wk
 ti:d.ti=e.ti
 tx:d.tx=e.tx
 tl:d.tl.map WH=e.tl.map WH
theorem PeEq.refl (d:PeD):PeEq d d:=⟨⟨⟨rfl,rfl,rfl,rfl,rfl,rfl,fun _ _=>rfl⟩,rfl⟩,rfl,rfl,rfl,rfl,rfl,rfl,rfl,rfl,rfl,rfl,rfl⟩
structure Zod (W:World) (y:PeV) (d:PeD):Prop where
 hv: ∃ sv,YR ((List.range 39).map y.hd).toArray d.h sv/\Ua W sv d.sects
 db:Zc4 d.h
 img: ∃ g N C f,y.img= .slice (some ⟨g,0,none⟩) N C/\Wj W g 0 N C f/\d.im=ZB f 0 N
 e0:y.e0= .int .i64 d.eb
 fs: ∃ A c,y.e1= .slice A d.fs.length c/\SlT gC 2 W A d.fs/\d.fs.length<=1000000
 ns: ∃ A c,y.e2= .slice A d.ns.length c/\SlT nC 2 W A d.ns/\d.ns.length<=1000000
 ims: ∃ A c l,y.im= .slice A l.length c/\Zl0 W A l/\l.map (·.v)=d.ims
 des: ∃ A c l,y.de= .slice A l.length c/\Zl0 W A l/\l.map (·.v)=d.des
 bos: ∃ A c,y.bo= .slice A d.bos.length c/\SlT bC 2 W A d.bos/\d.bos.length<=1000000
 rls: ∃ A c,y.re= .slice A d.rls.length c/\SlT Wk 2 W A d.rls/\d.rls.length<=1000000
 t0:y.t0= .bool d.ti
 t1:y.t1= .int .i64 d.tx
 tl: ∃ A c,y.t2= .slice A d.tl.length c/\SlT WH 1 W A d.tl/\d.tl.length<=1000000
theorem Zod.below {W W':World} {y:PeV} {d:PeD} (h:Zod W y d) (hb:Below W.heap.size W W'):Zod W' y d:=by
 refine⟨?_,h.db,?_,h.e0,?_,?_,?_,?_,?_,?_,h.t0,h.t1,?_⟩
 ·obtain⟨sv,h1,A,c,h2,h3,h4⟩:=h.hv;exact⟨sv,h1,A,c,h2,h3.below hb,h4⟩
 ·obtain⟨g,N,C,f,h1,h2,h3⟩:=h.img;exact⟨g,N,C,f,h1,h2.below hb,h3⟩
 ·obtain⟨A,c,h1,h2,h3⟩:=h.fs; exact⟨A,c,h1,h2.below hb,h3⟩
 ·obtain⟨A,c,h1,h2,h3⟩:=h.ns; exact⟨A,c,h1,h2.below hb,h3⟩
 ·obtain⟨A,c,l,h1,h2,h3⟩:=h.ims; exact⟨A,c,l,h1,h2.below hb,h3⟩
 ·obtain⟨A,c,l,h1,h2,h3⟩:=h.des; exact⟨A,c,l,h1,h2.below hb,h3⟩
 ·obtain⟨A,c,h1,h2,h3⟩:=h.bos; exact⟨A,c,h1,h2.below hb,h3⟩
 ·obtain⟨A,c,h1,h2,h3⟩:=h.rls; exact⟨A,c,h1,h2.below hb,h3⟩
 ·obtain⟨A,c,h1,h2,h3⟩:=h.tl; exact⟨A,c,h1,h2.below hb,h3⟩
theorem Zfs {l l':List WN} {a b:List Jf} (h:l.map (·.v)=a) (h':l'.map (·.v)=b):(l.map (fun y=>ImK y.v)=l'.map (fun y=>ImK y.v))↔a.map ImK=b.map ImK:=by
 subst h h';rw[List.map_map,List.map_map];exact Iff.rfl
structure UR (W:World) (y:PeV) (d:PeD):Prop where
 hv: ∃ sv,YR ((List.range 39).map y.hd).toArray d.h sv/\Ua W sv d.sects
 db:Zc4 d.h
 img: ∃ A N C,y.img= .slice A N C/\ ∀ W',Below W.heap.size W W'->(convert 25 9 (.slice A N C)).run Tryz.prog W'= .ok (.string d.im) W'
 e0:y.e0= .int .i64 d.eb
 fs: ∃ A c,y.e1= .slice A d.fs.length c/\SlT gC 2 W A d.fs/\d.fs.length<=1000000
 ns: ∃ A c,y.e2= .slice A d.ns.length c/\SlT nC 2 W A d.ns/\d.ns.length<=1000000
 ims: ∃ A c l,y.im= .slice A l.length c/\Zl0 W A l/\l.map (·.v)=d.ims
 des: ∃ A c l,y.de= .slice A l.length c/\Zl0 W A l/\l.map (·.v)=d.des
 bos: ∃ A c,y.bo= .slice A d.bos.length c/\SlT bC 2 W A d.bos/\d.bos.length<=1000000
 rls: ∃ A c,y.re= .slice A d.rls.length c/\SlT Wk 2 W A d.rls/\d.rls.length<=1000000
 t0:y.t0= .bool d.ti
 t1:y.t1= .int .i64 d.tx
 tl: ∃ A c,y.t2= .slice A d.tl.length c/\SlT WH 1 W A d.tl/\d.tl.length<=1000000
theorem Zod.weak {W:World} {y:PeV} {d:PeD} (h:Zod W y d):UR W y d :=
 ⟨h.hv,h.db,(by
   obtain⟨g,N,C,f,h1,h2,h3⟩:=h.img;refine⟨_,N,C,h1,fun W' hb=> ?_⟩;rw[h3];exact YL (cap:=C) (h2.below hb).row),h.e0,h.fs,h.ns,h.ims,h.des,h.bos,h.rls,h.t0,h.t1,h.tl⟩
theorem UR.below {W W':World} {y:PeV} {d:PeD} (h:UR W y d) (hb:Below W.heap.size W W'):UR W' y d:=by
 refine⟨?_,h.db,?_,h.e0,?_,?_,?_,?_,?_,?_,h.t0,h.t1,?_⟩
 ·obtain⟨sv,h1,A,c,h2,h3,h4⟩:=h.hv;exact⟨sv,h1,A,c,h2,h3.below hb,h4⟩
 ·obtain⟨A,N,C,h1,h2⟩:=h.img;exact⟨A,N,C,h1,fun W2 aC=>h2 W2 (hb.trans (aC.mono hb.size))⟩
 ·obtain⟨A,c,h1,h2,h3⟩:=h.fs; exact⟨A,c,h1,h2.below hb,h3⟩
 ·obtain⟨A,c,h1,h2,h3⟩:=h.ns; exact⟨A,c,h1,h2.below hb,h3⟩
 ·obtain⟨A,c,l,h1,h2,h3⟩:=h.ims; exact⟨A,c,l,h1,h2.below hb,h3⟩
 ·obtain⟨A,c,l,h1,h2,h3⟩:=h.des; exact⟨A,c,l,h1,h2.below hb,h3⟩
 ·obtain⟨A,c,h1,h2,h3⟩:=h.bos; exact⟨A,c,h1,h2.below hb,h3⟩
 ·obtain⟨A,c,h1,h2,h3⟩:=h.rls; exact⟨A,c,h1,h2.below hb,h3⟩
 ·obtain⟨A,c,h1,h2,h3⟩:=h.tl; exact⟨A,c,h1,h2.below hb,h3⟩
def dZ:PeD:=⟨Ul,[],⟨#[]⟩,0,[],[],[],[],[],[],false,0,[]⟩
theorem peZ_is (W:World):UR W peZ dZ:=by
 refine⟨⟨.slice none 0 0,?_,none,0,rfl,.inl rfl,by simp[dZ]⟩,fun i _=> ?_,⟨none,0,0,rfl,fun W' _=> ?_⟩,rfl,⟨none,0,rfl,.inl rfl,by simp[dZ]⟩,⟨none,0,rfl,.inl rfl,by simp[dZ]⟩,⟨none,0,[],rfl,⟨.inl rfl,by simp,fun y hy=>by simp at hy⟩,rfl⟩,⟨none,0,[],rfl,⟨.inl rfl,by simp,fun y hy=>by simp at hy⟩,rfl⟩,⟨none,0,rfl,.inl rfl,by simp[dZ]⟩,⟨none,0,rfl,.inl rfl,by simp[dZ]⟩,rfl,rfl,⟨none,0,rfl,.inl rfl,by simp[dZ]⟩⟩
 ·have h:((List.range 39).map peZ.hd).toArray=Zl 0 0 0 0 0 0:=by kernel_rfl
  rw[h];exact ZD
 ·simp[dZ,Ul]
 ·go_simp;rfl
theorem Zl1 (y z:PeV) (d e:PeD) (w:World) (hy:UR w y d) (hz:UR w z e) :
 Calls Tryz.prog 20 #[.agg (peC y),.agg (peC z)] w fun x u=>JS (PeEq d e) x/\Below w.heap.size w u:=by
 classical
 have bO:Below w.heap.size w ((w.alloc (.cells (peC y) 50)).alloc (.cells (peC z) 50)):=((Below.refl w.heap.size w).alloc (Nat.le_refl _) _).alloc (by simp) _;have jL:=heap_alloc2_old w (.cells (peC y) 50) (.cells (peC z) 50);have ja:=heap_alloc2_new w (.cells (peC y) 50) (.cells (peC z) 50);obtain⟨w2,aR⟩: ∃ q,(w.alloc (.cells (peC y) 50)).alloc (.cells (peC z) 50)=q:=⟨_,rfl⟩;rw[aR] at bO jL ja;have au:=Zg bO;have j8:=Zg aR;have cr:=Zg (show ∀ W,Below w2.heap.size w2 W-> ∀ j u v,j<50->peF y j=u->peF z j=v->W.cell? ⟨w.heap.size,j,none⟩=some u/\W.cell? ⟨w.heap.size+1,j,none⟩=some v from fun W hW j u v hj hu hv=>by
  subst hu hv;exact⟨(hW.cell (p:=⟨w.heap.size,j,none⟩) (Zi jL)).trans ((Zh jL).trans (Yv y hj)),(hW.cell (p:=⟨w.heap.size+1,j,none⟩) (Zi ja)).trans ((Zh ja).trans (Yv z hj))⟩)
 have lp: ∀ P (x:PeV),(∀ j,j<50->w2.cell? ⟨P,j,none⟩=some (peF x j))->w2.rangeAt P 0 ((List.range 39).map x.hd):=fun P x hP j v hv=>by
  have hj:j<39:=by
   rcases Nat.lt_or_ge j 39 with hj|hj
   ·exact hj
   ·simp[hj] at hv
  simp[hj] at hv;subst hv;rw[Nat.zero_add,hP j (by omega),JJ x hj]
 have oa:=Zg (lp w.heap.size y (fun j hj=>(cr.out w2 (Below.refl _ _) j _ _ hj rfl rfl).1));have sF:=Zg (lp (w.heap.size+1) z (fun j hj=>(cr.out w2 (Below.refl _ _) j _ _ hj rfl rfl).2));have PN:=Zg (fun W (hW:Below w2.heap.size w2 W)=>hy.below (au.out.trans (hW.mono au.out.size)));have PO:=Zg (fun W (hW:Below w2.heap.size w2 W)=>hz.below (au.out.trans (hW.mono au.out.size)));clear lp bO jL ja aR;obtain⟨sv,ur,A0,c0,yq,cY,jh⟩:=hy.hv;obtain⟨ps,Ak,MX,yO,Al,Am,An⟩:=hz.hv;obtain⟨A9,N,C,hi,hr⟩:=hy.img;obtain⟨PQ,N',C',ef,tj⟩:=hz.img;obtain⟨A1,c1,qO,h1,l1⟩:=hy.fs;obtain⟨MY,Cl,Ad,IV,IW⟩:=hz.fs;obtain⟨A2,c2,BK,h2,l2⟩:=hy.ns;obtain⟨MZ,Ip,Ae,IX,IY⟩:=hz.ns;obtain⟨A3,c3,L3,qP,h3,l3⟩:=hy.ims;obtain⟨M0,M1,M3,Af,CO,IZ⟩:=hz.ims;obtain⟨A4,c4,L4,BL,h4,l4⟩:=hy.des;obtain⟨M4,Fx,M5,Ag,I0,I4⟩:=hz.des;obtain⟨A5,c5,BM,h5,l5⟩:=hy.bos;obtain⟨M6,M7,Ah,I5,I6⟩:=hz.bos;obtain⟨A6,c6,iU,h6,l6⟩:=hy.rls;obtain⟨M8,M9,Ai,I7,I8⟩:=hz.rls;obtain⟨A7,c7,BN,h7,l7⟩:=hy.tl;obtain⟨M',Na,Aj,I9,I'⟩:=hz.tl;have BW:=fun W (hW:Below w2.heap.size w2 W)=>au.out.trans (hW.mono au.out.size);have oZ:=Zg (fun W (hW:Below w2.heap.size w2 W)=>Za8 ((List.range 39).map y.hd).toArray ((List.range 39).map z.hd).toArray d.h e.h sv ps d.sects e.sects W ur Ak ⟨A0,c0,yq,cY.below (BW W hW),jh⟩ ⟨MX,yO,Al,Am.below (BW W hW),An⟩ hy.db hz.db);have tI:=Zg (fun W (hW:Below w2.heap.size w2 W)=>And.intro (hr W (BW W hW)) (tj W (BW W hW)));have pV:=Zg (fun W (hW:Below w2.heap.size w2 W)=>Zcy d.eb e.eb d.fs e.fs d.ns e.ns A1 MY A2 MZ c1 Cl c2 Ip W (h1.below (BW W hW)) (IV.below (BW W hW)) (h2.below (BW W hW)) (IX.below (BW W hW)) l1 IW l2 IY);have Ab:=Zg (fun W (hW:Below w2.heap.size w2 W)=>VY A3 M0 L3 M3 c3 M1 W (h3.below (BW W hW)) (CO.below (BW W hW)));have MS:=Zg (fun W (hW:Below w2.heap.size w2 W)=>VY A4 M4 L4 M5 c4 Fx W (h4.below (BW W hW)) (I0.below (BW W hW)));have MT:=Zg (fun W (hW:Below w2.heap.size w2 W)=>Zej bC (fun x=>txt x.1) (fun x=>(x.2:Int)) (fun _=>rfl) A5 M6 d.bos e.bos c5 M7 W (h5.below (BW W hW)) (I5.below (BW W hW)) l5 I6 (decide (d.bos.map bC=e.bos.map bC)) decide_eq_true_iff);have MU:=Zg (fun W (hW:Below w2.heap.size w2 W)=>Zkf Wk (fun x=>x.1) (fun x=>x.2) (fun _=>rfl) A6 M8 d.rls e.rls c6 M9 W (h6.below (BW W hW)) (I7.below (BW W hW)) l6 I8 (decide (d.rls.map Wk=e.rls.map Wk)) decide_eq_true_iff);have MV:=Zg (fun W (hW:Below w2.heap.size w2 W)=>Zcx d.ti e.ti d.tx e.tx d.tl e.tl A7 M' c7 Na W (h7.below (BW W hW)) (I9.below (BW W hW)) l7 I');have fv:=Zg (And.intro hi ef);have wA:=Zg (And.intro hy.e0 hz.e0);have tC:=Zg (And.intro qO Ad);have CG:=Zg (And.intro BK Ae);have tD:=Zg (And.intro qP Af);have CH:=Zg (And.intro BL Ag);have CI:=Zg (And.intro BM Ah);have CJ:=Zg (And.intro iU Ai);have CK:=Zg (And.intro hy.t0 hz.t0);have wB:=Zg (And.intro hy.t1 hz.t1);have CL:=Zg (And.intro BN Aj);have IK:=Zg (Zfs l3 IZ);have IL:=Zg (Zfs l4 I4);clear ur Ak yq Al cY Am jh An hi ef hr tj qO Ad h1 IV l1 IW BK Ae h2 IX l2 IY qP Af h3 CO l3 IZ BL Ag h4 I0 l4 I4 BM Ah h5 I5 l5 I6 iU Ai h6 I7 l6 I8 BN Aj h7 I9 l7 I' BW hy hz;go_enter Tryz.func20,Tryz.ntmps20;go_upto_region 1 with(fail)
 refine(congrArg _ j8.out).mpr ?_;have HZ:=Zg (Below.refl w2.heap.size w2);try simp only[List.append_eq,List.cons_append,List.nil_append]
 go_wp2_with (first
  | (refine wpList_load_mid rfl 41 (.tmp 5) rfl w.heap.size 0 rfl ((List.range 39).map y.hd) _ oa.out Tryz.underlying41 rfl (by rw[List.length_map,List.length_range]; kernel_rfl) ?_)
  | (refine wpList_load_mid rfl 41 (.tmp 7) rfl (w.heap.size+1) 0 rfl ((List.range 39).map z.hd) _ sF.out Tryz.underlying41 rfl (by rw[List.length_map,List.length_range]; kernel_rfl) ?_)
  | fail)
 refine(oZ.out _ HZ.out).mono ?_;rintro x w3 ⟨⟨b,rfl,hq⟩,hb⟩;replace HZ:=Zg (HZ.out.trans (hb.mono HZ.out.size));have Ac:=Zg hq;clear hb hq;rcases b with _|_
 ·go_wp2_with fail
  go_ret;exact⟨.no fun k=>(by have:=Ac.out.2 k.hd; simp at this),au.out.trans (HZ.out.mono au.out.size)⟩
 have nL:=Zg (Ac.out.1 rfl);have Fj:=(cr.out _ HZ.out 39 _ _ (by omega) fv.out.1 fv.out.2).1;have Fk:=(cr.out _ HZ.out 39 _ _ (by omega) fv.out.1 fv.out.2).2;have dI:=(tI.out _ HZ.out).1;have Fl:=(tI.out _ HZ.out).2;have a40:=(cr.out _ HZ.out 40 _ _ (by omega) wA.out.1 wA.out.2).1;have Fm:=(cr.out _ HZ.out 40 _ _ (by omega) wA.out.1 wA.out.2).2;have CM:=(cr.out _ HZ.out 41 _ _ (by omega) tC.out.1 tC.out.2).1;have Fo:=(cr.out _ HZ.out 41 _ _ (by omega) tC.out.1 tC.out.2).2;have a42:=(cr.out _ HZ.out 42 _ _ (by omega) CG.out.1 CG.out.2).1;have Fp:=(cr.out _ HZ.out 42 _ _ (by omega) CG.out.1 CG.out.2).2;obtain⟨b,hq⟩: ∃ q,(d.im.toList == e.im.toList)=q:=⟨_,rfl⟩;rcases b with _|_
 ·have HN:=Zg (show ¬ d.im=e.im from fun k=>beq_eq_false_iff_ne.1 hq (by rw[k]));go_wp2_with fail
  go_ret;exact⟨.no fun k=>(HN.out k.im),au.out.trans (HZ.out.mono au.out.size)⟩
 have MW:=Zg (show d.im=e.im from by exact toList_eq.1 (beq_iff_eq.1 hq));go_wp2_with fail
 refine(pV.out _ HZ.out).mono ?_;rintro x w5 ⟨⟨b,rfl,Ao⟩,hb⟩;replace HZ:=Zg (HZ.out.trans (hb.mono HZ.out.size));have HQ:=Zg Ao;clear hb Ao hq dI Fl Fj Fk a40 Fm CM Fo a42 Fp;rcases b with _|_
 ·go_wp2_with fail
  go_ret;exact⟨.no fun k=>(by have:=HQ.out.2 ⟨k.eb,k.fs,k.ns⟩; simp at this),au.out.trans (HZ.out.mono au.out.size)⟩
 have lU:=Zg (HQ.out.1 rfl);have CN:=(cr.out _ HZ.out 43 _ _ (by omega) tD.out.1 tD.out.2).1;have Fq:=(cr.out _ HZ.out 43 _ _ (by omega) tD.out.1 tD.out.2).2;go_wp2_with fail
 refine(Ab.out _ HZ.out).mono ?_;rintro x w7 ⟨⟨b,rfl,hq⟩,hb⟩;replace HZ:=Zg (HZ.out.trans (hb.mono HZ.out.size));have HQ:=Zg hq;clear hb hq CN Fq;rcases b with _|_
 ·go_wp2_with fail
  go_ret;exact⟨.no fun k=>(by have:=HQ.out.2 (IK.out.2 k.ims); simp at this),au.out.trans (HZ.out.mono au.out.size)⟩
 have tG:=Zg (HQ.out.1 rfl);have Fs:=(cr.out _ HZ.out 44 _ _ (by omega) CH.out.1 CH.out.2).1;have Ft:=(cr.out _ HZ.out 44 _ _ (by omega) CH.out.1 CH.out.2).2;go_wp2_with fail
 refine(MS.out _ HZ.out).mono ?_;rintro x w8 ⟨⟨b,rfl,hq⟩,hb⟩;replace HZ:=Zg (HZ.out.trans (hb.mono HZ.out.size));have HQ:=Zg hq;clear hb hq Fs Ft;rcases b with _|_
 ·go_wp2_with fail
  go_ret;exact⟨.no fun k=>(by have:=HQ.out.2 (IL.out.2 k.des); simp at this),au.out.trans (HZ.out.mono au.out.size)⟩
 have CB:=Zg (HQ.out.1 rfl);have a45:=(cr.out _ HZ.out 45 _ _ (by omega) CI.out.1 CI.out.2).1;have Fu:=(cr.out _ HZ.out 45 _ _ (by omega) CI.out.1 CI.out.2).2;go_wp2_with fail
 refine(MT.out _ HZ.out).mono ?_;rintro x w9 ⟨rfl,hb⟩;replace HZ:=Zg (HZ.out.trans (hb.mono HZ.out.size));clear hb a45 Fu;obtain⟨b,hq⟩: ∃ q,decide (d.bos.map bC=e.bos.map bC)=q:=⟨_,rfl⟩;rw[hq];rcases b with _|_
 ·have HN:=Zg (of_decide_eq_false hq);clear hq;go_wp2_with fail
  go_ret;exact⟨.no fun k=>(HN.out k.bos),au.out.trans (HZ.out.mono au.out.size)⟩
 have zX:=Zg (of_decide_eq_true hq);clear hq;have a46:=(cr.out _ HZ.out 46 _ _ (by omega) CJ.out.1 CJ.out.2).1;have Fv:=(cr.out _ HZ.out 46 _ _ (by omega) CJ.out.1 CJ.out.2).2;go_wp2_with fail
 refine(MU.out _ HZ.out).mono ?_;rintro x mP ⟨rfl,hb⟩;replace HZ:=Zg (HZ.out.trans (hb.mono HZ.out.size));clear hb a46 Fv;obtain⟨b,hq⟩: ∃ q,decide (d.rls.map Wk=e.rls.map Wk)=q:=⟨_,rfl⟩;rw[hq];rcases b with _|_
 ·have HN:=Zg (of_decide_eq_false hq);clear hq;go_wp2_with fail
  go_ret;exact⟨.no fun k=>(HN.out k.rls),au.out.trans (HZ.out.mono au.out.size)⟩
 have qZ:=Zg (of_decide_eq_true hq);clear hq;have a47:=(cr.out _ HZ.out 47 _ _ (by omega) CK.out.1 CK.out.2).1;have IP:=(cr.out _ HZ.out 47 _ _ (by omega) CK.out.1 CK.out.2).2;have a48:=(cr.out _ HZ.out 48 _ _ (by omega) wB.out.1 wB.out.2).1;have IQ:=(cr.out _ HZ.out 48 _ _ (by omega) wB.out.1 wB.out.2).2;have a49:=(cr.out _ HZ.out 49 _ _ (by omega) CL.out.1 CL.out.2).1;have IU:=(cr.out _ HZ.out 49 _ _ (by omega) CL.out.1 CL.out.2).2;go_wp2_with fail
 refine(MV.out _ HZ.out).mono ?_;rintro x p' ⟨⟨b,rfl,Ao⟩,hb⟩;replace HZ:=Zg (HZ.out.trans (hb.mono HZ.out.size));have HQ:=Zg Ao;clear hb Ao a47 IP a48 IQ a49 IU;rcases b with _|_
 ·go_wp2_with fail
  go_ret;exact⟨.no fun k=>(by have:=HQ.out.2 ⟨k.ti,k.tx,k.tl⟩; simp at this),au.out.trans (HZ.out.mono au.out.size)⟩
 have Fw:=Zg (HQ.out.1 rfl);go_wp2_with fail
 go_ret;exact⟨.yes ⟨nL.out,MW.out,lU.out.1,lU.out.2.1,lU.out.2.2,IK.out.1 tG.out,IL.out.1 CB.out,zX.out,qZ.out,Fw.out.1,Fw.out.2.1,Fw.out.2.2⟩,au.out.trans (HZ.out.mono au.out.size)⟩
end Go.Proofs.YtplgdpjbkdagfaaGreat
