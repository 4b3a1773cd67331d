import Derived.Test.YtplgdpjbkdagfaaGreatZExpD
import Derived.Test.YtplgdpjbkdagfaaGreatRefA
import Derived.Test.YtplgdpjbkdagfaaGreatZPeC
import Derived.Test.YtplgdpjbkdagfaaGreatRLay
namespace Go.Proofs.YtplgdpjbkdagfaaGreat
open List renaming getElem?_toArray→Za, getElem?_cons_succ→Zb, getElem?_cons_zero→Zc, setIfInBounds_toArray→Zd, set_cons_zero→Ze, set_cons_succ→Zf
open Lib renaming hid→Zg
open Go.ChangeShapes Go.WideShapes Go.ChangeAt Go.RowKit
set_option linter.unusedVariables false
set_option linter.unusedSimpArgs false
set_option maxRecDepth 100000
theorem JT (long at' n:Nat) (w:World) (hl:long≤9223372036854775807) :
 Calls Tryz.prog 73 #[.int .i64 long,.int .i64 at',.int .i64 n] w fun e w'=>e= .returned (.bool (decide (at'+n≤long)))∧w=w':=by
 by_cases c:at'+n≤long
 ·rw[decide_eq_true c]; exact Vl long at' n w (by omega) (by omega) (by omega) (by omega)
 ·rw[decide_eq_false c]; exact QU long at' n w (by omega) (by omega) (by omega)
theorem UJ {bs:List Nat} (hb:Lb bs) {o n:Nat} (h:o+n≤bs.length):(((txt bs).extract o (o+n)).toList == (ZB (fun _=>0) 0 n).toList)=Xj bs o n:=by
 have e0:=YF (txt bs) o n (by rw[Zm]; exact h)
 rw[Bool.eq_iff_iff,beq_iff_eq,Zak h]
 constructor
 ·intro q i hi
  have q2:(txt bs).extract o (o+n)=ZB (fun _=>0) 0 n:=by
   apply ByteArray.ext
   apply Array.ext'
   rw[ByteArray.toList_eq,ByteArray.toList_eq] at q
   exact q
  have k1:=XQ (f:=fun _=>0) (fun _=>⟨by show(0:Int)≤0; omega,by show(0:Int)≤255; omega⟩) (o:=0) (n:=n) (i:=i) hi
  rw[←q2,XS (txt bs) o n i (by rw[Zm]; exact h) hi,Yr hb (by omega)] at k1
  exact k1
 ·intro q
  rw[e0]
  congr 1
  exact ZH fun i hi=>by rw[Yr hb (by omega),q i hi]
theorem QG (bs:List Nat) (o:Nat) (w:World) (hb:Lb bs) (hl:bs.length≤9223372036854775807) :
 Calls Tryz.prog 74 #[.string (txt bs),.int .i64 o,.int .i64 8] w fun e w'=>e= .returned (.tuple #[.int .u64 (if o+8≤bs.length then YS (bs.drop o) 8 else 0:Nat),.bool (decide (o+8≤bs.length))])∧w=w':=by
 by_cases c:o+8≤bs.length
 ·rw[if_pos c,decide_eq_true c,←UE]
  have e1:rdF (PlainAid.bt (txt bs)) o 8=rdF (lF bs) o 8:=Xi 8 o fun i hi=>Yr hb (by omega)
  rw[←e1]
  exact WW (txt bs) o 8 w (by rw[Zm]; exact hl) (by omega) (by rw[Zm]; exact c)
 ·rw[if_neg c,decide_eq_false c]
  exact Zje (txt bs) o 8 w (by rw[Zm]; exact hl) (by omega) (by rw[Zm]; omega)
def QH (w w':World) (r:Option (List Wg)) (e:Ending):Prop:=match r with
 | none=>e= .returned (.tuple #[.slice none 0 0,.int .i64 10])
 | some l=> ∃ A c,e= .returned (.tuple #[.slice A l.length c,.int .i64 0])∧ZR Xu 3 w' w.heap.size 58 (.slice A l.length c) l
theorem Zel:txt []=⟨#[]⟩:=by decide +kernel
theorem Zem (v:Nat) (h:v<18446744073709551616):bits .and .u64 (v:Int) 65535=((v % 65536:Nat):Int):=by
 have e:=u64_and (v:Int) 65535 (by omega) (by omega) (by omega) (by omega)
 rw[e,Int.toNat_natCast,show(65535:Int).toNat=2 ^ 16 - 1 from rfl,Nat.and_two_pow_sub_one_eq_mod]
set_option maxHeartbeats 4000000 in
theorem Jt (bs:List Nat) (fr iat:Nat) (w:World) (hlen:bs.length≤1000000) (hb:Lb bs) (ht:fr<4294967296) (hi:iat<4294967296) :
 Calls Tryz.prog 94 #[.string (txt bs),.int .i64 fr,.int .i64 iat] w fun e w'=>QH w w' (VY bs (if fr=0 then iat else fr) iat 66 []) e∧Below w.heap.size w w':=by
 obtain⟨R,hR⟩: ∃ R,VY bs (if fr=0 then iat else fr) iat 66 []=R:=⟨_,rfl⟩
 rw[hR]
 have hsz:(txt bs).size=bs.length:=Zm bs
 have HLB:=Zg hb
 have HW:=Zg (Below.refl w.heap.size w)
 clear hb
 go_enter Tryz.func94,Tryz.ntmps94
 by_cases hx0:fr=0
 ·rw[if_pos hx0] at hR
  have dx:((fr:Int) == 0)=true:=by rw[beq_iff_eq]; omega
  have HR:=Zg hR
  clear hx0 hR
  go_wp2_with fail
  go_loopw [8,9] (fun v8 v9 wr=> ∃(k n:Nat) (l:List Wg) (A':Option Addr) (c':Nat),k+n=66∧l.length=k∧k≤64∧v8= .slice A' k c'∧v9= .int .i64 k∧ZR Xu 3 wr w.heap.size 58 (.slice A' k c') l∧Below w.heap.size w wr∧VY bs iat iat n l=R) (fun _ v9 _=>66 - (intOf v9).toNat)
  case atStart=>exact⟨0,66,[],none,0,rfl,rfl,by omega,rfl,rfl,ZR.nil _ _ _,HW.out,HR.out⟩
  case round =>
   obtain⟨k,n,l,A',c',hn,hl,hl64,rfl,rfl,hown,hbel,hR⟩:=hrel
   have HO:=Zg hown
   have HB:=Zg hbel
   replace HR:=Zg hR
   have HL:=Zg hl
   clear hown hbel hR
   obtain⟨n,rfl⟩: ∃ q,n=q+1:=⟨n - 1,by omega⟩
   have hre:=HR.out
   simp only[VY] at hre
   rw[hl] at hre
   obtain⟨m8,hm8⟩: ∃ q,8 * k=q:=⟨_,rfl⟩
   obtain⟨o,ho⟩: ∃ q,iat+m8=q:=⟨_,rfl⟩
   skip
   rw[hm8,ho] at hre
   skip
   have em:(8:Int) * (k:Int)=(m8:Int):=by omega
   have wm:IntKind.i64.wrap (m8:Int)=(m8:Int):=by rw[IntKind.wrap_i64]; omega
   have eo:(iat:Int)+(m8:Int)=(o:Int):=by omega
   have wo:IntKind.i64.wrap (o:Int)=(o:Int):=by rw[IntKind.wrap_i64]; omega
   have HU:=Zg (fun W=>QG bs o W HLB.out (by omega))
   have HIN:=Zg (fun W=>JT bs.length o 8 W (by omega))
   have hv:=Ym (HLB.out.drop o) 8
   rw[show(256:Nat) ^ 8=18446744073709551616 from rfl] at hv
   obtain⟨v,hvv⟩: ∃ v,YS (bs.drop o) 8=v:=⟨_,rfl⟩
   rw[hvv] at HU hre hv
   clear hm8 ho hvv hl
   by_cases c1:o+8≤bs.length
   ·rw[if_pos c1] at hre
    rw[if_pos c1,decide_eq_true c1] at HU
    clear c1
    by_cases c2:v=0
    ·rw[if_pos c2] at hre
     have dv:((v:Int) == 0)=true:=by rw[beq_iff_eq]; omega
     have hre':=hre
     subst hre'
     clear c2 hre
     go_wp2_with fail
     refine(HU.out _).mono ?_
     rintro e w' ⟨rfl,rfl⟩
     go_wp2_with fail
     go_ret2
     exact⟨⟨A',c',by rw[HL.out]; rfl,by rw[HL.out]; exact HO.out⟩,HB.out⟩
    ·rw[if_neg c2] at hre
     have dv:((v:Int) == 0)=false:=beq_eq_false_iff_ne.mpr (by omega)
     have hv0:1≤v:=by omega
     clear c2
     by_cases c3:o+8≤bs.length∧k≠64
     ·rw[if_pos c3] at hre
      have hin:decide (o+8≤bs.length)=true:=decide_eq_true c3.1
      rw[hin] at HIN
      have hk64:k<64:=by omega
      have d64: ¬ (64:Int)≤(k:Int):=by omega
      have HRE2:=Zg hre
      clear c3 hre hin
      unfold Za6 at HRE2
      by_cases c4:9223372036854775808≤v
      ·rw[if_pos c4] at HRE2
       obtain⟨r,hr⟩: ∃ r,v - 9223372036854775808=r:=⟨_,rfl⟩
       rw[hr] at HRE2
       have e63:(v:Int) / 9223372036854775808=1:=by omega
       have e16:IntKind.u64.wrap ((v:Int) / 65536 * 131072) / 131072=((r / 65536:Nat):Int):=by rw[IntKind.wrap_u64]; omega
       have eand:bits .and .u64 (v:Int) 65535=((r % 65536:Nat):Int):=by
        rw[Zem v hv]; omega
       by_cases c5:65535<r
       ·rw[if_pos c5] at HRE2
        have hre:=HRE2.out
        simp only at hre
        subst hre
        have dz:(IntKind.u64.wrap ((v:Int) / 65536 * 131072) / 131072 != 0)=true:=by rw[e16,bne_iff_ne]; omega
        clear c5 c4 hr HRE2 e16 eand
        go_wp2_with fail
        refine(HU.out _).mono ?_
        rintro e w' ⟨rfl,rfl⟩
        go_wp2_with fail
        refine(HIN.out _).mono ?_
        rintro e w' ⟨rfl,rfl⟩
        go_wp2_with fail
        go_ret2
        exact⟨rfl,HB.out⟩
       ·rw[if_neg c5] at HRE2
        have hre:=HRE2.out
        simp only at hre
        replace HRE2:=Zg hre
        have dz:(IntKind.u64.wrap ((v:Int) / 65536 * 131072) / 131072 != 0)=false:=by rw[e16,bne_eq_false_iff_eq]; omega
        have er:((r % 65536:Nat):Int)=(r:Int):=by omega
        rw[er] at eand
        have wr3:IntKind.i64.wrap (r:Int)=(r:Int):=by rw[IntKind.wrap_i64]; omega
        clear c5 c4 hr hre er e16
        go_wp2_with fail
        refine(HU.out _).mono ?_
        rintro e w' ⟨rfl,rfl⟩
        go_wp2_with fail
        refine(HIN.out _).mono ?_
        rintro e w' ⟨rfl,rfl⟩
        have HA1:=Zg (HO.out.alloc (.cells #[.string ⟨#[]⟩,.int .i64 r,.bool true] 58))
        have HY1:=Zg (show ∀ j u,(Xu (([],r,true):Wg))[j]? =some u→(wr.alloc (.cells #[.string ⟨#[]⟩,.int .i64 r,.bool true] 58)).cell? ⟨wr.heap.size,j,none⟩=some u from by
         have h: ∀ j u,(Xu (([],r,true):Wg))[j]? =some u→(wr.alloc (.cells #[.string (txt []),.int .i64 r,.bool true] 58)).cell? ⟨wr.heap.size,j,none⟩=some u:=Uy (([],r,true):Wg) wr
         rw[Zel] at h; exact h)
        have HRL:=HRE2
        have HB8:=Zg (HB.out.alloc HB.out.size (.cells #[.string ⟨#[]⟩,.int .i64 r,.bool true] 58))
        have HG3:=Zg (show w.heap.size≤(wr.alloc (.cells #[.string ⟨#[]⟩,.int .i64 r,.bool true] 58)).heap.size from HB8.out.size)
        rw[←HL.out] at HA1 hk64 hn ⊢
        have HG4:=Zg (show l.length+1≤maxLen from by unfold maxLen; omega)
        have HG5:=Zg (show(l.length+1) * 32≤140737488355328 from by omega)
        go_wp2_with (first
         | (at_builtin; refine Zv rfl (.tmp 53) (.tmp 58) 59 rfl w.heap.size 58 _ 32 rfl JV rfl (by omega) WR Ux _ l rfl HA1.out wr.heap.size 1 rfl (([],r,true):Wg) HY1.out HG4.out HG5.out HG3.out ?_; intro g5 cap5 w8 hown5 hg5 hat5)
         | fail)
        have HB9:=Zg (HA1.out.grew HB8.out (Nat.le_refl _) HB8.out.size hg5)
        have HO9:=Zg hown5
        clear hown5 hg5 hat5
        go_roundw
        case rel=>exact⟨l.length+1,n,l++[(([],r,true):Wg)],some ⟨g5,0,none⟩,cap5,by omega,by simp,by omega,by simp,by rfl,by simpa using HO9.out,HB9.out,HRL.out⟩
        case measure =>
         have:=HL.out
         simp[intOf]
         omega
      ·rw[if_neg c4] at HRE2
       have e63:(v:Int) / 9223372036854775808=0:=by omega
       by_cases c5:2147483647<v
       ·rw[if_pos c5] at HRE2
        have hre:=HRE2.out
        simp only at hre
        subst hre
        have d31:(2147483647:Int)<(v:Int):=by omega
        clear c5 c4 HRE2
        go_wp2_with fail
        refine(HU.out _).mono ?_
        rintro e w' ⟨rfl,rfl⟩
        go_wp2_with fail
        refine(HIN.out _).mono ?_
        rintro e w' ⟨rfl,rfl⟩
        go_wp2_with fail
        go_ret2
        exact⟨rfl,HB.out⟩
       ·rw[if_neg c5] at HRE2
        have d31: ¬ (2147483647:Int)<(v:Int):=by omega
        have wv:IntKind.i64.wrap (v:Int)=(v:Int):=by rw[IntKind.wrap_i64]; omega
        have ev2:(v:Int)+2=((v+2:Nat):Int):=by omega
        have wv2:IntKind.i64.wrap ((v+2:Nat):Int)=((v+2:Nat):Int):=by rw[IntKind.wrap_i64]; omega
        have HTX:=Zg (fun W=>Xs bs (v+2) 64 W HLB.out (by omega))
        obtain⟨v2,hv2⟩: ∃ q,v+2=q:=⟨_,rfl⟩
        rw[hv2] at ev2 wv2 HTX HRE2
        clear c5 c4 hv2
        go_wp2_with fail
        refine(HU.out _).mono ?_
        rintro e w' ⟨rfl,rfl⟩
        go_wp2_with fail
        refine(HIN.out _).mono ?_
        rintro e w' ⟨rfl,rfl⟩
        go_wp2_with fail
        refine(HTX.out _).mono ?_
        rintro e w' ⟨rfl,rfl⟩
        rcases htx:XV bs v2 64 with _|t
        ·rw[htx] at HRE2
         have hre:=HRE2.out
         simp only at hre
         subst hre
         clear htx HRE2 HTX
         go_wp2_with fail
         go_ret2
         exact⟨rfl,HB.out⟩
        ·have hlt':=XP HLB.out htx
         rw[htx] at HRE2
         have HSY:=Zg (fun W=>VR t W hlt'.1 (by have:=hlt'.2; omega))
         clear hlt' htx HTX
         by_cases hok:Xx t=true
         ·have hre:=HRE2.out
          simp only[hok,if_true] at hre
          replace HRE2:=Zg hre
          rw[hok] at HSY
          clear hre hok
          go_wp2_with fail
          refine(HSY.out _).mono ?_
          rintro e w' ⟨rfl,rfl⟩
          have HA1:=Zg (HO.out.alloc (.cells #[.string (txt t),.int .i64 0,.bool false] 58))
          have HY1:=Zg (show ∀ j u,(Xu ((t,0,false):Wg))[j]? =some u→(wr.alloc (.cells #[.string (txt t),.int .i64 0,.bool false] 58)).cell? ⟨wr.heap.size,j,none⟩=some u from by
           have h: ∀ j u,(Xu ((t,0,false):Wg))[j]? =some u→(wr.alloc (.cells #[.string (txt t),.int .i64 0,.bool false] 58)).cell? ⟨wr.heap.size,j,none⟩=some u:=Uy ((t,0,false):Wg) wr
           exact h)
          have HRL:=HRE2
          have HB8:=Zg (HB.out.alloc HB.out.size (.cells #[.string (txt t),.int .i64 0,.bool false] 58))
          have HG3:=Zg (show w.heap.size≤(wr.alloc (.cells #[.string (txt t),.int .i64 0,.bool false] 58)).heap.size from HB8.out.size)
          rw[←HL.out] at HA1 hk64 hn ⊢
          have HG4:=Zg (show l.length+1≤maxLen from by unfold maxLen; omega)
          have HG5:=Zg (show(l.length+1) * 32≤140737488355328 from by omega)
          go_wp2_with (first
           | (at_builtin; refine Zv rfl (.tmp 77) (.tmp 80) 59 rfl w.heap.size 58 _ 32 rfl JV rfl (by omega) WR Ux _ l rfl HA1.out wr.heap.size 1 rfl ((t,0,false):Wg) HY1.out HG4.out HG5.out HG3.out ?_; intro g5 cap5 w8 hown5 hg5 hat5)
           | fail)
          have HB9:=Zg (HA1.out.grew HB8.out (Nat.le_refl _) HB8.out.size hg5)
          have HO9:=Zg hown5
          clear hown5 hg5 hat5
          go_roundw
          case rel=>exact⟨l.length+1,n,l++[((t,0,false):Wg)],some ⟨g5,0,none⟩,cap5,by omega,by simp,by omega,by simp,by rfl,by simpa using HO9.out,HB9.out,HRL.out⟩
          case measure =>
           have:=HL.out
           simp[intOf]
           omega
         ·have hre:=HRE2.out
          simp only[hok] at hre
          have hok2:=Bool.eq_false_iff.2 hok
          rw[hok2] at HSY
          simp at hre
          subst hre
          clear hok hok2 HRE2
          go_wp2_with fail
          refine(HSY.out _).mono ?_
          rintro e w' ⟨rfl,rfl⟩
          go_wp2_with fail
          go_ret2
          exact⟨rfl,HB.out⟩
     ·rw[if_neg c3] at hre
      subst hre
      by_cases c4:o+8≤bs.length
      ·have hin:decide (o+8≤bs.length)=true:=decide_eq_true c4
       rw[hin] at HIN
       have d64:(64:Int)≤(k:Int):=by omega
       clear c3 c4 hin
       go_wp2_with fail
       refine(HU.out _).mono ?_
       rintro e w' ⟨rfl,rfl⟩
       go_wp2_with fail
       refine(HIN.out _).mono ?_
       rintro e w' ⟨rfl,rfl⟩
       go_wp2_with fail
       go_ret2
       exact⟨rfl,HB.out⟩
      ·have hin:decide (o+8≤bs.length)=false:=decide_eq_false c4
       rw[hin] at HIN
       clear c3 c4 hin
       go_wp2_with fail
       refine(HU.out _).mono ?_
       rintro e w' ⟨rfl,rfl⟩
       go_wp2_with fail
       refine(HIN.out _).mono ?_
       rintro e w' ⟨rfl,rfl⟩
       go_wp2_with fail
       go_ret2
       exact⟨rfl,HB.out⟩
   ·rw[if_neg c1] at hre
    subst hre
    rw[if_neg c1,decide_eq_false c1] at HU
    clear c1
    go_wp2_with fail
    refine(HU.out _).mono ?_
    rintro e w' ⟨rfl,rfl⟩
    go_wp2_with fail
    go_ret2
    exact⟨rfl,HB.out⟩
 ·rw[if_neg hx0] at hR
  have dx:((fr:Int) == 0)=false:=beq_eq_false_iff_ne.mpr (by omega)
  have HR:=Zg hR
  clear hx0 hR
  go_wp2_with fail
  go_loopw [8,9] (fun v8 v9 wr=> ∃(k n:Nat) (l:List Wg) (A':Option Addr) (c':Nat),k+n=66∧l.length=k∧k≤64∧v8= .slice A' k c'∧v9= .int .i64 k∧ZR Xu 3 wr w.heap.size 58 (.slice A' k c') l∧Below w.heap.size w wr∧VY bs fr iat n l=R) (fun _ v9 _=>66 - (intOf v9).toNat)
  case atStart=>exact⟨0,66,[],none,0,rfl,rfl,by omega,rfl,rfl,ZR.nil _ _ _,HW.out,HR.out⟩
  case round =>
   obtain⟨k,n,l,A',c',hn,hl,hl64,rfl,rfl,hown,hbel,hR⟩:=hrel
   have HO:=Zg hown
   have HB:=Zg hbel
   replace HR:=Zg hR
   have HL:=Zg hl
   clear hown hbel hR
   obtain⟨n,rfl⟩: ∃ q,n=q+1:=⟨n - 1,by omega⟩
   have hre:=HR.out
   simp only[VY] at hre
   rw[hl] at hre
   obtain⟨m8,hm8⟩: ∃ q,8 * k=q:=⟨_,rfl⟩
   obtain⟨o,ho⟩: ∃ q,fr+m8=q:=⟨_,rfl⟩
   obtain⟨o2,ho2⟩: ∃ q,iat+m8=q:=⟨_,rfl⟩
   rw[hm8,ho] at hre
   try rw[ho2] at hre
   have em:(8:Int) * (k:Int)=(m8:Int):=by omega
   have wm:IntKind.i64.wrap (m8:Int)=(m8:Int):=by rw[IntKind.wrap_i64]; omega
   have eo:(fr:Int)+(m8:Int)=(o:Int):=by omega
   have wo:IntKind.i64.wrap (o:Int)=(o:Int):=by rw[IntKind.wrap_i64]; omega
   have eo2:(iat:Int)+(m8:Int)=(o2:Int):=by omega
   have wo2:IntKind.i64.wrap (o2:Int)=(o2:Int):=by rw[IntKind.wrap_i64]; omega
   have HU:=Zg (fun W=>QG bs o W HLB.out (by omega))
   have HIN:=Zg (fun W=>JT bs.length o2 8 W (by omega))
   have hv:=Ym (HLB.out.drop o) 8
   rw[show(256:Nat) ^ 8=18446744073709551616 from rfl] at hv
   obtain⟨v,hvv⟩: ∃ v,YS (bs.drop o) 8=v:=⟨_,rfl⟩
   rw[hvv] at HU hre hv
   clear hm8 ho hvv hl ho2
   by_cases c1:o+8≤bs.length
   ·rw[if_pos c1] at hre
    rw[if_pos c1,decide_eq_true c1] at HU
    clear c1
    by_cases c2:v=0
    ·rw[if_pos c2] at hre
     have dv:((v:Int) == 0)=true:=by rw[beq_iff_eq]; omega
     have hre':=hre
     subst hre'
     clear c2 hre
     go_wp2_with fail
     refine(HU.out _).mono ?_
     rintro e w' ⟨rfl,rfl⟩
     go_wp2_with fail
     go_ret2
     exact⟨⟨A',c',by rw[HL.out]; rfl,by rw[HL.out]; exact HO.out⟩,HB.out⟩
    ·rw[if_neg c2] at hre
     have dv:((v:Int) == 0)=false:=beq_eq_false_iff_ne.mpr (by omega)
     have hv0:1≤v:=by omega
     clear c2
     by_cases c3:o2+8≤bs.length∧k≠64
     ·rw[if_pos c3] at hre
      have hin:decide (o2+8≤bs.length)=true:=decide_eq_true c3.1
      rw[hin] at HIN
      have hk64:k<64:=by omega
      have d64: ¬ (64:Int)≤(k:Int):=by omega
      have HRE2:=Zg hre
      clear c3 hre hin
      unfold Za6 at HRE2
      by_cases c4:9223372036854775808≤v
      ·rw[if_pos c4] at HRE2
       obtain⟨r,hr⟩: ∃ r,v - 9223372036854775808=r:=⟨_,rfl⟩
       rw[hr] at HRE2
       have e63:(v:Int) / 9223372036854775808=1:=by omega
       have e16:IntKind.u64.wrap ((v:Int) / 65536 * 131072) / 131072=((r / 65536:Nat):Int):=by rw[IntKind.wrap_u64]; omega
       have eand:bits .and .u64 (v:Int) 65535=((r % 65536:Nat):Int):=by
        rw[Zem v hv]; omega
       by_cases c5:65535<r
       ·rw[if_pos c5] at HRE2
        have hre:=HRE2.out
        simp only at hre
        subst hre
        have dz:(IntKind.u64.wrap ((v:Int) / 65536 * 131072) / 131072 != 0)=true:=by rw[e16,bne_iff_ne]; omega
        clear c5 c4 hr HRE2 e16 eand
        go_wp2_with fail
        refine(HU.out _).mono ?_
        rintro e w' ⟨rfl,rfl⟩
        go_wp2_with fail
        refine(HIN.out _).mono ?_
        rintro e w' ⟨rfl,rfl⟩
        go_wp2_with fail
        go_ret2
        exact⟨rfl,HB.out⟩
       ·rw[if_neg c5] at HRE2
        have hre:=HRE2.out
        simp only at hre
        replace HRE2:=Zg hre
        have dz:(IntKind.u64.wrap ((v:Int) / 65536 * 131072) / 131072 != 0)=false:=by rw[e16,bne_eq_false_iff_eq]; omega
        have er:((r % 65536:Nat):Int)=(r:Int):=by omega
        rw[er] at eand
        have wr3:IntKind.i64.wrap (r:Int)=(r:Int):=by rw[IntKind.wrap_i64]; omega
        clear c5 c4 hr hre er e16
        go_wp2_with fail
        refine(HU.out _).mono ?_
        rintro e w' ⟨rfl,rfl⟩
        go_wp2_with fail
        refine(HIN.out _).mono ?_
        rintro e w' ⟨rfl,rfl⟩
        have HA1:=Zg (HO.out.alloc (.cells #[.string ⟨#[]⟩,.int .i64 r,.bool true] 58))
        have HY1:=Zg (show ∀ j u,(Xu (([],r,true):Wg))[j]? =some u→(wr.alloc (.cells #[.string ⟨#[]⟩,.int .i64 r,.bool true] 58)).cell? ⟨wr.heap.size,j,none⟩=some u from by
         have h: ∀ j u,(Xu (([],r,true):Wg))[j]? =some u→(wr.alloc (.cells #[.string (txt []),.int .i64 r,.bool true] 58)).cell? ⟨wr.heap.size,j,none⟩=some u:=Uy (([],r,true):Wg) wr
         rw[Zel] at h; exact h)
        have HRL:=HRE2
        have HB8:=Zg (HB.out.alloc HB.out.size (.cells #[.string ⟨#[]⟩,.int .i64 r,.bool true] 58))
        have HG3:=Zg (show w.heap.size≤(wr.alloc (.cells #[.string ⟨#[]⟩,.int .i64 r,.bool true] 58)).heap.size from HB8.out.size)
        rw[←HL.out] at HA1 hk64 hn ⊢
        have HG4:=Zg (show l.length+1≤maxLen from by unfold maxLen; omega)
        have HG5:=Zg (show(l.length+1) * 32≤140737488355328 from by omega)
        go_wp2_with (first
         | (at_builtin; refine Zv rfl (.tmp 53) (.tmp 58) 59 rfl w.heap.size 58 _ 32 rfl JV rfl (by omega) WR Ux _ l rfl HA1.out wr.heap.size 1 rfl (([],r,true):Wg) HY1.out HG4.out HG5.out HG3.out ?_; intro g5 cap5 w8 hown5 hg5 hat5)
         | fail)
        have HB9:=Zg (HA1.out.grew HB8.out (Nat.le_refl _) HB8.out.size hg5)
        have HO9:=Zg hown5
        clear hown5 hg5 hat5
        go_roundw
        case rel=>exact⟨l.length+1,n,l++[(([],r,true):Wg)],some ⟨g5,0,none⟩,cap5,by omega,by simp,by omega,by simp,by rfl,by simpa using HO9.out,HB9.out,HRL.out⟩
        case measure =>
         have:=HL.out
         simp[intOf]
         omega
      ·rw[if_neg c4] at HRE2
       have e63:(v:Int) / 9223372036854775808=0:=by omega
       by_cases c5:2147483647<v
       ·rw[if_pos c5] at HRE2
        have hre:=HRE2.out
        simp only at hre
        subst hre
        have d31:(2147483647:Int)<(v:Int):=by omega
        clear c5 c4 HRE2
        go_wp2_with fail
        refine(HU.out _).mono ?_
        rintro e w' ⟨rfl,rfl⟩
        go_wp2_with fail
        refine(HIN.out _).mono ?_
        rintro e w' ⟨rfl,rfl⟩
        go_wp2_with fail
        go_ret2
        exact⟨rfl,HB.out⟩
       ·rw[if_neg c5] at HRE2
        have d31: ¬ (2147483647:Int)<(v:Int):=by omega
        have wv:IntKind.i64.wrap (v:Int)=(v:Int):=by rw[IntKind.wrap_i64]; omega
        have ev2:(v:Int)+2=((v+2:Nat):Int):=by omega
        have wv2:IntKind.i64.wrap ((v+2:Nat):Int)=((v+2:Nat):Int):=by rw[IntKind.wrap_i64]; omega
        have HTX:=Zg (fun W=>Xs bs (v+2) 64 W HLB.out (by omega))
        obtain⟨v2,hv2⟩: ∃ q,v+2=q:=⟨_,rfl⟩
        rw[hv2] at ev2 wv2 HTX HRE2
        clear c5 c4 hv2
        go_wp2_with fail
        refine(HU.out _).mono ?_
        rintro e w' ⟨rfl,rfl⟩
        go_wp2_with fail
        refine(HIN.out _).mono ?_
        rintro e w' ⟨rfl,rfl⟩
        go_wp2_with fail
        refine(HTX.out _).mono ?_
        rintro e w' ⟨rfl,rfl⟩
        rcases htx:XV bs v2 64 with _|t
        ·rw[htx] at HRE2
         have hre:=HRE2.out
         simp only at hre
         subst hre
         clear htx HRE2 HTX
         go_wp2_with fail
         go_ret2
         exact⟨rfl,HB.out⟩
        ·have hlt':=XP HLB.out htx
         rw[htx] at HRE2
         have HSY:=Zg (fun W=>VR t W hlt'.1 (by have:=hlt'.2; omega))
         clear hlt' htx HTX
         by_cases hok:Xx t=true
         ·have hre:=HRE2.out
          simp only[hok,if_true] at hre
          replace HRE2:=Zg hre
          rw[hok] at HSY
          clear hre hok
          go_wp2_with fail
          refine(HSY.out _).mono ?_
          rintro e w' ⟨rfl,rfl⟩
          have HA1:=Zg (HO.out.alloc (.cells #[.string (txt t),.int .i64 0,.bool false] 58))
          have HY1:=Zg (show ∀ j u,(Xu ((t,0,false):Wg))[j]? =some u→(wr.alloc (.cells #[.string (txt t),.int .i64 0,.bool false] 58)).cell? ⟨wr.heap.size,j,none⟩=some u from by
           have h: ∀ j u,(Xu ((t,0,false):Wg))[j]? =some u→(wr.alloc (.cells #[.string (txt t),.int .i64 0,.bool false] 58)).cell? ⟨wr.heap.size,j,none⟩=some u:=Uy ((t,0,false):Wg) wr
           exact h)
          have HRL:=HRE2
          have HB8:=Zg (HB.out.alloc HB.out.size (.cells #[.string (txt t),.int .i64 0,.bool false] 58))
          have HG3:=Zg (show w.heap.size≤(wr.alloc (.cells #[.string (txt t),.int .i64 0,.bool false] 58)).heap.size from HB8.out.size)
          rw[←HL.out] at HA1 hk64 hn ⊢
          have HG4:=Zg (show l.length+1≤maxLen from by unfold maxLen; omega)
          have HG5:=Zg (show(l.length+1) * 32≤140737488355328 from by omega)
          go_wp2_with (first
           | (at_builtin; refine Zv rfl (.tmp 77) (.tmp 80) 59 rfl w.heap.size 58 _ 32 rfl JV rfl (by omega) WR Ux _ l rfl HA1.out wr.heap.size 1 rfl ((t,0,false):Wg) HY1.out HG4.out HG5.out HG3.out ?_; intro g5 cap5 w8 hown5 hg5 hat5)
           | fail)
          have HB9:=Zg (HA1.out.grew HB8.out (Nat.le_refl _) HB8.out.size hg5)
          have HO9:=Zg hown5
          clear hown5 hg5 hat5
          go_roundw
          case rel=>exact⟨l.length+1,n,l++[((t,0,false):Wg)],some ⟨g5,0,none⟩,cap5,by omega,by simp,by omega,by simp,by rfl,by simpa using HO9.out,HB9.out,HRL.out⟩
          case measure =>
           have:=HL.out
           simp[intOf]
           omega
         ·have hre:=HRE2.out
          simp only[hok] at hre
          have hok2:=Bool.eq_false_iff.2 hok
          rw[hok2] at HSY
          simp at hre
          subst hre
          clear hok hok2 HRE2
          go_wp2_with fail
          refine(HSY.out _).mono ?_
          rintro e w' ⟨rfl,rfl⟩
          go_wp2_with fail
          go_ret2
          exact⟨rfl,HB.out⟩
     ·rw[if_neg c3] at hre
      subst hre
      by_cases c4:o2+8≤bs.length
      ·have hin:decide (o2+8≤bs.length)=true:=decide_eq_true c4
       rw[hin] at HIN
       have d64:(64:Int)≤(k:Int):=by omega
       clear c3 c4 hin
       go_wp2_with fail
       refine(HU.out _).mono ?_
       rintro e w' ⟨rfl,rfl⟩
       go_wp2_with fail
       refine(HIN.out _).mono ?_
       rintro e w' ⟨rfl,rfl⟩
       go_wp2_with fail
       go_ret2
       exact⟨rfl,HB.out⟩
      ·have hin:decide (o2+8≤bs.length)=false:=decide_eq_false c4
       rw[hin] at HIN
       clear c3 c4 hin
       go_wp2_with fail
       refine(HU.out _).mono ?_
       rintro e w' ⟨rfl,rfl⟩
       go_wp2_with fail
       refine(HIN.out _).mono ?_
       rintro e w' ⟨rfl,rfl⟩
       go_wp2_with fail
       go_ret2
       exact⟨rfl,HB.out⟩
   ·rw[if_neg c1] at hre
    subst hre
    rw[if_neg c1,decide_eq_false c1] at HU
    clear c1
    go_wp2_with fail
    refine(HU.out _).mono ?_
    rintro e w' ⟨rfl,rfl⟩
    go_wp2_with fail
    go_ret2
    exact⟨rfl,HB.out⟩
set_option maxHeartbeats 4000000 in
theorem QI (bs:List Nat) (rva:Nat) (sz:Int) (w:World) (hb:Lb bs) (hlen:bs.length≤1000000) (hrva:rva<4294967296) :
 Calls Tryz.prog 39 #[.string (txt bs),.agg #[.int .i64 rva,.int .i64 sz],.bool false] w fun e w'=>ImpQ w w' (XX bs rva 20 Vr) e∧Below w.heap.size w w':=by
 obtain⟨R,hR⟩: ∃ R,XX bs rva 20 Vr=R:=⟨_,rfl⟩
 rw[hR]
 unfold XX at hR
 have hsz:(txt bs).size=bs.length:=Zm bs
 have HLB:=Zg hb
 have HMK:=Zg (show ∀ W:World,(Instr.makeSlice 25 (.int .i64 20) (.int .i64 20)).run Tryz.prog W= .ok (.slice (some ⟨W.heap.size,0,none⟩) 20 20) (W.alloc (.cells (madeCells #[.int .u8 0] 20) 5)) from fun W=>run_make_row' (P:=Tryz.prog) 25 5 (.int .u8 0) 1 Tryz.underlying25 Wl rfl .i64 .i64 20 (by omega) (by omega) W)
 obtain⟨w1,hw1⟩: ∃ w1,w.alloc (.cells #[.int .i64 rva,.int .i64 sz] 37)=w1:=⟨_,rfl⟩
 have HE1:=Zg hw1
 have HB1:=Zg (show Below w.heap.size w w1 from by rw[←hw1]; exact(Below.refl _ _).alloc (Nat.le_refl _) _)
 have HX1:=Zg (show w1.heap[w.heap.size]? =some (.cells #[.int .i64 rva,.int .i64 sz] 37 (0,0)) from by rw[←hw1]; exact heap_alloc_new w _)
 have HS1:=Zg (show w1.heap.size=w.heap.size+1 from by rw[←hw1]; simp)
 clear hw1 hb
 have q0:w1.cell? ⟨w.heap.size,0,none⟩=some (.int .i64 rva):=by rw[Zh HX1.out]; rfl
 go_enter Tryz.func39,Tryz.ntmps39
 go_upto_region 1 with(fail)
 refine(congrArg _ HE1.out).mpr ?_
 by_cases c0:rva=0
 ·rw[if_pos c0] at hR
  subst hR
  have d0:((rva:Int) == 0)=true:=by rw[beq_iff_eq]; omega
  clear c0
  go_wp2_with fail
  go_ret2
  exact⟨⟨none,0,[],rfl,⟨ZR.nil _ _ _,fun y hy=>by simp at hy⟩,rfl⟩,HB1.out⟩
 rw[if_neg c0] at hR
 have d0:((rva:Int) == 0)=false:=beq_eq_false_iff_ne.mpr (by omega)
 have HR:=Zg hR
 clear hR c0
 go_wp2_with fail
 clear q0
 go_loopw [9,10] (fun v9 v10 wr=> ∃(k n:Nat) (l:List XT) (A':Option Addr) (c':Nat),k+n=18∧l.length=k∧k≤16∧v9= .slice A' k c'∧v10= .int .i64 k∧ZR YO 5 wr (w.heap.size+1) 78 (.slice A' k c') l∧(∀ y∈l,SlT Xu 3 wr y.A y.v.syms)∧(∀ y∈l,y.v.syms.length≠0→ ∀ b,y.A.map (·.block)=some b→(Value.slice A' k c').ownBlock≠some b)∧(∀ y∈l,∀ b,y.A.map (·.block)=some b→w.heap.size≤b)∧w.heap.size+1≤wr.heap.size∧Below w.heap.size w wr∧wr.heap[w.heap.size]? =some (.cells #[.int .i64 rva,.int .i64 sz] 37 (0,0))∧JW bs 20 Vr n (rva+20 * k) (l.map (·.v))=R) (fun _ v10 _=>18 - (intOf v10).toNat)
 case atStart=>exact⟨0,18,[],none,0,rfl,rfl,by omega,rfl,rfl,ZR.nil _ _ _,fun y hy=>by simp at hy,fun y hy=>by simp at hy,fun y hy=>by simp at hy,by have h1:=HS1.out; omega,HB1.out,HX1.out,HR.out⟩
 case round =>
  obtain⟨k,n,l,A',c',hn,hl,hl16,rfl,rfl,hown,hsl,hnb,hlo,hsz1,hbel,hxr,hre0⟩:=hrel
  have HLO:=Zg hlo
  have HBX:=Zg hsz1
  have HO:=Zg hown
  have HSL:=Zg hsl
  have HNB:=Zg hnb
  have HB:=Zg hbel
  have HX:=Zg hxr
  have HL:=Zg hl
  clear hlo hsz1 hown hsl hnb hbel hxr HR
  obtain⟨n,rfl⟩: ∃ q,n=q+1:=⟨n - 1,by omega⟩
  have hre:=hre0
  simp only[JW] at hre
  rw[List.length_map,hl] at hre
  obtain⟨m8,hm8⟩: ∃ q,20 * k=q:=⟨_,rfl⟩
  obtain⟨o,ho⟩: ∃ q,rva+m8=q:=⟨_,rfl⟩
  have HNX:=Zg (show o+20=rva+20 * (k+1) from by omega)
  rw[hm8,ho] at hre
  have em:(20:Int) * (k:Int)=(m8:Int):=by omega
  have wm:IntKind.i64.wrap (m8:Int)=(m8:Int):=by rw[IntKind.wrap_i64]; omega
  have eo:(rva:Int)+(m8:Int)=(o:Int):=by omega
  have wo:IntKind.i64.wrap (o:Int)=(o:Int):=by rw[IntKind.wrap_i64]; omega
  have HIN:=Zg (fun W=>JT bs.length o 20 W (by omega))
  have e0:wr.cell? ⟨w.heap.size,0,none⟩=some (.int .i64 rva):=by rw[Zh HX.out]; rfl
  clear hm8 ho hl hre0
  by_cases c1:o+20≤bs.length
  ·have HNQ:=Zg (UJ HLB.out c1)
   have hin:decide (o+20≤bs.length)=true:=decide_eq_true c1
   rw[hin] at HIN
   obtain⟨o8,ho8⟩: ∃ q,o+20=q:=⟨_,rfl⟩
   rw[ho8] at HNQ HNX hre
   have eo8:(o:Int)+20=(o8:Int):=by omega
   have wo8:IntKind.i64.wrap (o8:Int)=(o8:Int):=by rw[IntKind.wrap_i64]; omega
   have x0:(0:Int)≤(o:Int):=by omega
   have x1:(o:Int)≤(o8:Int):=by omega
   have x2:(o8:Int)≤(bs.length:Int):=by omega
   have x3:(o8:Int).toNat=o8:=Int.toNat_natCast _
   have x4:(o:Int).toNat=o:=Int.toNat_natCast _
   have HO8:=Zg ho8
   have HBL8:=Zg (show o8≤bs.length from by omega)
   have HRE0:=Zg hre
   clear ho8 c1 hin hre
   go_wp2_with fail
   refine(HIN.out _).mono ?_
   rintro e w' ⟨rfl,rfl⟩
   go_upto_region 12 with(fail)
   clear e0
   have HS:=Zg (show Below wr.heap.size wr wr.drew from(Below.refl _ _).drew)
   refine wp_region_noPanic ?_
   refine Zw (fun W=>Below wr.heap.size wr W) (fun _=>True) 99 (by kernel_rfl) ?_
   refine wT (i:=0) (oi:= ?_) (v:= ?_) ?_ ?_ HS.out ?_
   rotate_left 2
   ·(simp only[Za,Zb,Zc]; rfl)
   ·(first|exact Or.inr ⟨by rfl,rfl⟩|(refine Or.inl ⟨by rfl,?_⟩; intro W hSw; clear hSw; go_simp; try with_reducible rfl))
   try simp only[Act.put,Zd,Ze,Zf]
   refine wT (i:=1) (oi:= ?_) (v:= ?_) ?_ ?_ HS.out ?_
   rotate_left 2
   ·(simp only[Za,Zb,Zc]; rfl)
   ·(first|exact Or.inr ⟨by rfl,rfl⟩|(refine Or.inl ⟨by rfl,?_⟩; intro W hSw; clear hSw; go_simp; try with_reducible rfl))
   try simp only[Act.put,Zd,Ze,Zf]
   refine wT (i:=2) (oi:= ?_) (v:= ?_) ?_ ?_ HS.out ?_
   rotate_left 2
   ·(simp only[Za,Zb,Zc]; rfl)
   ·(first|exact Or.inr ⟨by rfl,rfl⟩|(refine Or.inl ⟨by rfl,?_⟩; intro W hSw; clear hSw; go_simp; try with_reducible rfl))
   try simp only[Act.put,Zd,Ze,Zf]
   refine wT (i:=3) (oi:= ?_) (v:= ?_) ?_ ?_ HS.out ?_
   rotate_left 2
   ·(simp only[Za,Zb,Zc]; rfl)
   ·(first|exact Or.inr ⟨by rfl,rfl⟩|(refine Or.inl ⟨by rfl,?_⟩; intro W hSw; clear hSw; go_simp; try with_reducible rfl))
   try simp only[Act.put,Zd,Ze,Zf]
   refine wT (i:=4) (oi:= ?_) (v:= ?_) ?_ ?_ HS.out ?_
   rotate_left 2
   ·(simp only[Za,Zb,Zc]; rfl)
   ·(first|exact Or.inr ⟨by rfl,rfl⟩|(refine Or.inl ⟨by rfl,?_⟩; intro W hSw; clear hSw; go_simp; try with_reducible rfl))
   try simp only[Act.put,Zd,Ze,Zf]
   refine wT (i:=5) (oi:= ?_) (v:= ?_) ?_ ?_ HS.out ?_
   rotate_left 2
   ·(simp only[Za,Zb,Zc]; rfl)
   ·(first|exact Or.inr ⟨by rfl,rfl⟩|(refine Or.inl ⟨by rfl,?_⟩; intro W hSw; clear hSw; go_simp; try with_reducible rfl))
   try simp only[Act.put,Zd,Ze,Zf]
   refine wT (i:=6) (oi:= ?_) (v:= ?_) ?_ ?_ HS.out ?_
   rotate_left 2
   ·(simp only[Za,Zb,Zc]; rfl)
   ·(first|exact Or.inr ⟨by rfl,rfl⟩|(refine Or.inl ⟨by rfl,?_⟩; intro W hSw; clear hSw; go_simp; try with_reducible rfl))
   try simp only[Act.put,Zd,Ze,Zf]
   have hmk:=HMK.out wr.drew
   refine Zk (i:=7) (o:= ?_) (by kernel_rfl) ?_ (fun K hK=> ?_)
   rotate_left 1
   ·(simp only[Za,Zb,Zc]; rfl)
   go_simp
   clear hmk
   have HS2:=Zg (show Below wr.heap.size wr (wr.drew.alloc (.cells (madeCells #[.int .u8 0] 20) 5)) from HS.out.alloc (Nat.le_refl _) _)
   refine hK.out _ _ HS2.out (fun _=>trivial) ?_
   clear hK K
   try simp only[Act.put,Zd,Ze,Zf]
   have hcv:(convert 25 9 (.slice (some ⟨wr.heap.size,0,none⟩) 20 20)).run Tryz.prog (wr.drew.alloc (.cells (madeCells #[.int .u8 0] 20) 5))= .ok (.string (ZB (fun _=>0) 0 20)) (wr.drew.alloc (.cells (madeCells #[.int .u8 0] 20) 5)):=VS wr.drew 20
   obtain⟨w2,hw2⟩: ∃ q,wr.drew.alloc (.cells (madeCells #[.int .u8 0] 20) 5)=q:=⟨_,rfl⟩
   rw[hw2] at hcv HS2
   have HE2:=Zg hw2
   clear hw2
   refine(congrArg _ HE2.out).mpr ?_
   refine Zk (i:=8) (o:= ?_) (by kernel_rfl) ?_ (fun K hK=> ?_)
   rotate_left 1
   ·(simp only[Za,Zb,Zc]; rfl)
   go_simp
   clear hcv
   refine hK.out _ _ HS2.out (fun _=>trivial) ?_
   clear hK K
   try simp only[Act.put,Zd,Ze,Zf]
   have hnq:=HNQ.out
   have hre:=HRE0.out
   obtain⟨NO,hNO⟩: ∃ q,Xj bs o 20=q:=⟨_,rfl⟩
   rw[hNO] at hnq hre
   generalize ZB (fun _=>0) 0 20=Z at *
   refine wT (i:=9) (oi:= ?_) (v:= ?_) ?_ ?_ HS2.out ?_
   rotate_left 2
   ·(simp only[Za,Zb,Zc]; rfl)
   ·(first|exact Or.inr ⟨by rfl,rfl⟩|(refine Or.inl ⟨by rfl,?_⟩; intro W hSw; clear hSw; go_simp; try with_reducible rfl))
   try simp only[Act.put,Zd,Ze,Zf]
   refine Zp (by kernel_rfl) ?_ _
   refine NoPanic.normal ?_
   clear hnq hNO HE2 x0 x1 x2 x3 x4
   have hb2:=HS2.out
   have HO2:=Zg (HO.out.below hb2)
   have HB2:=Zg (HB.out.trans (hb2.mono HB.out.size))
   have HX2:=Zg ((hb2.block _ (Zi HX.out)).trans HX.out)
   have HSL2:=Zg (show ∀ y∈l,SlT Xu 3 w2 y.A y.v.syms from fun y hy=>(HSL.out y hy).below hb2)
   have HSZ2:=Zg hb2.size
   clear hb2
   rcases NO with _|_
   ·rw[if_neg (by simp)] at hre
    by_cases c2:k=16
    ·rw[if_neg (fun h=>h.2 c2)] at hre
     subst hre
     have d2:(16:Int)≤(k:Int):=by omega
     clear c2
     go_wp2_with fail
     go_ret2
     exact⟨rfl,HB2.out⟩
    ·rw[if_pos ⟨by have:=HO8.out; have:=HBL8.out; omega,c2⟩] at hre
     have d2: ¬ (16:Int)≤(k:Int):=by omega
     have hk16:k<16:=by omega
     clear c2
     have HU0:=Zg (fun W=>ZL bs o 4 W HLB.out (by omega) (by omega) (by have:=HO8.out; have:=HBL8.out; omega))
     have hu0:=Ym (HLB.out.drop o) 4
     rw[show(256:Nat) ^ 4=4294967296 from rfl] at hu0
     obtain⟨o4,ho4⟩: ∃ q,o+4=q:=⟨_,rfl⟩
     have eo4:(o:Int)+4=(o4:Int):=by omega
     have wo4:IntKind.i64.wrap (o4:Int)=(o4:Int):=by rw[IntKind.wrap_i64]; omega
     have HU4:=Zg (fun W=>ZL bs o4 4 W HLB.out (by omega) (by omega) (by have:=HO8.out; have:=HBL8.out; omega))
     have hu4:=Ym (HLB.out.drop o4) 4
     rw[show(256:Nat) ^ 4=4294967296 from rfl] at hu4
     obtain⟨o12,ho12⟩: ∃ q,o+12=q:=⟨_,rfl⟩
     have eo12:(o:Int)+12=(o12:Int):=by omega
     have wo12:IntKind.i64.wrap (o12:Int)=(o12:Int):=by rw[IntKind.wrap_i64]; omega
     have HU12:=Zg (fun W=>ZL bs o12 4 W HLB.out (by omega) (by omega) (by have:=HO8.out; have:=HBL8.out; omega))
     have hu12:=Ym (HLB.out.drop o12) 4
     rw[show(256:Nat) ^ 4=4294967296 from rfl] at hu12
     obtain⟨o16,ho16⟩: ∃ q,o+16=q:=⟨_,rfl⟩
     have eo16:(o:Int)+16=(o16:Int):=by omega
     have wo16:IntKind.i64.wrap (o16:Int)=(o16:Int):=by rw[IntKind.wrap_i64]; omega
     have HU16:=Zg (fun W=>ZL bs o16 4 W HLB.out (by omega) (by omega) (by have:=HO8.out; have:=HBL8.out; omega))
     have Zfe:=Ym (HLB.out.drop o16) 4
     rw[show(256:Nat) ^ 4=4294967296 from rfl] at Zfe
     have hX:Zg8 bs (Vr bs o)=Zg8 bs ⟨YS (bs.drop o) 4,YS (bs.drop o12) 4,YS (bs.drop o16) 4,YS (bs.drop o4) 4,false,0,0⟩:=by rw[←ho12,←ho16,←ho4]; rfl
     rw[hX] at hre
     obtain⟨u0,huu0⟩: ∃ v,YS (bs.drop o) 4=v:=⟨_,rfl⟩
     rw[huu0] at HU0 hre hu0
     obtain⟨u4,huu4⟩: ∃ v,YS (bs.drop o4) 4=v:=⟨_,rfl⟩
     rw[huu4] at HU4 hre hu4
     obtain⟨u12,huu12⟩: ∃ v,YS (bs.drop o12) 4=v:=⟨_,rfl⟩
     rw[huu12] at HU12 hre hu12
     obtain⟨u16,huu16⟩: ∃ v,YS (bs.drop o16) 4=v:=⟨_,rfl⟩
     rw[huu16] at HU16 hre Zfe
     clear hX huu0 huu4 huu12 huu16 ho4 ho12 ho16
     unfold Zg8 at hre
     have HRE:=Zg hre
     have HTX:=Zg (fun W=>Xs bs u12 40 W HLB.out (by omega))
     have HTH:=Zg (fun W=>Jt bs u0 u16 W hlen HLB.out (by omega) (by omega))
     clear hre
     go_wp2_with fail
     refine(HU0.out _).mono ?_
     rintro e w' ⟨rfl,rfl⟩
     go_wp2_with fail
     refine(HU4.out _).mono ?_
     rintro e w' ⟨rfl,rfl⟩
     go_wp2_with fail
     refine(HU12.out _).mono ?_
     rintro e w' ⟨rfl,rfl⟩
     go_wp2_with fail
     refine(HU16.out _).mono ?_
     rintro e w' ⟨rfl,rfl⟩
     go_wp2_with fail
     refine(HTX.out _).mono ?_
     rintro e w' ⟨rfl,rfl⟩
     rcases htx:XV bs u12 40 with _|t
     ·have hre:=HRE.out
      simp only[htx] at hre
      subst hre
      clear HTX htx HRE
      go_wp2_with fail
      go_ret2
      exact⟨rfl,HB2.out⟩
     ·have hlt':=XP HLB.out htx
      have HNM:=Zg (fun W=>Vb t W hlt'.1 (by have:=hlt'.2; omega))
      have hre:=HRE.out
      simp only[htx] at hre
      clear HTX htx HRE hlt'
      by_cases hok:Zc4 t=true
      ·rw[if_pos hok] at hre
       rw[hok] at HNM
       clear hok
       rw[if_neg (fun h=>by simp at h)] at hre
       have HRE2:=Zg hre
       clear hre
       go_wp2_with fail
       refine(HNM.out _).mono ?_
       rintro e w' ⟨rfl,rfl⟩
       go_wp2_with fail
       refine(HTH.out _).mono ?_
       rintro e w4 ⟨hq,h24⟩
       have HO4:=Zg (HO2.out.below h24)
       have HB4:=Zg (HB2.out.trans (h24.mono HB2.out.size))
       have HX4:=Zg ((h24.block _ (Zi HX2.out)).trans HX2.out)
       have HSL4:=Zg (show ∀ y∈l,SlT Xu 3 w4 y.A y.v.syms from fun y hy=>(HSL2.out y hy).below h24)
       have HSZ4:=Zg h24.size
       clear h24
       have hre:=HRE2.out
       unfold Zi3 at hre
       simp only at hre
       rcases hsy:VY bs (if u0=0 then u16 else u0) u16 66 [] with _|vs
       ·rw[hsy] at hq hre
        simp only[QH] at hq hre
        subst hq
        subst hre
        clear hsy HRE2
        go_wp2_with fail
        go_ret2
        exact⟨rfl,HB4.out⟩
       ·rw[hsy] at hq hre
        simp only[QH] at hq hre
        obtain⟨A3,c3,rfl,hown3⟩:=hq
        have HRE3:=Zg hre
        have hs3:SlT Xu 3 w4 A3 vs:=ZR.sl WR hown3
        have hb3: ∀ b,A3.map (·.block)=some b→w2.heap.size≤b:=fun b hb=>(hown3.lt b (by cases A3 with
         | none=>simp at hb
         | some y=>simpa [Value.ownBlock] using hb)).1
        have HS3:=Zg hs3
        have HB3:=Zg hb3
        have HLO9:=Zg (show ∀ y∈l++[(⟨⟨t,u16,u4,0,vs⟩,A3,c3⟩:XT)],∀ b,y.A.map (·.block)=some b→w.heap.size≤b from fun y hy b hb=>by
         rcases List.mem_append.mp hy with h|h
         ·exact HLO.out y h b hb
         ·simp at h
          subst h
          exact Nat.le_trans HB2.out.size (hb3 b hb))
        have HLT:=Zg (show ∀ k',(Value.slice A' k c').ownBlock=some k'→k'<w2.heap.size from fun k' hk=>(HO2.out.lt k' hk).2)
        clear hsy HRE2 hre hown3 hs3 hb3
        have HA1:=Zg (HO4.out.alloc (.cells #[.string (txt t),.int .i64 u16,.int .i64 u4,.int .i64 0,.slice A3 vs.length c3] 78))
        have HY1:=Zg (show ∀ j u,(YO ⟨⟨t,u16,u4,0,vs⟩,A3,c3⟩)[j]? =some u→(w4.alloc (.cells #[.string (txt t),.int .i64 u16,.int .i64 u4,.int .i64 0,.slice A3 vs.length c3] 78)).cell? ⟨w4.heap.size,j,none⟩=some u from Zcc ⟨⟨t,u16,u4,0,vs⟩,A3,c3⟩ w4)
        have HB8:=Zg (HB4.out.alloc HB4.out.size (.cells #[.string (txt t),.int .i64 u16,.int .i64 u4,.int .i64 0,.slice A3 vs.length c3] 78))
        have HX8:=Zg (show(w4.alloc (.cells #[.string (txt t),.int .i64 u16,.int .i64 u4,.int .i64 0,.slice A3 vs.length c3] 78)).heap[w.heap.size]? =_ from(Below.heap_alloc _ _ _ (Zi HX4.out)).trans HX4.out)
        have HSL8:=Zg (show ∀ y∈l++[(⟨⟨t,u16,u4,0,vs⟩,A3,c3⟩:XT)],SlT Xu 3 (w4.alloc (.cells #[.string (txt t),.int .i64 u16,.int .i64 u4,.int .i64 0,.slice A3 vs.length c3] 78)) y.A y.v.syms from fun y hy=>by
         have hal:Below w4.heap.size w4 (w4.alloc (.cells #[.string (txt t),.int .i64 u16,.int .i64 u4,.int .i64 0,.slice A3 vs.length c3] 78)):=(Below.refl _ _).alloc (Nat.le_refl _) _
         rcases List.mem_append.mp hy with h|h
         ·exact(HSL4.out y h).below hal
         ·simp at h; subst h; exact HS3.out.below hal)
        have HNB8:=Zg (show ∀ y∈l++[(⟨⟨t,u16,u4,0,vs⟩,A3,c3⟩:XT)],y.v.syms.length≠0→ ∀ b,y.A.map (·.block)=some b→(Value.slice A' k c').ownBlock≠some b from fun y hy hne b hb=>by
         rcases List.mem_append.mp hy with h|h
         ·exact HNB.out y h hne b hb
         ·simp at h
          subst h
          intro hk
          have h1:=HB3.out b hb
          have h2:=HLT.out b hk
          omega)
        rw[←HL.out] at HA1 hk16 hn ⊢
        have HG3:=Zg (show w.heap.size+1≤(w4.alloc (.cells #[.string (txt t),.int .i64 u16,.int .i64 u4,.int .i64 0,.slice A3 vs.length c3] 78)).heap.size from Zi HX8.out)
        have HG4:=Zg (show l.length+1≤maxLen from by unfold maxLen; omega)
        have HG5:=Zg (show(l.length+1) * 64≤140737488355328 from by omega)
        go_wp2_with (first
         | (at_builtin; refine Zv rfl (.tmp 127) (.tmp 134) 46 rfl (w.heap.size+1) 78 _ 64 rfl VZ rfl (by omega) Xv WS _ l rfl HA1.out w4.heap.size 1 rfl ⟨⟨t,u16,u4,0,vs⟩,A3,c3⟩ HY1.out HG4.out HG5.out HG3.out ?_; intro g5 cap5 w8 hown5 hg5 hat5
            have HAT5:=Zg (show(Value.slice A' l.length c').ownBlock=some g5∨g5=(w4.alloc (.cells #[.string (txt t),.int .i64 u16,.int .i64 u4,.int .i64 0,.slice A3 vs.length c3] 78)).heap.size from hat5)
            have HG6:=Zg (show(w4.alloc (.cells #[.string (txt t),.int .i64 u16,.int .i64 u4,.int .i64 0,.slice A3 vs.length c3] 78)).grownBy w8 (Value.slice A' l.length c').ownBlock from hg5)
            have HN8:=Zg hown5
            clear hat5 hg5 hown5)
         | fail)
        have HB9:=Zg (HA1.out.grew HB8.out (by omega) HB8.out.size HG6.out)
        have HX9:=Zg ((HG6.out.block w.heap.size (Zi HX8.out) (fun h=>by have:=(HA1.out.lt _ h.symm).1; omega)).trans HX8.out)
        rw[←HL.out] at HNB8
        have HSL9:=Zg (show ∀ y∈l++[(⟨⟨t,u16,u4,0,vs⟩,A3,c3⟩:XT)],SlT Xu 3 w8 y.A y.v.syms from fun y hy=>by
         rcases HSL8.out y hy with h0|⟨b,off,hA,hlt,hc⟩
         ·exact .inl h0
         ·by_cases h0:y.v.syms=[]
          ·exact .inl h0
          ·refine SlT.keep (.inr ⟨b,off,hA,hlt,hc⟩) HG6.out.size fun b' hb'=> ?_
           have hbb:b=b':=by rw[hA] at hb'; simpa using hb'
           exact HG6.out.block b' (by omega) (fun e=>HNB8.out y hy (fun q=>h0 (List.eq_nil_of_length_eq_zero q)) b' hb' e.symm))
        have HNB9:=Zg (show ∀ y∈l++[(⟨⟨t,u16,u4,0,vs⟩,A3,c3⟩:XT)],y.v.syms.length≠0→ ∀ b,y.A.map (·.block)=some b→(Value.slice (some ⟨g5,0,none⟩) (l.length+1) cap5).ownBlock≠some b from fun y hy hne b hb hk=>by
         have hgb:g5=b:=by simpa [Value.ownBlock] using hk
         rcases HAT5.out with h|h
         ·exact HNB8.out y hy hne b hb (by rw[h,hgb])
         ·rcases HSL8.out y hy with h0|⟨b',off,hA,hlt,hc⟩
          ·exact hne (by rw[h0]; rfl)
          ·have hbb:b'=b:=by rw[hA] at hb; simpa using hb
           omega)
        go_roundw
        case rel=>exact⟨l.length+1,n,l++[⟨⟨t,u16,u4,0,vs⟩,A3,c3⟩],some ⟨g5,0,none⟩,cap5,by omega,by simp,by omega,rfl,rfl,by simpa using HN8.out,HSL9.out,HNB9.out,HLO9.out,Nat.le_trans HG3.out HG6.out.size,HB9.out,HX9.out,by rw[List.map_append,HL.out,←HNX.out]; exact HRE3.out⟩
        case measure =>
         have:=HL.out
         simp[intOf]
         omega
      ·rw[if_neg hok] at hre
       rw[Bool.eq_false_iff.2 hok] at HNM
       simp only at hre
       subst hre
       clear hok
       go_wp2_with fail
       refine(HNM.out _).mono ?_
       rintro e w' ⟨rfl,rfl⟩
       go_wp2_with fail
       go_ret2
       exact⟨rfl,HB2.out⟩
   ·rw[if_pos rfl] at hre
    subst hre
    go_wp2_with fail
    go_ret2
    exact⟨⟨A',c',l,by rw[HL.out]; rfl,⟨by rw[HL.out]; exact Joins.ownsRow_le HO2.out (by omega),fun y hy=>⟨HSL2.out y hy,HLO.out y hy⟩⟩,rfl⟩,HB2.out⟩
  ·have hin:decide (o+20≤bs.length)=false:=decide_eq_false c1
   rw[hin] at HIN
   rw[WK c1,if_neg (by simp),if_neg (fun h=>c1 h.1)] at hre
   subst hre
   clear c1 hin
   go_wp2_with fail
   refine(HIN.out _).mono ?_
   rintro e w' ⟨rfl,rfl⟩
   go_wp2_with fail
   go_ret2
   exact⟨rfl,HB.out⟩
set_option maxHeartbeats 4000000 in
theorem Za5 (bs:List Nat) (rva:Nat) (sz:Int) (w:World) (hb:Lb bs) (hlen:bs.length≤1000000) (hrva:rva<4294967296) :
 Calls Tryz.prog 39 #[.string (txt bs),.agg #[.int .i64 rva,.int .i64 sz],.bool true] w fun e w'=>ImpQ w w' (XX bs rva 32 UM) e∧Below w.heap.size w w':=by
 obtain⟨R,hR⟩: ∃ R,XX bs rva 32 UM=R:=⟨_,rfl⟩
 rw[hR]
 unfold XX at hR
 have hsz:(txt bs).size=bs.length:=Zm bs
 have HLB:=Zg hb
 have HMK:=Zg (show ∀ W:World,(Instr.makeSlice 25 (.int .i64 32) (.int .i64 32)).run Tryz.prog W= .ok (.slice (some ⟨W.heap.size,0,none⟩) 32 32) (W.alloc (.cells (madeCells #[.int .u8 0] 32) 5)) from fun W=>run_make_row' (P:=Tryz.prog) 25 5 (.int .u8 0) 1 Tryz.underlying25 Wl rfl .i64 .i64 32 (by omega) (by omega) W)
 obtain⟨w1,hw1⟩: ∃ w1,w.alloc (.cells #[.int .i64 rva,.int .i64 sz] 37)=w1:=⟨_,rfl⟩
 have HE1:=Zg hw1
 have HB1:=Zg (show Below w.heap.size w w1 from by rw[←hw1]; exact(Below.refl _ _).alloc (Nat.le_refl _) _)
 have HX1:=Zg (show w1.heap[w.heap.size]? =some (.cells #[.int .i64 rva,.int .i64 sz] 37 (0,0)) from by rw[←hw1]; exact heap_alloc_new w _)
 have HS1:=Zg (show w1.heap.size=w.heap.size+1 from by rw[←hw1]; simp)
 clear hw1 hb
 have q0:w1.cell? ⟨w.heap.size,0,none⟩=some (.int .i64 rva):=by rw[Zh HX1.out]; rfl
 go_enter Tryz.func39,Tryz.ntmps39
 go_upto_region 1 with(fail)
 refine(congrArg _ HE1.out).mpr ?_
 by_cases c0:rva=0
 ·rw[if_pos c0] at hR
  subst hR
  have d0:((rva:Int) == 0)=true:=by rw[beq_iff_eq]; omega
  clear c0
  go_wp2_with fail
  go_ret2
  exact⟨⟨none,0,[],rfl,⟨ZR.nil _ _ _,fun y hy=>by simp at hy⟩,rfl⟩,HB1.out⟩
 rw[if_neg c0] at hR
 have d0:((rva:Int) == 0)=false:=beq_eq_false_iff_ne.mpr (by omega)
 have HR:=Zg hR
 clear hR c0
 go_wp2_with fail
 clear q0
 go_loopw [9,10] (fun v9 v10 wr=> ∃(k n:Nat) (l:List XT) (A':Option Addr) (c':Nat),k+n=18∧l.length=k∧k≤16∧v9= .slice A' k c'∧v10= .int .i64 k∧ZR YO 5 wr (w.heap.size+1) 78 (.slice A' k c') l∧(∀ y∈l,SlT Xu 3 wr y.A y.v.syms)∧(∀ y∈l,y.v.syms.length≠0→ ∀ b,y.A.map (·.block)=some b→(Value.slice A' k c').ownBlock≠some b)∧(∀ y∈l,∀ b,y.A.map (·.block)=some b→w.heap.size≤b)∧w.heap.size+1≤wr.heap.size∧Below w.heap.size w wr∧wr.heap[w.heap.size]? =some (.cells #[.int .i64 rva,.int .i64 sz] 37 (0,0))∧JW bs 32 UM n (rva+32 * k) (l.map (·.v))=R) (fun _ v10 _=>18 - (intOf v10).toNat)
 case atStart=>exact⟨0,18,[],none,0,rfl,rfl,by omega,rfl,rfl,ZR.nil _ _ _,fun y hy=>by simp at hy,fun y hy=>by simp at hy,fun y hy=>by simp at hy,by have h1:=HS1.out; omega,HB1.out,HX1.out,HR.out⟩
 case round =>
  obtain⟨k,n,l,A',c',hn,hl,hl16,rfl,rfl,hown,hsl,hnb,hlo,hsz1,hbel,hxr,hre0⟩:=hrel
  have HLO:=Zg hlo
  have HBX:=Zg hsz1
  have HO:=Zg hown
  have HSL:=Zg hsl
  have HNB:=Zg hnb
  have HB:=Zg hbel
  have HX:=Zg hxr
  have HL:=Zg hl
  clear hlo hsz1 hown hsl hnb hbel hxr HR
  obtain⟨n,rfl⟩: ∃ q,n=q+1:=⟨n - 1,by omega⟩
  have hre:=hre0
  simp only[JW] at hre
  rw[List.length_map,hl] at hre
  obtain⟨m8,hm8⟩: ∃ q,32 * k=q:=⟨_,rfl⟩
  obtain⟨o,ho⟩: ∃ q,rva+m8=q:=⟨_,rfl⟩
  have HNX:=Zg (show o+32=rva+32 * (k+1) from by omega)
  rw[hm8,ho] at hre
  have em:(32:Int) * (k:Int)=(m8:Int):=by omega
  have wm:IntKind.i64.wrap (m8:Int)=(m8:Int):=by rw[IntKind.wrap_i64]; omega
  have eo:(rva:Int)+(m8:Int)=(o:Int):=by omega
  have wo:IntKind.i64.wrap (o:Int)=(o:Int):=by rw[IntKind.wrap_i64]; omega
  have HIN:=Zg (fun W=>JT bs.length o 32 W (by omega))
  have e0:wr.cell? ⟨w.heap.size,0,none⟩=some (.int .i64 rva):=by rw[Zh HX.out]; rfl
  clear hm8 ho hl hre0
  by_cases c1:o+32≤bs.length
  ·have HNQ:=Zg (UJ HLB.out c1)
   have hin:decide (o+32≤bs.length)=true:=decide_eq_true c1
   rw[hin] at HIN
   obtain⟨o8,ho8⟩: ∃ q,o+32=q:=⟨_,rfl⟩
   rw[ho8] at HNQ HNX hre
   have eo8:(o:Int)+32=(o8:Int):=by omega
   have wo8:IntKind.i64.wrap (o8:Int)=(o8:Int):=by rw[IntKind.wrap_i64]; omega
   have x0:(0:Int)≤(o:Int):=by omega
   have x1:(o:Int)≤(o8:Int):=by omega
   have x2:(o8:Int)≤(bs.length:Int):=by omega
   have x3:(o8:Int).toNat=o8:=Int.toNat_natCast _
   have x4:(o:Int).toNat=o:=Int.toNat_natCast _
   have HO8:=Zg ho8
   have HBL8:=Zg (show o8≤bs.length from by omega)
   have HRE0:=Zg hre
   clear ho8 c1 hin hre
   go_wp2_with fail
   refine(HIN.out _).mono ?_
   rintro e w' ⟨rfl,rfl⟩
   go_upto_region 12 with(fail)
   clear e0
   have HS:=Zg (show Below wr.heap.size wr wr.drew from(Below.refl _ _).drew)
   refine wp_region_noPanic ?_
   refine Zw (fun W=>Below wr.heap.size wr W) (fun _=>True) 99 (by kernel_rfl) ?_
   refine wT (i:=0) (oi:= ?_) (v:= ?_) ?_ ?_ HS.out ?_
   rotate_left 2
   ·(simp only[Za,Zb,Zc]; rfl)
   ·(first|exact Or.inr ⟨by rfl,rfl⟩|(refine Or.inl ⟨by rfl,?_⟩; intro W hSw; clear hSw; go_simp; try with_reducible rfl))
   try simp only[Act.put,Zd,Ze,Zf]
   refine wT (i:=1) (oi:= ?_) (v:= ?_) ?_ ?_ HS.out ?_
   rotate_left 2
   ·(simp only[Za,Zb,Zc]; rfl)
   ·(first|exact Or.inr ⟨by rfl,rfl⟩|(refine Or.inl ⟨by rfl,?_⟩; intro W hSw; clear hSw; go_simp; try with_reducible rfl))
   try simp only[Act.put,Zd,Ze,Zf]
   refine wT (i:=2) (oi:= ?_) (v:= ?_) ?_ ?_ HS.out ?_
   rotate_left 2
   ·(simp only[Za,Zb,Zc]; rfl)
   ·(first|exact Or.inr ⟨by rfl,rfl⟩|(refine Or.inl ⟨by rfl,?_⟩; intro W hSw; clear hSw; go_simp; try with_reducible rfl))
   try simp only[Act.put,Zd,Ze,Zf]
   refine wT (i:=3) (oi:= ?_) (v:= ?_) ?_ ?_ HS.out ?_
   rotate_left 2
   ·(simp only[Za,Zb,Zc]; rfl)
   ·(first|exact Or.inr ⟨by rfl,rfl⟩|(refine Or.inl ⟨by rfl,?_⟩; intro W hSw; clear hSw; go_simp; try with_reducible rfl))
   try simp only[Act.put,Zd,Ze,Zf]
   refine wT (i:=4) (oi:= ?_) (v:= ?_) ?_ ?_ HS.out ?_
   rotate_left 2
   ·(simp only[Za,Zb,Zc]; rfl)
   ·(first|exact Or.inr ⟨by rfl,rfl⟩|(refine Or.inl ⟨by rfl,?_⟩; intro W hSw; clear hSw; go_simp; try with_reducible rfl))
   try simp only[Act.put,Zd,Ze,Zf]
   refine wT (i:=5) (oi:= ?_) (v:= ?_) ?_ ?_ HS.out ?_
   rotate_left 2
   ·(simp only[Za,Zb,Zc]; rfl)
   ·(first|exact Or.inr ⟨by rfl,rfl⟩|(refine Or.inl ⟨by rfl,?_⟩; intro W hSw; clear hSw; go_simp; try with_reducible rfl))
   try simp only[Act.put,Zd,Ze,Zf]
   refine wT (i:=6) (oi:= ?_) (v:= ?_) ?_ ?_ HS.out ?_
   rotate_left 2
   ·(simp only[Za,Zb,Zc]; rfl)
   ·(first|exact Or.inr ⟨by rfl,rfl⟩|(refine Or.inl ⟨by rfl,?_⟩; intro W hSw; clear hSw; go_simp; try with_reducible rfl))
   try simp only[Act.put,Zd,Ze,Zf]
   have hmk:=HMK.out wr.drew
   refine Zk (i:=7) (o:= ?_) (by kernel_rfl) ?_ (fun K hK=> ?_)
   rotate_left 1
   ·(simp only[Za,Zb,Zc]; rfl)
   go_simp
   clear hmk
   have HS2:=Zg (show Below wr.heap.size wr (wr.drew.alloc (.cells (madeCells #[.int .u8 0] 32) 5)) from HS.out.alloc (Nat.le_refl _) _)
   refine hK.out _ _ HS2.out (fun _=>trivial) ?_
   clear hK K
   try simp only[Act.put,Zd,Ze,Zf]
   have hcv:(convert 25 9 (.slice (some ⟨wr.heap.size,0,none⟩) 32 32)).run Tryz.prog (wr.drew.alloc (.cells (madeCells #[.int .u8 0] 32) 5))= .ok (.string (ZB (fun _=>0) 0 32)) (wr.drew.alloc (.cells (madeCells #[.int .u8 0] 32) 5)):=VS wr.drew 32
   obtain⟨w2,hw2⟩: ∃ q,wr.drew.alloc (.cells (madeCells #[.int .u8 0] 32) 5)=q:=⟨_,rfl⟩
   rw[hw2] at hcv HS2
   have HE2:=Zg hw2
   clear hw2
   refine(congrArg _ HE2.out).mpr ?_
   refine Zk (i:=8) (o:= ?_) (by kernel_rfl) ?_ (fun K hK=> ?_)
   rotate_left 1
   ·(simp only[Za,Zb,Zc]; rfl)
   go_simp
   clear hcv
   refine hK.out _ _ HS2.out (fun _=>trivial) ?_
   clear hK K
   try simp only[Act.put,Zd,Ze,Zf]
   have hnq:=HNQ.out
   have hre:=HRE0.out
   obtain⟨NO,hNO⟩: ∃ q,Xj bs o 32=q:=⟨_,rfl⟩
   rw[hNO] at hnq hre
   generalize ZB (fun _=>0) 0 32=Z at *
   refine wT (i:=9) (oi:= ?_) (v:= ?_) ?_ ?_ HS2.out ?_
   rotate_left 2
   ·(simp only[Za,Zb,Zc]; rfl)
   ·(first|exact Or.inr ⟨by rfl,rfl⟩|(refine Or.inl ⟨by rfl,?_⟩; intro W hSw; clear hSw; go_simp; try with_reducible rfl))
   try simp only[Act.put,Zd,Ze,Zf]
   refine Zp (by kernel_rfl) ?_ _
   refine NoPanic.normal ?_
   clear hnq hNO HE2 x0 x1 x2 x3 x4
   have hb2:=HS2.out
   have HO2:=Zg (HO.out.below hb2)
   have HB2:=Zg (HB.out.trans (hb2.mono HB.out.size))
   have HX2:=Zg ((hb2.block _ (Zi HX.out)).trans HX.out)
   have HSL2:=Zg (show ∀ y∈l,SlT Xu 3 w2 y.A y.v.syms from fun y hy=>(HSL.out y hy).below hb2)
   have HSZ2:=Zg hb2.size
   clear hb2
   rcases NO with _|_
   ·rw[if_neg (by simp)] at hre
    by_cases c2:k=16
    ·rw[if_neg (fun h=>h.2 c2)] at hre
     subst hre
     have d2:(16:Int)≤(k:Int):=by omega
     clear c2
     go_wp2_with fail
     go_ret2
     exact⟨rfl,HB2.out⟩
    ·rw[if_pos ⟨by have:=HO8.out; have:=HBL8.out; omega,c2⟩] at hre
     have d2: ¬ (16:Int)≤(k:Int):=by omega
     have hk16:k<16:=by omega
     clear c2
     have HU0:=Zg (fun W=>ZL bs o 4 W HLB.out (by omega) (by omega) (by have:=HO8.out; have:=HBL8.out; omega))
     have hu0:=Ym (HLB.out.drop o) 4
     rw[show(256:Nat) ^ 4=4294967296 from rfl] at hu0
     obtain⟨o4,ho4⟩: ∃ q,o+4=q:=⟨_,rfl⟩
     have eo4:(o:Int)+4=(o4:Int):=by omega
     have wo4:IntKind.i64.wrap (o4:Int)=(o4:Int):=by rw[IntKind.wrap_i64]; omega
     have HU4:=Zg (fun W=>ZL bs o4 4 W HLB.out (by omega) (by omega) (by have:=HO8.out; have:=HBL8.out; omega))
     have hu4:=Ym (HLB.out.drop o4) 4
     rw[show(256:Nat) ^ 4=4294967296 from rfl] at hu4
     obtain⟨p8,ho8⟩: ∃ q,o+8=q:=⟨_,rfl⟩
     have ep8:(o:Int)+8=(p8:Int):=by omega
     have wp8:IntKind.i64.wrap (p8:Int)=(p8:Int):=by rw[IntKind.wrap_i64]; omega
     have HU8:=Zg (fun W=>ZL bs p8 4 W HLB.out (by omega) (by omega) (by have:=HO8.out; have:=HBL8.out; omega))
     have hu8:=Ym (HLB.out.drop p8) 4
     rw[show(256:Nat) ^ 4=4294967296 from rfl] at hu8
     obtain⟨o12,ho12⟩: ∃ q,o+12=q:=⟨_,rfl⟩
     have eo12:(o:Int)+12=(o12:Int):=by omega
     have wo12:IntKind.i64.wrap (o12:Int)=(o12:Int):=by rw[IntKind.wrap_i64]; omega
     have HU12:=Zg (fun W=>ZL bs o12 4 W HLB.out (by omega) (by omega) (by have:=HO8.out; have:=HBL8.out; omega))
     have hu12:=Ym (HLB.out.drop o12) 4
     rw[show(256:Nat) ^ 4=4294967296 from rfl] at hu12
     obtain⟨o16,ho16⟩: ∃ q,o+16=q:=⟨_,rfl⟩
     have eo16:(o:Int)+16=(o16:Int):=by omega
     have wo16:IntKind.i64.wrap (o16:Int)=(o16:Int):=by rw[IntKind.wrap_i64]; omega
     have HU16:=Zg (fun W=>ZL bs o16 4 W HLB.out (by omega) (by omega) (by have:=HO8.out; have:=HBL8.out; omega))
     have Zfe:=Ym (HLB.out.drop o16) 4
     rw[show(256:Nat) ^ 4=4294967296 from rfl] at Zfe
     obtain⟨o28,ho28⟩: ∃ q,o+28=q:=⟨_,rfl⟩
     have eo28:(o:Int)+28=(o28:Int):=by omega
     have wo28:IntKind.i64.wrap (o28:Int)=(o28:Int):=by rw[IntKind.wrap_i64]; omega
     have HU28:=Zg (fun W=>ZL bs o28 4 W HLB.out (by omega) (by omega) (by have:=HO8.out; have:=HBL8.out; omega))
     have hu28:=Ym (HLB.out.drop o28) 4
     rw[show(256:Nat) ^ 4=4294967296 from rfl] at hu28
     have hX:Zg8 bs (UM bs o)=Zg8 bs ⟨YS (bs.drop o16) 4,YS (bs.drop o4) 4,YS (bs.drop o12) 4,YS (bs.drop o28) 4,true,YS (bs.drop o) 4,YS (bs.drop p8) 4⟩:=by rw[←ho16,←ho4,←ho12,←ho28,←ho8]; rfl
     rw[hX] at hre
     obtain⟨u0,huu0⟩: ∃ v,YS (bs.drop o) 4=v:=⟨_,rfl⟩
     rw[huu0] at HU0 hre hu0
     obtain⟨u4,huu4⟩: ∃ v,YS (bs.drop o4) 4=v:=⟨_,rfl⟩
     rw[huu4] at HU4 hre hu4
     obtain⟨u8,huu8⟩: ∃ v,YS (bs.drop p8) 4=v:=⟨_,rfl⟩
     rw[huu8] at HU8 hre hu8
     obtain⟨u12,huu12⟩: ∃ v,YS (bs.drop o12) 4=v:=⟨_,rfl⟩
     rw[huu12] at HU12 hre hu12
     obtain⟨u16,huu16⟩: ∃ v,YS (bs.drop o16) 4=v:=⟨_,rfl⟩
     rw[huu16] at HU16 hre Zfe
     obtain⟨u28,huu28⟩: ∃ v,YS (bs.drop o28) 4=v:=⟨_,rfl⟩
     rw[huu28] at HU28 hre hu28
     clear hX huu0 huu4 huu8 huu12 huu16 huu28 ho4 ho8 ho12 ho16 ho28
     unfold Zg8 at hre
     have HRE:=Zg hre
     have HTX:=Zg (fun W=>Xs bs u4 40 W HLB.out (by omega))
     have HTH:=Zg (fun W=>Jt bs u16 u12 W hlen HLB.out (by omega) (by omega))
     clear hre
     go_wp2_with fail
     refine(HU0.out _).mono ?_
     rintro e w' ⟨rfl,rfl⟩
     go_wp2_with fail
     refine(HU4.out _).mono ?_
     rintro e w' ⟨rfl,rfl⟩
     go_wp2_with fail
     refine(HU12.out _).mono ?_
     rintro e w' ⟨rfl,rfl⟩
     go_wp2_with fail
     refine(HU16.out _).mono ?_
     rintro e w' ⟨rfl,rfl⟩
     go_wp2_with fail
     refine(HU4.out _).mono ?_
     rintro e w' ⟨rfl,rfl⟩
     go_wp2_with fail
     refine(HU8.out _).mono ?_
     rintro e w' ⟨rfl,rfl⟩
     go_wp2_with fail
     refine(HU12.out _).mono ?_
     rintro e w' ⟨rfl,rfl⟩
     go_wp2_with fail
     refine(HU16.out _).mono ?_
     rintro e w' ⟨rfl,rfl⟩
     go_wp2_with fail
     refine(HU28.out _).mono ?_
     rintro e w' ⟨rfl,rfl⟩
     go_wp2_with fail
     refine(HTX.out _).mono ?_
     rintro e w' ⟨rfl,rfl⟩
     rcases htx:XV bs u4 40 with _|t
     ·have hre:=HRE.out
      simp only[htx] at hre
      subst hre
      clear HTX htx HRE
      go_wp2_with fail
      go_ret2
      exact⟨rfl,HB2.out⟩
     ·have hlt':=XP HLB.out htx
      have HNM:=Zg (fun W=>Vb t W hlt'.1 (by have:=hlt'.2; omega))
      have hre:=HRE.out
      simp only[htx] at hre
      clear HTX htx HRE hlt'
      by_cases hok:Zc4 t=true
      ·rw[if_pos hok] at hre
       rw[hok] at HNM
       clear hok
       by_cases ca:u0=1
       ·by_cases ch:u8+8≤bs.length
        ·rw[if_neg (fun h=>h.2.elim (fun q=>q ca) (fun q=>q ch))] at hre
         have HIN8:=Zg (fun W=>JT bs.length u8 8 W (by omega))
         rw[decide_eq_true ch] at HIN8
         have da:((u0:Int) != 1)=false:=by rw[bne_eq_false_iff_eq]; omega
         clear ca ch
         have HRE2:=Zg hre
         clear hre
         go_wp2_with fail
         refine(HNM.out _).mono ?_
         rintro e w' ⟨rfl,rfl⟩
         go_wp2_with fail
         refine(HU0.out _).mono ?_
         rintro e w' ⟨rfl,rfl⟩
         go_wp2_with fail
         refine(HIN8.out _).mono ?_
         rintro e w' ⟨rfl,rfl⟩
         go_wp2_with fail
         refine(HTH.out _).mono ?_
         rintro e w4 ⟨hq,h24⟩
         have HO4:=Zg (HO2.out.below h24)
         have HB4:=Zg (HB2.out.trans (h24.mono HB2.out.size))
         have HX4:=Zg ((h24.block _ (Zi HX2.out)).trans HX2.out)
         have HSL4:=Zg (show ∀ y∈l,SlT Xu 3 w4 y.A y.v.syms from fun y hy=>(HSL2.out y hy).below h24)
         have HSZ4:=Zg h24.size
         clear h24
         have hre:=HRE2.out
         unfold Zi3 at hre
         simp only at hre
         rcases hsy:VY bs (if u16=0 then u12 else u16) u12 66 [] with _|vs
         ·rw[hsy] at hq hre
          simp only[QH] at hq hre
          subst hq
          subst hre
          clear hsy HRE2
          go_wp2_with fail
          go_ret2
          exact⟨rfl,HB4.out⟩
         ·rw[hsy] at hq hre
          simp only[QH] at hq hre
          obtain⟨A3,c3,rfl,hown3⟩:=hq
          have HRE3:=Zg hre
          have hs3:SlT Xu 3 w4 A3 vs:=ZR.sl WR hown3
          have hb3: ∀ b,A3.map (·.block)=some b→w2.heap.size≤b:=fun b hb=>(hown3.lt b (by cases A3 with
           | none=>simp at hb
           | some y=>simpa [Value.ownBlock] using hb)).1
          have HS3:=Zg hs3
          have HB3:=Zg hb3
          have HLO9:=Zg (show ∀ y∈l++[(⟨⟨t,u12,u28,u8,vs⟩,A3,c3⟩:XT)],∀ b,y.A.map (·.block)=some b→w.heap.size≤b from fun y hy b hb=>by
           rcases List.mem_append.mp hy with h|h
           ·exact HLO.out y h b hb
           ·simp at h
            subst h
            exact Nat.le_trans HB2.out.size (hb3 b hb))
          have HLT:=Zg (show ∀ k',(Value.slice A' k c').ownBlock=some k'→k'<w2.heap.size from fun k' hk=>(HO2.out.lt k' hk).2)
          clear hsy HRE2 hre hown3 hs3 hb3
          have HA1:=Zg (HO4.out.alloc (.cells #[.string (txt t),.int .i64 u12,.int .i64 u28,.int .i64 u8,.slice A3 vs.length c3] 78))
          have HY1:=Zg (show ∀ j u,(YO ⟨⟨t,u12,u28,u8,vs⟩,A3,c3⟩)[j]? =some u→(w4.alloc (.cells #[.string (txt t),.int .i64 u12,.int .i64 u28,.int .i64 u8,.slice A3 vs.length c3] 78)).cell? ⟨w4.heap.size,j,none⟩=some u from Zcc ⟨⟨t,u12,u28,u8,vs⟩,A3,c3⟩ w4)
          have HB8:=Zg (HB4.out.alloc HB4.out.size (.cells #[.string (txt t),.int .i64 u12,.int .i64 u28,.int .i64 u8,.slice A3 vs.length c3] 78))
          have HX8:=Zg (show(w4.alloc (.cells #[.string (txt t),.int .i64 u12,.int .i64 u28,.int .i64 u8,.slice A3 vs.length c3] 78)).heap[w.heap.size]? =_ from(Below.heap_alloc _ _ _ (Zi HX4.out)).trans HX4.out)
          have HSL8:=Zg (show ∀ y∈l++[(⟨⟨t,u12,u28,u8,vs⟩,A3,c3⟩:XT)],SlT Xu 3 (w4.alloc (.cells #[.string (txt t),.int .i64 u12,.int .i64 u28,.int .i64 u8,.slice A3 vs.length c3] 78)) y.A y.v.syms from fun y hy=>by
           have hal:Below w4.heap.size w4 (w4.alloc (.cells #[.string (txt t),.int .i64 u12,.int .i64 u28,.int .i64 u8,.slice A3 vs.length c3] 78)):=(Below.refl _ _).alloc (Nat.le_refl _) _
           rcases List.mem_append.mp hy with h|h
           ·exact(HSL4.out y h).below hal
           ·simp at h; subst h; exact HS3.out.below hal)
          have HNB8:=Zg (show ∀ y∈l++[(⟨⟨t,u12,u28,u8,vs⟩,A3,c3⟩:XT)],y.v.syms.length≠0→ ∀ b,y.A.map (·.block)=some b→(Value.slice A' k c').ownBlock≠some b from fun y hy hne b hb=>by
           rcases List.mem_append.mp hy with h|h
           ·exact HNB.out y h hne b hb
           ·simp at h
            subst h
            intro hk
            have h1:=HB3.out b hb
            have h2:=HLT.out b hk
            omega)
          rw[←HL.out] at HA1 hk16 hn ⊢
          have HG3:=Zg (show w.heap.size+1≤(w4.alloc (.cells #[.string (txt t),.int .i64 u12,.int .i64 u28,.int .i64 u8,.slice A3 vs.length c3] 78)).heap.size from Zi HX8.out)
          have HG4:=Zg (show l.length+1≤maxLen from by unfold maxLen; omega)
          have HG5:=Zg (show(l.length+1) * 64≤140737488355328 from by omega)
          go_wp2_with (first
           | (at_builtin; refine Zv rfl (.tmp 127) (.tmp 134) 46 rfl (w.heap.size+1) 78 _ 64 rfl VZ rfl (by omega) Xv WS _ l rfl HA1.out w4.heap.size 1 rfl ⟨⟨t,u12,u28,u8,vs⟩,A3,c3⟩ HY1.out HG4.out HG5.out HG3.out ?_; intro g5 cap5 w8 hown5 hg5 hat5
              have HAT5:=Zg (show(Value.slice A' l.length c').ownBlock=some g5∨g5=(w4.alloc (.cells #[.string (txt t),.int .i64 u12,.int .i64 u28,.int .i64 u8,.slice A3 vs.length c3] 78)).heap.size from hat5)
              have HG6:=Zg (show(w4.alloc (.cells #[.string (txt t),.int .i64 u12,.int .i64 u28,.int .i64 u8,.slice A3 vs.length c3] 78)).grownBy w8 (Value.slice A' l.length c').ownBlock from hg5)
              have HN8:=Zg hown5
              clear hat5 hg5 hown5)
           | fail)
          have HB9:=Zg (HA1.out.grew HB8.out (by omega) HB8.out.size HG6.out)
          have HX9:=Zg ((HG6.out.block w.heap.size (Zi HX8.out) (fun h=>by have:=(HA1.out.lt _ h.symm).1; omega)).trans HX8.out)
          rw[←HL.out] at HNB8
          have HSL9:=Zg (show ∀ y∈l++[(⟨⟨t,u12,u28,u8,vs⟩,A3,c3⟩:XT)],SlT Xu 3 w8 y.A y.v.syms from fun y hy=>by
           rcases HSL8.out y hy with h0|⟨b,off,hA,hlt,hc⟩
           ·exact .inl h0
           ·by_cases h0:y.v.syms=[]
            ·exact .inl h0
            ·refine SlT.keep (.inr ⟨b,off,hA,hlt,hc⟩) HG6.out.size fun b' hb'=> ?_
             have hbb:b=b':=by rw[hA] at hb'; simpa using hb'
             exact HG6.out.block b' (by omega) (fun e=>HNB8.out y hy (fun q=>h0 (List.eq_nil_of_length_eq_zero q)) b' hb' e.symm))
          have HNB9:=Zg (show ∀ y∈l++[(⟨⟨t,u12,u28,u8,vs⟩,A3,c3⟩:XT)],y.v.syms.length≠0→ ∀ b,y.A.map (·.block)=some b→(Value.slice (some ⟨g5,0,none⟩) (l.length+1) cap5).ownBlock≠some b from fun y hy hne b hb hk=>by
           have hgb:g5=b:=by simpa [Value.ownBlock] using hk
           rcases HAT5.out with h|h
           ·exact HNB8.out y hy hne b hb (by rw[h,hgb])
           ·rcases HSL8.out y hy with h0|⟨b',off,hA,hlt,hc⟩
            ·exact hne (by rw[h0]; rfl)
            ·have hbb:b'=b:=by rw[hA] at hb; simpa using hb
             omega)
          go_roundw
          case rel=>exact⟨l.length+1,n,l++[⟨⟨t,u12,u28,u8,vs⟩,A3,c3⟩],some ⟨g5,0,none⟩,cap5,by omega,by simp,by omega,rfl,rfl,by simpa using HN8.out,HSL9.out,HNB9.out,HLO9.out,Nat.le_trans HG3.out HG6.out.size,HB9.out,HX9.out,by rw[List.map_append,HL.out,←HNX.out]; exact HRE3.out⟩
          case measure =>
           have:=HL.out
           simp[intOf]
           omega
        ·rw[if_pos ⟨trivial,.inr ch⟩] at hre
         have HIN8:=Zg (fun W=>JT bs.length u8 8 W (by omega))
         rw[decide_eq_false ch] at HIN8
         have da:((u0:Int) != 1)=false:=by rw[bne_eq_false_iff_eq]; omega
         simp only at hre
         subst hre
         clear ca ch
         go_wp2_with fail
         refine(HNM.out _).mono ?_
         rintro e w' ⟨rfl,rfl⟩
         go_wp2_with fail
         refine(HU0.out _).mono ?_
         rintro e w' ⟨rfl,rfl⟩
         go_wp2_with fail
         refine(HIN8.out _).mono ?_
         rintro e w' ⟨rfl,rfl⟩
         go_wp2_with fail
         go_ret2
         exact⟨rfl,HB2.out⟩
       ·rw[if_pos ⟨trivial,.inl ca⟩] at hre
        have da:((u0:Int) != 1)=true:=by rw[bne_iff_ne]; omega
        simp only at hre
        subst hre
        clear ca
        go_wp2_with fail
        refine(HNM.out _).mono ?_
        rintro e w' ⟨rfl,rfl⟩
        go_wp2_with fail
        refine(HU0.out _).mono ?_
        rintro e w' ⟨rfl,rfl⟩
        go_wp2_with fail
        go_ret2
        exact⟨rfl,HB2.out⟩
      ·rw[if_neg hok] at hre
       rw[Bool.eq_false_iff.2 hok] at HNM
       simp only at hre
       subst hre
       clear hok
       go_wp2_with fail
       refine(HNM.out _).mono ?_
       rintro e w' ⟨rfl,rfl⟩
       go_wp2_with fail
       go_ret2
       exact⟨rfl,HB2.out⟩
   ·rw[if_pos rfl] at hre
    subst hre
    go_wp2_with fail
    go_ret2
    exact⟨⟨A',c',l,by rw[HL.out]; rfl,⟨by rw[HL.out]; exact Joins.ownsRow_le HO2.out (by omega),fun y hy=>⟨HSL2.out y hy,HLO.out y hy⟩⟩,rfl⟩,HB2.out⟩
  ·have hin:decide (o+32≤bs.length)=false:=decide_eq_false c1
   rw[hin] at HIN
   rw[WK c1,if_neg (by simp),if_neg (fun h=>c1 h.1)] at hre
   subst hre
   clear c1 hin
   go_wp2_with fail
   refine(HIN.out _).mono ?_
   rintro e w' ⟨rfl,rfl⟩
   go_wp2_with fail
   go_ret2
   exact⟨rfl,HB.out⟩
end Go.Proofs.YtplgdpjbkdagfaaGreat
