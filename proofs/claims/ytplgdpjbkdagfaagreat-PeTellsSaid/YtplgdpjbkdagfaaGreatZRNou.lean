import Derived.Test.YtplgdpjbkdagfaaGreatZImpD
import Derived.Test.YtplgdpjbkdagfaaGreatZExpM
import Derived.Test.YtplgdpjbkdagfaaGreatZSameHead
import Derived.Test.YtplgdpjbkdagfaaGreatRLay
import Derived.Test.YtplgdpjbkdagfaaGreatRelParse
import Derived.Test.YtplgdpjbkdagfaaGreatShelf
import Derived.Test.YtplgdpjbkdagfaaGreatZAwake1
import Derived.BigQuiet
import Derived.Test.YtplgdpjbkdagfaaGreatZHdrD
import Derived.Test.YtplgdpjbkdagfaaGreatZPMap
import Derived.Test.YtplgdpjbkdagfaaGreatZOwnT
import Derived.Deep.DeepFit
import Derived.Test.YtplgdpjbkdagfaaGreatZPeE
import Derived.Deep.Cut
namespace Go.Proofs.YtplgdpjbkdagfaaGreat
set_option maxHeartbeats 8000000
open List renaming setIfInBounds_toArray→Zd, set_cons_zero→Ze, set_cons_succ→Zf
open Lib renaming hid→Zg
open Go.ChangeShapes Go.WideShapes Go.ChangeAt Go.RowKit
set_option linter.unusedVariables false
set_option linter.unusedSimpArgs false
set_option maxRecDepth 100000
theorem QT (long ak n:Nat) (w:World) (hl:long<=9223372036854775807) :
 Calls Tryz.prog 73 #[.int .i64 long,.int .i64 ak,.int .i64 n] w fun e w'=>e= .returned (.bool (decide (ak+n<=long)))/\w=w':=by
 by_cases c:ak+n<=long
 ·rw[decide_eq_true c]; exact Vp long ak n w (by omega) (by omega) (by omega) (by omega)
 ·rw[decide_eq_false c]; exact Zby long ak n w (by omega) (by omega) (by omega)
theorem Jk {bs:List Nat} (hb:Lb bs) {o n:Nat} (h:o+n<=bs.length):(((txt bs).extract o (o+n)).toList == (ZB (fun _=>0) 0 n).toList)=Yn bs o n:=by
 have e0:=Yq (txt bs) o n (by rw[Zk]; exact h);rw[Bool.eq_iff_iff,beq_iff_eq,UE h];constructor
 ·intro q i hi;have q2:(txt bs).extract o (o+n)=ZB (fun _=>0) 0 n:=by
   apply ByteArray.ext;apply Array.ext';rw[ByteArray.toList_eq,ByteArray.toList_eq] at q;exact q
  have k1:=XO (f:=fun _=>0) (fun _=>⟨by show(0:Int)<=0; omega,by show(0:Int)<=255; omega⟩) (o:=0) (n:=n) (i:=i) hi;rw[<-q2,XU (txt bs) o n i (by rw[Zk]; exact h) hi,Yb hb (by omega)] at k1;exact k1
 ·intro q;rw[e0];congr 1
  exact ZA fun i hi=>by rw[Yb hb (by omega),q i hi]
theorem Zbc (bs:List Nat) (o:Nat) (w:World) (hb:Lb bs) (hl:bs.length<=9223372036854775807) :
 Calls Tryz.prog 74 #[.string (txt bs),.int .i64 o,.int .i64 8] w fun e w'=>e= .returned (.tuple #[.int .u64 (if o+8<=bs.length then Yg (bs.drop o) 8 else 0:Nat),.bool (decide (o+8<=bs.length))])/\w=w':=by
 by_cases c:o+8<=bs.length
 ·rw[if_pos c,decide_eq_true c,<-Wv];have e1:rdF (PlainAid.bt (txt bs)) o 8=rdF (lF bs) o 8:=Xd 8 o fun i hi=>Yb hb (by omega);rw[<-e1];exact Vd (txt bs) o 8 w (by rw[Zk]; exact hl) (by omega) (by rw[Zk]; exact c)
 ·rw[if_neg c,decide_eq_false c];exact Zn1 (txt bs) o 8 w (by rw[Zk]; exact hl) (by omega) (by rw[Zk]; omega)
def Zbd (w w':World) (r:Option (List XV)) (e:Ending):Prop:=match r with
 | none=>e= .returned (.tuple #[.slice none 0 0,.int .i64 10])
 | some l=> ∃ A c,e= .returned (.tuple #[.slice A l.length c,.int .i64 0])/\ZJ YX 3 w' w.heap.size 58 (.slice A l.length c) l
theorem Zmw:txt []=⟨#[]⟩:=by decide +kernel
theorem Zhj (v:Nat) (h:v<18446744073709551616):bits .and .u64 (v:Int) 65535=((v % 65536:Nat):Int):=by
 have e:=u64_and (v:Int) 65535 (by omega) (by omega) (by omega) (by omega);rw[e,Int.toNat_natCast,show(65535:Int).toNat=2 ^ 16 - 1 from rfl,Nat.and_two_pow_sub_one_eq_mod]
theorem Qd (bs:List Nat) (fr iat:Nat) (w:World) (hlen:bs.length<=1000000) (hb:Lb bs) (ht:fr<4294967296) (hi:iat<4294967296) :
 Calls Tryz.prog 94 #[.string (txt bs),.int .i64 fr,.int .i64 iat] w fun e w'=>Zbd w w' (WM bs (if fr=0 then iat else fr) iat 66 []) e/\Below w.heap.size w w':=by
 obtain⟨R,hR⟩: ∃ R,WM bs (if fr=0 then iat else fr) iat 66 []=R:=⟨_,rfl⟩;rw[hR];have aT:(txt bs).size=bs.length:=Zk bs;have aJ:=Zg hb;have HW:=Zg (Below.refl w.heap.size w);clear hb;go_enter Tryz.func94,Tryz.ntmps94;by_cases kA:fr=0
 ·rw[if_pos kA] at hR;have dx:((fr:Int) == 0)=true:=by rw[beq_iff_eq]; omega
  have HR:=Zg hR;clear kA hR;go_wp2_with fail
  go_loopw [8,9] (fun v8 v9 wr=> ∃(k n:Nat) (l:List XV) (A':Option Addr) (c':Nat),k+n=66/\l.length=k/\k<=64/\v8= .slice A' k c'/\v9= .int .i64 k/\ZJ YX 3 wr w.heap.size 58 (.slice A' k c') l/\Below w.heap.size w wr/\WM bs iat iat n l=R) (fun _ v9 _=>66 - (intOf v9).toNat)
  case atStart=>exact⟨0,66,[],none,0,rfl,rfl,by omega,rfl,rfl,ZJ.nil _ _ _,HW.out,HR.out⟩
  case round =>
   obtain⟨k,n,l,A',c',hn,hl,mr,rfl,rfl,ae,aq,hR⟩:=hrel;have HO:=Zg ae;have HB:=Zg aq;replace HR:=Zg hR;have HL:=Zg hl;clear ae aq hR;obtain⟨n,rfl⟩: ∃ q,n=q+1:=⟨n - 1,by omega⟩;have aa:=HR.out;simp only[WM] at aa;rw[hl] at aa;obtain⟨m8,gU⟩: ∃ q,8 * k=q:=⟨_,rfl⟩;obtain⟨o,ho⟩: ∃ q,iat+m8=q:=⟨_,rfl⟩;skip
   rw[gU,ho] at aa;skip
   have em:(8:Int) * (k:Int)=(m8:Int):=by omega
   have wm:IntKind.i64.wrap (m8:Int)=(m8:Int):=by rw[IntKind.wrap_i64]; omega
   have eo:(iat:Int)+(m8:Int)=(o:Int):=by omega
   have wo:IntKind.i64.wrap (o:Int)=(o:Int):=by rw[IntKind.wrap_i64]; omega
   have HU:=Zg (fun W=>Zbc bs o W aJ.out (by omega));have ax:=Zg (fun W=>QT bs.length o 8 W (by omega));have hv:=ZG (aJ.out.drop o) 8;rw[show(256:Nat) ^ 8=18446744073709551616 from rfl] at hv;obtain⟨v,fj⟩: ∃ v,Yg (bs.drop o) 8=v:=⟨_,rfl⟩;rw[fj] at HU aa hv;clear gU ho fj hl;by_cases c1:o+8<=bs.length
   ·rw[if_pos c1] at aa;rw[if_pos c1,decide_eq_true c1] at HU;clear c1;by_cases c2:v=0
    ·rw[if_pos c2] at aa;have dv:((v:Int) == 0)=true:=by rw[beq_iff_eq]; omega
     have mf:=aa;subst mf;clear c2 aa;go_wp2_with fail
     refine(HU.out _).mono ?_;rintro e w' ⟨rfl,rfl⟩;go_wp2_with fail
     go_ret2;exact⟨⟨A',c',by rw[HL.out]; rfl,by rw[HL.out]; exact HO.out⟩,HB.out⟩
    ·rw[if_neg c2] at aa;have dv:((v:Int) == 0)=false:=beq_eq_false_iff_ne.mpr (by omega);have KN:1<=v:=by omega
     clear c2;by_cases c3:o+8<=bs.length/\k≠64
     ·rw[if_pos c3] at aa;have aU:decide (o+8<=bs.length)=true:=decide_eq_true c3.1;rw[aU] at ax;have pd:k<64:=by omega
      have d64: ¬ (64:Int)<=(k:Int):=by omega
      have ar:=Zg aa;clear c3 aa aU;unfold WL at ar;by_cases c4:9223372036854775808<=v
      ·rw[if_pos c4] at ar;obtain⟨r,hr⟩: ∃ r,v - 9223372036854775808=r:=⟨_,rfl⟩;rw[hr] at ar;have C6:(v:Int) / 9223372036854775808=1:=by omega
       have nf:IntKind.u64.wrap ((v:Int) / 65536 * 131072) / 131072=((r / 65536:Nat):Int):=by rw[IntKind.wrap_u64]; omega
       have pf:bits .and .u64 (v:Int) 65535=((r % 65536:Nat):Int):=by
        rw[Zhj v hv]; omega
       by_cases c5:65535<r
       ·rw[if_pos c5] at ar;have aa:=ar.out;simp only at aa;subst aa;have dz:(IntKind.u64.wrap ((v:Int) / 65536 * 131072) / 131072 != 0)=true:=by rw[nf,bne_iff_ne]; omega
        clear c5 c4 hr ar nf pf;go_wp2_with fail
        refine(HU.out _).mono ?_;rintro e w' ⟨rfl,rfl⟩;go_wp2_with fail
        refine(ax.out _).mono ?_;rintro e w' ⟨rfl,rfl⟩;go_wp2_with fail
        go_ret2;exact⟨rfl,HB.out⟩
       ·rw[if_neg c5] at ar;have aa:=ar.out;simp only at aa;replace ar:=Zg aa;have dz:(IntKind.u64.wrap ((v:Int) / 65536 * 131072) / 131072 != 0)=false:=by rw[nf,bne_eq_false_iff_eq]; omega
        have er:((r % 65536:Nat):Int)=(r:Int):=by omega
        rw[er] at pf;have KO:IntKind.i64.wrap (r:Int)=(r:Int):=by rw[IntKind.wrap_i64]; omega
        clear c5 c4 hr aa er nf;go_wp2_with fail
        refine(HU.out _).mono ?_;rintro e w' ⟨rfl,rfl⟩;go_wp2_with fail
        refine(ax.out _).mono ?_;rintro e w' ⟨rfl,rfl⟩;have aK:=Zg (HO.out.alloc (.cells #[.string ⟨#[]⟩,.int .i64 r,.bool true] 58));have cK:=Zg (show ∀ j u,(YX (([],r,true):XV))[j]? =some u->(wr.alloc (.cells #[.string ⟨#[]⟩,.int .i64 r,.bool true] 58)).cell? ⟨wr.heap.size,j,none⟩=some u from by
         have h: ∀ j u,(YX (([],r,true):XV))[j]? =some u->(wr.alloc (.cells #[.string (txt []),.int .i64 r,.bool true] 58)).cell? ⟨wr.heap.size,j,none⟩=some u:=Va (([],r,true):XV) wr;rw[Zmw] at h; exact h)
        have nY:=ar;have aV:=Zg (HB.out.alloc HB.out.size (.cells #[.string ⟨#[]⟩,.int .i64 r,.bool true] 58));have cj:=Zg (show w.heap.size<=(wr.alloc (.cells #[.string ⟨#[]⟩,.int .i64 r,.bool true] 58)).heap.size from aV.out.size);rw[<-HL.out] at aK pd hn ⊢;have dH:=Zg (show l.length+1<=maxLen from by unfold maxLen; omega);have dX:=Zg (show(l.length+1) * 32<=140737488355328 from by omega);go_wp2_with (first
         | (at_builtin; refine Zq rfl (.tmp 53) (.tmp 58) 59 rfl w.heap.size 58 _ 32 rfl Ur rfl (by omega) Xv WZ _ l rfl aK.out wr.heap.size 1 rfl (([],r,true):XV) cK.out dH.out dX.out cj.out ?_; intro g5 aG w8 ag aI aD)
         | fail)
        have ay:=Zg (aK.out.grew aV.out (Nat.le_refl _) aV.out.size aI);have di:=Zg ag;clear ag aI aD;go_roundw
        case rel=>exact⟨l.length+1,n,l++[(([],r,true):XV)],some ⟨g5,0,none⟩,aG,by omega,by simp,by omega,by simp,by rfl,by simpa using di.out,ay.out,nY.out⟩
        case measure =>
         have:=HL.out;simp[intOf];omega
      ·rw[if_neg c4] at ar;have C6:(v:Int) / 9223372036854775808=0:=by omega
       by_cases c5:2147483647<v
       ·rw[if_pos c5] at ar;have aa:=ar.out;simp only at aa;subst aa;have d31:(2147483647:Int)<(v:Int):=by omega
        clear c5 c4 ar;go_wp2_with fail
        refine(HU.out _).mono ?_;rintro e w' ⟨rfl,rfl⟩;go_wp2_with fail
        refine(ax.out _).mono ?_;rintro e w' ⟨rfl,rfl⟩;go_wp2_with fail
        go_ret2;exact⟨rfl,HB.out⟩
       ·rw[if_neg c5] at ar;have d31: ¬ (2147483647:Int)<(v:Int):=by omega
        have wv:IntKind.i64.wrap (v:Int)=(v:Int):=by rw[IntKind.wrap_i64]; omega
        have C7:(v:Int)+2=((v+2:Nat):Int):=by omega
        have C8:IntKind.i64.wrap ((v+2:Nat):Int)=((v+2:Nat):Int):=by rw[IntKind.wrap_i64]; omega
        have bW:=Zg (fun W=>Xr bs (v+2) 64 W aJ.out (by omega));obtain⟨v2,oJ⟩: ∃ q,v+2=q:=⟨_,rfl⟩;rw[oJ] at C7 C8 bW ar;clear c5 c4 oJ;go_wp2_with fail
        refine(HU.out _).mono ?_;rintro e w' ⟨rfl,rfl⟩;go_wp2_with fail
        refine(ax.out _).mono ?_;rintro e w' ⟨rfl,rfl⟩;go_wp2_with fail
        refine(bW.out _).mono ?_;rintro e w' ⟨rfl,rfl⟩;rcases htx:YO bs v2 64 with _|t
        ·rw[htx] at ar;have aa:=ar.out;simp only at aa;subst aa;clear htx ar bW;go_wp2_with fail
         go_ret2;exact⟨rfl,HB.out⟩
        ·have aE:=YC aJ.out htx;rw[htx] at ar;have cO:=Zg (fun W=>VU t W aE.1 (by have:=aE.2; omega));clear aE htx bW;by_cases ba:Yu t=true
         ·have aa:=ar.out;simp only[ba,if_true] at aa;replace ar:=Zg aa;rw[ba] at cO;clear aa ba;go_wp2_with fail
          refine(cO.out _).mono ?_;rintro e w' ⟨rfl,rfl⟩;have aK:=Zg (HO.out.alloc (.cells #[.string (txt t),.int .i64 0,.bool false] 58));have cK:=Zg (show ∀ j u,(YX ((t,0,false):XV))[j]? =some u->(wr.alloc (.cells #[.string (txt t),.int .i64 0,.bool false] 58)).cell? ⟨wr.heap.size,j,none⟩=some u from by
           have h: ∀ j u,(YX ((t,0,false):XV))[j]? =some u->(wr.alloc (.cells #[.string (txt t),.int .i64 0,.bool false] 58)).cell? ⟨wr.heap.size,j,none⟩=some u:=Va ((t,0,false):XV) wr;exact h)
          have nY:=ar;have aV:=Zg (HB.out.alloc HB.out.size (.cells #[.string (txt t),.int .i64 0,.bool false] 58));have cj:=Zg (show w.heap.size<=(wr.alloc (.cells #[.string (txt t),.int .i64 0,.bool false] 58)).heap.size from aV.out.size);rw[<-HL.out] at aK pd hn ⊢;have dH:=Zg (show l.length+1<=maxLen from by unfold maxLen; omega);have dX:=Zg (show(l.length+1) * 32<=140737488355328 from by omega);go_wp2_with (first
           | (at_builtin; refine Zq rfl (.tmp 77) (.tmp 80) 59 rfl w.heap.size 58 _ 32 rfl Ur rfl (by omega) Xv WZ _ l rfl aK.out wr.heap.size 1 rfl ((t,0,false):XV) cK.out dH.out dX.out cj.out ?_; intro g5 aG w8 ag aI aD)
           | fail)
          have ay:=Zg (aK.out.grew aV.out (Nat.le_refl _) aV.out.size aI);have di:=Zg ag;clear ag aI aD;go_roundw
          case rel=>exact⟨l.length+1,n,l++[((t,0,false):XV)],some ⟨g5,0,none⟩,aG,by omega,by simp,by omega,by simp,by rfl,by simpa using di.out,ay.out,nY.out⟩
          case measure =>
           have:=HL.out;simp[intOf];omega
         ·have aa:=ar.out;simp only[ba] at aa;have cP:=Bool.eq_false_iff.2 ba;rw[cP] at cO;simp at aa;subst aa;clear ba cP ar;go_wp2_with fail
          refine(cO.out _).mono ?_;rintro e w' ⟨rfl,rfl⟩;go_wp2_with fail
          go_ret2;exact⟨rfl,HB.out⟩
     ·rw[if_neg c3] at aa;subst aa;by_cases c4:o+8<=bs.length
      ·have aU:decide (o+8<=bs.length)=true:=decide_eq_true c4;rw[aU] at ax;have d64:(64:Int)<=(k:Int):=by omega
       clear c3 c4 aU;go_wp2_with fail
       refine(HU.out _).mono ?_;rintro e w' ⟨rfl,rfl⟩;go_wp2_with fail
       refine(ax.out _).mono ?_;rintro e w' ⟨rfl,rfl⟩;go_wp2_with fail
       go_ret2;exact⟨rfl,HB.out⟩
      ·have aU:decide (o+8<=bs.length)=false:=decide_eq_false c4;rw[aU] at ax;clear c3 c4 aU;go_wp2_with fail
       refine(HU.out _).mono ?_;rintro e w' ⟨rfl,rfl⟩;go_wp2_with fail
       refine(ax.out _).mono ?_;rintro e w' ⟨rfl,rfl⟩;go_wp2_with fail
       go_ret2;exact⟨rfl,HB.out⟩
   ·rw[if_neg c1] at aa;subst aa;rw[if_neg c1,decide_eq_false c1] at HU;clear c1;go_wp2_with fail
    refine(HU.out _).mono ?_;rintro e w' ⟨rfl,rfl⟩;go_wp2_with fail
    go_ret2;exact⟨rfl,HB.out⟩
 ·rw[if_neg kA] at hR;have dx:((fr:Int) == 0)=false:=beq_eq_false_iff_ne.mpr (by omega);have HR:=Zg hR;clear kA hR;go_wp2_with fail
  go_loopw [8,9] (fun v8 v9 wr=> ∃(k n:Nat) (l:List XV) (A':Option Addr) (c':Nat),k+n=66/\l.length=k/\k<=64/\v8= .slice A' k c'/\v9= .int .i64 k/\ZJ YX 3 wr w.heap.size 58 (.slice A' k c') l/\Below w.heap.size w wr/\WM bs fr iat n l=R) (fun _ v9 _=>66 - (intOf v9).toNat)
  case atStart=>exact⟨0,66,[],none,0,rfl,rfl,by omega,rfl,rfl,ZJ.nil _ _ _,HW.out,HR.out⟩
  case round =>
   obtain⟨k,n,l,A',c',hn,hl,mr,rfl,rfl,ae,aq,hR⟩:=hrel;have HO:=Zg ae;have HB:=Zg aq;replace HR:=Zg hR;have HL:=Zg hl;clear ae aq hR;obtain⟨n,rfl⟩: ∃ q,n=q+1:=⟨n - 1,by omega⟩;have aa:=HR.out;simp only[WM] at aa;rw[hl] at aa;obtain⟨m8,gU⟩: ∃ q,8 * k=q:=⟨_,rfl⟩;obtain⟨o,ho⟩: ∃ q,fr+m8=q:=⟨_,rfl⟩;obtain⟨o2,dJ⟩: ∃ q,iat+m8=q:=⟨_,rfl⟩;rw[gU,ho] at aa;try rw[dJ] at aa
   have em:(8:Int) * (k:Int)=(m8:Int):=by omega
   have wm:IntKind.i64.wrap (m8:Int)=(m8:Int):=by rw[IntKind.wrap_i64]; omega
   have eo:(fr:Int)+(m8:Int)=(o:Int):=by omega
   have wo:IntKind.i64.wrap (o:Int)=(o:Int):=by rw[IntKind.wrap_i64]; omega
   have Gy:(iat:Int)+(m8:Int)=(o2:Int):=by omega
   have Gz:IntKind.i64.wrap (o2:Int)=(o2:Int):=by rw[IntKind.wrap_i64]; omega
   have HU:=Zg (fun W=>Zbc bs o W aJ.out (by omega));have ax:=Zg (fun W=>QT bs.length o2 8 W (by omega));have hv:=ZG (aJ.out.drop o) 8;rw[show(256:Nat) ^ 8=18446744073709551616 from rfl] at hv;obtain⟨v,fj⟩: ∃ v,Yg (bs.drop o) 8=v:=⟨_,rfl⟩;rw[fj] at HU aa hv;clear gU ho fj hl dJ;by_cases c1:o+8<=bs.length
   ·rw[if_pos c1] at aa;rw[if_pos c1,decide_eq_true c1] at HU;clear c1;by_cases c2:v=0
    ·rw[if_pos c2] at aa;have dv:((v:Int) == 0)=true:=by rw[beq_iff_eq]; omega
     have mf:=aa;subst mf;clear c2 aa;go_wp2_with fail
     refine(HU.out _).mono ?_;rintro e w' ⟨rfl,rfl⟩;go_wp2_with fail
     go_ret2;exact⟨⟨A',c',by rw[HL.out]; rfl,by rw[HL.out]; exact HO.out⟩,HB.out⟩
    ·rw[if_neg c2] at aa;have dv:((v:Int) == 0)=false:=beq_eq_false_iff_ne.mpr (by omega);have KN:1<=v:=by omega
     clear c2;by_cases c3:o2+8<=bs.length/\k≠64
     ·rw[if_pos c3] at aa;have aU:decide (o2+8<=bs.length)=true:=decide_eq_true c3.1;rw[aU] at ax;have pd:k<64:=by omega
      have d64: ¬ (64:Int)<=(k:Int):=by omega
      have ar:=Zg aa;clear c3 aa aU;unfold WL at ar;by_cases c4:9223372036854775808<=v
      ·rw[if_pos c4] at ar;obtain⟨r,hr⟩: ∃ r,v - 9223372036854775808=r:=⟨_,rfl⟩;rw[hr] at ar;have C6:(v:Int) / 9223372036854775808=1:=by omega
       have nf:IntKind.u64.wrap ((v:Int) / 65536 * 131072) / 131072=((r / 65536:Nat):Int):=by rw[IntKind.wrap_u64]; omega
       have pf:bits .and .u64 (v:Int) 65535=((r % 65536:Nat):Int):=by
        rw[Zhj v hv]; omega
       by_cases c5:65535<r
       ·rw[if_pos c5] at ar;have aa:=ar.out;simp only at aa;subst aa;have dz:(IntKind.u64.wrap ((v:Int) / 65536 * 131072) / 131072 != 0)=true:=by rw[nf,bne_iff_ne]; omega
        clear c5 c4 hr ar nf pf;go_wp2_with fail
        refine(HU.out _).mono ?_;rintro e w' ⟨rfl,rfl⟩;go_wp2_with fail
        refine(ax.out _).mono ?_;rintro e w' ⟨rfl,rfl⟩;go_wp2_with fail
        go_ret2;exact⟨rfl,HB.out⟩
       ·rw[if_neg c5] at ar;have aa:=ar.out;simp only at aa;replace ar:=Zg aa;have dz:(IntKind.u64.wrap ((v:Int) / 65536 * 131072) / 131072 != 0)=false:=by rw[nf,bne_eq_false_iff_eq]; omega
        have er:((r % 65536:Nat):Int)=(r:Int):=by omega
        rw[er] at pf;have KO:IntKind.i64.wrap (r:Int)=(r:Int):=by rw[IntKind.wrap_i64]; omega
        clear c5 c4 hr aa er nf;go_wp2_with fail
        refine(HU.out _).mono ?_;rintro e w' ⟨rfl,rfl⟩;go_wp2_with fail
        refine(ax.out _).mono ?_;rintro e w' ⟨rfl,rfl⟩;have aK:=Zg (HO.out.alloc (.cells #[.string ⟨#[]⟩,.int .i64 r,.bool true] 58));have cK:=Zg (show ∀ j u,(YX (([],r,true):XV))[j]? =some u->(wr.alloc (.cells #[.string ⟨#[]⟩,.int .i64 r,.bool true] 58)).cell? ⟨wr.heap.size,j,none⟩=some u from by
         have h: ∀ j u,(YX (([],r,true):XV))[j]? =some u->(wr.alloc (.cells #[.string (txt []),.int .i64 r,.bool true] 58)).cell? ⟨wr.heap.size,j,none⟩=some u:=Va (([],r,true):XV) wr;rw[Zmw] at h; exact h)
        have nY:=ar;have aV:=Zg (HB.out.alloc HB.out.size (.cells #[.string ⟨#[]⟩,.int .i64 r,.bool true] 58));have cj:=Zg (show w.heap.size<=(wr.alloc (.cells #[.string ⟨#[]⟩,.int .i64 r,.bool true] 58)).heap.size from aV.out.size);rw[<-HL.out] at aK pd hn ⊢;have dH:=Zg (show l.length+1<=maxLen from by unfold maxLen; omega);have dX:=Zg (show(l.length+1) * 32<=140737488355328 from by omega);go_wp2_with (first
         | (at_builtin; refine Zq rfl (.tmp 53) (.tmp 58) 59 rfl w.heap.size 58 _ 32 rfl Ur rfl (by omega) Xv WZ _ l rfl aK.out wr.heap.size 1 rfl (([],r,true):XV) cK.out dH.out dX.out cj.out ?_; intro g5 aG w8 ag aI aD)
         | fail)
        have ay:=Zg (aK.out.grew aV.out (Nat.le_refl _) aV.out.size aI);have di:=Zg ag;clear ag aI aD;go_roundw
        case rel=>exact⟨l.length+1,n,l++[(([],r,true):XV)],some ⟨g5,0,none⟩,aG,by omega,by simp,by omega,by simp,by rfl,by simpa using di.out,ay.out,nY.out⟩
        case measure =>
         have:=HL.out;simp[intOf];omega
      ·rw[if_neg c4] at ar;have C6:(v:Int) / 9223372036854775808=0:=by omega
       by_cases c5:2147483647<v
       ·rw[if_pos c5] at ar;have aa:=ar.out;simp only at aa;subst aa;have d31:(2147483647:Int)<(v:Int):=by omega
        clear c5 c4 ar;go_wp2_with fail
        refine(HU.out _).mono ?_;rintro e w' ⟨rfl,rfl⟩;go_wp2_with fail
        refine(ax.out _).mono ?_;rintro e w' ⟨rfl,rfl⟩;go_wp2_with fail
        go_ret2;exact⟨rfl,HB.out⟩
       ·rw[if_neg c5] at ar;have d31: ¬ (2147483647:Int)<(v:Int):=by omega
        have wv:IntKind.i64.wrap (v:Int)=(v:Int):=by rw[IntKind.wrap_i64]; omega
        have C7:(v:Int)+2=((v+2:Nat):Int):=by omega
        have C8:IntKind.i64.wrap ((v+2:Nat):Int)=((v+2:Nat):Int):=by rw[IntKind.wrap_i64]; omega
        have bW:=Zg (fun W=>Xr bs (v+2) 64 W aJ.out (by omega));obtain⟨v2,oJ⟩: ∃ q,v+2=q:=⟨_,rfl⟩;rw[oJ] at C7 C8 bW ar;clear c5 c4 oJ;go_wp2_with fail
        refine(HU.out _).mono ?_;rintro e w' ⟨rfl,rfl⟩;go_wp2_with fail
        refine(ax.out _).mono ?_;rintro e w' ⟨rfl,rfl⟩;go_wp2_with fail
        refine(bW.out _).mono ?_;rintro e w' ⟨rfl,rfl⟩;rcases htx:YO bs v2 64 with _|t
        ·rw[htx] at ar;have aa:=ar.out;simp only at aa;subst aa;clear htx ar bW;go_wp2_with fail
         go_ret2;exact⟨rfl,HB.out⟩
        ·have aE:=YC aJ.out htx;rw[htx] at ar;have cO:=Zg (fun W=>VU t W aE.1 (by have:=aE.2; omega));clear aE htx bW;by_cases ba:Yu t=true
         ·have aa:=ar.out;simp only[ba,if_true] at aa;replace ar:=Zg aa;rw[ba] at cO;clear aa ba;go_wp2_with fail
          refine(cO.out _).mono ?_;rintro e w' ⟨rfl,rfl⟩;have aK:=Zg (HO.out.alloc (.cells #[.string (txt t),.int .i64 0,.bool false] 58));have cK:=Zg (show ∀ j u,(YX ((t,0,false):XV))[j]? =some u->(wr.alloc (.cells #[.string (txt t),.int .i64 0,.bool false] 58)).cell? ⟨wr.heap.size,j,none⟩=some u from by
           have h: ∀ j u,(YX ((t,0,false):XV))[j]? =some u->(wr.alloc (.cells #[.string (txt t),.int .i64 0,.bool false] 58)).cell? ⟨wr.heap.size,j,none⟩=some u:=Va ((t,0,false):XV) wr;exact h)
          have nY:=ar;have aV:=Zg (HB.out.alloc HB.out.size (.cells #[.string (txt t),.int .i64 0,.bool false] 58));have cj:=Zg (show w.heap.size<=(wr.alloc (.cells #[.string (txt t),.int .i64 0,.bool false] 58)).heap.size from aV.out.size);rw[<-HL.out] at aK pd hn ⊢;have dH:=Zg (show l.length+1<=maxLen from by unfold maxLen; omega);have dX:=Zg (show(l.length+1) * 32<=140737488355328 from by omega);go_wp2_with (first
           | (at_builtin; refine Zq rfl (.tmp 77) (.tmp 80) 59 rfl w.heap.size 58 _ 32 rfl Ur rfl (by omega) Xv WZ _ l rfl aK.out wr.heap.size 1 rfl ((t,0,false):XV) cK.out dH.out dX.out cj.out ?_; intro g5 aG w8 ag aI aD)
           | fail)
          have ay:=Zg (aK.out.grew aV.out (Nat.le_refl _) aV.out.size aI);have di:=Zg ag;clear ag aI aD;go_roundw
          case rel=>exact⟨l.length+1,n,l++[((t,0,false):XV)],some ⟨g5,0,none⟩,aG,by omega,by simp,by omega,by simp,by rfl,by simpa using di.out,ay.out,nY.out⟩
          case measure =>
           have:=HL.out;simp[intOf];omega
         ·have aa:=ar.out;simp only[ba] at aa;have cP:=Bool.eq_false_iff.2 ba;rw[cP] at cO;simp at aa;subst aa;clear ba cP ar;go_wp2_with fail
          refine(cO.out _).mono ?_;rintro e w' ⟨rfl,rfl⟩;go_wp2_with fail
          go_ret2;exact⟨rfl,HB.out⟩
     ·rw[if_neg c3] at aa;subst aa;by_cases c4:o2+8<=bs.length
      ·have aU:decide (o2+8<=bs.length)=true:=decide_eq_true c4;rw[aU] at ax;have d64:(64:Int)<=(k:Int):=by omega
       clear c3 c4 aU;go_wp2_with fail
       refine(HU.out _).mono ?_;rintro e w' ⟨rfl,rfl⟩;go_wp2_with fail
       refine(ax.out _).mono ?_;rintro e w' ⟨rfl,rfl⟩;go_wp2_with fail
       go_ret2;exact⟨rfl,HB.out⟩
      ·have aU:decide (o2+8<=bs.length)=false:=decide_eq_false c4;rw[aU] at ax;clear c3 c4 aU;go_wp2_with fail
       refine(HU.out _).mono ?_;rintro e w' ⟨rfl,rfl⟩;go_wp2_with fail
       refine(ax.out _).mono ?_;rintro e w' ⟨rfl,rfl⟩;go_wp2_with fail
       go_ret2;exact⟨rfl,HB.out⟩
   ·rw[if_neg c1] at aa;subst aa;rw[if_neg c1,decide_eq_false c1] at HU;clear c1;go_wp2_with fail
    refine(HU.out _).mono ?_;rintro e w' ⟨rfl,rfl⟩;go_wp2_with fail
    go_ret2;exact⟨rfl,HB.out⟩
theorem Zbe (bs:List Nat) (rva:Nat) (sz:Int) (w:World) (hb:Lb bs) (hlen:bs.length<=1000000) (mq:rva<4294967296) :
 Calls Tryz.prog 39 #[.string (txt bs),.agg #[.int .i64 rva,.int .i64 sz],.bool false] w fun e w'=>ImpQ w w' (ZU bs rva 20 ZT) e/\Below w.heap.size w w':=by
 obtain⟨R,hR⟩: ∃ R,ZU bs rva 20 ZT=R:=⟨_,rfl⟩;rw[hR];unfold ZU at hR;have aT:(txt bs).size=bs.length:=Zk bs;have aJ:=Zg hb;have sZ:=Zg (show ∀ W:World,(Instr.makeSlice 25 (.int .i64 20) (.int .i64 20)).run Tryz.prog W= .ok (.slice (some ⟨W.heap.size,0,none⟩) 20 20) (W.alloc (.cells (madeCells #[.int .u8 0] 20) 5)) from fun W=>run_make_row' (P:=Tryz.prog) 25 5 (.int .u8 0) 1 Tryz.underlying25 Ws rfl .i64 .i64 20 (by omega) (by omega) W);obtain⟨w1,ao⟩: ∃ w1,w.alloc (.cells #[.int .i64 rva,.int .i64 sz] 37)=w1:=⟨_,rfl⟩;have cu:=Zg ao;have av:=Zg (show Below w.heap.size w w1 from by rw[<-ao]; exact(Below.refl _ _).alloc (Nat.le_refl _) _);have dw:=Zg (show w1.heap[w.heap.size]? =some (.cells #[.int .i64 rva,.int .i64 sz] 37 (0,0)) from by rw[<-ao]; exact heap_alloc_new w _);have eK:=Zg (show w1.heap.size=w.heap.size+1 from by rw[<-ao]; simp);clear ao hb;have q0:w1.cell? ⟨w.heap.size,0,none⟩=some (.int .i64 rva):=by rw[Zh dw.out]; rfl
 go_enter Tryz.func39,Tryz.ntmps39;go_upto_region 1 with(fail)
 refine(congrArg _ cu.out).mpr ?_;by_cases c0:rva=0
 ·rw[if_pos c0] at hR;subst hR;have d0:((rva:Int) == 0)=true:=by rw[beq_iff_eq]; omega
  clear c0;go_wp2_with fail
  go_ret2;exact⟨⟨none,0,[],rfl,⟨ZJ.nil _ _ _,fun y hy=>by simp at hy⟩,rfl⟩,av.out⟩
 rw[if_neg c0] at hR;have d0:((rva:Int) == 0)=false:=beq_eq_false_iff_ne.mpr (by omega);have HR:=Zg hR;clear hR c0;go_wp2_with fail
 clear q0;go_loopw [9,10] (fun v9 v10 wr=> ∃(k n:Nat) (l:List WN) (A':Option Addr) (c':Nat),k+n=18/\l.length=k/\k<=16/\v9= .slice A' k c'/\v10= .int .i64 k/\ZJ YS 5 wr (w.heap.size+1) 78 (.slice A' k c') l/\(∀ y∈l,SlT YX 3 wr y.A y.v.syms)/\(∀ y∈l,y.v.syms.length≠0-> ∀ b,y.A.map (·.block)=some b->(Value.slice A' k c').ownBlock≠some b)/\(∀ y∈l,∀ b,y.A.map (·.block)=some b->w.heap.size<=b)/\w.heap.size+1<=wr.heap.size/\Below w.heap.size w wr/\wr.heap[w.heap.size]? =some (.cells #[.int .i64 rva,.int .i64 sz] 37 (0,0))/\WE bs 20 ZT n (rva+20 * k) (l.map (·.v))=R) (fun _ v10 _=>18 - (intOf v10).toNat)
 case atStart=>exact⟨0,18,[],none,0,rfl,rfl,by omega,rfl,rfl,ZJ.nil _ _ _,fun y hy=>by simp at hy,fun y hy=>by simp at hy,fun y hy=>by simp at hy,by have h1:=eK.out; omega,av.out,dw.out,HR.out⟩
 case round =>
  obtain⟨k,n,l,A',c',hn,hl,gJ,rfl,rfl,ae,dE,lN,oL,fk,aq,nj,ie⟩:=hrel;have pg:=Zg oL;have eL:=Zg fk;have HO:=Zg ae;have df:=Zg dE;have jO:=Zg lN;have HB:=Zg aq;have HX:=Zg nj;have HL:=Zg hl;clear oL fk ae dE lN aq nj HR;obtain⟨n,rfl⟩: ∃ q,n=q+1:=⟨n - 1,by omega⟩;have aa:=ie;simp only[WE] at aa;rw[List.length_map,hl] at aa;obtain⟨m8,gU⟩: ∃ q,20 * k=q:=⟨_,rfl⟩;obtain⟨o,ho⟩: ∃ q,rva+m8=q:=⟨_,rfl⟩;have dN:=Zg (show o+20=rva+20 * (k+1) from by omega);rw[gU,ho] at aa;have em:(20:Int) * (k:Int)=(m8:Int):=by omega
  have wm:IntKind.i64.wrap (m8:Int)=(m8:Int):=by rw[IntKind.wrap_i64]; omega
  have eo:(rva:Int)+(m8:Int)=(o:Int):=by omega
  have wo:IntKind.i64.wrap (o:Int)=(o:Int):=by rw[IntKind.wrap_i64]; omega
  have ax:=Zg (fun W=>QT bs.length o 20 W (by omega));have e0:wr.cell? ⟨w.heap.size,0,none⟩=some (.int .i64 rva):=by rw[Zh HX.out]; rfl
  clear gU ho hl ie;by_cases c1:o+20<=bs.length
  ·have oH:=Zg (Jk aJ.out c1);have aU:decide (o+20<=bs.length)=true:=decide_eq_true c1;rw[aU] at ax;obtain⟨o8,fe⟩: ∃ q,o+20=q:=⟨_,rfl⟩;rw[fe] at oH dN aa;have Bw:(o:Int)+20=(o8:Int):=by omega
   have Da:IntKind.i64.wrap (o8:Int)=(o8:Int):=by rw[IntKind.wrap_i64]; omega
   have x0:(0:Int)<=(o:Int):=by omega
   have x1:(o:Int)<=(o8:Int):=by omega
   have x2:(o8:Int)<=(bs.length:Int):=by omega
   have x3:(o8:Int).toNat=o8:=Int.toNat_natCast _;have x4:(o:Int).toNat=o:=Int.toNat_natCast _;have fQ:=Zg fe;have eW:=Zg (show o8<=bs.length from by omega);have ph:=Zg aa;clear fe c1 aU aa;go_wp2_with fail
   refine(ax.out _).mono ?_;rintro e w' ⟨rfl,rfl⟩;go_upto_region 12 with(fail)
   clear e0;have HS:=Zg (show Below wr.heap.size wr wr.drew from(Below.refl _ _).drew);refine wp_region_noPanic ?_;refine Zt (fun W=>Below wr.heap.size wr W) (fun _=>True) 99 (by kernel_rfl) ?_;refine wU (i:=0) HS.out ?_;refine wU (i:=1) HS.out ?_;refine wU (i:=2) HS.out ?_;refine wU (i:=3) HS.out ?_;refine wU (i:=4) HS.out ?_;refine wU (i:=5) HS.out ?_;refine wU (i:=6) HS.out ?_;have rn:=sZ.out wr.drew;refine wO (i:=7) (fun K hK=> ?_);go_simp;clear rn;have aF:=Zg (show Below wr.heap.size wr (wr.drew.alloc (.cells (madeCells #[.int .u8 0] 20) 5)) from HS.out.alloc (Nat.le_refl _) _);refine hK.out _ _ aF.out (fun _=>trivial) ?_;clear hK K;try simp only[Act.put,Zd,Ze,Zf]
   have dI:(convert 25 9 (.slice (some ⟨wr.heap.size,0,none⟩) 20 20)).run Tryz.prog (wr.drew.alloc (.cells (madeCells #[.int .u8 0] 20) 5))= .ok (.string (ZB (fun _=>0) 0 20)) (wr.drew.alloc (.cells (madeCells #[.int .u8 0] 20) 5)):=Uh wr.drew 20;obtain⟨w2,aR⟩: ∃ q,wr.drew.alloc (.cells (madeCells #[.int .u8 0] 20) 5)=q:=⟨_,rfl⟩;rw[aR] at dI aF;have eS:=Zg aR;clear aR;refine(congrArg _ eS.out).mpr ?_;refine wO (i:=8) (fun K hK=> ?_);go_simp;clear dI;refine hK.out _ _ aF.out (fun _=>trivial) ?_;clear hK K;try simp only[Act.put,Zd,Ze,Zf]
   have s5:=oH.out;have aa:=ph.out;obtain⟨NO,nk⟩: ∃ q,Yn bs o 20=q:=⟨_,rfl⟩;rw[nk] at s5 aa;generalize ZB (fun _=>0) 0 20=Z at *;refine wU (i:=9) aF.out ?_;refine Zo (by kernel_rfl) ?_ _;refine NoPanic.normal ?_;clear s5 nk eS x0 x1 x2 x3 x4;have aC:=aF.out;have bQ:=Zg (HO.out.below aC);have aj:=Zg (HB.out.trans (aC.mono HB.out.size));have gZ:=Zg ((aC.block _ (Zi HX.out)).trans HX.out);have pj:=Zg (show ∀ y∈l,SlT YX 3 w2 y.A y.v.syms from fun y hy=>(df.out y hy).below aC);have Db:=Zg aC.size;clear aC;rcases NO with _|_
   ·rw[if_neg (by simp)] at aa;by_cases c2:k=16
    ·rw[if_neg (fun h=>h.2 c2)] at aa;subst aa;have d2:(16:Int)<=(k:Int):=by omega
     clear c2;go_wp2_with fail
     go_ret2;exact⟨rfl,aj.out⟩
    ·rw[if_pos ⟨by have:=fQ.out; have:=eW.out; omega,c2⟩] at aa;have d2: ¬ (16:Int)<=(k:Int):=by omega
     have nZ:k<16:=by omega
     clear c2;have iS:=Zg (fun W=>ZQ bs o 4 W aJ.out (by omega) (by omega) (by have:=fQ.out; have:=eW.out; omega));have yd:=ZG (aJ.out.drop o) 4;rw[show(256:Nat) ^ 4=4294967296 from rfl] at yd;obtain⟨o4,dj⟩: ∃ q,o+4=q:=⟨_,rfl⟩;have um:(o:Int)+4=(o4:Int):=by omega
     have Bx:IntKind.i64.wrap (o4:Int)=(o4:Int):=by rw[IntKind.wrap_i64]; omega
     have jc:=Zg (fun W=>ZQ bs o4 4 W aJ.out (by omega) (by omega) (by have:=fQ.out; have:=eW.out; omega));have s7:=ZG (aJ.out.drop o4) 4;rw[show(256:Nat) ^ 4=4294967296 from rfl] at s7;obtain⟨dh,dR⟩: ∃ q,o+12=q:=⟨_,rfl⟩;have n6:(o:Int)+12=(dh:Int):=by omega
     have uo:IntKind.i64.wrap (dh:Int)=(dh:Int):=by rw[IntKind.wrap_i64]; omega
     have gI:=Zg (fun W=>ZQ bs dh 4 W aJ.out (by omega) (by omega) (by have:=fQ.out; have:=eW.out; omega));have pk:=ZG (aJ.out.drop dh) 4;rw[show(256:Nat) ^ 4=4294967296 from rfl] at pk;obtain⟨cg,cq⟩: ∃ q,o+16=q:=⟨_,rfl⟩;have kx:(o:Int)+16=(cg:Int):=by omega
     have rq:IntKind.i64.wrap (cg:Int)=(cg:Int):=by rw[IntKind.wrap_i64]; omega
     have dA:=Zg (fun W=>ZQ bs cg 4 W aJ.out (by omega) (by omega) (by have:=fQ.out; have:=eW.out; omega));have pn:=ZG (aJ.out.drop cg) 4;rw[show(256:Nat) ^ 4=4294967296 from rfl] at pn;have hX:Zda bs (ZT bs o)=Zda bs ⟨Yg (bs.drop o) 4,Yg (bs.drop dh) 4,Yg (bs.drop cg) 4,Yg (bs.drop o4) 4,false,0,0⟩:=by rw[<-dR,<-cq,<-dj]; rfl
     rw[hX] at aa;obtain⟨u0,kB⟩: ∃ v,Yg (bs.drop o) 4=v:=⟨_,rfl⟩;rw[kB] at iS aa yd;obtain⟨u4,kC⟩: ∃ v,Yg (bs.drop o4) 4=v:=⟨_,rfl⟩;rw[kC] at jc aa s7;obtain⟨u12,kD⟩: ∃ v,Yg (bs.drop dh) 4=v:=⟨_,rfl⟩;rw[kD] at gI aa pk;obtain⟨u16,kF⟩: ∃ v,Yg (bs.drop cg) 4=v:=⟨_,rfl⟩;rw[kF] at dA aa pn;clear hX kB kC kD kF dj dR cq;unfold Zda at aa;have bk:=Zg aa;have bW:=Zg (fun W=>Xr bs u12 40 W aJ.out (by omega));have s8:=Zg (fun W=>Qd bs u0 u16 W hlen aJ.out (by omega) (by omega));clear aa;go_wp2_with fail
     refine(iS.out _).mono ?_;rintro e w' ⟨rfl,rfl⟩;go_wp2_with fail
     refine(jc.out _).mono ?_;rintro e w' ⟨rfl,rfl⟩;go_wp2_with fail
     refine(gI.out _).mono ?_;rintro e w' ⟨rfl,rfl⟩;go_wp2_with fail
     refine(dA.out _).mono ?_;rintro e w' ⟨rfl,rfl⟩;go_wp2_with fail
     refine(bW.out _).mono ?_;rintro e w' ⟨rfl,rfl⟩;rcases htx:YO bs u12 40 with _|t
     ·have aa:=bk.out;simp only[htx] at aa;subst aa;clear bW htx bk;go_wp2_with fail
      go_ret2;exact⟨rfl,aj.out⟩
     ·have aE:=YC aJ.out htx;have fq:=Zg (fun W=>Ve t W aE.1 (by have:=aE.2; omega));have aa:=bk.out;simp only[htx] at aa;clear bW htx bk aE;by_cases ba:Un t=true
      ·rw[if_pos ba] at aa;rw[ba] at fq;clear ba;rw[if_neg (fun h=>by simp at h)] at aa;have ar:=Zg aa;clear aa;go_wp2_with fail
       refine(fq.out _).mono ?_;rintro e w' ⟨rfl,rfl⟩;go_wp2_with fail
       refine(s8.out _).mono ?_;rintro e w4 ⟨hq,n8⟩;have bV:=Zg (bQ.out.below n8);have bH:=Zg (aj.out.trans (n8.mono aj.out.size));have jd:=Zg ((n8.block _ (Zi gZ.out)).trans gZ.out);have mh:=Zg (show ∀ y∈l,SlT YX 3 w4 y.A y.v.syms from fun y hy=>(pj.out y hy).below n8);have Dc:=Zg n8.size;clear n8;have aa:=ar.out;unfold Zdi at aa;simp only at aa;rcases jM:WM bs (if u0=0 then u16 else u0) u16 66 [] with _|vs
       ·rw[jM] at hq aa;simp only[Zbd] at hq aa;subst hq;subst aa;clear jM ar;go_wp2_with fail
        go_ret2;exact⟨rfl,bH.out⟩
       ·rw[jM] at hq aa;simp only[Zbd] at hq aa;obtain⟨A3,c3,rfl,aS⟩:=hq;have bS:=Zg aa;have d':SlT YX 3 w4 A3 vs:=ZJ.sl Xv aS;have bJ: ∀ b,A3.map (·.block)=some b->w2.heap.size<=b:=fun b hb=>(aS.lt b (by cases A3 with
         | none=>simp at hb
         | some y=>simpa [Value.ownBlock] using hb)).1
        have bY:=Zg d';have aN:=Zg bJ;have mi:=Zg (show ∀ y∈l++[(⟨⟨t,u16,u4,0,vs⟩,A3,c3⟩:WN)],∀ b,y.A.map (·.block)=some b->w.heap.size<=b from fun y hy b hb=>by
         rcases List.mem_append.mp hy with h|h
         ·exact pg.out y h b hb
         ·simp at h;subst h;exact Nat.le_trans aj.out.size (bJ b hb))
        have cM:=Zg (show ∀ k',(Value.slice A' k c').ownBlock=some k'->k'<w2.heap.size from fun k' hk=>(bQ.out.lt k' hk).2);clear jM ar aa aS d' bJ;have aK:=Zg (bV.out.alloc (.cells #[.string (txt t),.int .i64 u16,.int .i64 u4,.int .i64 0,.slice A3 vs.length c3] 78));have cK:=Zg (show ∀ j u,(YS ⟨⟨t,u16,u4,0,vs⟩,A3,c3⟩)[j]? =some u->(w4.alloc (.cells #[.string (txt t),.int .i64 u16,.int .i64 u4,.int .i64 0,.slice A3 vs.length c3] 78)).cell? ⟨w4.heap.size,j,none⟩=some u from Jh ⟨⟨t,u16,u4,0,vs⟩,A3,c3⟩ w4);have aV:=Zg (bH.out.alloc bH.out.size (.cells #[.string (txt t),.int .i64 u16,.int .i64 u4,.int .i64 0,.slice A3 vs.length c3] 78));have je:=Zg (show(w4.alloc (.cells #[.string (txt t),.int .i64 u16,.int .i64 u4,.int .i64 0,.slice A3 vs.length c3] 78)).heap[w.heap.size]? =_ from(Below.heap_alloc _ _ _ (Zi jd.out)).trans jd.out);have fZ:=Zg (show ∀ y∈l++[(⟨⟨t,u16,u4,0,vs⟩,A3,c3⟩:WN)],SlT YX 3 (w4.alloc (.cells #[.string (txt t),.int .i64 u16,.int .i64 u4,.int .i64 0,.slice A3 vs.length c3] 78)) y.A y.v.syms from fun y hy=>by
         have iT:Below w4.heap.size w4 (w4.alloc (.cells #[.string (txt t),.int .i64 u16,.int .i64 u4,.int .i64 0,.slice A3 vs.length c3] 78)):=(Below.refl _ _).alloc (Nat.le_refl _) _;rcases List.mem_append.mp hy with h|h
         ·exact(mh.out y h).below iT
         ·simp at h; subst h; exact bY.out.below iT)
        have fz:=Zg (show ∀ y∈l++[(⟨⟨t,u16,u4,0,vs⟩,A3,c3⟩:WN)],y.v.syms.length≠0-> ∀ b,y.A.map (·.block)=some b->(Value.slice A' k c').ownBlock≠some b from fun y hy bK b hb=>by
         rcases List.mem_append.mp hy with h|h
         ·exact jO.out y h bK b hb
         ·simp at h;subst h;intro hk;have h1:=aN.out b hb;have h2:=cM.out b hk;omega)
        rw[<-HL.out] at aK nZ hn ⊢;have cj:=Zg (show w.heap.size+1<=(w4.alloc (.cells #[.string (txt t),.int .i64 u16,.int .i64 u4,.int .i64 0,.slice A3 vs.length c3] 78)).heap.size from Zi je.out);have dH:=Zg (show l.length+1<=maxLen from by unfold maxLen; omega);have dX:=Zg (show(l.length+1) * 64<=140737488355328 from by omega);go_wp2_with (first
         | (at_builtin; refine Zq rfl (.tmp 127) (.tmp 134) 46 rfl (w.heap.size+1) 78 _ 64 rfl Zai rfl (by omega) Vb Jg _ l rfl aK.out w4.heap.size 1 rfl ⟨⟨t,u16,u4,0,vs⟩,A3,c3⟩ cK.out dH.out dX.out cj.out ?_; intro g5 aG w8 ag aI aD
            have hG:=Zg (show(Value.slice A' l.length c').ownBlock=some g5\/g5=(w4.alloc (.cells #[.string (txt t),.int .i64 u16,.int .i64 u4,.int .i64 0,.slice A3 vs.length c3] 78)).heap.size from aD);have cH:=Zg (show(w4.alloc (.cells #[.string (txt t),.int .i64 u16,.int .i64 u4,.int .i64 0,.slice A3 vs.length c3] 78)).grownBy w8 (Value.slice A' l.length c').ownBlock from aI);have jf:=Zg ag;clear aD aI ag)
         | fail)
        have ay:=Zg (aK.out.grew aV.out (by omega) aV.out.size cH.out);have mj:=Zg ((cH.out.block w.heap.size (Zi je.out) (fun h=>by have:=(aK.out.lt _ h.symm).1; omega)).trans je.out);rw[<-HL.out] at fz;have ml:=Zg (show ∀ y∈l++[(⟨⟨t,u16,u4,0,vs⟩,A3,c3⟩:WN)],SlT YX 3 w8 y.A y.v.syms from fun y hy=>by
         rcases fZ.out y hy with h0|⟨b,off,hA,af,hc⟩
         ·exact .inl h0
         ·by_cases h0:y.v.syms=[]
          ·exact .inl h0
          ·refine SlT.keep (.inr ⟨b,off,hA,af,hc⟩) cH.out.size fun b' dD=> ?_;have eM:b=b':=by rw[hA] at dD; simpa using dD
           exact cH.out.block b' (by omega) (fun e=>fz.out y hy (fun q=>h0 (List.eq_nil_of_length_eq_zero q)) b' dD e.symm))
        have mm:=Zg (show ∀ y∈l++[(⟨⟨t,u16,u4,0,vs⟩,A3,c3⟩:WN)],y.v.syms.length≠0-> ∀ b,y.A.map (·.block)=some b->(Value.slice (some ⟨g5,0,none⟩) (l.length+1) aG).ownBlock≠some b from fun y hy bK b hb hk=>by
         have kg:g5=b:=by simpa [Value.ownBlock] using hk
         rcases hG.out with h|h
         ·exact fz.out y hy bK b hb (by rw[h,kg])
         ·rcases fZ.out y hy with h0|⟨b',off,hA,af,hc⟩
          ·exact bK (by rw[h0]; rfl)
          ·have eM:b'=b:=by rw[hA] at hb; simpa using hb
           omega)
        go_roundw
        case rel=>exact⟨l.length+1,n,l++[⟨⟨t,u16,u4,0,vs⟩,A3,c3⟩],some ⟨g5,0,none⟩,aG,by omega,by simp,by omega,rfl,rfl,by simpa using jf.out,ml.out,mm.out,mi.out,Nat.le_trans cj.out cH.out.size,ay.out,mj.out,by rw[List.map_append,HL.out,<-dN.out]; exact bS.out⟩
        case measure =>
         have:=HL.out;simp[intOf];omega
      ·rw[if_neg ba] at aa;rw[Bool.eq_false_iff.2 ba] at fq;simp only at aa;subst aa;clear ba;go_wp2_with fail
       refine(fq.out _).mono ?_;rintro e w' ⟨rfl,rfl⟩;go_wp2_with fail
       go_ret2;exact⟨rfl,aj.out⟩
   ·rw[if_pos rfl] at aa;subst aa;go_wp2_with fail
    go_ret2;exact⟨⟨A',c',l,by rw[HL.out]; rfl,⟨by rw[HL.out]; exact Joins.ownsRow_le bQ.out (by omega),fun y hy=>⟨pj.out y hy,pg.out y hy⟩⟩,rfl⟩,aj.out⟩
  ·have aU:decide (o+20<=bs.length)=false:=decide_eq_false c1;rw[aU] at ax;rw[YZ c1,if_neg (by simp),if_neg (fun h=>c1 h.1)] at aa;subst aa;clear c1 aU;go_wp2_with fail
   refine(ax.out _).mono ?_;rintro e w' ⟨rfl,rfl⟩;go_wp2_with fail
   go_ret2;exact⟨rfl,HB.out⟩
theorem Zdc (bs:List Nat) (rva:Nat) (sz:Int) (w:World) (hb:Lb bs) (hlen:bs.length<=1000000) (mq:rva<4294967296) :
 Calls Tryz.prog 39 #[.string (txt bs),.agg #[.int .i64 rva,.int .i64 sz],.bool true] w fun e w'=>ImpQ w w' (ZU bs rva 32 Yl) e/\Below w.heap.size w w':=by
 obtain⟨R,hR⟩: ∃ R,ZU bs rva 32 Yl=R:=⟨_,rfl⟩;rw[hR];unfold ZU at hR;have aT:(txt bs).size=bs.length:=Zk bs;have aJ:=Zg hb;have sZ:=Zg (show ∀ W:World,(Instr.makeSlice 25 (.int .i64 32) (.int .i64 32)).run Tryz.prog W= .ok (.slice (some ⟨W.heap.size,0,none⟩) 32 32) (W.alloc (.cells (madeCells #[.int .u8 0] 32) 5)) from fun W=>run_make_row' (P:=Tryz.prog) 25 5 (.int .u8 0) 1 Tryz.underlying25 Ws rfl .i64 .i64 32 (by omega) (by omega) W);obtain⟨w1,ao⟩: ∃ w1,w.alloc (.cells #[.int .i64 rva,.int .i64 sz] 37)=w1:=⟨_,rfl⟩;have cu:=Zg ao;have av:=Zg (show Below w.heap.size w w1 from by rw[<-ao]; exact(Below.refl _ _).alloc (Nat.le_refl _) _);have dw:=Zg (show w1.heap[w.heap.size]? =some (.cells #[.int .i64 rva,.int .i64 sz] 37 (0,0)) from by rw[<-ao]; exact heap_alloc_new w _);have eK:=Zg (show w1.heap.size=w.heap.size+1 from by rw[<-ao]; simp);clear ao hb;have q0:w1.cell? ⟨w.heap.size,0,none⟩=some (.int .i64 rva):=by rw[Zh dw.out]; rfl
 go_enter Tryz.func39,Tryz.ntmps39;go_upto_region 1 with(fail)
 refine(congrArg _ cu.out).mpr ?_;by_cases c0:rva=0
 ·rw[if_pos c0] at hR;subst hR;have d0:((rva:Int) == 0)=true:=by rw[beq_iff_eq]; omega
  clear c0;go_wp2_with fail
  go_ret2;exact⟨⟨none,0,[],rfl,⟨ZJ.nil _ _ _,fun y hy=>by simp at hy⟩,rfl⟩,av.out⟩
 rw[if_neg c0] at hR;have d0:((rva:Int) == 0)=false:=beq_eq_false_iff_ne.mpr (by omega);have HR:=Zg hR;clear hR c0;go_wp2_with fail
 clear q0;go_loopw [9,10] (fun v9 v10 wr=> ∃(k n:Nat) (l:List WN) (A':Option Addr) (c':Nat),k+n=18/\l.length=k/\k<=16/\v9= .slice A' k c'/\v10= .int .i64 k/\ZJ YS 5 wr (w.heap.size+1) 78 (.slice A' k c') l/\(∀ y∈l,SlT YX 3 wr y.A y.v.syms)/\(∀ y∈l,y.v.syms.length≠0-> ∀ b,y.A.map (·.block)=some b->(Value.slice A' k c').ownBlock≠some b)/\(∀ y∈l,∀ b,y.A.map (·.block)=some b->w.heap.size<=b)/\w.heap.size+1<=wr.heap.size/\Below w.heap.size w wr/\wr.heap[w.heap.size]? =some (.cells #[.int .i64 rva,.int .i64 sz] 37 (0,0))/\WE bs 32 Yl n (rva+32 * k) (l.map (·.v))=R) (fun _ v10 _=>18 - (intOf v10).toNat)
 case atStart=>exact⟨0,18,[],none,0,rfl,rfl,by omega,rfl,rfl,ZJ.nil _ _ _,fun y hy=>by simp at hy,fun y hy=>by simp at hy,fun y hy=>by simp at hy,by have h1:=eK.out; omega,av.out,dw.out,HR.out⟩
 case round =>
  obtain⟨k,n,l,A',c',hn,hl,gJ,rfl,rfl,ae,dE,lN,oL,fk,aq,nj,ie⟩:=hrel;have pg:=Zg oL;have eL:=Zg fk;have HO:=Zg ae;have df:=Zg dE;have jO:=Zg lN;have HB:=Zg aq;have HX:=Zg nj;have HL:=Zg hl;clear oL fk ae dE lN aq nj HR;obtain⟨n,rfl⟩: ∃ q,n=q+1:=⟨n - 1,by omega⟩;have aa:=ie;simp only[WE] at aa;rw[List.length_map,hl] at aa;obtain⟨m8,gU⟩: ∃ q,32 * k=q:=⟨_,rfl⟩;obtain⟨o,ho⟩: ∃ q,rva+m8=q:=⟨_,rfl⟩;have dN:=Zg (show o+32=rva+32 * (k+1) from by omega);rw[gU,ho] at aa;have em:(32:Int) * (k:Int)=(m8:Int):=by omega
  have wm:IntKind.i64.wrap (m8:Int)=(m8:Int):=by rw[IntKind.wrap_i64]; omega
  have eo:(rva:Int)+(m8:Int)=(o:Int):=by omega
  have wo:IntKind.i64.wrap (o:Int)=(o:Int):=by rw[IntKind.wrap_i64]; omega
  have ax:=Zg (fun W=>QT bs.length o 32 W (by omega));have e0:wr.cell? ⟨w.heap.size,0,none⟩=some (.int .i64 rva):=by rw[Zh HX.out]; rfl
  clear gU ho hl ie;by_cases c1:o+32<=bs.length
  ·have oH:=Zg (Jk aJ.out c1);have aU:decide (o+32<=bs.length)=true:=decide_eq_true c1;rw[aU] at ax;obtain⟨o8,fe⟩: ∃ q,o+32=q:=⟨_,rfl⟩;rw[fe] at oH dN aa;have Bw:(o:Int)+32=(o8:Int):=by omega
   have Da:IntKind.i64.wrap (o8:Int)=(o8:Int):=by rw[IntKind.wrap_i64]; omega
   have x0:(0:Int)<=(o:Int):=by omega
   have x1:(o:Int)<=(o8:Int):=by omega
   have x2:(o8:Int)<=(bs.length:Int):=by omega
   have x3:(o8:Int).toNat=o8:=Int.toNat_natCast _;have x4:(o:Int).toNat=o:=Int.toNat_natCast _;have fQ:=Zg fe;have eW:=Zg (show o8<=bs.length from by omega);have ph:=Zg aa;clear fe c1 aU aa;go_wp2_with fail
   refine(ax.out _).mono ?_;rintro e w' ⟨rfl,rfl⟩;go_upto_region 12 with(fail)
   clear e0;have HS:=Zg (show Below wr.heap.size wr wr.drew from(Below.refl _ _).drew);refine wp_region_noPanic ?_;refine Zt (fun W=>Below wr.heap.size wr W) (fun _=>True) 99 (by kernel_rfl) ?_;refine wU (i:=0) HS.out ?_;refine wU (i:=1) HS.out ?_;refine wU (i:=2) HS.out ?_;refine wU (i:=3) HS.out ?_;refine wU (i:=4) HS.out ?_;refine wU (i:=5) HS.out ?_;refine wU (i:=6) HS.out ?_;have rn:=sZ.out wr.drew;refine wO (i:=7) (fun K hK=> ?_);go_simp;clear rn;have aF:=Zg (show Below wr.heap.size wr (wr.drew.alloc (.cells (madeCells #[.int .u8 0] 32) 5)) from HS.out.alloc (Nat.le_refl _) _);refine hK.out _ _ aF.out (fun _=>trivial) ?_;clear hK K;try simp only[Act.put,Zd,Ze,Zf]
   have dI:(convert 25 9 (.slice (some ⟨wr.heap.size,0,none⟩) 32 32)).run Tryz.prog (wr.drew.alloc (.cells (madeCells #[.int .u8 0] 32) 5))= .ok (.string (ZB (fun _=>0) 0 32)) (wr.drew.alloc (.cells (madeCells #[.int .u8 0] 32) 5)):=Uh wr.drew 32;obtain⟨w2,aR⟩: ∃ q,wr.drew.alloc (.cells (madeCells #[.int .u8 0] 32) 5)=q:=⟨_,rfl⟩;rw[aR] at dI aF;have eS:=Zg aR;clear aR;refine(congrArg _ eS.out).mpr ?_;refine wO (i:=8) (fun K hK=> ?_);go_simp;clear dI;refine hK.out _ _ aF.out (fun _=>trivial) ?_;clear hK K;try simp only[Act.put,Zd,Ze,Zf]
   have s5:=oH.out;have aa:=ph.out;obtain⟨NO,nk⟩: ∃ q,Yn bs o 32=q:=⟨_,rfl⟩;rw[nk] at s5 aa;generalize ZB (fun _=>0) 0 32=Z at *;refine wU (i:=9) aF.out ?_;refine Zo (by kernel_rfl) ?_ _;refine NoPanic.normal ?_;clear s5 nk eS x0 x1 x2 x3 x4;have aC:=aF.out;have bQ:=Zg (HO.out.below aC);have aj:=Zg (HB.out.trans (aC.mono HB.out.size));have gZ:=Zg ((aC.block _ (Zi HX.out)).trans HX.out);have pj:=Zg (show ∀ y∈l,SlT YX 3 w2 y.A y.v.syms from fun y hy=>(df.out y hy).below aC);have Db:=Zg aC.size;clear aC;rcases NO with _|_
   ·rw[if_neg (by simp)] at aa;by_cases c2:k=16
    ·rw[if_neg (fun h=>h.2 c2)] at aa;subst aa;have d2:(16:Int)<=(k:Int):=by omega
     clear c2;go_wp2_with fail
     go_ret2;exact⟨rfl,aj.out⟩
    ·rw[if_pos ⟨by have:=fQ.out; have:=eW.out; omega,c2⟩] at aa;have d2: ¬ (16:Int)<=(k:Int):=by omega
     have nZ:k<16:=by omega
     clear c2;have iS:=Zg (fun W=>ZQ bs o 4 W aJ.out (by omega) (by omega) (by have:=fQ.out; have:=eW.out; omega));have yd:=ZG (aJ.out.drop o) 4;rw[show(256:Nat) ^ 4=4294967296 from rfl] at yd;obtain⟨o4,dj⟩: ∃ q,o+4=q:=⟨_,rfl⟩;have um:(o:Int)+4=(o4:Int):=by omega
     have Bx:IntKind.i64.wrap (o4:Int)=(o4:Int):=by rw[IntKind.wrap_i64]; omega
     have jc:=Zg (fun W=>ZQ bs o4 4 W aJ.out (by omega) (by omega) (by have:=fQ.out; have:=eW.out; omega));have s7:=ZG (aJ.out.drop o4) 4;rw[show(256:Nat) ^ 4=4294967296 from rfl] at s7;obtain⟨p8,fe⟩: ∃ q,o+8=q:=⟨_,rfl⟩;have OQ:(o:Int)+8=(p8:Int):=by omega
     have OR:IntKind.i64.wrap (p8:Int)=(p8:Int):=by rw[IntKind.wrap_i64]; omega
     have ye:=Zg (fun W=>ZQ bs p8 4 W aJ.out (by omega) (by omega) (by have:=fQ.out; have:=eW.out; omega));have GB:=ZG (aJ.out.drop p8) 4;rw[show(256:Nat) ^ 4=4294967296 from rfl] at GB;obtain⟨dh,dR⟩: ∃ q,o+12=q:=⟨_,rfl⟩;have n6:(o:Int)+12=(dh:Int):=by omega
     have uo:IntKind.i64.wrap (dh:Int)=(dh:Int):=by rw[IntKind.wrap_i64]; omega
     have gI:=Zg (fun W=>ZQ bs dh 4 W aJ.out (by omega) (by omega) (by have:=fQ.out; have:=eW.out; omega));have pk:=ZG (aJ.out.drop dh) 4;rw[show(256:Nat) ^ 4=4294967296 from rfl] at pk;obtain⟨cg,cq⟩: ∃ q,o+16=q:=⟨_,rfl⟩;have kx:(o:Int)+16=(cg:Int):=by omega
     have rq:IntKind.i64.wrap (cg:Int)=(cg:Int):=by rw[IntKind.wrap_i64]; omega
     have dA:=Zg (fun W=>ZQ bs cg 4 W aJ.out (by omega) (by omega) (by have:=fQ.out; have:=eW.out; omega));have pn:=ZG (aJ.out.drop cg) 4;rw[show(256:Nat) ^ 4=4294967296 from rfl] at pn;obtain⟨eG,eY⟩: ∃ q,o+28=q:=⟨_,rfl⟩;have ru:(o:Int)+28=(eG:Int):=by omega
     have yf:IntKind.i64.wrap (eG:Int)=(eG:Int):=by rw[IntKind.wrap_i64]; omega
     have fB:=Zg (fun W=>ZQ bs eG 4 W aJ.out (by omega) (by omega) (by have:=fQ.out; have:=eW.out; omega));have yg:=ZG (aJ.out.drop eG) 4;rw[show(256:Nat) ^ 4=4294967296 from rfl] at yg;have hX:Zda bs (Yl bs o)=Zda bs ⟨Yg (bs.drop cg) 4,Yg (bs.drop o4) 4,Yg (bs.drop dh) 4,Yg (bs.drop eG) 4,true,Yg (bs.drop o) 4,Yg (bs.drop p8) 4⟩:=by rw[<-cq,<-dj,<-dR,<-eY,<-fe]; rfl
     rw[hX] at aa;obtain⟨u0,kB⟩: ∃ v,Yg (bs.drop o) 4=v:=⟨_,rfl⟩;rw[kB] at iS aa yd;obtain⟨u4,kC⟩: ∃ v,Yg (bs.drop o4) 4=v:=⟨_,rfl⟩;rw[kC] at jc aa s7;obtain⟨u8,yi⟩: ∃ v,Yg (bs.drop p8) 4=v:=⟨_,rfl⟩;rw[yi] at ye aa GB;obtain⟨u12,kD⟩: ∃ v,Yg (bs.drop dh) 4=v:=⟨_,rfl⟩;rw[kD] at gI aa pk;obtain⟨u16,kF⟩: ∃ v,Yg (bs.drop cg) 4=v:=⟨_,rfl⟩;rw[kF] at dA aa pn;obtain⟨u28,ta⟩: ∃ v,Yg (bs.drop eG) 4=v:=⟨_,rfl⟩;rw[ta] at fB aa yg;clear hX kB kC yi kD kF ta dj fe dR cq eY;unfold Zda at aa;have bk:=Zg aa;have bW:=Zg (fun W=>Xr bs u4 40 W aJ.out (by omega));have s8:=Zg (fun W=>Qd bs u16 u12 W hlen aJ.out (by omega) (by omega));clear aa;go_wp2_with fail
     refine(iS.out _).mono ?_;rintro e w' ⟨rfl,rfl⟩;go_wp2_with fail
     refine(jc.out _).mono ?_;rintro e w' ⟨rfl,rfl⟩;go_wp2_with fail
     refine(gI.out _).mono ?_;rintro e w' ⟨rfl,rfl⟩;go_wp2_with fail
     refine(dA.out _).mono ?_;rintro e w' ⟨rfl,rfl⟩;go_wp2_with fail
     refine(jc.out _).mono ?_;rintro e w' ⟨rfl,rfl⟩;go_wp2_with fail
     refine(ye.out _).mono ?_;rintro e w' ⟨rfl,rfl⟩;go_wp2_with fail
     refine(gI.out _).mono ?_;rintro e w' ⟨rfl,rfl⟩;go_wp2_with fail
     refine(dA.out _).mono ?_;rintro e w' ⟨rfl,rfl⟩;go_wp2_with fail
     refine(fB.out _).mono ?_;rintro e w' ⟨rfl,rfl⟩;go_wp2_with fail
     refine(bW.out _).mono ?_;rintro e w' ⟨rfl,rfl⟩;rcases htx:YO bs u4 40 with _|t
     ·have aa:=bk.out;simp only[htx] at aa;subst aa;clear bW htx bk;go_wp2_with fail
      go_ret2;exact⟨rfl,aj.out⟩
     ·have aE:=YC aJ.out htx;have fq:=Zg (fun W=>Ve t W aE.1 (by have:=aE.2; omega));have aa:=bk.out;simp only[htx] at aa;clear bW htx bk aE;by_cases ba:Un t=true
      ·rw[if_pos ba] at aa;rw[ba] at fq;clear ba;by_cases ca:u0=1
       ·by_cases ch:u8+8<=bs.length
        ·rw[if_neg (fun h=>h.2.elim (fun q=>q ca) (fun q=>q ch))] at aa;have po:=Zg (fun W=>QT bs.length u8 8 W (by omega));rw[decide_eq_true ch] at po;have da:((u0:Int) != 1)=false:=by rw[bne_eq_false_iff_eq]; omega
         clear ca ch;have ar:=Zg aa;clear aa;go_wp2_with fail
         refine(fq.out _).mono ?_;rintro e w' ⟨rfl,rfl⟩;go_wp2_with fail
         refine(iS.out _).mono ?_;rintro e w' ⟨rfl,rfl⟩;go_wp2_with fail
         refine(po.out _).mono ?_;rintro e w' ⟨rfl,rfl⟩;go_wp2_with fail
         refine(s8.out _).mono ?_;rintro e w4 ⟨hq,n8⟩;have bV:=Zg (bQ.out.below n8);have bH:=Zg (aj.out.trans (n8.mono aj.out.size));have jd:=Zg ((n8.block _ (Zi gZ.out)).trans gZ.out);have mh:=Zg (show ∀ y∈l,SlT YX 3 w4 y.A y.v.syms from fun y hy=>(pj.out y hy).below n8);have Dc:=Zg n8.size;clear n8;have aa:=ar.out;unfold Zdi at aa;simp only at aa;rcases jM:WM bs (if u16=0 then u12 else u16) u12 66 [] with _|vs
         ·rw[jM] at hq aa;simp only[Zbd] at hq aa;subst hq;subst aa;clear jM ar;go_wp2_with fail
          go_ret2;exact⟨rfl,bH.out⟩
         ·rw[jM] at hq aa;simp only[Zbd] at hq aa;obtain⟨A3,c3,rfl,aS⟩:=hq;have bS:=Zg aa;have d':SlT YX 3 w4 A3 vs:=ZJ.sl Xv aS;have bJ: ∀ b,A3.map (·.block)=some b->w2.heap.size<=b:=fun b hb=>(aS.lt b (by cases A3 with
           | none=>simp at hb
           | some y=>simpa [Value.ownBlock] using hb)).1
          have bY:=Zg d';have aN:=Zg bJ;have mi:=Zg (show ∀ y∈l++[(⟨⟨t,u12,u28,u8,vs⟩,A3,c3⟩:WN)],∀ b,y.A.map (·.block)=some b->w.heap.size<=b from fun y hy b hb=>by
           rcases List.mem_append.mp hy with h|h
           ·exact pg.out y h b hb
           ·simp at h;subst h;exact Nat.le_trans aj.out.size (bJ b hb))
          have cM:=Zg (show ∀ k',(Value.slice A' k c').ownBlock=some k'->k'<w2.heap.size from fun k' hk=>(bQ.out.lt k' hk).2);clear jM ar aa aS d' bJ;have aK:=Zg (bV.out.alloc (.cells #[.string (txt t),.int .i64 u12,.int .i64 u28,.int .i64 u8,.slice A3 vs.length c3] 78));have cK:=Zg (show ∀ j u,(YS ⟨⟨t,u12,u28,u8,vs⟩,A3,c3⟩)[j]? =some u->(w4.alloc (.cells #[.string (txt t),.int .i64 u12,.int .i64 u28,.int .i64 u8,.slice A3 vs.length c3] 78)).cell? ⟨w4.heap.size,j,none⟩=some u from Jh ⟨⟨t,u12,u28,u8,vs⟩,A3,c3⟩ w4);have aV:=Zg (bH.out.alloc bH.out.size (.cells #[.string (txt t),.int .i64 u12,.int .i64 u28,.int .i64 u8,.slice A3 vs.length c3] 78));have je:=Zg (show(w4.alloc (.cells #[.string (txt t),.int .i64 u12,.int .i64 u28,.int .i64 u8,.slice A3 vs.length c3] 78)).heap[w.heap.size]? =_ from(Below.heap_alloc _ _ _ (Zi jd.out)).trans jd.out);have fZ:=Zg (show ∀ y∈l++[(⟨⟨t,u12,u28,u8,vs⟩,A3,c3⟩:WN)],SlT YX 3 (w4.alloc (.cells #[.string (txt t),.int .i64 u12,.int .i64 u28,.int .i64 u8,.slice A3 vs.length c3] 78)) y.A y.v.syms from fun y hy=>by
           have iT:Below w4.heap.size w4 (w4.alloc (.cells #[.string (txt t),.int .i64 u12,.int .i64 u28,.int .i64 u8,.slice A3 vs.length c3] 78)):=(Below.refl _ _).alloc (Nat.le_refl _) _;rcases List.mem_append.mp hy with h|h
           ·exact(mh.out y h).below iT
           ·simp at h; subst h; exact bY.out.below iT)
          have fz:=Zg (show ∀ y∈l++[(⟨⟨t,u12,u28,u8,vs⟩,A3,c3⟩:WN)],y.v.syms.length≠0-> ∀ b,y.A.map (·.block)=some b->(Value.slice A' k c').ownBlock≠some b from fun y hy bK b hb=>by
           rcases List.mem_append.mp hy with h|h
           ·exact jO.out y h bK b hb
           ·simp at h;subst h;intro hk;have h1:=aN.out b hb;have h2:=cM.out b hk;omega)
          rw[<-HL.out] at aK nZ hn ⊢;have cj:=Zg (show w.heap.size+1<=(w4.alloc (.cells #[.string (txt t),.int .i64 u12,.int .i64 u28,.int .i64 u8,.slice A3 vs.length c3] 78)).heap.size from Zi je.out);have dH:=Zg (show l.length+1<=maxLen from by unfold maxLen; omega);have dX:=Zg (show(l.length+1) * 64<=140737488355328 from by omega);go_wp2_with (first
           | (at_builtin; refine Zq rfl (.tmp 127) (.tmp 134) 46 rfl (w.heap.size+1) 78 _ 64 rfl Zai rfl (by omega) Vb Jg _ l rfl aK.out w4.heap.size 1 rfl ⟨⟨t,u12,u28,u8,vs⟩,A3,c3⟩ cK.out dH.out dX.out cj.out ?_; intro g5 aG w8 ag aI aD
              have hG:=Zg (show(Value.slice A' l.length c').ownBlock=some g5\/g5=(w4.alloc (.cells #[.string (txt t),.int .i64 u12,.int .i64 u28,.int .i64 u8,.slice A3 vs.length c3] 78)).heap.size from aD);have cH:=Zg (show(w4.alloc (.cells #[.string (txt t),.int .i64 u12,.int .i64 u28,.int .i64 u8,.slice A3 vs.length c3] 78)).grownBy w8 (Value.slice A' l.length c').ownBlock from aI);have jf:=Zg ag;clear aD aI ag)
           | fail)
          have ay:=Zg (aK.out.grew aV.out (by omega) aV.out.size cH.out);have mj:=Zg ((cH.out.block w.heap.size (Zi je.out) (fun h=>by have:=(aK.out.lt _ h.symm).1; omega)).trans je.out);rw[<-HL.out] at fz;have ml:=Zg (show ∀ y∈l++[(⟨⟨t,u12,u28,u8,vs⟩,A3,c3⟩:WN)],SlT YX 3 w8 y.A y.v.syms from fun y hy=>by
           rcases fZ.out y hy with h0|⟨b,off,hA,af,hc⟩
           ·exact .inl h0
           ·by_cases h0:y.v.syms=[]
            ·exact .inl h0
            ·refine SlT.keep (.inr ⟨b,off,hA,af,hc⟩) cH.out.size fun b' dD=> ?_;have eM:b=b':=by rw[hA] at dD; simpa using dD
             exact cH.out.block b' (by omega) (fun e=>fz.out y hy (fun q=>h0 (List.eq_nil_of_length_eq_zero q)) b' dD e.symm))
          have mm:=Zg (show ∀ y∈l++[(⟨⟨t,u12,u28,u8,vs⟩,A3,c3⟩:WN)],y.v.syms.length≠0-> ∀ b,y.A.map (·.block)=some b->(Value.slice (some ⟨g5,0,none⟩) (l.length+1) aG).ownBlock≠some b from fun y hy bK b hb hk=>by
           have kg:g5=b:=by simpa [Value.ownBlock] using hk
           rcases hG.out with h|h
           ·exact fz.out y hy bK b hb (by rw[h,kg])
           ·rcases fZ.out y hy with h0|⟨b',off,hA,af,hc⟩
            ·exact bK (by rw[h0]; rfl)
            ·have eM:b'=b:=by rw[hA] at hb; simpa using hb
             omega)
          go_roundw
          case rel=>exact⟨l.length+1,n,l++[⟨⟨t,u12,u28,u8,vs⟩,A3,c3⟩],some ⟨g5,0,none⟩,aG,by omega,by simp,by omega,rfl,rfl,by simpa using jf.out,ml.out,mm.out,mi.out,Nat.le_trans cj.out cH.out.size,ay.out,mj.out,by rw[List.map_append,HL.out,<-dN.out]; exact bS.out⟩
          case measure =>
           have:=HL.out;simp[intOf];omega
        ·rw[if_pos ⟨trivial,.inr ch⟩] at aa;have po:=Zg (fun W=>QT bs.length u8 8 W (by omega));rw[decide_eq_false ch] at po;have da:((u0:Int) != 1)=false:=by rw[bne_eq_false_iff_eq]; omega
         simp only at aa;subst aa;clear ca ch;go_wp2_with fail
         refine(fq.out _).mono ?_;rintro e w' ⟨rfl,rfl⟩;go_wp2_with fail
         refine(iS.out _).mono ?_;rintro e w' ⟨rfl,rfl⟩;go_wp2_with fail
         refine(po.out _).mono ?_;rintro e w' ⟨rfl,rfl⟩;go_wp2_with fail
         go_ret2;exact⟨rfl,aj.out⟩
       ·rw[if_pos ⟨trivial,.inl ca⟩] at aa;have da:((u0:Int) != 1)=true:=by rw[bne_iff_ne]; omega
        simp only at aa;subst aa;clear ca;go_wp2_with fail
        refine(fq.out _).mono ?_;rintro e w' ⟨rfl,rfl⟩;go_wp2_with fail
        refine(iS.out _).mono ?_;rintro e w' ⟨rfl,rfl⟩;go_wp2_with fail
        go_ret2;exact⟨rfl,aj.out⟩
      ·rw[if_neg ba] at aa;rw[Bool.eq_false_iff.2 ba] at fq;simp only at aa;subst aa;clear ba;go_wp2_with fail
       refine(fq.out _).mono ?_;rintro e w' ⟨rfl,rfl⟩;go_wp2_with fail
       go_ret2;exact⟨rfl,aj.out⟩
   ·rw[if_pos rfl] at aa;subst aa;go_wp2_with fail
    go_ret2;exact⟨⟨A',c',l,by rw[HL.out]; rfl,⟨by rw[HL.out]; exact Joins.ownsRow_le bQ.out (by omega),fun y hy=>⟨pj.out y hy,pg.out y hy⟩⟩,rfl⟩,aj.out⟩
  ·have aU:decide (o+32<=bs.length)=false:=decide_eq_false c1;rw[aU] at ax;rw[YZ c1,if_neg (by simp),if_neg (fun h=>c1 h.1)] at aa;subst aa;clear c1 aU;go_wp2_with fail
   refine(ax.out _).mono ?_;rintro e w' ⟨rfl,rfl⟩;go_wp2_with fail
   go_ret2;exact⟨rfl,HB.out⟩
theorem SlT.site {w:World} {L:Option Addr} {l:List YQ} (h:SlT Wk 2 w L l) {i:Nat} (hi:i<l.length): ∃ b off,L=some ⟨b,off,none⟩/\b<w.heap.size/\w.cell? ⟨b,off+i * 2,none⟩=some (.int .i64 l[i].1)/\w.cell? ⟨b,off+i * 2+1,none⟩=some (.int .i64 l[i].2):=by
 rcases h with h|⟨b,off,rfl,af,hc⟩
 ·rw[h] at hi; simp at hi
 ·exact⟨b,off,rfl,af,by have:=hc i hi 0 _ (by simp[Wk]; rfl); simpa using this,by have:=hc i hi 1 _ (by simp[Wk]; rfl); rwa [<-Nat.add_assoc] at this⟩
theorem Jl (A:Option Addr) (n cap:Nat) (v k:Int) (w:World) (hn:n<=140737488355328) (v0:0<=v) (k0:0<=k) (k1:k<=1000) (h:v+k<=n) :
 Calls Tryz.prog 116 #[.slice A n cap,.int .u64 v,.int .i64 k] w fun e w'=>e= .returned (.tuple #[.int .i64 v,.bool true])/\w=w':=by
 have ax:=Zg (fun W:World=>ZV A n cap v k true W (by omega) (by omega) (by omega) ⟨fun _=>⟨v0,k0,by omega⟩,fun _=>rfl⟩);have h1: ¬ (n:Int)<v:=by omega
 have w1:IntKind.u64.wrap (n:Int)=n:=by rw[IntKind.wrap_u64]; omega
 have w2:IntKind.i64.wrap v=v:=by rw[IntKind.wrap_i64]; omega
 go_enter Tryz.func116,Tryz.ntmps116;go_wp2_with (go_fit (ax.out _); rintro e u ⟨rfl,rfl⟩)
 go_ret2;exact⟨rfl,rfl⟩
theorem QU (A:Option Addr) (n cap:Nat) (v k:Int) (w:World) (hn:n<=140737488355328) (v0:0<=v) (v1:v<=18446744073709551615) (k0:0<=k) (k1:k<=1000) (h:(n:Int)<v+k) :
 Calls Tryz.prog 116 #[.slice A n cap,.int .u64 v,.int .i64 k] w fun e w'=>e= .returned (.tuple #[.int .i64 0,.bool false])/\w=w':=by
 have w1:IntKind.u64.wrap (n:Int)=n:=by rw[IntKind.wrap_u64]; omega
 by_cases c:(n:Int)<v
 ·go_enter Tryz.func116,Tryz.ntmps116;go_wp2
  go_ret2;exact⟨rfl,rfl⟩
 ·have ax:=Zg (fun W:World=>ZV A n cap v k false W (by omega) (by omega) (by omega) ⟨(fun h=>by cases h),fun h=>by omega⟩);have w2:IntKind.i64.wrap v=v:=by rw[IntKind.wrap_i64]; omega
  go_enter Tryz.func116,Tryz.ntmps116;go_wp2_with (go_fit (ax.out _); rintro e u ⟨rfl,rfl⟩)
  go_ret2;exact⟨rfl,rfl⟩
def lenOf:Value->Nat
 | .slice _ k _=>k
 | _=>0
def WH (x:Int):List Value:=[.int .i64 x]
theorem QV (x:Int):(WH x).length=1:=rfl
theorem Zer (x:Int): ∀ u∈WH x,u.oneCell'=true:=by
 intro u hu;simp[WH] at hu;subst hu; rfl
theorem Zhk:(Tryz.prog.info? 3).map (fun i=>(i.zero,i.size,i.bytes))=some (some (.int .i64 0),1,8):=by kernel_rfl
theorem ZJ.lower {α :Type} {C: α ->List Value} {sz:Nat} {w:World} {base base':Nat} {e:TypeId} {v:Value} {l:List α} (h:ZJ C sz w base e v l) (hb:base'<=base):ZJ C sz w base' e v l:=by
 refine⟨h.1,?_⟩;rcases h.2 with h2|⟨g,cap,cur,h1,aC,rest⟩
 ·exact .inl h2
 ·exact .inr ⟨g,cap,cur,h1,Nat.le_trans hb aC,rest⟩
def ry (base addr:Int) (i:Nat):Nat:=((addr - base+8 * i) % 18446744073709551616).toNat
def Jm (n:Nat) (f:Nat->Int) (base addr:Int):Nat->List Int->Option (List Int)
 | 0,_=>none
 | m+1,l =>
   if n<ry base addr l.length+8 then none else
   if rdF f (ry base addr l.length) 8=0 then some l else
   if(n:Int)<(rdF f (ry base addr l.length) 8 - base) % 18446744073709551616+1\/l.length=8 then none else
   Jm n f base addr m (l++[(rdF f (ry base addr l.length) 8 - base) % 18446744073709551616])
def Qe (n:Nat) (f:Nat->Int) (base addr:Int):Option (List Int):=if addr=0 then some [] else Jm n f base addr 9 []
theorem QW (b off n cap:Nat) (f:Nat->Int) (base addr:Int) (w:World) (h:Wj w b off n cap f) (hn:n<=1000000) (b0:0<=base) (b1:base<=18446744073709551615) (a0:0<=addr) (a1:addr<=18446744073709551615) (R:Option (List Int)) (hR:Qe n f base addr=R) :
 Calls Tryz.prog 117 #[.slice (some ⟨b,off,none⟩) n cap,.int .u64 addr,.int .u64 base] w fun e w' =>
  ((∃ l L c,R=some l/\e= .returned (.tuple #[.slice L l.length c,.bool true])/\ZJ WH 1 w' w.heap.size 3 (.slice L l.length c) l)\/(R=none/\e= .returned (.tuple #[.slice none 0 0,.bool false])))/\Below w.heap.size w w':=by
 have HR:=Zg h;have HN:=Zg (And.intro hn (And.intro (And.intro b0 b1) (And.intro a0 a1)));clear h;by_cases ha:addr=0
 ·subst ha;have HE:=Zg (show some []=R from by rw[<-hR]; unfold Qe; rw[if_pos rfl]);clear hR hn b0 b1 a0 a1;go_enter Tryz.func117,Tryz.ntmps117;go_wp2_with fail
  go_ret2;exact⟨.inl ⟨[],none,0,HE.out.symm,rfl,ZJ.nil _ _ _⟩,Below.refl _ _⟩
 ·have e0:(addr == 0)=false:=by rw[beq_eq_false_iff_ne]; exact ha
  unfold Qe at hR;rw[if_neg ha] at hR;have HE:=Zg hR;clear hR hn b0 b1 a0 a1 ha;go_enter Tryz.func117,Tryz.ntmps117;go_wp2_with fail
  have ft:=Zg (ZJ.made (C:=WH) (sz:=1) w w.heap.size (Nat.le_refl _) 3);have au:=Zg ((Below.refl w.heap.size w).alloc (Nat.le_refl _) (.cells #[] 3));generalize w.alloc (.cells #[] 3)=w1 at ft au ⊢;go_loopw [8] (fun v8 wr=> ∃(l:List Int) (L:Option Addr) (c:Nat),l.length<=8/\v8= .slice L l.length c/\Jm n f base addr (9 - l.length) l=R/\ZJ WH 1 wr w.heap.size 3 (.slice L l.length c) l/\Below w.heap.size w wr) (fun v8 _=>9 - lenOf v8)
  case atStart=>exact⟨[],_,0,by simp,rfl,HE.out,ft.out,au.out⟩
  case round =>
   obtain⟨l,L,c,hl,rfl,hm,ae,bZ⟩:=hrel;obtain⟨i,hi⟩: ∃ i,l.length=i:=⟨_,rfl⟩;rw[hi] at ae hm hl ⊢;obtain⟨m,uu⟩: ∃ m,9 - i=m+1:=⟨8 - i,by omega⟩;rw[uu] at hm;unfold Jm at hm;rw[hi] at hm;have yh:=Zg ae;have aw:=Zg bZ;have bM:=Zg hi;have xm:=Zg (And.intro hl uu);have jw:=Zg (HR.out.below aw.out);have hT:ry base addr i=((addr - base+8 * i) % 18446744073709551616).toNat:=rfl;have GC:((ry base addr i:Nat):Int)=(addr - base+8 * i) % 18446744073709551616:=by rw[hT]; omega
   generalize ry base addr i=T at hm GC;have oI:=HN.out.1;have w1:IntKind.u64.wrap (i:Int)=i:=by rw[IntKind.wrap_u64]; omega
   have w2:IntKind.u64.wrap ((i:Int) * 8)=(i:Int) * 8:=by rw[IntKind.wrap_u64]; omega
   have w3:IntKind.u64.wrap (IntKind.u64.wrap (addr - base)+(i:Int) * 8)=T:=by rw[IntKind.wrap_u64,IntKind.wrap_u64]; omega
   have KP:=Zg (show T<18446744073709551616 by omega);clear ae bZ ft au hi hl uu hT GC HE;by_cases c1:n<T+8
   ·rw[if_pos c1] at hm;have HP:=Zg (fun W:World=>QU (some ⟨b,off,none⟩) n cap T 8 W (by omega) (by omega) (by have:=KP.out; omega) (by omega) (by omega) (by omega));have HM:=Zg hm;clear c1 hm;go_wp2_with (first|(go_fit (HP.out _); rintro e u ⟨rfl,rfl⟩))
    go_ret2;exact⟨.inr ⟨HM.out.symm,rfl⟩,aw.out⟩
   ·rw[if_neg c1] at hm;have HP:=Zg (fun W:World=>Jl (some ⟨b,off,none⟩) n cap T 8 W (by omega) (by omega) (by omega) (by omega) (by omega));have hu:=Zax b off n cap f T wr (by omega) (by omega) HR.out.by255 jw.out.row;have jx:=ZR f HR.out.by255 8 T;obtain⟨v,hv⟩: ∃ v,rdF f T 8=v:=⟨_,rfl⟩;rw[hv] at hm hu jx;have HU:=Zg hu;have xo:=Zg (show 0<=v/\v<18446744073709551616 from⟨jx.1,by simpa using jx.2⟩);clear hu jx hv c1;by_cases c2:v=0
    ·rw[if_pos c2] at hm;have HM:=Zg hm;subst c2;clear hm;go_wp2_with (first
      | (go_fit (HP.out _); rintro e u ⟨rfl,rfl⟩)
      | (go_fit HU.out; rintro e u ⟨rfl,rfl⟩))
     go_ret2;exact⟨.inl ⟨l,L,c,HM.out.symm,by rw[bM.out]; rfl,by rw[bM.out]; exact yh.out⟩,aw.out⟩
    ·rw[if_neg c2] at hm;have e2:(v == 0)=false:=by rw[beq_eq_false_iff_ne]; exact c2
     obtain⟨z,hz⟩: ∃ z,(v - base) % 18446744073709551616=z:=⟨_,rfl⟩;rw[hz] at hm;have s9:0<=z/\z<18446744073709551616:=by omega
     have w4:IntKind.u64.wrap (v - base)=z:=by rw[IntKind.wrap_u64]; exact hz
     have n7:=Zg s9;clear hz s9 c2;by_cases c3:(n:Int)<z+1
     ·rw[if_pos (.inl c3)] at hm;have HV:=Zg (fun W:World=>QU (some ⟨b,off,none⟩) n cap z 1 W (by omega) n7.out.1 (by have:=n7.out.2; omega) (by omega) (by omega) c3);have HM:=Zg hm;clear hm c3;go_wp2_with (first
       | (go_fit (HP.out _); rintro e u ⟨rfl,rfl⟩)
       | (go_fit HU.out; rintro e u ⟨rfl,rfl⟩)
       | (go_fit (HV.out _); rintro e u ⟨rfl,rfl⟩))
      go_ret2;exact⟨.inr ⟨HM.out.symm,rfl⟩,aw.out⟩
     ·have HV:=Zg (fun W:World=>Jl (some ⟨b,off,none⟩) n cap z 1 W (by omega) n7.out.1 (by omega) (by omega) (by omega));by_cases c4:i=8
      ·rw[if_pos (.inr c4)] at hm;have HM:=Zg hm;have q7:((i:Int) == 8)=true:=by rw[beq_iff_eq]; omega
       clear hm c3 c4;go_wp2_with (first
        | (go_fit (HP.out _); rintro e u ⟨rfl,rfl⟩)
        | (go_fit HU.out; rintro e u ⟨rfl,rfl⟩)
        | (go_fit (HV.out _); rintro e u ⟨rfl,rfl⟩))
       go_ret2;exact⟨.inr ⟨HM.out.symm,rfl⟩,aw.out⟩
      ·rw[if_neg (by omega)] at hm;have HM:=Zg hm;have q7:((i:Int) == 8)=false:=by rw[beq_eq_false_iff_ne]; omega
       have Bz:=Zg (show i<8 by have:=xm.out.1; omega);have uq:(l++[z]).length=i+1:=by rw[List.length_append,bM.out]; rfl
       have hU:=Zg (show(l++[z]).length<=8/\True from⟨by rw[uq]; have:=Bz.out; omega,trivial⟩);have KQ:=Zg (show Jm n f base addr (9 - (l++[z]).length) (l++[z])=R from by
        have h9:=xm.out.2;rw[uq,show 9 - (i+1)=m by omega];exact HM.out)
       clear uq;have cT:=Zg (heap_alloc_new wr (.cells #[.int .i64 z] 3));have dB:=Zg (yh.out.alloc (.cells #[.int .i64 z] 3));have eK:=Zg (show(wr.alloc (.cells #[.int .i64 z] 3)).heap.size=wr.heap.size+1 by simp);have KR:=Zg (show ∀ j u,(WH z)[j]? =some u->(wr.alloc (.cells #[.int .i64 z] 3)).cell? ⟨wr.heap.size,j,none⟩=some u from fun j u hu=>by
        rw[Zh cT.out];rcases j with _|j
        ·simpa [WH] using hu
        ·simp[WH] at hu)
       clear hm c3 c4;go_wp2_with (first
        | (go_fit (HP.out _); rintro e u ⟨rfl,rfl⟩)
        | (go_fit HU.out; rintro e u ⟨rfl,rfl⟩)
        | (go_fit (HV.out _); rintro e u ⟨rfl,rfl⟩)
        | (at_builtin; refine Zq rfl (.tmp 56) (.tmp 58) 22 rfl w.heap.size 3 (.int .i64 0) 8 (by kernel_rfl) Zhk rfl (by omega) QV Zer (.slice L i c) l rfl dB.out wr.heap.size 1 rfl z KR.out (by have:=bM.out; have:=Bz.out; unfold maxLen; omega) (by have:=bM.out; have:=Bz.out; omega) (by have:=eK.out; have:=aw.out.size; omega) ?_; intro g' fD w3 aS eU fE))
       have aN:=Zg (dB.out.grew (aw.out.alloc aw.out.size (.cells #[.int .i64 z] 3)) (Nat.le_refl _) (by have:=aw.out.size; have:=eK.out; omega) eU);go_roundw
       case rel=>exact⟨l++[z],some ⟨g',0,none⟩,fD,hU.out.1,by rw[List.length_append,bM.out]; rfl,KQ.out,by rw[List.length_append,bM.out]; rw[bM.out] at aS; exact aS,aN.out⟩
       case measure=>have:=Bz.out; have:=bM.out; simp only[lenOf]; omega
theorem Zdd {S T:ByteArray} (h:S.toList=T.toList):S=T:=by
 rw[<-Ju S,<-Ju T] at h ⊢;unfold ZB at h ⊢;rw[Lib.strOfNums_toList,Lib.strOfNums_toList] at h;apply ByteArray.ext;apply Array.ext';exact h
theorem toList_eq {S T:ByteArray}:S.toList=T.toList↔S=T:=⟨Zdd,fun h=>by rw[h]⟩
theorem Zk0 (x0 y0:Int) (x1 y1:ByteArray): ∃ r:Bool,(∀ W,(Op.equalIn 10000 74 (.agg #[.int .i64 x0,.string x1]) (.agg #[.int .i64 y0,.string y1])).run Tryz.prog W= .ok r W)/\(r=true↔x0=y0/\x1=y1):=by
 have hS:Tryz.prog.underlying 74=some (.struct (Tryz.prog.fieldsOf 74)):=by kernel_rfl
 have hp:Tryz.prog.stoodInHeld 74=false:=by kernel_rfl
 have u3:=Tryz.underlying3;have u9:=Tryz.underlying9;have u4:=Tryz.underlying4;refine⟨(x0 == y0)&&(x1.toList == y1.toList),fun W=> ?_,?_⟩
 ·rw[show(10000:Nat)=9999+1 from rfl,run_equalIn_agg W 9999 74 _ _ hS hp];simp only[Program.fieldsOf,Tryz.underlying74];go_simp;repeat' split
  all_goals simp_all
 ·simp only[Bool.and_eq_true,beq_iff_eq,toList_eq,and_assoc]
theorem Zhl (x0 y0:ByteArray) (x1 y1:Int): ∃ r:Bool,(∀ W,(Op.equalIn 10000 76 (.agg #[.string x0,.int .i64 x1]) (.agg #[.string y0,.int .i64 y1])).run Tryz.prog W= .ok r W)/\(r=true↔x0=y0/\x1=y1):=by
 have hS:Tryz.prog.underlying 76=some (.struct (Tryz.prog.fieldsOf 76)):=by kernel_rfl
 have hp:Tryz.prog.stoodInHeld 76=false:=by kernel_rfl
 have u3:=Tryz.underlying3;have u9:=Tryz.underlying9;have u4:=Tryz.underlying4;refine⟨(x0.toList == y0.toList)&&(x1 == y1),fun W=> ?_,?_⟩
 ·rw[show(10000:Nat)=9999+1 from rfl,run_equalIn_agg W 9999 76 _ _ hS hp];simp only[Program.fieldsOf,Tryz.underlying76];go_simp;repeat' split
  all_goals simp_all
 ·simp only[Bool.and_eq_true,beq_iff_eq,toList_eq,and_assoc]
theorem Zhm (x0 y0:ByteArray) (x1 y1:Int): ∃ r:Bool,(∀ W,(Op.equalIn 10000 80 (.agg #[.string x0,.int .i64 x1]) (.agg #[.string y0,.int .i64 y1])).run Tryz.prog W= .ok r W)/\(r=true↔x0=y0/\x1=y1):=by
 have hS:Tryz.prog.underlying 80=some (.struct (Tryz.prog.fieldsOf 80)):=by kernel_rfl
 have hp:Tryz.prog.stoodInHeld 80=false:=by kernel_rfl
 have u3:=Tryz.underlying3;have u9:=Tryz.underlying9;have u4:=Tryz.underlying4;refine⟨(x0.toList == y0.toList)&&(x1 == y1),fun W=> ?_,?_⟩
 ·rw[show(10000:Nat)=9999+1 from rfl,run_equalIn_agg W 9999 80 _ _ hS hp];simp only[Program.fieldsOf,Tryz.underlying80];go_simp;repeat' split
  all_goals simp_all
 ·simp only[Bool.and_eq_true,beq_iff_eq,toList_eq,and_assoc]
theorem Zni (x0 y0:Int) (x1 y1:Int): ∃ r:Bool,(∀ W,(Op.equalIn 10000 82 (.agg #[.int .i64 x0,.int .i64 x1]) (.agg #[.int .i64 y0,.int .i64 y1])).run Tryz.prog W= .ok r W)/\(r=true↔x0=y0/\x1=y1):=by
 have hS:Tryz.prog.underlying 82=some (.struct (Tryz.prog.fieldsOf 82)):=by kernel_rfl
 have hp:Tryz.prog.stoodInHeld 82=false:=by kernel_rfl
 have u3:=Tryz.underlying3;have u9:=Tryz.underlying9;have u4:=Tryz.underlying4;refine⟨(x0 == y0)&&(x1 == y1),fun W=> ?_,?_⟩
 ·rw[show(10000:Nat)=9999+1 from rfl,run_equalIn_agg W 9999 82 _ _ hS hp];simp only[Program.fieldsOf,Tryz.underlying82];go_simp;repeat' split
  all_goals simp_all
 ·simp only[Bool.and_eq_true,beq_iff_eq,toList_eq,and_assoc]
theorem Znj (x0 y0:ByteArray) (x1 y1:Int) (x2 y2:Bool): ∃ r:Bool,(∀ W,(Op.equalIn 10000 58 (.agg #[.string x0,.int .i64 x1,.bool x2]) (.agg #[.string y0,.int .i64 y1,.bool y2])).run Tryz.prog W= .ok r W)/\(r=true↔x0=y0/\x1=y1/\x2=y2):=by
 have hS:Tryz.prog.underlying 58=some (.struct (Tryz.prog.fieldsOf 58)):=by kernel_rfl
 have hp:Tryz.prog.stoodInHeld 58=false:=by kernel_rfl
 have u3:=Tryz.underlying3;have u9:=Tryz.underlying9;have u4:=Tryz.underlying4;refine⟨(x0.toList == y0.toList)&&(x1 == y1)&&(x2 == y2),fun W=> ?_,?_⟩
 ·rw[show(10000:Nat)=9999+1 from rfl,run_equalIn_agg W 9999 58 _ _ hS hp];simp only[Program.fieldsOf,Tryz.underlying58];go_simp;repeat' split
  all_goals simp_all
 ·simp only[Bool.and_eq_true,beq_iff_eq,toList_eq,and_assoc]
theorem Zes (x0 y0:ByteArray) (x1 y1:Int) (x2 y2:Int) (x3 y3:Int) (x4 y4:Int) (x5 y5:Int): ∃ r:Bool,(∀ W,(Op.equalIn 10000 72 (.agg #[.string x0,.int .i64 x1,.int .i64 x2,.int .i64 x3,.int .i64 x4,.int .i64 x5]) (.agg #[.string y0,.int .i64 y1,.int .i64 y2,.int .i64 y3,.int .i64 y4,.int .i64 y5])).run Tryz.prog W= .ok r W)/\(r=true↔x0=y0/\x1=y1/\x2=y2/\x3=y3/\x4=y4/\x5=y5):=by
 have hS:Tryz.prog.underlying 72=some (.struct (Tryz.prog.fieldsOf 72)):=by kernel_rfl
 have hp:Tryz.prog.stoodInHeld 72=false:=by kernel_rfl
 have u3:=Tryz.underlying3;have u9:=Tryz.underlying9;have u4:=Tryz.underlying4;refine⟨(x0.toList == y0.toList)&&(x1 == y1)&&(x2 == y2)&&(x3 == y3)&&(x4 == y4)&&(x5 == y5),fun W=> ?_,?_⟩
 ·rw[show(10000:Nat)=9999+1 from rfl,run_equalIn_agg W 9999 72 _ _ hS hp];simp only[Program.fieldsOf,Tryz.underlying72];go_simp;repeat' split
  all_goals simp_all
 ·simp only[Bool.and_eq_true,beq_iff_eq,toList_eq,and_assoc]
theorem Zga {α :Type} (C: α ->List Value) (f0: α ->ByteArray) (f1: α ->Int) (f2: α ->Int) (f3: α ->Int) (f4: α ->Int) (f5: α ->Int) (hC: ∀ x,C x=[.string (f0 x),.int .i64 (f1 x),.int .i64 (f2 x),.int .i64 (f3 x),.int .i64 (f4 x),.int .i64 (f5 x)]) (A A':Option Addr) (l l2:List α) (c c':Nat) (w:World) (h:SlT C 6 w A l) (h':SlT C 6 w A' l2) (hn:l.length<=1000000) (jP:l2.length<=1000000) (b:Bool) (hb:b=true↔l.map C=l2.map C) :
 Calls Tryz.prog 99 #[.slice A l.length c,.slice A' l2.length c'] w fun e u=>e= .returned (.bool b)/\Below w.heap.size w u:=by
 have HS:=Zg h;have rz:=Zg h';have HC:=Zg hC;have HN:=Zg (And.intro hn jP);have fi:=Zg hb;clear h h' hC hb;by_cases hl:l.length=l2.length
 ·have HL:=Zg hl;have e0:((l.length:Int) != (l2.length:Int))=false:=by simp[hl]
  have ia:=Zg hn;clear hn jP hl;go_enter Tryz.func99,Tryz.ntmps99;go_wp2_with fail
  go_loopw [13] (fun v13 wr=> ∃ i:Nat,i<=l.length/\v13= .int .i64 i/\(∀(j:Nat) (h1:j<l.length) (h2:j<l2.length),j<i->C l[j]=C l2[j])/\Below w.heap.size w wr) (fun v13 _=>l.length - (intOf v13).toNat)
  case atStart=>exact⟨0,by omega,rfl,fun j _ _ h=>by omega,Below.refl _ _⟩
  case round =>
   obtain⟨i,hi,rfl,bu,bZ⟩:=hrel;have cw:=Zg bu;have HB:=Zg bZ;clear bu bZ;by_cases af:i<l.length
   ·have aE:(i:Int)<l.length:=by omega
    have aB:i<l2.length:=by have:=HL.out; omega
    have ib:(i:Int)<l2.length:=by omega
    obtain⟨bb,o,rfl,_,hc⟩: ∃ b o,A=some ⟨b,o,none⟩/\b<wr.heap.size/\ ∀(i:Nat) (hi:i<l.length) (j:Nat) (v:Value),(C l[i])[j]? =some v->wr.cell? ⟨b,o+(i * 6+j),none⟩=some v:=by
     rcases HS.out.below HB.out with h|h
     ·rw[h] at af; simp at af
     ·exact h
    obtain⟨oM,o',rfl,_,eN⟩: ∃ b o,A'=some ⟨b,o,none⟩/\b<wr.heap.size/\ ∀(i:Nat) (hi:i<l2.length) (j:Nat) (v:Value),(C l2[i])[j]? =some v->wr.cell? ⟨b,o+(i * 6+j),none⟩=some v:=by
     rcases rz.out.below HB.out with h|h
     ·rw[h] at aB; simp at aB
     ·exact h
    have hC:=HC.out;have d0:=hc i af 0 (.string (f0 l[i])) (by rw[hC]; rfl);have d1:=hc i af 1 (.int .i64 (f1 l[i])) (by rw[hC]; rfl);have d2:=hc i af 2 (.int .i64 (f2 l[i])) (by rw[hC]; rfl);have d3:=hc i af 3 (.int .i64 (f3 l[i])) (by rw[hC]; rfl);have d4:=hc i af 4 (.int .i64 (f4 l[i])) (by rw[hC]; rfl);have d5:=hc i af 5 (.int .i64 (f5 l[i])) (by rw[hC]; rfl);have e0:=eN i aB 0 (.string (f0 l2[i])) (by rw[hC]; rfl);have e1:=eN i aB 1 (.int .i64 (f1 l2[i])) (by rw[hC]; rfl);have e2:=eN i aB 2 (.int .i64 (f2 l2[i])) (by rw[hC]; rfl);have e3:=eN i aB 3 (.int .i64 (f3 l2[i])) (by rw[hC]; rfl);have e4:=eN i aB 4 (.int .i64 (f4 l2[i])) (by rw[hC]; rfl);have e5:=eN i aB 5 (.int .i64 (f5 l2[i])) (by rw[hC]; rfl);rw[show o+(i * 6+0)=o+i * 6 by omega] at d0;rw[show o'+(i * 6+0)=o'+i * 6 by omega] at e0;rw[show o+(i * 6+1)=o+i * 6+1 by omega] at d1;rw[show o'+(i * 6+1)=o'+i * 6+1 by omega] at e1;rw[show o+(i * 6+2)=o+i * 6+2 by omega] at d2;rw[show o'+(i * 6+2)=o'+i * 6+2 by omega] at e2;rw[show o+(i * 6+3)=o+i * 6+3 by omega] at d3;rw[show o'+(i * 6+3)=o'+i * 6+3 by omega] at e3;rw[show o+(i * 6+4)=o+i * 6+4 by omega] at d4;rw[show o'+(i * 6+4)=o'+i * 6+4 by omega] at e4;rw[show o+(i * 6+5)=o+i * 6+5 by omega] at d5;rw[show o'+(i * 6+5)=o'+i * 6+5 by omega] at e5;obtain⟨r,rD,hr⟩:=Zes (f0 l[i]) (f0 l2[i]) (f1 l[i]) (f1 l2[i]) (f2 l[i]) (f2 l2[i]) (f3 l[i]) (f3 l2[i]) (f4 l[i]) (f4 l2[i]) (f5 l[i]) (f5 l2[i]);have ng:C l[i]=C l2[i]↔r=true:=by
     rw[hC,hC,hr];simp
    have eF:=Zg ng;clear hc eN hC hr ng;generalize f0 l[i]=p0 at *;generalize f0 l2[i]=q0 at *;generalize f1 l[i]=p1 at *;generalize f1 l2[i]=q1 at *;generalize f2 l[i]=p2 at *;generalize f2 l2[i]=q2 at *;generalize f3 l[i]=p3 at *;generalize f3 l2[i]=q3 at *;generalize f4 l[i]=p4 at *;generalize f4 l2[i]=q4 at *;generalize f5 l[i]=p5 at *;generalize f5 l2[i]=q5 at *;rcases r with _|_
    ·go_wp2_with fail
     go_region
     go_wp2_with fail
     go_ret;refine⟨?_,HB.out.drew⟩;rcases b with _|_
     ·rfl
     ·exfalso;have h1:=fi.out.1 rfl;have h2:=congrArg (fun L=>L[i]?) h1;simp only[List.getElem?_map,List.getElem?_eq_getElem af,List.getElem?_eq_getElem aB,Option.map_some,Option.some.injEq] at h2;have h3:=eF.out.1 h2;simp at h3
    ·have dN:=Zg (show ∀(j:Nat) (h1:j<l.length) (h2:j<l2.length),j<i+1->C l[j]=C l2[j] from fun j h1 h2 h3=>(by
      rcases(by omega:j<i\/j=i) with h4|h4
      ·exact cw.out j h1 h2 h4
      ·subst h4; exact eF.out.2 rfl))
     go_wp2_with fail
     go_region
     have oI:=HN.out.1;go_wp2_with fail
     go_roundw
     case rel=>exact⟨i+1,by omega,by go_num,dN.out,HB.out.drew⟩
     case measure=>simp[intOf]; omega
   ·obtain rfl:i=l.length:=by omega
    go_wp2_with fail
    go_ret;refine⟨?_,HB.out⟩;rcases b with _|_
    ·exfalso;have h1:l.map C=l2.map C:=by
      apply List.ext_getElem
      ·simp[HL.out]
      ·intro j h1 h2;simp only[List.length_map] at h1 h2;simp only[List.getElem_map];exact cw.out j h1 h2 h1
     have h2:=fi.out.2 h1;simp at h2
    ·rfl
 ·have e0:((l.length:Int) != (l2.length:Int))=true:=by simp; omega
  have HL:=Zg hl;clear hl;go_enter Tryz.func99,Tryz.ntmps99;go_wp2_with fail
  go_ret;refine⟨?_,Below.refl _ _⟩;rcases b with _|_
  ·rfl
  ·exfalso;have h1:=congrArg List.length (fi.out.1 rfl);simp only[List.length_map] at h1;exact HL.out h1
def qF (n:Nat) (f:Nat->Int) (rva:Nat) (base:Int):Option (Bool × Int × List Int) :=
 if rva=0 then some (false,0,[]) else
 if n<rva+40 then none else
 if(n:Int)<(rdF f (rva+16) 8 - base) % 18446744073709551616+4 then none else
 match Qe n f base (rdF f (rva+24) 8) with
 | none=>none
 | some l=>some (true,(rdF f (rva+16) 8 - base) % 18446744073709551616,l)
def TlsQ (w:World) (R:Option (Bool × Int × List Int)) (e:Ending) (u:World):Prop :=
 (∃ t x l L c,R=some (t,x,l)/\e= .returned (.tuple #[.agg #[.bool t,.int .i64 x,.slice L l.length c],.int .i64 0])/\ZJ WH 1 u w.heap.size 3 (.slice L l.length c) l) \/
 (R=none/\e= .returned (.tuple #[.agg #[.bool false,.int .i64 0,.slice none 0 0],.int .i64 12]))
theorem Znk (b off n cap:Nat) (f:Nat->Int) (rva:Nat) (sz base:Int) (w:World) (h:Wj w b off n cap f) (hn:n<=1000000) (hr:rva<=4294967296) (b0:0<=base) (b1:base<=18446744073709551615) :
 Calls Tryz.prog 82 #[.slice (some ⟨b,off,none⟩) n cap,.agg #[.int .i64 rva,.int .i64 sz],.int .u64 base] w fun e u=>TlsQ w (qF n f rva base) e u/\Below w.heap.size w u:=by
 obtain⟨R,hR⟩: ∃ R,qF n f rva base=R:=⟨_,rfl⟩;rw[hR];unfold qF at hR;by_cases c0:rva=0
 ·subst c0;rw[if_pos rfl] at hR;refine(tlsZ _ n cap sz base w).mono ?_;rintro e u ⟨rfl,hb⟩;exact⟨.inl ⟨false,0,[],none,0,hR.symm,rfl,ZJ.nil _ _ _⟩,hb⟩
 rw[if_neg c0] at hR;have e0:((rva:Int) == 0)=false:=by rw[beq_eq_false_iff_ne]; omega
 have jw:=Zg (fun W hW=>(h.below hW:Wj W b off n cap f));have bh:=Zg h.by255;have HN:=Zg (And.intro hn (And.intro hr (And.intro b0 b1)));have au:=Zg (((Below.refl w.heap.size w).alloc (Nat.le_refl _) (.cells #[.int .i64 rva,.int .i64 sz] 37)).alloc (by simp) (.cells #[.bool false,.int .i64 0,.slice none 0 0] 48));have bq:=Zg (heap_alloc_new (w.alloc (.cells #[.int .i64 rva,.int .i64 sz] 37)) (.cells #[.bool false,.int .i64 0,.slice none 0 0] 48));have pq:=Zg (show(w.alloc (.cells #[.int .i64 rva,.int .i64 sz] 37)).heap.size=w.heap.size+1 by simp);rw[pq.out] at bq;have kz:=Zg ((YY w (.int .i64 rva) (.int .i64 sz) 37).alloc (.cells #[.bool false,.int .i64 0,.slice none 0 0] 48));clear h c0;by_cases c1:n<rva+40
 ·rw[if_pos c1] at hR;have HR:=Zg hR;have ax:=Zg (fun W:World=>ZV (some ⟨b,off,none⟩) n cap rva 40 false W (by omega) (by omega) (by omega) ⟨(fun h=>by cases h),(fun h=>by omega)⟩);clear hR hn hr b0 b1 c1;go_enter Tryz.func82,Tryz.ntmps82;go_wp2_with (first|(go_fit (ax.out _); rintro e u ⟨rfl,rfl⟩)|(refine wpList_store_row rfl 48 _ _ rfl (w.heap.size+1) #[.bool false,.int .i64 0,.slice none 0 0] rfl rfl 48 _ bq.out rfl rfl (by simp[Value.oneCell']) ?_))
  exact bodyPost_ret (v:= .tuple #[.agg #[.bool false,.int .i64 0,.slice none 0 0],.int .i64 12]) (Zj rfl _ _ (w.heap.size+1) 48 _ (0,0) _ _ rfl rfl (setRow_heap _ _ _ _ _ _ bq.out) rfl rfl rfl) rfl ⟨.inr ⟨HR.out.symm,rfl⟩,below_setRow au.out (by omega) _⟩
 rw[if_neg c1] at hR;have ax:=Zg (fun W:World=>ZV (some ⟨b,off,none⟩) n cap rva 40 true W (by omega) (by omega) (by omega) ⟨fun _=>⟨by omega,by omega,by omega⟩,fun _=>rfl⟩);have xp:=Zg (show rva+40<=n by omega);have ur:=ZR f bh.out 8 (rva+16);have oJ:=ZR f bh.out 8 (rva+24);obtain⟨a1,uv⟩: ∃ a,rdF f (rva+16) 8=a:=⟨_,rfl⟩;obtain⟨a2,jg⟩: ∃ a,rdF f (rva+24) 8=a:=⟨_,rfl⟩;have mn:=Zg (fun W (hW:Below w.heap.size w W)=>Zax b off n cap f (rva+16) W (by have:=xp.out; omega) (by have:=HN.out.1; omega) bh.out (jw.out W hW).row);have nh:=Zg (fun W (hW:Below w.heap.size w W)=>Zax b off n cap f (rva+24) W (by have:=xp.out; omega) (by have:=HN.out.1; omega) bh.out (jw.out W hW).row);rw[uv] at mn ur hR;rw[jg] at nh oJ hR;rw[show((rva+16:Nat):Int)=(rva:Int)+16 by omega] at mn;rw[show((rva+24:Nat):Int)=(rva:Int)+24 by omega] at nh;have aK:=Zg uv;have oK:=Zg jg;obtain⟨x,hx⟩: ∃ x,(a1 - base) % 18446744073709551616=x:=⟨_,rfl⟩;rw[hx] at hR;have q1:IntKind.u64.wrap (a1 - base)=x:=by rw[IntKind.wrap_u64]; exact hx
 have q2:IntKind.i64.wrap ((rva:Int)+16)=(rva:Int)+16:=by rw[IntKind.wrap_i64]; omega
 have q3:IntKind.i64.wrap ((rva:Int)+24)=(rva:Int)+24:=by rw[IntKind.wrap_i64]; omega
 have HX:=Zg (show 0<=x/\x<18446744073709551616 by omega);have GD:=Zg (show 0<=a2/\a2<18446744073709551616 from⟨oJ.1,by simpa using oJ.2⟩);have t0:=kz.out.cell (i:=0) (by omega);simp only[if_pos] at t0;clear hx ur oJ uv jg c1;by_cases c2:(n:Int)<x+4
 ·rw[if_pos c2] at hR;have HR:=Zg hR;have HP:=Zg (fun W:World=>QU (some ⟨b,off,none⟩) n cap x 4 W (by omega) HX.out.1 (by have:=HX.out.2; omega) (by omega) (by omega) c2);clear hR hn hr b0 b1 c2;go_enter Tryz.func82,Tryz.ntmps82;go_wp2_with (first|(go_fit (ax.out _); rintro e u ⟨rfl,rfl⟩))
  generalize (w.alloc (.cells #[.int .i64 rva,.int .i64 sz] 37)).alloc (.cells #[.bool false,.int .i64 0,.slice none 0 0] 48)=w2 at *;refine(mn.out _ au.out).mono ?_;rintro e u ⟨rfl,rfl⟩;go_wp2_with (first|(go_fit (HP.out _); rintro e u ⟨rfl,rfl⟩)|(refine wpList_store_row rfl 48 _ _ rfl (w.heap.size+1) #[.bool false,.int .i64 0,.slice none 0 0] rfl rfl 48 _ bq.out rfl rfl (by simp[Value.oneCell']) ?_))
  exact bodyPost_ret (v:= .tuple #[.agg #[.bool false,.int .i64 0,.slice none 0 0],.int .i64 12]) (Zj rfl _ _ (w.heap.size+1) 48 _ (0,0) _ _ rfl rfl (setRow_heap _ _ _ _ _ _ bq.out) rfl rfl rfl) rfl ⟨.inr ⟨HR.out.symm,rfl⟩,below_setRow au.out (by omega) _⟩
 rw[if_neg c2] at hR;have HP:=Zg (fun W:World=>Jl (some ⟨b,off,none⟩) n cap x 4 W (by omega) HX.out.1 (by omega) (by omega) (by omega));have HR:=Zg hR;clear hR hn hr b0 b1 c2;go_enter Tryz.func82,Tryz.ntmps82;go_wp2_with (first|(go_fit (ax.out _); rintro e u ⟨rfl,rfl⟩))
 generalize (w.alloc (.cells #[.int .i64 rva,.int .i64 sz] 37)).alloc (.cells #[.bool false,.int .i64 0,.slice none 0 0] 48)=w2 at *;refine(mn.out _ au.out).mono ?_;rintro e u ⟨rfl,rfl⟩;go_wp2_with (first|(go_fit (HP.out _); rintro e u ⟨rfl,rfl⟩))
 refine(nh.out _ au.out).mono ?_;rintro e u ⟨rfl,rfl⟩;go_wp2_with fail
 refine(QW b off n cap f base a2 w2 (jw.out _ au.out) HN.out.1 HN.out.2.2.1 HN.out.2.2.2 GD.out.1 (by have:=GD.out.2; omega) _ rfl).mono ?_;rintro e w3 ⟨hq,bJ⟩;have eX:=Zg ((bJ.block _ (Array.getElem?_eq_some_iff.1 bq.out).1).trans bq.out);have aN:=Zg (au.out.trans (bJ.mono au.out.size));have dY:=Zg (Array.getElem?_eq_some_iff.1 bq.out).1;clear t0 bJ;rcases hq with⟨l,L,c,hl,rfl,ae⟩|⟨hl,rfl⟩
 ·have cT:=Zg ae;rw[hl] at HR;clear ae hl;go_wp2_with (refine wpList_store_row rfl 48 _ _ rfl (w.heap.size+1) #[.bool true,.int .i64 x,.slice L l.length c] rfl rfl 48 _ eX.out rfl rfl (by simp[Value.oneCell']) ?_)
  refine bodyPost_ret (v:= .tuple #[.agg #[.bool true,.int .i64 x,.slice L l.length c],.int .i64 0]) (Zj rfl _ _ (w.heap.size+1) 48 _ (0,0) _ _ rfl rfl (setRow_heap _ _ _ _ _ _ eX.out) rfl rfl rfl) rfl ⟨.inl ⟨true,x,l,L,c,HR.out.symm,rfl,?_⟩,below_setRow aN.out (by omega) _⟩;have h1:=(cT.out.of_block (w':=w3.setRow (w.heap.size+1) #[.bool true,.int .i64 x,.slice L l.length c]) (fun k hk=>setRow_other _ _ _ _ (by have:=(cT.out.lt k hk).1; have:=dY.out; omega)));exact h1.lower (by have:=au.out.size; omega)
 ·rw[hl] at HR;go_wp2_with (refine wpList_store_row rfl 48 _ _ rfl (w.heap.size+1) #[.bool false,.int .i64 0,.slice none 0 0] rfl rfl 48 _ eX.out rfl rfl (by simp[Value.oneCell']) ?_)
  exact bodyPost_ret (v:= .tuple #[.agg #[.bool false,.int .i64 0,.slice none 0 0],.int .i64 12]) (Zj rfl _ _ (w.heap.size+1) 48 _ (0,0) _ _ rfl rfl (setRow_heap _ _ _ _ _ _ eX.out) rfl rfl rfl) rfl ⟨.inr ⟨HR.out.symm,rfl⟩,below_setRow aN.out (by omega) _⟩
theorem QY (cs lL:Array Value) (h:ZX) (sv ps:Value) (l:List Zx) (w:World) (x:YR cs h sv) (y:YR lL h ps) (hs:Ua w sv l) (lM:Ua w ps l) (s':Zl3 h) :
 Calls Tryz.prog 52 #[.agg cs,.agg lL] w fun e u=>e= .returned (.bool true)/\Below w.heap.size w u:=by
 obtain⟨A,c,rfl,dE,gJ⟩:=hs;obtain⟨A',c',rfl,pt,_⟩:=lM;have HX:=Zg x;have HY:=Zg y;have df:=Zg dE;have rB:=Zg pt;have rC:=Zg gJ;have a0:=x.c0;have a1:=x.c1;have a2:=x.c2;have a3:=x.c3;have a4:=x.c4;have a5:=x.c5;have b0:=y.c0;have b1:=y.c1;have b2:=y.c2;have b3:=y.c3;have b4:=y.c4;have b5:=y.c5;have av:=Zg (((Below.refl w.heap.size w).alloc (Nat.le_refl _) (.cells cs 41)).alloc (by simp) (.cells lL 41));have HE:=Zg (fun W (hW:Below w.heap.size w W)=>Zga Zx.cells Zx.name Zx.vsize Zx.rva Zx.raw Zx.spot Zx.chars (fun _=>rfl) A A' l l c c' W (df.out.below hW) (rB.out.below hW) (by have:=rC.out; omega) (by have:=rC.out; omega) true ⟨fun _=>rfl,fun _=>rfl⟩);clear dE pt x y gJ;go_enter Tryz.func52,Tryz.ntmps52;have heq:=Zof h s';have mo:=Zg (heap_alloc2_old w (.cells cs 41) (.cells lL 41));have ni:=Zg (heap_alloc2_new w (.cells cs 41) (.cells lL 41));have qK:=(Zh mo.out).trans HX.out.c38;have pr:=(Zh ni.out).trans HY.out.c38;go_wp2_with (first
  | (refine ZO (by rfl) 38 _ rfl w.heap.size 6 rfl (Ub h) _ (HX.out.dirRow mo.out) rfl rfl rfl ?_)
  | (refine ZO (by rfl) 38 _ rfl (w.heap.size+1) 6 rfl (Ub h) _ (HY.out.dirRow ni.out) rfl rfl rfl ?_)
  | fail)
 refine(HE.out _ av.out).mono ?_;rintro e u ⟨rfl,hb⟩;have aj:=Zg (av.out.trans (hb.mono av.out.size));clear hb;go_wp2_with fail
 go_ret;exact⟨rfl,aj.out⟩
theorem VK (v:Value) (w:World):Calls Tryz.prog 56 #[.slice none 0 0,.slice none 0 0,v] w fun e u=>e= .returned (.bool true)/\Below w.heap.size w u:=by
 go_enter Tryz.func56,Tryz.ntmps56;go_wp2_with fail
 go_loopw [17] (fun v17 wr=>v17= .int .i64 0/\wr=w) (fun _ _=>0)
 case atStart=>exact⟨rfl,rfl⟩
 case round =>
  obtain⟨rfl,rfl⟩:=hrel;go_wp2_with fail
  go_ret;exact⟨rfl,Below.refl _ _⟩
end Go.Proofs.YtplgdpjbkdagfaaGreat
