import Derived.Test.YtplgdpjbkdagfaaGreatZRelMade
import Derived.Deep.Cut
import Derived.Deep.CutRange
import Derived.Deep.RegionHeld3
import Derived.Deep.DrawnRows
import Derived.Deep.DeepFit
import Derived.Test.YtplgdpjbkdagfaaGreatZRelParse
import Derived.Test.YtplgdpjbkdagfaaGreatRef1
import Derived.Test.YtplgdpjbkdagfaaGreatRefPut
import Derived.BigQuiet
namespace Go.Proofs.YtplgdpjbkdagfaaGreat
open Lib renaming hid→Zg
set_option maxRecDepth 100000
open Go.ChangeShapes Go.WideShapes Go.ChangeAt Go.RowKit
set_option linter.unusedVariables false
set_option linter.unusedSimpArgs false
structure Apt (n:Nat) (l:List YX):Prop where
 kinds:Kinds n l
 far:Far l
 len:l.length≤40
 low: ∀ x∈l,x.2<16777216
def ApartR (w w':World) (n:Nat) (e:Ending):Prop :=
 ∃(l:List YX) (A:Option Addr) (cap:Nat),e= .returned (.slice A l.length cap)∧ZR Wh 2 w' w.heap.size 82 (.slice A l.length cap) l∧Apt n l∧Below w.heap.size w w'
theorem and_1R (n:Int):bits .and .i64 n 1=n % 2:=Xw n 1 (by omega)
theorem and_24 (n:Int):bits .and .i64 n 16777215=n % 16777216:=Xw n 24 (by omega)
def UP (x:YX) (out:List YX) (k:Nat):Prop:= ∀ i (h:i<out.length),i<k→x.2+Yb x.1≤out[i].2∨out[i].2+Yb out[i].1≤x.2
def OkS (n:Nat) (x:YX) (out:List YX) (k:Nat):Prop:=x.2+Yb x.1≤n∧UP x out k
theorem Zch (n:Nat) (x:YX) (out:List YX) {k:Nat} (hk:k<out.length):(OkS n x out k∧(x.2+Yb x.1≤out[k].2∨out[k].2+Yb out[k].1≤x.2))↔OkS n x out (k+1):=by
 unfold OkS UP
 constructor
 ·rintro⟨⟨h1,h2⟩,h3⟩
  refine⟨h1,fun i hi hik=> ?_⟩
  by_cases e:i=k
  ·subst e; exact h3
  ·exact h2 i hi (by omega)
 ·rintro⟨h1,h2⟩
  exact⟨⟨h1,fun i hi hik=>h2 i hi (by omega)⟩,h2 k hk (by omega)⟩
theorem Apt.add {n:Nat} {out:List YX} {x:YX} (h:Apt n out) (hk:x.1=3∨x.1=10) (h0:0≤x.2) (h1:x.2<16777216) (hn:x.2+Yb x.1≤n) (hf:UP x out out.length) (hl:out.length<40):Apt n (out++[x]):=by
 refine⟨fun y hy=> ?_,?_,by simp; omega,fun y hy=> ?_⟩
 ·rcases List.mem_append.1 hy with hy|hy
  ·exact h.kinds y hy
  ·rw[List.mem_singleton] at hy; subst hy; exact⟨hk,h0,hn⟩
 ·unfold Far
  rw[List.pairwise_append]
  refine⟨h.far,by simp,fun y hy z hz=> ?_⟩
  rw[List.mem_singleton] at hz
  subst hz
  obtain⟨i,hi,rfl⟩:=List.mem_iff_getElem.1 hy
  have:=hf i hi hi
  omega
 ·rcases List.mem_append.1 hy with hy|hy
  ·exact h.low y hy
  ·rw[List.mem_singleton] at hy; subst hy; exact h1
set_option maxRecDepth 100000 in
set_option maxHeartbeats 4000000 in
theorem Ze3 (L:Option Addr) (l:List YX) (lc n:Nat) (w:World) (hL:SlT Wh 2 w L l) (hll:l.length≤9223372036854775807) (h0:0<n) (hn:n≤1000000) :
 Calls Tryz.prog 30 #[.slice L l.length lc,.int .i64 n] w fun e w'=>ApartR w w' n e:=by
 have HLS:=Zg hL
 clear hL
 go_enter Tryz.func30,Tryz.ntmps30
 go_wp2_with fail
 go_loopw [5,6] (fun v5 v6 wr=> ∃(i:Nat) (out:List YX) (A:Option Addr) (cap:Nat),i≤40∧i≤l.length∧out.length≤i∧v6= .int .i64 i∧v5= .slice A out.length cap∧ZR Wh 2 wr w.heap.size 82 (.slice A out.length cap) out∧Apt n out∧Below w.heap.size w wr) (fun _ v6 _=>40 - (intOf v6).toNat)
 case atStart=>exact⟨0,[],none,0,by omega,by omega,by simp,rfl,rfl,ZR.nil _ _ _,⟨fun x hx=>by simp at hx,by simp[Far],by simp,fun x hx=>by simp at hx⟩,Below.refl _ _⟩
 case round =>
  obtain⟨i,out,A,cap,hi,hil,hol,rfl,rfl,how,hapt,hbe⟩:=hrel
  obtain⟨wo,rfl⟩: ∃ wo:World,wo=wr:=⟨_,rfl⟩
  have HOW:=Zg how
  have HAPT:=Zg hapt
  have HBE:=Zg hbe
  clear how hapt hbe
  by_cases hlt:i<l.length
  ·by_cases hlt40:i<40
   ·have hlt3:(i:Int)<40:=by omega
    obtain⟨b,off,rfl,hbl2,q0,q1⟩:=(HLS.out.below HBE.out).site hlt
    obtain⟨x,hx⟩: ∃ x,l[i]=x:=⟨_,rfl⟩
    rw[hx] at q0 q1
    clear hx
    obtain⟨kd,rv⟩:=x
    simp only at q0 q1
    have ha:=and_1R kd
    have hb:=and_24 rv
    obtain⟨R,hR⟩: ∃ R:Nat,(rv % 16777216) % (n:Int)=R:=⟨((rv % 16777216) % (n:Int)).toNat,by have:=Int.emod_nonneg (rv % 16777216) (show(n:Int)≠0 by omega); omega⟩
    have hRn:R<n:=by have:=Int.emod_lt_of_pos (rv % 16777216) (show(0:Int)<n by omega); omega
    have hRl:R<16777216:=by
     omega
    have hz:(0:Int)≤(i:Int):=by omega
    have hzl:(i:Int)<(l.length:Int):=by omega
    have hm0:0≤rv % 16777216:=by omega
    have hmt:Int.tmod (rv % 16777216) (n:Int)=R:=by rw[Int.tmod_eq_emod_of_nonneg hm0,hR]
    rcases(by omega:kd % 2=0∨kd % 2=1) with hk|hk
    ·rw[hk] at ha
     go_upto_region 5 with fail
     go_cut [7] from 22 to 39 (fun v7 wx=> ∃ bx,v7= .pointer (some ⟨bx,0,none⟩)∧Own wx bx 2 (fun j=>if j=0 then .int .i64 3 else .int .i64 (R:Int))∧wo.heap.size≤bx∧Below wo.heap.size wo wx)
     case first =>
      go_region
      all_goals go_wp2_with fail
      all_goals go_meet
      ·case rel=>exact⟨wo.heap.size+1,rfl,by have h:=Wb (wo.alloc (.cells #[.int .i64 3,.int .i64 10] 3)) (.int .i64 3) (.int .i64 (R:Int)) 82; rw[show(wo.alloc (.cells #[.int .i64 3,.int .i64 10] 3)).heap.size=wo.heap.size+1 by simp] at h; exact h,by omega,(((Below.refl wo.heap.size wo).alloc (Nat.le_refl _) _).alloc (by simp) _).drew⟩
      ·case rel=>exact⟨wo.heap.size,rfl,(Wb wo (.int .i64 3) (.int .i64 (R:Int)) 82).alloc _,by omega,(((Below.refl wo.heap.size wo).alloc (Nat.le_refl _) _).alloc (by simp) _).drew⟩
     case rest =>
      obtain⟨bx,rfl,hbx,hge,hbw⟩:=hcut
      have HBX:=Zg hbx
      have HBW:=Zg hbw
      have r0:=hbx.cell (i:=0) (by omega)
      have r1:=hbx.cell (i:=1) (by omega)
      simp only[if_pos,if_neg,Nat.one_ne_zero] at r0 r1
      have q0':=(hbw.cell (p:=⟨b,off+i * 2,none⟩) hbl2).trans q0
      have hbl3:b<wc.heap.size:=Nat.lt_of_lt_of_le hbl2 hbw.size
      have hbx3:bx<wc.heap.size:=hbx.1
      clear q0 q1 hbx hbw
      go_upto_region 8 with fail
      have HBX2:=Zg (HBX.out.alloc (.cells #[.int .i64 4,.int .i64 8] 3))
      have HBW2:=Zg (HBW.out.alloc (HBW.out.size) (.cells #[.int .i64 4,.int .i64 8] 3))
      generalize wc.alloc (.cells #[.int .i64 4,.int .i64 8] 3)=W2 at *
      obtain⟨ok0,hok0⟩: ∃ ok0,decide ((R:Int)+4≤n)=ok0:=⟨_,rfl⟩
      rw[hok0]
      have HK0:=Zg (show ok0=true↔OkS n (3,R) out 0 from by
       rw[←hok0]
       unfold OkS UP
       simp[Yb])
      clear r0 r1 q0' hbl3 hbx3 HBX HBW ha hb hR hz hzl hm0 hmt hok0 hk
      go_wp2_with fail
      go_loopw [9,10] (fun v9 v10 wr=> ∃(k:Nat) (ok:Bool),k≤out.length∧v10= .int .i64 k∧v9= .bool ok∧(ok=true↔OkS n (3,R) out k)∧ ∃ d,wr=W2.drewN d) (fun _ v10 _=>out.length - (intOf v10).toNat)
      case atStart=>exact⟨0,ok0,by omega,rfl,rfl,HK0.out,0,rfl⟩
      case round =>
       obtain⟨k,ok,hk,rfl,rfl,hok,hd⟩:=hrel
       have HOK:=Zg hok
       have HD:=Zg hd
       have hbx:=(show Own wr bx 2 (fun j=>if j=0 then .int .i64 3 else .int .i64 (R:Int)) by obtain⟨d,rfl⟩:=hd; exact HBX2.out)
       have r0:=hbx.cell (i:=0) (by omega)
       have r1:=hbx.cell (i:=1) (by omega)
       simp only[if_pos,if_neg,Nat.one_ne_zero] at r0 r1
       have HBR:=Zg (show Below wo.heap.size wo wr by obtain⟨d,rfl⟩:=hd; exact belD HBW2.out d)
       clear hok hd hbx HK0
       by_cases hlt2:k<out.length
       ·obtain⟨b2,off2,rfl,hbl5,s0,s1⟩:=((HOW.out.sl Xh).below HBR.out).site hlt2
        have hky:=HAPT.out.kinds out[k] (List.getElem_mem hlt2)
        have HST:=Zg (Zch n (3,R) out hlt2)
        obtain⟨y,hy⟩: ∃ y,out[k]=y:=⟨_,rfl⟩
        rw[hy] at s0 s1 hky HST
        clear hy
        obtain⟨k2,r2⟩:=y
        simp only at s0 s1 hky
        obtain⟨hk2,hr20,hr21⟩:=hky
        have hz:(0:Int)≤(k:Int):=by omega
        have hzl:(k:Int)<(out.length:Int):=by omega
        have hl40:out.length≤40:=by omega
        have hlb:=WD k2
        have hr22:r2≤1000000:=by omega
        obtain⟨ok2,hok2⟩: ∃ ok2:Bool,ok2=(ok&&(decide ((R:Int)+4≤r2)||decide (r2+Yb k2≤(R:Int)))):=⟨_,rfl⟩
        have HO2:=Zg (show ok2=true↔OkS n (3,R) out (k+1) from by
         rw[hok2,Bool.and_eq_true,Bool.or_eq_true,decide_eq_true_eq,decide_eq_true_eq,←HST.out,HOK.out]
         exact Iff.rfl)
        clear HST hlb hr21
        rcases hk2 with rfl|rfl
        all_goals
         simp only[show Yb 3=4 from rfl,show Yb 10=8 from rfl] at hok2
         cases ok with
         | false =>
           rw[Bool.false_and] at hok2
           subst hok2
           go_wp2_with fail
           go_quiet (fail)
           go_wp2_with fail
           go_roundw
           case rel=>exact⟨k+1,false,by omega,by go_num,rfl,(by first|exact HO2.out|simpa using HO2.out),by obtain⟨d,rfl⟩:=HD.out; exact⟨_,by rw[World.drewN_drewN]⟩⟩
           case measure=>simp[intOf]; omega
         | true =>
           by_cases cA:(R:Int)+4≤r2
           ·have eA:=decide_eq_true cA
            rw[eA,Bool.true_or,Bool.true_and] at hok2
            subst hok2
            go_wp2_with fail
            go_quiet (fail)
            go_wp2_with fail
            go_roundw
            case rel=>exact⟨k+1,true,by omega,by go_num,rfl,(by first|exact HO2.out|simpa using HO2.out),by obtain⟨d,rfl⟩:=HD.out; exact⟨_,by rw[World.drewN_drewN]⟩⟩
            case measure=>simp[intOf]; omega
           ·have eA:=decide_eq_false cA
            rw[eA,Bool.false_or,Bool.true_and] at hok2
            subst hok2
            go_wp2_with fail
            go_quiet (fail)
            go_wp2_with fail
            go_roundw
            case rel=>exact⟨k+1,_,by omega,by go_num,rfl,(by first|exact HO2.out|simpa using HO2.out),by obtain⟨d,rfl⟩:=HD.out; exact⟨_,by rw[World.drewN_drewN]⟩⟩
            case measure=>simp[intOf]; omega
       ·obtain rfl:k=out.length:=by omega
        have HOW2:=Zg (HOW.out.below HBR.out)
        have hB:=Zg (HBE.out.trans (HBR.out.mono HBE.out.size))
        cases ok with
        | false =>
          go_wp2_with fail
          go_roundw
          case rel=>exact⟨i+1,out,A,cap,by omega,by omega,by omega,by go_num,rfl,HOW2.out,HAPT.out,hB.out⟩
          case measure=>simp[intOf]; omega
        | true =>
          have hoks:=HOK.out.1 rfl
          have HA2:=Zg (HAPT.out.add (x:=(3,R)) (by simp) (by simp) (by simp; omega) hoks.1 hoks.2 (by omega))
          have HX:=Zg (Wb wr (.int .i64 3) (.int .i64 (R:Int)) 82)
          have HOW3:=Zg (HOW2.out.alloc (.cells #[.int .i64 3,.int .i64 (R:Int)] 82))
          have hbase:=Zg hB.out.size
          have hl40:out.length≤40:=by omega
          clear hoks
          go_wp2_with (at_builtin; refine Zv rfl (.tmp 93) (.tmp 95) 29 rfl w.heap.size 82 (.agg #[.int .i64 0,.int .i64 0]) 16 (by kernel_rfl) UV rfl (by omega) Xh VI _ out rfl HOW3.out wr.heap.size 1 rfl (3,(R:Int)) ?ca (by unfold maxLen; omega) (by omega) (by have:=hbase.out; simp; omega) ?_; rotate_left; intro g' cap2 w3 hown3 hg3 hat3)
          case ca =>
           intro j u hu
           exact hu
          have HO4:=Zg hown3
          have HB4:=Zg (HOW3.out.grew (hB.out.alloc (by have:=hB.out.size; omega) (.cells #[.int .i64 3,.int .i64 (R:Int)] 82)) (Nat.le_refl _) (by have:=hB.out.size; simp; omega) hg3)
          clear hown3 hg3 hat3
          go_roundw
          case rel=>exact⟨i+1,out++[(3,(R:Int))],some ⟨g',0,none⟩,cap2,by omega,by omega,by simp; omega,by go_num,by simp,by rw[List.length_append]; exact HO4.out,HA2.out,HB4.out⟩
          case measure=>simp[intOf]; omega
    ·rw[hk] at ha
     go_upto_region 5 with fail
     go_cut [7] from 22 to 39 (fun v7 wx=> ∃ bx,v7= .pointer (some ⟨bx,0,none⟩)∧Own wx bx 2 (fun j=>if j=0 then .int .i64 10 else .int .i64 (R:Int))∧wo.heap.size≤bx∧Below wo.heap.size wo wx)
     case first =>
      go_region
      all_goals go_wp2_with fail
      all_goals go_meet
      ·case rel=>exact⟨wo.heap.size+1,rfl,by have h:=Wb (wo.alloc (.cells #[.int .i64 3,.int .i64 10] 3)) (.int .i64 10) (.int .i64 (R:Int)) 82; rw[show(wo.alloc (.cells #[.int .i64 3,.int .i64 10] 3)).heap.size=wo.heap.size+1 by simp] at h; exact h,by omega,(((Below.refl wo.heap.size wo).alloc (Nat.le_refl _) _).alloc (by simp) _).drew⟩
      ·case rel=>exact⟨wo.heap.size,rfl,(Wb wo (.int .i64 10) (.int .i64 (R:Int)) 82).alloc _,by omega,(((Below.refl wo.heap.size wo).alloc (Nat.le_refl _) _).alloc (by simp) _).drew⟩
     case rest =>
      obtain⟨bx,rfl,hbx,hge,hbw⟩:=hcut
      have HBX:=Zg hbx
      have HBW:=Zg hbw
      have r0:=hbx.cell (i:=0) (by omega)
      have r1:=hbx.cell (i:=1) (by omega)
      simp only[if_pos,if_neg,Nat.one_ne_zero] at r0 r1
      have q0':=(hbw.cell (p:=⟨b,off+i * 2,none⟩) hbl2).trans q0
      have hbl3:b<wc.heap.size:=Nat.lt_of_lt_of_le hbl2 hbw.size
      have hbx3:bx<wc.heap.size:=hbx.1
      clear q0 q1 hbx hbw
      go_upto_region 8 with fail
      have HBX2:=Zg (HBX.out.alloc (.cells #[.int .i64 4,.int .i64 8] 3))
      have HBW2:=Zg (HBW.out.alloc (HBW.out.size) (.cells #[.int .i64 4,.int .i64 8] 3))
      generalize wc.alloc (.cells #[.int .i64 4,.int .i64 8] 3)=W2 at *
      obtain⟨ok0,hok0⟩: ∃ ok0,decide ((R:Int)+8≤n)=ok0:=⟨_,rfl⟩
      rw[hok0]
      have HK0:=Zg (show ok0=true↔OkS n (10,R) out 0 from by
       rw[←hok0]
       unfold OkS UP
       simp[Yb])
      clear r0 r1 q0' hbl3 hbx3 HBX HBW ha hb hR hz hzl hm0 hmt hok0 hk
      go_wp2_with fail
      go_loopw [9,10] (fun v9 v10 wr=> ∃(k:Nat) (ok:Bool),k≤out.length∧v10= .int .i64 k∧v9= .bool ok∧(ok=true↔OkS n (10,R) out k)∧ ∃ d,wr=W2.drewN d) (fun _ v10 _=>out.length - (intOf v10).toNat)
      case atStart=>exact⟨0,ok0,by omega,rfl,rfl,HK0.out,0,rfl⟩
      case round =>
       obtain⟨k,ok,hk,rfl,rfl,hok,hd⟩:=hrel
       have HOK:=Zg hok
       have HD:=Zg hd
       have hbx:=(show Own wr bx 2 (fun j=>if j=0 then .int .i64 10 else .int .i64 (R:Int)) by obtain⟨d,rfl⟩:=hd; exact HBX2.out)
       have r0:=hbx.cell (i:=0) (by omega)
       have r1:=hbx.cell (i:=1) (by omega)
       simp only[if_pos,if_neg,Nat.one_ne_zero] at r0 r1
       have HBR:=Zg (show Below wo.heap.size wo wr by obtain⟨d,rfl⟩:=hd; exact belD HBW2.out d)
       clear hok hd hbx HK0
       by_cases hlt2:k<out.length
       ·obtain⟨b2,off2,rfl,hbl5,s0,s1⟩:=((HOW.out.sl Xh).below HBR.out).site hlt2
        have hky:=HAPT.out.kinds out[k] (List.getElem_mem hlt2)
        have HST:=Zg (Zch n (10,R) out hlt2)
        obtain⟨y,hy⟩: ∃ y,out[k]=y:=⟨_,rfl⟩
        rw[hy] at s0 s1 hky HST
        clear hy
        obtain⟨k2,r2⟩:=y
        simp only at s0 s1 hky
        obtain⟨hk2,hr20,hr21⟩:=hky
        have hz:(0:Int)≤(k:Int):=by omega
        have hzl:(k:Int)<(out.length:Int):=by omega
        have hl40:out.length≤40:=by omega
        have hlb:=WD k2
        have hr22:r2≤1000000:=by omega
        obtain⟨ok2,hok2⟩: ∃ ok2:Bool,ok2=(ok&&(decide ((R:Int)+8≤r2)||decide (r2+Yb k2≤(R:Int)))):=⟨_,rfl⟩
        have HO2:=Zg (show ok2=true↔OkS n (10,R) out (k+1) from by
         rw[hok2,Bool.and_eq_true,Bool.or_eq_true,decide_eq_true_eq,decide_eq_true_eq,←HST.out,HOK.out]
         exact Iff.rfl)
        clear HST hlb hr21
        rcases hk2 with rfl|rfl
        all_goals
         simp only[show Yb 3=4 from rfl,show Yb 10=8 from rfl] at hok2
         cases ok with
         | false =>
           rw[Bool.false_and] at hok2
           subst hok2
           go_wp2_with fail
           go_quiet (fail)
           go_wp2_with fail
           go_roundw
           case rel=>exact⟨k+1,false,by omega,by go_num,rfl,(by first|exact HO2.out|simpa using HO2.out),by obtain⟨d,rfl⟩:=HD.out; exact⟨_,by rw[World.drewN_drewN]⟩⟩
           case measure=>simp[intOf]; omega
         | true =>
           by_cases cA:(R:Int)+8≤r2
           ·have eA:=decide_eq_true cA
            rw[eA,Bool.true_or,Bool.true_and] at hok2
            subst hok2
            go_wp2_with fail
            go_quiet (fail)
            go_wp2_with fail
            go_roundw
            case rel=>exact⟨k+1,true,by omega,by go_num,rfl,(by first|exact HO2.out|simpa using HO2.out),by obtain⟨d,rfl⟩:=HD.out; exact⟨_,by rw[World.drewN_drewN]⟩⟩
            case measure=>simp[intOf]; omega
           ·have eA:=decide_eq_false cA
            rw[eA,Bool.false_or,Bool.true_and] at hok2
            subst hok2
            go_wp2_with fail
            go_quiet (fail)
            go_wp2_with fail
            go_roundw
            case rel=>exact⟨k+1,_,by omega,by go_num,rfl,(by first|exact HO2.out|simpa using HO2.out),by obtain⟨d,rfl⟩:=HD.out; exact⟨_,by rw[World.drewN_drewN]⟩⟩
            case measure=>simp[intOf]; omega
       ·obtain rfl:k=out.length:=by omega
        have HOW2:=Zg (HOW.out.below HBR.out)
        have hB:=Zg (HBE.out.trans (HBR.out.mono HBE.out.size))
        cases ok with
        | false =>
          go_wp2_with fail
          go_roundw
          case rel=>exact⟨i+1,out,A,cap,by omega,by omega,by omega,by go_num,rfl,HOW2.out,HAPT.out,hB.out⟩
          case measure=>simp[intOf]; omega
        | true =>
          have hoks:=HOK.out.1 rfl
          have HA2:=Zg (HAPT.out.add (x:=(10,R)) (by simp) (by simp) (by simp; omega) hoks.1 hoks.2 (by omega))
          have HX:=Zg (Wb wr (.int .i64 10) (.int .i64 (R:Int)) 82)
          have HOW3:=Zg (HOW2.out.alloc (.cells #[.int .i64 10,.int .i64 (R:Int)] 82))
          have hbase:=Zg hB.out.size
          have hl40:out.length≤40:=by omega
          clear hoks
          go_wp2_with (at_builtin; refine Zv rfl (.tmp 93) (.tmp 95) 29 rfl w.heap.size 82 (.agg #[.int .i64 0,.int .i64 0]) 16 (by kernel_rfl) UV rfl (by omega) Xh VI _ out rfl HOW3.out wr.heap.size 1 rfl (10,(R:Int)) ?ca (by unfold maxLen; omega) (by omega) (by have:=hbase.out; simp; omega) ?_; rotate_left; intro g' cap2 w3 hown3 hg3 hat3)
          case ca =>
           intro j u hu
           exact hu
          have HO4:=Zg hown3
          have HB4:=Zg (HOW3.out.grew (hB.out.alloc (by have:=hB.out.size; omega) (.cells #[.int .i64 10,.int .i64 (R:Int)] 82)) (Nat.le_refl _) (by have:=hB.out.size; simp; omega) hg3)
          clear hown3 hg3 hat3
          go_roundw
          case rel=>exact⟨i+1,out++[(10,(R:Int))],some ⟨g',0,none⟩,cap2,by omega,by omega,by simp; omega,by go_num,by simp,by rw[List.length_append]; exact HO4.out,HA2.out,HB4.out⟩
          case measure=>simp[intOf]; omega
   ·obtain rfl:i=40:=by omega
    have hl40:40<l.length:=hlt
    clear hlt40 hlt
    go_wp2_with fail
    go_ret
    exact⟨out,A,cap,rfl,HOW.out,HAPT.out,HBE.out⟩
  ·obtain rfl:i=l.length:=by omega
   go_wp2_with fail
   go_ret
   exact⟨out,A,cap,rfl,HOW.out,HAPT.out,HBE.out⟩
theorem Zci (k:Int) (w:World):Calls Tryz.prog 95 #[.int .i64 k] w fun e w'=>e= .returned (.int .i64 (Yb k))∧w=w':=by
 by_cases h3:k=3
 ·subst h3
  go_enter Tryz.func95,Tryz.ntmps95
  go_wp2
  go_ret
  exact⟨rfl,rfl⟩
 ·by_cases h10:k=10
  ·subst h10
   go_enter Tryz.func95,Tryz.ntmps95
   go_wp2
   go_ret
   exact⟨rfl,rfl⟩
  ·have e:Yb k=0:=by unfold Yb; rw[if_neg h3,if_neg h10]
   have e3:(k == 3)=false:=by simpa using h3
   have e10:(k == 10)=false:=by simpa using h10
   rw[e]
   go_enter Tryz.func95,Tryz.ntmps95
   go_wp2
   go_ret
   exact⟨rfl,rfl⟩
theorem wide_q (k:Int) (w:World):Calls Tryz.prog 95 #[.int .i64 k] w fun e w'=>e= .returned (.int .i64 (Yb k))∧w'=w:=(Zci k w).mono fun e w' h=>⟨h.1,h.2.symm⟩
theorem Zi6 (S:ByteArray) (o n:Nat) (w:World) (hs:S.size≤1000000) (hn:n≤4) (h:o+n≤S.size) :
 Calls Tryz.prog 72 #[.string S,.int .i64 o,.int .i64 n] w fun e w'=>e= .returned (.int .i64 (rdF (PlainAid.bt S) o n))∧w'=w:=by
 have HR:=Zg (WW S o n w (by omega) (by omega) h)
 have hb:=ZS (PlainAid.bt S) (WA S) n o
 have hp:(256:Int) ^ n≤4294967296:=by
  rcases(by omega:n=0∨n=1∨n=2∨n=3∨n=4) with rfl|rfl|rfl|rfl|rfl <;> decide
 have h1:rdF (PlainAid.bt S) o n<4294967296:=by omega
 have h0:=hb.1
 clear hb hp
 generalize rdF (PlainAid.bt S) o n=x at *
 go_enter Tryz.func72,Tryz.ntmps72
 go_wp2_with (go_fit HR.out; rintro e u ⟨rfl,rfl⟩)
 go_ret
 exact⟨rfl,rfl⟩
def RelsR (w w':World) (r:Option (List YX)) (e:Ending):Prop :=
 (match r with
  | none=>e= .returned (.tuple #[.slice none 0 0,.int .i64 9])
  | some l=> ∃ A cap,e= .returned (.tuple #[.slice A l.length cap,.int .i64 0])∧SlT Wh 2 w' A l)∧Below w.heap.size w w'
def RelsO (w w':World) (r:Option (List YX)) (e:Ending):Prop :=
 (match r with
  | none=>e= .returned (.tuple #[.slice none 0 0,.int .i64 9])
  | some l=> ∃ A cap,e= .returned (.tuple #[.slice A l.length cap,.int .i64 0])∧ZR Wh 2 w' w.heap.size 82 (.slice A l.length cap) l∧l.length≤512)∧Below w.heap.size w w'
structure WG (w wr:World) (A:Option Addr) (cap:Nat) (l:List YX) (R Z:Int):Prop where
 own:ZR Wh 2 wr (w.heap.size+1) 82 (.slice A l.length cap) l
 dir:Own wr w.heap.size 2 (fun i=>if i=0 then .int .i64 R else .int .i64 Z)
 bel:Below w.heap.size w wr
 len:l.length≤512
 small: ∀ y∈l,-4611686018427387904≤y.2∧y.2≤4611686018427387904
theorem WG.below {w wr wr':World} {A:Option Addr} {cap:Nat} {l:List YX} {R Z:Int} (h:WG w wr A cap l R Z) (hb:Below wr.heap.size wr wr'):WG w wr' A cap l R Z :=
 ⟨h.own.below hb,h.dir.below hb h.dir.1,h.bel.trans (hb.mono h.bel.size),h.len,h.small⟩
theorem WG.drewN {w wr:World} {A:Option Addr} {cap:Nat} {l:List YX} {R Z:Int} (h:WG w wr A cap l R Z) (n:Nat):WG w (wr.drewN n) A cap l R Z:=h.below (belD (Below.refl _ _) n)
theorem Zcj {f:Nat→Int} {o e:Nat} (h:e<o+8∨rdF f o 4 % 4096≠0∨rdF f (o+4) 4<8∨rdF f (o+4) 4 % 4≠0∨(e:Int) - o<rdF f (o+4) 4):UN f o e=none:=by
 unfold UN
 by_cases c:e<o+8
 ·rw[if_pos c]
 ·rw[if_neg c,if_pos (by omega)]
theorem Ze4 {f:Nat→Int} {o e:Nat} (h: ¬ (e<o+8∨rdF f o 4 % 4096≠0∨rdF f (o+4) 4<8∨rdF f (o+4) 4 % 4≠0∨(e:Int) - o<rdF f (o+4) 4)):UN f o e=some (rdF f o 4,rdF f (o+4) 4):=by
 unfold UN
 rw[if_neg (by omega),if_neg (by omega)]
set_option maxRecDepth 100000 in
set_option maxHeartbeats 4000000 in
theorem Ze5 (S:ByteArray) (r s:Int) (w:World) (hs:S.size≤1000000)
 (r0: -9223372036854775808≤r) (r1:r≤9223372036854775807) (s0: -9223372036854775808≤s) (s1:s≤9223372036854775807) :
 Calls Tryz.prog 40 #[.string S,.agg #[.int .i64 r,.int .i64 s]] w fun e w'=>RelsO w w' (Uj S.size (PlainAid.bt S) r s) e:=by
 have H255:=Zg (WA S)
 have hint0:=fun(o k:Nat) (W:World) (hk:k≤4) (ho:o+k≤S.size)=>Zi6 S o k W hs hk ho
 obtain⟨f,hf⟩: ∃ f,PlainAid.bt S=f:=⟨_,rfl⟩
 rw[hf] at H255 hint0 ⊢
 have HINT:=Zg hint0
 clear hf hint0
 obtain⟨res,hres⟩: ∃ res,Uj S.size f r s=res:=⟨_,rfl⟩
 rw[hres]
 have HRS:=Zg hres
 clear hres
 have HB0:=Zg ((Below.refl w.heap.size w).alloc (Nat.le_refl _) (.cells #[.int .i64 r,.int .i64 s] 37))
 by_cases c0:r=0
 ·subst c0
  have h:=HRS.out
  unfold Uj at h
  rw[if_pos rfl] at h
  subst h
  go_enter Tryz.func40,Tryz.ntmps40
  go_wp2_with fail
  go_ret2
  exact⟨⟨none,0,rfl,ZR.nil _ _ _,by simp⟩,HB0.out⟩
 ·have e0:(r == 0)=false:=by simpa using c0
  by_cases c1:0≤r∧0≤s∧r≤S.size - s
  ·obtain⟨c1,c2,c3⟩:=c1
   obtain⟨R,rfl⟩: ∃ R:Nat,r=R:=⟨r.toNat,by omega⟩
   obtain⟨Z,rfl⟩: ∃ Z:Nat,s=Z:=⟨s.toNat,by omega⟩
   have HIN:=Zg (fun W:World=>Vl S.size R Z W (by omega) c1 c2 c3)
   have hsp:Ub S.size f (R+Z) (Z+1) R []=res:=by
    have h:=HRS.out
    unfold Uj at h
    rw[if_neg c0,if_neg (fun h=>h ⟨c1,c2,c3⟩)] at h
    simpa using h
   have HSP:=Zg hsp
   have HST:=Zg (show WG w (w.alloc (.cells #[.int .i64 R,.int .i64 Z] 37)) none 0 [] R Z from⟨ZR.nil _ _ _,Wb w (.int .i64 R) (.int .i64 Z) 37,HB0.out,by simp,fun y hy=>by simp at hy⟩)
   clear hsp HRS c0 r0 r1 s0 s1 HB0
   have hRZ:R+Z≤S.size:=by omega
   go_enter Tryz.func40,Tryz.ntmps40
   go_wp2_with (go_fit (HIN.out _); rintro e u ⟨rfl,rfl⟩)
   clear HIN e0 c1 c2 c3
   generalize w.alloc (.cells #[.int .i64 R,.int .i64 Z] 37)=w1 at HST ⊢
   go_loopw [6,7] (fun v6 v7 wr=> ∃(a F:Nat) (l:List YX) (A':Option Addr) (cap':Nat),a≤Z∧Z<a+F∧v7= .int .i64 a∧v6= .slice A' l.length cap'∧WG w wr A' cap' l R Z∧Ub S.size f (R+Z) F (R+a) l=res) (fun _ v7 _=>Z - (intOf v7).toNat)
   case atStart=>exact⟨0,Z+1,[],none,0,by omega,by omega,rfl,rfl,HST.out,HSP.out⟩
   case round =>
    obtain⟨a,F,l,A',cap',ha,hF,rfl,rfl,hst,hsp⟩:=hrel
    clear HST HSP
    have HST:=Zg hst
    have HSP:=Zg hsp
    have t0:=hst.dir.cell (i:=0) (by omega)
    have t1:=hst.dir.cell (i:=1) (by omega)
    simp only[if_pos,if_neg,Nat.one_ne_zero] at t0 t1
    clear hst hsp
    by_cases hlt:a<Z
    ·obtain⟨F,rfl⟩: ∃ F',F=F'+1:=⟨F - 1,by omega⟩
     have hsp:=HSP.out
     unfold Ub at hsp
     rw[if_neg (by omega)] at hsp
     by_cases c8:Z - a<8
     ·rw[Zcj (.inl (by omega))] at hsp
      simp only at hsp
      subst hsp
      have c8':(Z:Int) - a<8:=by omega
      go_wp2_with fail
      go_ret2
      exact⟨rfl,HST.out.bel⟩
     ·have c8':decide ((Z:Int) - a<8)=false:=decide_eq_false (by omega)
      have hp:=ZS f H255.out 4 (R+a)
      have hz:=ZS f H255.out 4 (R+a+4)
      have HI1:=HINT.out (R+a) 4
      have HI2:=HINT.out (R+a+4) 4
      have hyes: ¬ (rdF f (R+a) 4 % 4096≠0∨rdF f (R+a+4) 4<8∨rdF f (R+a+4) 4 % 4≠0∨(Z:Int) - a<rdF f (R+a+4) 4)→UN f (R+a) (R+Z)=some (rdF f (R+a) 4,rdF f (R+a+4) 4):=fun h=>Ze4 (by omega)
      have hno:(rdF f (R+a) 4 % 4096≠0∨rdF f (R+a+4) 4<8∨rdF f (R+a+4) 4 % 4≠0∨(Z:Int) - a<rdF f (R+a+4) 4)→UN f (R+a) (R+Z)=none:=fun h=>Zcj (by omega)
      obtain⟨p,hpp⟩: ∃ p,rdF f (R+a) 4=p:=⟨_,rfl⟩
      obtain⟨z,hzz⟩: ∃ z,rdF f (R+a+4) 4=z:=⟨_,rfl⟩
      rw[hpp] at hp HI1 hyes hno
      rw[hzz] at hz HI2 hyes hno
      rw[show((R+a:Nat):Int)=(R:Int)+a by omega] at HI1
      rw[show((R+a+4:Nat):Int)=(R:Int)+a+4 by omega] at HI2
      have HQ1:=Zg (fun W:World=>HI1 W (by omega) (by omega))
      have HQ2:=Zg (fun W:World=>HI2 W (by omega) (by omega))
      have HYES:=Zg hyes
      have HNO:=Zg hno
      have HSQ:=Zg hsp
      obtain⟨p0,p1⟩:=hp
      obtain⟨z0,z1⟩:=hz
      have p2:p<4294967296:=p1
      have z2:z<4294967296:=z1
      clear HI1 HI2 hyes hno hsp hpp hzz p1 z1 HSP c8
      go_wp2_with fail
      go_quiet ((first|(go_at_call 72; with_reducible exact Calls.quiet_of_same (HQ1.out _))|(go_at_call 72; with_reducible exact Calls.quiet_of_same (HQ2.out _))))
      have HSTB:=Zg (HST.out.drewN nq)
      have t0b:(wr.drewN nq).cell? _=_:=t0
      have t1b:(wr.drewN nq).cell? _=_:=t1
      clear t0 t1 HST HQ1 HQ2
      generalize wr.drewN nq=wb at *
      go_upto_region 11 with fail
      have HT1:=Zg (show p.tmod 4096=0↔p % 4096=0 by rw[←Int.dvd_iff_tmod_eq_zero,←Int.dvd_iff_emod_eq_zero])
      have HT2:=Zg (show z.tmod 4=0↔z % 4=0 by rw[←Int.dvd_iff_tmod_eq_zero,←Int.dvd_iff_emod_eq_zero])
      go_cut [67] from 26 to 149 (fun v wx=> ∃ bb:Bool,v= .bool bb∧(bb=true↔(p % 4096≠0∨z<8∨z % 4≠0∨(Z:Int) - a<z))∧wb=wx)
      case first =>
       clear HSQ HYES HNO HSTB
       go_wp2_with fail
       all_goals go_meet
       all_goals
        case rel =>
         refine⟨_,rfl,?_,rfl⟩
         have q1:=HT1.out
         have q2:=HT2.out
         simp_all <;> omega
      case rest =>
       obtain⟨bb,rfl,hbb,hw⟩:=hcut
       subst hw
       cases bb with
       | true =>
         have hsq:=HSQ.out
         rw[HNO.out (hbb.1 rfl)] at hsq
         simp only at hsq
         subst hsq
         clear hbb t0b t1b
         go_wp2_with fail
         go_ret2
         exact⟨rfl,HSTB.out.bel⟩
       | false =>
         have hok: ¬ (p % 4096≠0∨z<8∨z % 4≠0∨(Z:Int) - a<z):=fun h=>by have:=hbb.2 h; cases this
         have hsq:=HSQ.out
         rw[HYES.out hok] at hsq
         simp only at hsq
         obtain⟨K,rfl⟩: ∃ K:Nat,z=(8+2 * K:Nat):=⟨((z - 8) / 2).toNat,by omega⟩
         rw[show(((8+2 * K:Nat):Int).toNat - 8) / 2=K by omega,show((8+2 * K:Nat):Int).toNat=8+2 * K by omega] at hsq
         obtain⟨rr,hrr⟩: ∃ rr,Zjf S.size f p K (R+a+8) l=rr:=⟨_,rfl⟩
         rw[hrr] at hsq
         have HRR:=Zg hrr
         have HSR:=Zg hsq
         have hK:R+a+8+2 * K≤S.size:=by omega
         have hKZ:a+8+2 * K≤Z:=by omega
         clear hok hbb hsq hrr HSQ HYES HNO z0 z2 t0b t1b HT1 HT2
         go_wp2_with fail
         try simp only[Int.natCast_add,Int.natCast_mul,Int.cast_ofNat_Int]
         go_loopw [6,10] (fun v6 v10 wr=> ∃(q:Nat) (l:List YX) (A':Option Addr) (cap':Nat),q≤K∧v10= .int .i64 (8+2 * (q:Int))∧v6= .slice A' l.length cap'∧WG w wr A' cap' l R Z∧Zjf S.size f p (K - q) (R+a+8+2 * q) l=rr) (fun _ v10 _=>(8+2 * K) - (intOf v10).toNat)
         case atStart=>exact⟨0,l,A',cap',by omega,by simp,rfl,HSTB.out,HRR.out⟩
         case round =>
          clear HRR HSTB
          obtain⟨q,l,A',cap',hq,rfl,rfl,hst,hrs⟩:=hrel
          have HST:=Zg hst
          have HRS:=Zg hrs
          have t0:=hst.dir.cell (i:=0) (by omega)
          have t1:=hst.dir.cell (i:=1) (by omega)
          simp only[if_pos,if_neg,Nat.one_ne_zero] at t0 t1
          clear hst hrs
          by_cases hlq:q<K
          ·have hu:=HINT.out (R+a+8+2 * q) 2
           have hrs:=HRS.out
           obtain⟨D,hD⟩: ∃ D,K - q=D+1:=⟨K - q - 1,by omega⟩
           rw[hD] at hrs
           unfold Zjf Zfj at hrs
           have hv:=ZS f H255.out 2 (R+a+8+2 * q)
           obtain⟨v,hvv⟩: ∃ v,rdF f (R+a+8+2 * q) 2=v:=⟨_,rfl⟩
           rw[hvv] at hu hrs hv
           obtain⟨v0,v1⟩:=hv
           have v2:v<65536:=v1
           rw[show((R+a+8+2 * q:Nat):Int)=(R:Int)+a+(8+2 * (q:Int)) by omega] at hu
           have HU:=Zg (fun W:World=>(hu W (by omega) (by omega)).mono fun e w' h=>And.intro h.1 h.2.symm)
           have HRS2:=Zg hrs
           have hmm:=Zcv v
           have HD2:=Zg (show K - (q+1)=D by omega)
           have HRST:=Zg (HST.out.below ((Below.refl _ wr).alloc (Nat.le_refl _) (.cells #[.int .i64 (v / 4096),.int .i64 (p+v % 4096)] 82)))
           have hq64:0≤v / 4096:=by omega
           clear hu hrs hvv v1 hD HRS
           by_cases d0:v / 4096=0
           ·have hrs:=HRS2.out
            rw[if_pos d0] at hrs
            have HRS3:=Zg hrs
            have e0:(v / 4096 == 0)=true:=by simp[d0]
            clear hrs d0 HRS2
            go_wp2_with (go_fit (HU.out _); rintro e u ⟨rfl,rfl⟩)
            go_roundw
            case rel=>exact⟨q+1,l,A',cap',by omega,by go_num,rfl,HRST.out,by rw[HD2.out,show R+a+8+2 * (q+1)=R+a+8+2 * q+2 by omega]; exact HRS3.out⟩
            case measure=>simp[intOf]; omega
           ·have hrs:=HRS2.out
            rw[if_neg d0] at hrs
            have HRS3:=Zg hrs
            have e0:(v / 4096 == 0)=false:=by simpa using d0
            obtain⟨N,hN⟩: ∃ N:Nat,Yb (v / 4096)=N:=⟨(Yb (v / 4096)).toNat,by have:=WD (v / 4096); omega⟩
            have hw0:=fun W:World=>Zci (v / 4096) W
            have hlb:=WD (v / 4096)
            rw[hN] at hlb hw0
            have HW:=Zg hw0
            have HN:=Zg hN
            have HO0:=Zg (Wb wr (.int .i64 (v / 4096)) (.int .i64 (p+v % 4096)) 82)
            clear hrs d0 HRS2 hw0 hN
            go_upto_region 20 with(first|(go_fit (HU.out _); rintro e u ⟨rfl,rfl⟩)|(go_fit (HW.out _); rintro e u ⟨rfl,rfl⟩))
            have hxl:wr.heap.size<(wr.alloc (.cells #[.int .i64 (v / 4096),.int .i64 (p+v % 4096)] 82)).heap.size:=by simp
            have hxb:w.heap.size<wr.heap.size:=HST.out.dir.1
            clear HST HU HW t0 t1
            generalize wr.alloc (.cells #[.int .i64 (v / 4096),.int .i64 (p+v % 4096)] 82)=w2 at *
            generalize wr.heap.size=GX at *
            have x0:=HO0.out.cell (i:=0) (by omega)
            have x1:=HO0.out.cell (i:=1) (by omega)
            simp only[if_pos,if_neg,Nat.one_ne_zero] at x0 x1
            obtain⟨xx,hxx⟩: ∃ xx,p+v % 4096=xx:=⟨_,rfl⟩
            obtain⟨kk,hkk⟩: ∃ kk,v / 4096=kk:=⟨_,rfl⟩
            have hx0:0≤xx:=by omega
            have hx1:xx<4294971392:=by omega
            rw[hxx] at x1 HO0 HRS3
            rw[hkk] at x0 HO0 HN HRS3 e0 hq64
            clear hxx hkk hmm
            have hl512:=HRST.out.len
            go_cut [13,109] from 68 to 146 (fun v13 v wx=>v13= .int .i64 N∧ ∃ bb:Bool,v= .bool bb∧(bb=true↔ ¬ (N≠0∧xx+N≤S.size∧l.length<512))∧w2=wx)
            case first =>
             by_cases hin:xx+N≤S.size
             ·have HIN:=Zg (fun W:World=>Vl S.size xx N W (by omega) (by omega) (by omega) (by omega))
              go_wp2_with (go_fit (HIN.out _); rintro e u ⟨rfl,rfl⟩)
              all_goals go_meet
              all_goals
               case rel =>
                refine⟨by first|rfl|(congr 1; omega)|simp_all,_,rfl,?_,rfl⟩
                simp_all <;> omega
             ·have HIN:=Zg (fun W:World=>QU S.size xx N W (by omega) (by omega) (by omega))
              go_wp2_with (go_fit (HIN.out _); rintro e u ⟨rfl,rfl⟩)
              all_goals go_meet
              all_goals
               case rel =>
                refine⟨by first|rfl|(congr 1; omega)|simp_all,_,rfl,?_,rfl⟩
                simp_all <;> omega
            case rest =>
             obtain⟨rfl,bb,rfl,hbb,hw⟩:=hcut
             subst hw
             cases bb with
             | true =>
               have hn:rr=none:=by
                have h:=HRS3.out
                rw[if_neg (fun hs=>hbb.1 rfl ⟨by have:=hs.1; simp only[HN.out] at this; omega,by have:=hs.2.1; simp only[HN.out] at this; exact this,hs.2.2.1⟩)] at h
                exact h.symm
               have hsp:=HSR.out
               rw[hn] at hsp
               simp only at hsp
               subst hsp
               clear hbb x0 x1
               go_wp2_with fail
               go_ret2
               exact⟨rfl,HRST.out.bel⟩
             | false =>
               have hok:N≠0∧xx+N≤S.size∧l.length<512:=Classical.byContradiction (fun hx=>by have:=hbb.2 hx; cases this)
               obtain⟨k1,k2,k3⟩:=hok
               clear hbb
               go_wp2_with fail
               go_loopw [14] (fun v14 wr=> ∃ j:Nat,j≤l.length∧v14= .int .i64 j∧(∀ i (h:i<l.length),i<j→l[i].2+Yb l[i].1≤xx∨xx+N≤l[i].2)∧ ∃ d,wr=w2.drewN d) (fun v14 _=>l.length - (intOf v14).toNat)
               case atStart=>exact⟨0,by omega,rfl,fun i h hi=>by omega,0,rfl⟩
               case round =>
                obtain⟨j,hj,rfl,hfr,hd⟩:=hrel
                have HDD:=Zg hd
                have HFR:=Zg hfr
                have x0':wr.cell? ⟨GX,0,none⟩=some (.int .i64 kk):=by obtain⟨d,rfl⟩:=hd; exact x0
                have x1':wr.cell? ⟨GX,1,none⟩=some (.int .i64 xx):=by obtain⟨d,rfl⟩:=hd; exact x1
                have HRW:Hid (WG w wr A' cap' l R Z):=Zg (by obtain⟨d,rfl⟩:=hd; exact HRST.out.drewN d)
                have hgx:GX<wr.heap.size:=by obtain⟨d,rfl⟩:=hd; exact hxl
                clear hd hfr
                by_cases hlj:j<l.length
                ·obtain⟨b1,off1,rfl,hbl1,y0,y1⟩:=(HRW.out.own.sl Xh).site hlj
                 have HMEM:=Zg (List.getElem_mem hlj)
                 obtain⟨y,hy⟩: ∃ y,l[j]=y:=⟨_,rfl⟩
                 have HY:=Zg hy
                 rw[hy] at y0 y1 HMEM
                 clear hy
                 obtain⟨yk,yr⟩:=y
                 simp only at y0 y1
                 obtain⟨M,hM⟩: ∃ M,Yb yk=M:=⟨_,rfl⟩
                 have hMb:=WD yk
                 have hwq:=fun W:World=>wide_q yk W
                 rw[hM] at hMb hwq
                 have HWQ:=Zg hwq
                 have HM:=Zg hM
                 have hz:(0:Int)≤(j:Int):=by omega
                 have hzl:(j:Int)<(l.length:Int):=by omega
                 clear hwq hM x0'
                 by_cases gy: -4611686018427387904≤yr∧yr≤4611686018427387904
                 ·obtain⟨gy0,gy1⟩:=gy
                  by_cases g1:xx<yr+M
                  ·have g1':decide (xx<yr+M)=true:=decide_eq_true g1
                   by_cases g2:yr<xx+N
                   ·have g2':decide (yr<xx+(N:Int))=true:=decide_eq_true g2
                    have hn:rr=none:=by
                     have h:=HRS3.out
                     rw[if_neg (fun hs=>by have:=hs.2.2.2 _ HMEM.out; simp only[HM.out,HN.out] at this; omega)] at h
                     exact h.symm
                    have hsp:=HSR.out
                    rw[hn] at hsp
                    simp only at hsp
                    subst hsp
                    clear hn
                    go_wp2_with fail
                    go_quiet ((go_at_call 95; exact Calls.quiet_of_same (HWQ.out _)))
                    go_wp2_with fail
                    go_ret2
                    exact⟨rfl,belD HRW.out.bel _⟩
                   ·have g2':decide (yr<xx+(N:Int))=false:=decide_eq_false g2
                    go_wp2_with fail
                    go_quiet ((go_at_call 95; exact Calls.quiet_of_same (HWQ.out _)))
                    go_wp2_with fail
                    go_roundw
                    case rel=>exact⟨j+1,by omega,by go_num,fun i h hi=>by
                     by_cases e:i=j
                     ·subst e; rw[HY.out]; simp only[HM.out]; omega
                     ·exact HFR.out i h (by omega),by obtain⟨d,rfl⟩:=HDD.out; exact⟨_,by rw[World.drewN_drewN]⟩⟩
                    case measure=>simp[intOf]; omega
                  ·have g1':decide (xx<yr+M)=false:=decide_eq_false g1
                   go_wp2_with fail
                   go_quiet ((go_at_call 95; exact Calls.quiet_of_same (HWQ.out _)))
                   go_wp2_with fail
                   go_roundw
                   case rel=>exact⟨j+1,by omega,by go_num,fun i h hi=>by
                    by_cases e:i=j
                    ·subst e; rw[HY.out]; simp only[HM.out]; omega
                    ·exact HFR.out i h (by omega),by obtain⟨d,rfl⟩:=HDD.out; exact⟨_,by rw[World.drewN_drewN]⟩⟩
                   case measure=>simp[intOf]; omega
                 ·exact absurd (HRW.out.small _ HMEM.out) (by simp only; omega)
                ·obtain rfl:j=l.length:=by omega
                 have hrs:=HRS3.out
                 rw[if_pos ⟨by simp only[HN.out]; omega,by simp only[HN.out]; exact k2,k3,fun y hy=>by
                  obtain⟨i,hi,rfl⟩:=List.mem_iff_getElem.1 hy
                  have:=HFR.out i hi hi
                  simp only[HN.out]
                  omega⟩] at hrs
                 have HRS4:=Zg hrs
                 have HOW:=Zg (HRW.out.own.alloc (.cells #[.int .i64 kk,.int .i64 xx] 82))
                 have HRX:=Zg (HRW.out.below ((Below.refl _ wr).alloc (Nat.le_refl _) (.cells #[.int .i64 kk,.int .i64 xx] 82)))
                 have HO3:=Zg (Wb wr (.int .i64 kk) (.int .i64 xx) 82)
                 have hdl:=HRW.out.dir.1
                 have HS1:=Zg (show(wr.alloc (.cells #[.int .i64 kk,.int .i64 xx] 82)).heap.size=wr.heap.size+1 by simp)
                 clear hrs hlj
                 go_wp2_with (at_builtin; refine Zv rfl (.tmp 143) (.tmp 145) 29 rfl (w.heap.size+1) 82 (.agg #[.int .i64 0,.int .i64 0]) 16 (by kernel_rfl) UV rfl (by omega) Xh VI _ l rfl HOW.out wr.heap.size 1 rfl (kk,xx) ?ca (by unfold maxLen; omega) (by omega) (by have:=HS1.out; omega) ?_; rotate_left; intro g' cap2 w3 hown3 hg3 hat3)
                 case ca =>
                  intro j u hu
                  have h:=HO3.out.cell (i:=j) (by have:=(List.getElem?_eq_some_iff.1 hu).1; simpa [Wh] using this)
                  rw[h]
                  rcases j with _|_|j
                  ·simpa [Wh] using hu
                  ·simpa [Wh] using hu
                  ·simp[Wh] at hu
                 have hb3:Below (w.heap.size+1) _ w3:=ZR.grew HOW.out (Below.refl _ _) (Nat.le_refl _) (by have:=HS1.out; omega) hg3
                 have HRN:Hid (WG w w3 (some ⟨g',0,none⟩) cap2 (l++[(kk,xx)]) R Z):=Zg ⟨by rw[List.length_append]; exact hown3,HRX.out.dir.below hb3 (by omega),HRX.out.bel.trans (hb3.mono (by omega)),by rw[List.length_append]; simp; omega,fun y hy=>by
                  rcases List.mem_append.1 hy with hy|hy
                  ·exact HRX.out.small y hy
                  ·rw[List.mem_singleton] at hy; subst hy; simp only; omega⟩
                 clear hown3 hg3 hat3 hb3
                 go_roundw
                 case rel=>exact⟨q+1,l++[(kk,xx)],_,cap2,by omega,by go_num,by simp,HRN.out,by rw[HD2.out,show R+a+8+2 * (q+1)=R+a+8+2 * q+2 by omega]; exact HRS4.out⟩
                 case measure=>simp[intOf]; omega
          ·obtain rfl:q=K:=by omega
           have hrs:=HRS.out
           rw[Nat.sub_self] at hrs
           unfold Zjf at hrs
           subst hrs
           have hsp:=HSR.out
           simp only at hsp
           have HSN:=Zg hsp
           clear hsp HSR hlq hq t0 t1
           go_wp2_with fail
           go_roundw
           case rel=>exact⟨a+(8+2 * q),F,l,A',cap',by omega,by omega,by go_num,rfl,HST.out,by rw[←Nat.add_assoc]; exact HSN.out⟩
           case measure=>simp[intOf]; omega
    ·obtain rfl:a=Z:=by omega
     obtain⟨F,rfl⟩: ∃ F',F=F'+1:=⟨F - 1,by omega⟩
     have hsp:=HSP.out
     unfold Ub at hsp
     rw[if_pos (Nat.le_refl _)] at hsp
     subst hsp
     go_wp2_with fail
     go_ret2
     exact⟨⟨A',cap',rfl,Joins.ownsRow_le HST.out.own (by omega),HST.out.len⟩,HST.out.bel⟩
  ·have HIN:=Zg (fun W:World=>QU S.size r s W (by omega) (by omega) c1)
   have h:=HRS.out
   unfold Uj at h
   rw[if_neg c0,if_pos c1] at h
   subst h
   clear c1
   go_enter Tryz.func40,Tryz.ntmps40
   go_wp2_with (go_fit (HIN.out _); rintro e u ⟨rfl,rfl⟩)
   go_ret2
   exact⟨rfl,HB0.out⟩
end Go.Proofs.YtplgdpjbkdagfaaGreat
