import Derived.Test.YtplgdpjbkdagfaaGreatZRelMade
import Derived.Deep.Cut
import Derived.Deep.CutRange
import Derived.Deep.RegionHeld3
import Derived.Deep.DrawnRows
import Derived.Deep.DeepFit
import Derived.Test.YtplgdpjbkdagfaaGreatZRNou
import Derived.Test.YtplgdpjbkdagfaaGreatZAwake1
import Derived.Test.YtplgdpjbkdagfaaGreatRefPut
import Derived.BigQuiet
namespace Go.Proofs.YtplgdpjbkdagfaaGreat
set_option maxHeartbeats 8000000
open Lib renaming hid→Zg
set_option maxRecDepth 100000
open Go.ChangeShapes Go.WideShapes Go.ChangeAt Go.RowKit
set_option linter.unusedVariables false
set_option linter.unusedSimpArgs false
structure Apt (n:Nat) (l:List YQ):Prop where
 kinds:Kinds n l
 far:Far l
 len:l.length<=40
 low: ∀ x∈l,x.2<16777216
def ApartR (w w':World) (n:Nat) (e:Ending):Prop :=
 ∃(l:List YQ) (A:Option Addr) (cap:Nat),e= .returned (.slice A l.length cap)/\ZJ Wk 2 w' w.heap.size 82 (.slice A l.length cap) l/\Apt n l/\Below w.heap.size w w'
theorem and_1R (n:Int):bits .and .i64 n 1=n % 2:=XI n 1 (by omega)
theorem and_24 (n:Int):bits .and .i64 n 16777215=n % 16777216:=XI n 24 (by omega)
def JD (x:YQ) (out:List YQ) (k:Nat):Prop:= ∀ i (h:i<out.length),i<k->x.2+ZK x.1<=out[i].2\/out[i].2+ZK out[i].1<=x.2
def OkS (n:Nat) (x:YQ) (out:List YQ) (k:Nat):Prop:=x.2+ZK x.1<=n/\JD x out k
theorem Zff (n:Nat) (x:YQ) (out:List YQ) {k:Nat} (hk:k<out.length):(OkS n x out k/\(x.2+ZK x.1<=out[k].2\/out[k].2+ZK out[k].1<=x.2))↔OkS n x out (k+1):=by
 unfold OkS JD;constructor
 ·rintro⟨⟨h1,h2⟩,h3⟩;refine⟨h1,fun i hi jD=> ?_⟩;by_cases e:i=k
  ·subst e; exact h3
  ·exact h2 i hi (by omega)
 ·rintro⟨h1,h2⟩;exact⟨⟨h1,fun i hi jD=>h2 i hi (by omega)⟩,h2 k hk (by omega)⟩
theorem Apt.add {n:Nat} {out:List YQ} {x:YQ} (h:Apt n out) (hk:x.1=3\/x.1=10) (h0:0<=x.2) (h1:x.2<16777216) (hn:x.2+ZK x.1<=n) (hf:JD x out out.length) (hl:out.length<40):Apt n (out++[x]):=by
 refine⟨fun y hy=> ?_,?_,by simp; omega,fun y hy=> ?_⟩
 ·rcases List.mem_append.1 hy with hy|hy
  ·exact h.kinds y hy
  ·rw[List.mem_singleton] at hy; subst hy; exact⟨hk,h0,hn⟩
 ·unfold Far;rw[List.pairwise_append];refine⟨h.far,by simp,fun y hy z hz=> ?_⟩;rw[List.mem_singleton] at hz;subst hz;obtain⟨i,hi,rfl⟩:=List.mem_iff_getElem.1 hy;have:=hf i hi hi;omega
 ·rcases List.mem_append.1 hy with hy|hy
  ·exact h.low y hy
  ·rw[List.mem_singleton] at hy; subst hy; exact h1
theorem Zi7 (L:Option Addr) (l:List YQ) (lc n:Nat) (w:World) (hL:SlT Wk 2 w L l) (iY:l.length<=9223372036854775807) (h0:0<n) (hn:n<=1000000) :
 Calls Tryz.prog 30 #[.slice L l.length lc,.int .i64 n] w fun e w'=>ApartR w w' n e:=by
 have vm:=Zg hL;clear hL;go_enter Tryz.func30,Tryz.ntmps30;go_wp2_with fail
 go_loopw [5,6] (fun v5 v6 wr=> ∃(i:Nat) (out:List YQ) (A:Option Addr) (cap:Nat),i<=40/\i<=l.length/\out.length<=i/\v6= .int .i64 i/\v5= .slice A out.length cap/\ZJ Wk 2 wr w.heap.size 82 (.slice A out.length cap) out/\Apt n out/\Below w.heap.size w wr) (fun _ v6 _=>40 - (intOf v6).toNat)
 case atStart=>exact⟨0,[],none,0,by omega,by omega,by simp,rfl,rfl,ZJ.nil _ _ _,⟨fun x hx=>by simp at hx,by simp[Far],by simp,fun x hx=>by simp at hx⟩,Below.refl _ _⟩
 case round =>
  obtain⟨i,out,A,cap,hi,mJ,PC,rfl,rfl,jK,mO,fO⟩:=hrel;obtain⟨wo,rfl⟩: ∃ wo:World,wo=wr:=⟨_,rfl⟩;have eH:=Zg jK;have lk:=Zg mO;have cp:=Zg fO;clear jK mO fO;by_cases af:i<l.length
  ·by_cases zR:i<40
   ·have sd:(i:Int)<40:=by omega
    obtain⟨b,off,rfl,qi,q0,q1⟩:=(vm.out.below cp.out).site af;obtain⟨x,hx⟩: ∃ x,l[i]=x:=⟨_,rfl⟩;rw[hx] at q0 q1;clear hx;obtain⟨kd,rv⟩:=x;simp only at q0 q1;have ha:=and_1R kd;have hb:=and_24 rv;obtain⟨R,hR⟩: ∃ R:Nat,(rv % 16777216) % (n:Int)=R:=⟨((rv % 16777216) % (n:Int)).toNat,by have:=Int.emod_nonneg (rv % 16777216) (show(n:Int)≠0 by omega); omega⟩;have Pv:R<n:=by have:=Int.emod_lt_of_pos (rv % 16777216) (show(0:Int)<n by omega); omega
    have Pw:R<16777216:=by
     omega
    have hz:(0:Int)<=(i:Int):=by omega
    have tQ:(i:Int)<(l.length:Int):=by omega
    have lP:0<=rv % 16777216:=by omega
    have B8:Int.tmod (rv % 16777216) (n:Int)=R:=by rw[Int.tmod_eq_emod_of_nonneg lP,hR]
    rcases(by omega:kd % 2=0\/kd % 2=1) with hk|hk
    ·rw[hk] at ha;go_upto_region 5 with fail
     go_cut [7] from 22 to 39 (fun v7 wx=> ∃ bx,v7= .pointer (some ⟨bx,0,none⟩)/\Own wx bx 2 (fun j=>if j=0 then .int .i64 3 else .int .i64 (R:Int))/\wo.heap.size<=bx/\Below wo.heap.size wo wx)
     case first =>
      go_region
      all_goals go_wp2_with fail
      all_goals go_meet
      ·case rel=>exact⟨wo.heap.size+1,rfl,by have h:=YY (wo.alloc (.cells #[.int .i64 3,.int .i64 10] 3)) (.int .i64 3) (.int .i64 (R:Int)) 82; rw[show(wo.alloc (.cells #[.int .i64 3,.int .i64 10] 3)).heap.size=wo.heap.size+1 by simp] at h; exact h,by omega,(((Below.refl wo.heap.size wo).alloc (Nat.le_refl _) _).alloc (by simp) _).drew⟩
      ·case rel=>exact⟨wo.heap.size,rfl,(YY wo (.int .i64 3) (.int .i64 (R:Int)) 82).alloc _,by omega,(((Below.refl wo.heap.size wo).alloc (Nat.le_refl _) _).alloc (by simp) _).drew⟩
     case rest =>
      obtain⟨bx,rfl,fI,gK,bZ⟩:=hcut;have eL:=Zg fI;have aw:=Zg bZ;have r0:=fI.cell (i:=0) (by omega);have r1:=fI.cell (i:=1) (by omega);simp only[if_pos,if_neg,Nat.one_ne_zero] at r0 r1;have xU:=(bZ.cell (p:=⟨b,off+i * 2,none⟩) qi).trans q0;have se:b<wc.heap.size:=Nat.lt_of_lt_of_le qi bZ.size;have vJ:bx<wc.heap.size:=fI.1;clear q0 q1 fI bZ;go_upto_region 8 with fail
      have vK:=Zg (eL.out.alloc (.cells #[.int .i64 4,.int .i64 8] 3));have vL:=Zg (aw.out.alloc (aw.out.size) (.cells #[.int .i64 4,.int .i64 8] 3));generalize wc.alloc (.cells #[.int .i64 4,.int .i64 8] 3)=W2 at *;obtain⟨sn,mS⟩: ∃ sn,decide ((R:Int)+4<=n)=sn:=⟨_,rfl⟩;rw[mS];have zQ:=Zg (show sn=true↔OkS n (3,R) out 0 from by
       rw[<-mS];unfold OkS JD;simp[ZK])
      clear r0 r1 xU se vJ eL aw ha hb hR hz tQ lP B8 mS hk;go_wp2_with fail
      go_loopw [9,10] (fun v9 v10 wr=> ∃(k:Nat) (ok:Bool),k<=out.length/\v10= .int .i64 k/\v9= .bool ok/\(ok=true↔OkS n (3,R) out k)/\ ∃ d,wr=W2.drewN d) (fun _ v10 _=>out.length - (intOf v10).toNat)
      case atStart=>exact⟨0,sn,by omega,rfl,rfl,zQ.out,0,rfl⟩
      case round =>
       obtain⟨k,ok,hk,rfl,rfl,ba,hd⟩:=hrel;have kI:=Zg ba;have HD:=Zg hd;have fI:=(show Own wr bx 2 (fun j=>if j=0 then .int .i64 3 else .int .i64 (R:Int)) by obtain⟨d,rfl⟩:=hd; exact vK.out);have r0:=fI.cell (i:=0) (by omega);have r1:=fI.cell (i:=1) (by omega);simp only[if_pos,if_neg,Nat.one_ne_zero] at r0 r1;have kL:=Zg (show Below wo.heap.size wo wr by obtain⟨d,rfl⟩:=hd; exact belD vL.out d);clear ba hd fI zQ;by_cases aB:k<out.length
       ·obtain⟨b2,jk,rfl,EU,s0,s1⟩:=((eH.out.sl XK).below kL.out).site aB;have vM:=lk.out.kinds out[k] (List.getElem_mem aB);have bF:=Zg (Zff n (3,R) out aB);obtain⟨y,hy⟩: ∃ y,out[k]=y:=⟨_,rfl⟩;rw[hy] at s0 s1 vM bF;clear hy;obtain⟨k2,r2⟩:=y;simp only at s0 s1 vM;obtain⟨ei,EV,vT⟩:=vM;have hz:(0:Int)<=(k:Int):=by omega
        have tQ:(k:Int)<(out.length:Int):=by omega
        have sf:out.length<=40:=by omega
        have fM:=Xy k2;have EN:r2<=1000000:=by omega
        obtain⟨vR,cP⟩: ∃ vR:Bool,vR=(ok&&(decide ((R:Int)+4<=r2)||decide (r2+ZK k2<=(R:Int)))):=⟨_,rfl⟩;have bQ:=Zg (show vR=true↔OkS n (3,R) out (k+1) from by
         rw[cP,Bool.and_eq_true,Bool.or_eq_true,decide_eq_true_eq,decide_eq_true_eq,<-bF.out,kI.out];exact Iff.rfl)
        clear bF fM vT;rcases ei with rfl|rfl;all_goals
         simp only[show ZK 3=4 from rfl,show ZK 10=8 from rfl] at cP;cases ok with
         | false =>
           rw[Bool.false_and] at cP;subst cP;go_wp2_with fail
           go_quiet (fail)
           go_wp2_with fail
           go_roundw
           case rel=>exact⟨k+1,false,by omega,by go_num,rfl,(by first|exact bQ.out|simpa using bQ.out),by obtain⟨d,rfl⟩:=HD.out; exact⟨_,by rw[World.drewN_drewN]⟩⟩
           case measure=>simp[intOf]; omega
         | true =>
           by_cases cA:(R:Int)+4<=r2
           ·have eA:=decide_eq_true cA;rw[eA,Bool.true_or,Bool.true_and] at cP;subst cP;go_wp2_with fail
            go_quiet (fail)
            go_wp2_with fail
            go_roundw
            case rel=>exact⟨k+1,true,by omega,by go_num,rfl,(by first|exact bQ.out|simpa using bQ.out),by obtain⟨d,rfl⟩:=HD.out; exact⟨_,by rw[World.drewN_drewN]⟩⟩
            case measure=>simp[intOf]; omega
           ·have eA:=decide_eq_false cA;rw[eA,Bool.false_or,Bool.true_and] at cP;subst cP;go_wp2_with fail
            go_quiet (fail)
            go_wp2_with fail
            go_roundw
            case rel=>exact⟨k+1,_,by omega,by go_num,rfl,(by first|exact bQ.out|simpa using bQ.out),by obtain⟨d,rfl⟩:=HD.out; exact⟨_,by rw[World.drewN_drewN]⟩⟩
            case measure=>simp[intOf]; omega
       ·obtain rfl:k=out.length:=by omega
        have dB:=Zg (eH.out.below kL.out);have hB:=Zg (cp.out.trans (kL.out.mono cp.out.size));cases ok with
        | false =>
          go_wp2_with fail
          go_roundw
          case rel=>exact⟨i+1,out,A,cap,by omega,by omega,by omega,by go_num,rfl,dB.out,lk.out,hB.out⟩
          case measure=>simp[intOf]; omega
        | true =>
          have mR:=kI.out.1 rfl;have oK:=Zg (lk.out.add (x:=(3,R)) (by simp) (by simp) (by simp; omega) mR.1 mR.2 (by omega));have HX:=Zg (YY wr (.int .i64 3) (.int .i64 (R:Int)) 82);have qf:=Zg (dB.out.alloc (.cells #[.int .i64 3,.int .i64 (R:Int)] 82));have aH:=Zg hB.out.size;have sf:out.length<=40:=by omega
          clear mR;go_wp2_with (at_builtin; refine Zq rfl (.tmp 93) (.tmp 95) 29 rfl w.heap.size 82 (.agg #[.int .i64 0,.int .i64 0]) 16 (by kernel_rfl) Za6 rfl (by omega) XK Jj _ out rfl qf.out wr.heap.size 1 rfl (3,(R:Int)) ?ca (by unfold maxLen; omega) (by omega) (by have:=aH.out; simp; omega) ?_; rotate_left; intro g' fD w3 aS eU fE)
          case ca =>
           intro j u hu;exact hu
          have bV:=Zg aS;have bH:=Zg (qf.out.grew (hB.out.alloc (by have:=hB.out.size; omega) (.cells #[.int .i64 3,.int .i64 (R:Int)] 82)) (Nat.le_refl _) (by have:=hB.out.size; simp; omega) eU);clear aS eU fE;go_roundw
          case rel=>exact⟨i+1,out++[(3,(R:Int))],some ⟨g',0,none⟩,fD,by omega,by omega,by simp; omega,by go_num,by simp,by rw[List.length_append]; exact bV.out,oK.out,bH.out⟩
          case measure=>simp[intOf]; omega
    ·rw[hk] at ha;go_upto_region 5 with fail
     go_cut [7] from 22 to 39 (fun v7 wx=> ∃ bx,v7= .pointer (some ⟨bx,0,none⟩)/\Own wx bx 2 (fun j=>if j=0 then .int .i64 10 else .int .i64 (R:Int))/\wo.heap.size<=bx/\Below wo.heap.size wo wx)
     case first =>
      go_region
      all_goals go_wp2_with fail
      all_goals go_meet
      ·case rel=>exact⟨wo.heap.size+1,rfl,by have h:=YY (wo.alloc (.cells #[.int .i64 3,.int .i64 10] 3)) (.int .i64 10) (.int .i64 (R:Int)) 82; rw[show(wo.alloc (.cells #[.int .i64 3,.int .i64 10] 3)).heap.size=wo.heap.size+1 by simp] at h; exact h,by omega,(((Below.refl wo.heap.size wo).alloc (Nat.le_refl _) _).alloc (by simp) _).drew⟩
      ·case rel=>exact⟨wo.heap.size,rfl,(YY wo (.int .i64 10) (.int .i64 (R:Int)) 82).alloc _,by omega,(((Below.refl wo.heap.size wo).alloc (Nat.le_refl _) _).alloc (by simp) _).drew⟩
     case rest =>
      obtain⟨bx,rfl,fI,gK,bZ⟩:=hcut;have eL:=Zg fI;have aw:=Zg bZ;have r0:=fI.cell (i:=0) (by omega);have r1:=fI.cell (i:=1) (by omega);simp only[if_pos,if_neg,Nat.one_ne_zero] at r0 r1;have xU:=(bZ.cell (p:=⟨b,off+i * 2,none⟩) qi).trans q0;have se:b<wc.heap.size:=Nat.lt_of_lt_of_le qi bZ.size;have vJ:bx<wc.heap.size:=fI.1;clear q0 q1 fI bZ;go_upto_region 8 with fail
      have vK:=Zg (eL.out.alloc (.cells #[.int .i64 4,.int .i64 8] 3));have vL:=Zg (aw.out.alloc (aw.out.size) (.cells #[.int .i64 4,.int .i64 8] 3));generalize wc.alloc (.cells #[.int .i64 4,.int .i64 8] 3)=W2 at *;obtain⟨sn,mS⟩: ∃ sn,decide ((R:Int)+8<=n)=sn:=⟨_,rfl⟩;rw[mS];have zQ:=Zg (show sn=true↔OkS n (10,R) out 0 from by
       rw[<-mS];unfold OkS JD;simp[ZK])
      clear r0 r1 xU se vJ eL aw ha hb hR hz tQ lP B8 mS hk;go_wp2_with fail
      go_loopw [9,10] (fun v9 v10 wr=> ∃(k:Nat) (ok:Bool),k<=out.length/\v10= .int .i64 k/\v9= .bool ok/\(ok=true↔OkS n (10,R) out k)/\ ∃ d,wr=W2.drewN d) (fun _ v10 _=>out.length - (intOf v10).toNat)
      case atStart=>exact⟨0,sn,by omega,rfl,rfl,zQ.out,0,rfl⟩
      case round =>
       obtain⟨k,ok,hk,rfl,rfl,ba,hd⟩:=hrel;have kI:=Zg ba;have HD:=Zg hd;have fI:=(show Own wr bx 2 (fun j=>if j=0 then .int .i64 10 else .int .i64 (R:Int)) by obtain⟨d,rfl⟩:=hd; exact vK.out);have r0:=fI.cell (i:=0) (by omega);have r1:=fI.cell (i:=1) (by omega);simp only[if_pos,if_neg,Nat.one_ne_zero] at r0 r1;have kL:=Zg (show Below wo.heap.size wo wr by obtain⟨d,rfl⟩:=hd; exact belD vL.out d);clear ba hd fI zQ;by_cases aB:k<out.length
       ·obtain⟨b2,jk,rfl,EU,s0,s1⟩:=((eH.out.sl XK).below kL.out).site aB;have vM:=lk.out.kinds out[k] (List.getElem_mem aB);have bF:=Zg (Zff n (10,R) out aB);obtain⟨y,hy⟩: ∃ y,out[k]=y:=⟨_,rfl⟩;rw[hy] at s0 s1 vM bF;clear hy;obtain⟨k2,r2⟩:=y;simp only at s0 s1 vM;obtain⟨ei,EV,vT⟩:=vM;have hz:(0:Int)<=(k:Int):=by omega
        have tQ:(k:Int)<(out.length:Int):=by omega
        have sf:out.length<=40:=by omega
        have fM:=Xy k2;have EN:r2<=1000000:=by omega
        obtain⟨vR,cP⟩: ∃ vR:Bool,vR=(ok&&(decide ((R:Int)+8<=r2)||decide (r2+ZK k2<=(R:Int)))):=⟨_,rfl⟩;have bQ:=Zg (show vR=true↔OkS n (10,R) out (k+1) from by
         rw[cP,Bool.and_eq_true,Bool.or_eq_true,decide_eq_true_eq,decide_eq_true_eq,<-bF.out,kI.out];exact Iff.rfl)
        clear bF fM vT;rcases ei with rfl|rfl;all_goals
         simp only[show ZK 3=4 from rfl,show ZK 10=8 from rfl] at cP;cases ok with
         | false =>
           rw[Bool.false_and] at cP;subst cP;go_wp2_with fail
           go_quiet (fail)
           go_wp2_with fail
           go_roundw
           case rel=>exact⟨k+1,false,by omega,by go_num,rfl,(by first|exact bQ.out|simpa using bQ.out),by obtain⟨d,rfl⟩:=HD.out; exact⟨_,by rw[World.drewN_drewN]⟩⟩
           case measure=>simp[intOf]; omega
         | true =>
           by_cases cA:(R:Int)+8<=r2
           ·have eA:=decide_eq_true cA;rw[eA,Bool.true_or,Bool.true_and] at cP;subst cP;go_wp2_with fail
            go_quiet (fail)
            go_wp2_with fail
            go_roundw
            case rel=>exact⟨k+1,true,by omega,by go_num,rfl,(by first|exact bQ.out|simpa using bQ.out),by obtain⟨d,rfl⟩:=HD.out; exact⟨_,by rw[World.drewN_drewN]⟩⟩
            case measure=>simp[intOf]; omega
           ·have eA:=decide_eq_false cA;rw[eA,Bool.false_or,Bool.true_and] at cP;subst cP;go_wp2_with fail
            go_quiet (fail)
            go_wp2_with fail
            go_roundw
            case rel=>exact⟨k+1,_,by omega,by go_num,rfl,(by first|exact bQ.out|simpa using bQ.out),by obtain⟨d,rfl⟩:=HD.out; exact⟨_,by rw[World.drewN_drewN]⟩⟩
            case measure=>simp[intOf]; omega
       ·obtain rfl:k=out.length:=by omega
        have dB:=Zg (eH.out.below kL.out);have hB:=Zg (cp.out.trans (kL.out.mono cp.out.size));cases ok with
        | false =>
          go_wp2_with fail
          go_roundw
          case rel=>exact⟨i+1,out,A,cap,by omega,by omega,by omega,by go_num,rfl,dB.out,lk.out,hB.out⟩
          case measure=>simp[intOf]; omega
        | true =>
          have mR:=kI.out.1 rfl;have oK:=Zg (lk.out.add (x:=(10,R)) (by simp) (by simp) (by simp; omega) mR.1 mR.2 (by omega));have HX:=Zg (YY wr (.int .i64 10) (.int .i64 (R:Int)) 82);have qf:=Zg (dB.out.alloc (.cells #[.int .i64 10,.int .i64 (R:Int)] 82));have aH:=Zg hB.out.size;have sf:out.length<=40:=by omega
          clear mR;go_wp2_with (at_builtin; refine Zq rfl (.tmp 93) (.tmp 95) 29 rfl w.heap.size 82 (.agg #[.int .i64 0,.int .i64 0]) 16 (by kernel_rfl) Za6 rfl (by omega) XK Jj _ out rfl qf.out wr.heap.size 1 rfl (10,(R:Int)) ?ca (by unfold maxLen; omega) (by omega) (by have:=aH.out; simp; omega) ?_; rotate_left; intro g' fD w3 aS eU fE)
          case ca =>
           intro j u hu;exact hu
          have bV:=Zg aS;have bH:=Zg (qf.out.grew (hB.out.alloc (by have:=hB.out.size; omega) (.cells #[.int .i64 10,.int .i64 (R:Int)] 82)) (Nat.le_refl _) (by have:=hB.out.size; simp; omega) eU);clear aS eU fE;go_roundw
          case rel=>exact⟨i+1,out++[(10,(R:Int))],some ⟨g',0,none⟩,fD,by omega,by omega,by simp; omega,by go_num,by simp,by rw[List.length_append]; exact bV.out,oK.out,bH.out⟩
          case measure=>simp[intOf]; omega
   ·obtain rfl:i=40:=by omega
    have sf:40<l.length:=af;clear zR af;go_wp2_with fail
    go_ret;exact⟨out,A,cap,rfl,eH.out,lk.out,cp.out⟩
  ·obtain rfl:i=l.length:=by omega
   go_wp2_with fail
   go_ret;exact⟨out,A,cap,rfl,eH.out,lk.out,cp.out⟩
theorem Zfg (k:Int) (w:World):Calls Tryz.prog 95 #[.int .i64 k] w fun e w'=>e= .returned (.int .i64 (ZK k))/\w=w':=by
 by_cases h3:k=3
 ·subst h3;go_enter Tryz.func95,Tryz.ntmps95;go_wp2
  go_ret;exact⟨rfl,rfl⟩
 ·by_cases oT:k=10
  ·subst oT;go_enter Tryz.func95,Tryz.ntmps95;go_wp2
   go_ret;exact⟨rfl,rfl⟩
  ·have e:ZK k=0:=by unfold ZK; rw[if_neg h3,if_neg oT]
   have e3:(k == 3)=false:=by simpa using h3
   have Px:(k == 10)=false:=by simpa using oT
   rw[e];go_enter Tryz.func95,Tryz.ntmps95;go_wp2
   go_ret;exact⟨rfl,rfl⟩
theorem wide_q (k:Int) (w:World):Calls Tryz.prog 95 #[.int .i64 k] w fun e w'=>e= .returned (.int .i64 (ZK k))/\w'=w:=(Zfg k w).mono fun e w' h=>⟨h.1,h.2.symm⟩
theorem Zn6 (S:ByteArray) (o n:Nat) (w:World) (hs:S.size<=1000000) (hn:n<=4) (h:o+n<=S.size) :
 Calls Tryz.prog 72 #[.string S,.int .i64 o,.int .i64 n] w fun e w'=>e= .returned (.int .i64 (rdF (PlainAid.bt S) o n))/\w'=w:=by
 have HR:=Zg (Vd S o n w (by omega) (by omega) h);have hb:=ZR (PlainAid.bt S) (Xx S) n o;have hp:(256:Int) ^ n<=4294967296:=by
  rcases(by omega:n=0\/n=1\/n=2\/n=3\/n=4) with rfl|rfl|rfl|rfl|rfl <;> decide
 have h1:rdF (PlainAid.bt S) o n<4294967296:=by omega
 have h0:=hb.1;clear hb hp;generalize rdF (PlainAid.bt S) o n=x at *;go_enter Tryz.func72,Tryz.ntmps72;go_wp2_with (go_fit HR.out; rintro e u ⟨rfl,rfl⟩)
 go_ret;exact⟨rfl,rfl⟩
def RelsR (w w':World) (r:Option (List YQ)) (e:Ending):Prop :=
 (match r with
  | none=>e= .returned (.tuple #[.slice none 0 0,.int .i64 9])
  | some l=> ∃ A cap,e= .returned (.tuple #[.slice A l.length cap,.int .i64 0])/\SlT Wk 2 w' A l)/\Below w.heap.size w w'
def RelsO (w w':World) (r:Option (List YQ)) (e:Ending):Prop :=
 (match r with
  | none=>e= .returned (.tuple #[.slice none 0 0,.int .i64 9])
  | some l=> ∃ A cap,e= .returned (.tuple #[.slice A l.length cap,.int .i64 0])/\ZJ Wk 2 w' w.heap.size 82 (.slice A l.length cap) l/\l.length<=512)/\Below w.heap.size w w'
structure WP (w wr:World) (A:Option Addr) (cap:Nat) (l:List YQ) (R Z:Int):Prop where
 own:ZJ Wk 2 wr (w.heap.size+1) 82 (.slice A l.length cap) l
 dir:Own wr w.heap.size 2 (fun i=>if i=0 then .int .i64 R else .int .i64 Z)
 bel:Below w.heap.size w wr
 len:l.length<=512
 small: ∀ y∈l,-4611686018427387904<=y.2/\y.2<=4611686018427387904
theorem WP.below {w wr vd:World} {A:Option Addr} {cap:Nat} {l:List YQ} {R Z:Int} (h:WP w wr A cap l R Z) (hb:Below wr.heap.size wr vd):WP w vd A cap l R Z :=
 ⟨h.own.below hb,h.dir.below hb h.dir.1,h.bel.trans (hb.mono h.bel.size),h.len,h.small⟩
theorem WP.drewN {w wr:World} {A:Option Addr} {cap:Nat} {l:List YQ} {R Z:Int} (h:WP w wr A cap l R Z) (n:Nat):WP w (wr.drewN n) A cap l R Z:=h.below (belD (Below.refl _ _) n)
theorem Zfh {f:Nat->Int} {o e:Nat} (h:e<o+8\/rdF f o 4 % 4096≠0\/rdF f (o+4) 4<8\/rdF f (o+4) 4 % 4≠0\/(e:Int) - o<rdF f (o+4) 4):XG f o e=none:=by
 unfold XG;by_cases c:e<o+8
 ·rw[if_pos c]
 ·rw[if_neg c,if_pos (by omega)]
theorem Zi8 {f:Nat->Int} {o e:Nat} (h: ¬ (e<o+8\/rdF f o 4 % 4096≠0\/rdF f (o+4) 4<8\/rdF f (o+4) 4 % 4≠0\/(e:Int) - o<rdF f (o+4) 4)):XG f o e=some (rdF f o 4,rdF f (o+4) 4):=by
 unfold XG;rw[if_neg (by omega),if_neg (by omega)]
theorem Zi9 (S:ByteArray) (r s:Int) (w:World) (hs:S.size<=1000000)
 (r0: -9223372036854775808<=r) (r1:r<=9223372036854775807) (s0: -9223372036854775808<=s) (s1:s<=9223372036854775807) :
 Calls Tryz.prog 40 #[.string S,.agg #[.int .i64 r,.int .i64 s]] w fun e w'=>RelsO w w' (YU S.size (PlainAid.bt S) r s) e:=by
 have bh:=Zg (Xx S);have qg:=fun(o k:Nat) (W:World) (hk:k<=4) (ho:o+k<=S.size)=>Zn6 S o k W hs hk ho;obtain⟨f,hf⟩: ∃ f,PlainAid.bt S=f:=⟨_,rfl⟩;rw[hf] at bh qg ⊢;have vN:=Zg qg;clear hf qg;obtain⟨res,ir⟩: ∃ res,YU S.size f r s=res:=⟨_,rfl⟩;rw[ir];have iW:=Zg ir;clear ir;have au:=Zg ((Below.refl w.heap.size w).alloc (Nat.le_refl _) (.cells #[.int .i64 r,.int .i64 s] 37));by_cases c0:r=0
 ·subst c0;have h:=iW.out;unfold YU at h;rw[if_pos rfl] at h;subst h;go_enter Tryz.func40,Tryz.ntmps40;go_wp2_with fail
  go_ret2;exact⟨⟨none,0,rfl,ZJ.nil _ _ _,by simp⟩,au.out⟩
 ·have e0:(r == 0)=false:=by simpa using c0
  by_cases c1:0<=r/\0<=s/\r<=S.size - s
  ·obtain⟨c1,c2,c3⟩:=c1;obtain⟨R,rfl⟩: ∃ R:Nat,r=R:=⟨r.toNat,by omega⟩;obtain⟨Z,rfl⟩: ∃ Z:Nat,s=Z:=⟨s.toNat,by omega⟩;have ax:=Zg (fun W:World=>Vp S.size R Z W (by omega) c1 c2 c3);have aW:Xt S.size f (R+Z) (Z+1) R []=res:=by
    have h:=iW.out;unfold YU at h;rw[if_neg c0,if_neg (fun h=>h ⟨c1,c2,c3⟩)] at h;simpa using h
   have fX:=Zg aW;have bF:=Zg (show WP w (w.alloc (.cells #[.int .i64 R,.int .i64 Z] 37)) none 0 [] R Z from⟨ZJ.nil _ _ _,YY w (.int .i64 R) (.int .i64 Z) 37,au.out,by simp,fun y hy=>by simp at hy⟩);clear aW iW c0 r0 r1 s0 s1 au;have Py:R+Z<=S.size:=by omega
   go_enter Tryz.func40,Tryz.ntmps40;go_wp2_with (go_fit (ax.out _); rintro e u ⟨rfl,rfl⟩)
   clear ax e0 c1 c2 c3;generalize w.alloc (.cells #[.int .i64 R,.int .i64 Z] 37)=w1 at bF ⊢;go_loopw [6,7] (fun v6 v7 wr=> ∃(a F:Nat) (l:List YQ) (A':Option Addr) (aA:Nat),a<=Z/\Z<a+F/\v7= .int .i64 a/\v6= .slice A' l.length aA/\WP w wr A' aA l R Z/\Xt S.size f (R+Z) F (R+a) l=res) (fun _ v7 _=>Z - (intOf v7).toNat)
   case atStart=>exact⟨0,Z+1,[],none,0,by omega,by omega,rfl,rfl,bF.out,fX.out⟩
   case round =>
    obtain⟨a,F,l,A',aA,ha,hF,rfl,rfl,aQ,aW⟩:=hrel;clear bF fX;have bF:=Zg aQ;have fX:=Zg aW;have t0:=aQ.dir.cell (i:=0) (by omega);have t1:=aQ.dir.cell (i:=1) (by omega);simp only[if_pos,if_neg,Nat.one_ne_zero] at t0 t1;clear aQ aW;by_cases af:a<Z
    ·obtain⟨F,rfl⟩: ∃ F',F=F'+1:=⟨F - 1,by omega⟩;have aW:=fX.out;unfold Xt at aW;rw[if_neg (by omega)] at aW;by_cases c8:Z - a<8
     ·rw[Zfh (.inl (by omega))] at aW;simp only at aW;subst aW;have My:(Z:Int) - a<8:=by omega
      go_wp2_with fail
      go_ret2;exact⟨rfl,bF.out.bel⟩
     ·have My:decide ((Z:Int) - a<8)=false:=decide_eq_false (by omega);have hp:=ZR f bh.out 4 (R+a);have hz:=ZR f bh.out 4 (R+a+4);have Cn:=vN.out (R+a) 4;have Co:=vN.out (R+a+4) 4;have sg: ¬ (rdF f (R+a) 4 % 4096≠0\/rdF f (R+a+4) 4<8\/rdF f (R+a+4) 4 % 4≠0\/(Z:Int) - a<rdF f (R+a+4) 4)->XG f (R+a) (R+Z)=some (rdF f (R+a) 4,rdF f (R+a+4) 4):=fun h=>Zi8 (by omega);have mc:(rdF f (R+a) 4 % 4096≠0\/rdF f (R+a+4) 4<8\/rdF f (R+a+4) 4 % 4≠0\/(Z:Int) - a<rdF f (R+a+4) 4)->XG f (R+a) (R+Z)=none:=fun h=>Zfh (by omega);obtain⟨p,Cp⟩: ∃ p,rdF f (R+a) 4=p:=⟨_,rfl⟩;obtain⟨z,oo⟩: ∃ z,rdF f (R+a+4) 4=z:=⟨_,rfl⟩;rw[Cp] at hp Cn sg mc;rw[oo] at hz Co sg mc;rw[show((R+a:Nat):Int)=(R:Int)+a by omega] at Cn;rw[show((R+a+4:Nat):Int)=(R:Int)+a+4 by omega] at Co;have gM:=Zg (fun W:World=>Cn W (by omega) (by omega));have ka:=Zg (fun W:World=>Co W (by omega) (by omega));have vO:=Zg sg;have fh:=Zg mc;have nQ:=Zg aW;obtain⟨p0,p1⟩:=hp;obtain⟨z0,z1⟩:=hz;have p2:p<4294967296:=p1;have z2:z<4294967296:=z1;clear Cn Co sg mc aW Cp oo p1 z1 fX c8;go_wp2_with fail
      go_quiet ((first|(go_at_call 72; with_reducible exact Calls.quiet_of_same (gM.out _))|(go_at_call 72; with_reducible exact Calls.quiet_of_same (ka.out _))))
      have si:=Zg (bF.out.drewN nq);have Ir:(wr.drewN nq).cell? _=_:=t0;have It:(wr.drewN nq).cell? _=_:=t1;clear t0 t1 bF gM ka;generalize wr.drewN nq=wb at *;go_upto_region 11 with fail
      have fG:=Zg (show p.tmod 4096=0↔p % 4096=0 by rw[<-Int.dvd_iff_tmod_eq_zero,<-Int.dvd_iff_emod_eq_zero]);have gY:=Zg (show z.tmod 4=0↔z % 4=0 by rw[<-Int.dvd_iff_tmod_eq_zero,<-Int.dvd_iff_emod_eq_zero]);go_cut [67] from 26 to 149 (fun v wx=> ∃ bb:Bool,v= .bool bb/\(bb=true↔(p % 4096≠0\/z<8\/z % 4≠0\/(Z:Int) - a<z))/\wb=wx)
      case first =>
       clear nQ vO fh si;go_wp2_with fail
       all_goals go_meet
       all_goals
        case rel =>
         refine⟨_,rfl,?_,rfl⟩;have q1:=fG.out;have q2:=gY.out;simp_all <;> omega
      case rest =>
       obtain⟨bb,rfl,eM,hw⟩:=hcut;subst hw;cases bb with
       | true =>
         have ku:=nQ.out;rw[fh.out (eM.1 rfl)] at ku;simp only at ku;subst ku;clear eM Ir It;go_wp2_with fail
         go_ret2;exact⟨rfl,si.out.bel⟩
       | false =>
         have ba: ¬ (p % 4096≠0\/z<8\/z % 4≠0\/(Z:Int) - a<z):=fun h=>by have:=eM.2 h; cases this
         have ku:=nQ.out;rw[vO.out ba] at ku;simp only at ku;obtain⟨K,rfl⟩: ∃ K:Nat,z=(8+2 * K:Nat):=⟨((z - 8) / 2).toNat,by omega⟩;rw[show(((8+2 * K:Nat):Int).toNat - 8) / 2=K by omega,show((8+2 * K:Nat):Int).toNat=8+2 * K by omega] at ku;obtain⟨rr,aY⟩: ∃ rr,Zf1 S.size f p K (R+a+8) l=rr:=⟨_,rfl⟩;rw[aY] at ku;have cd:=Zg aY;have js:=Zg ku;have hK:R+a+8+2 * K<=S.size:=by omega
         have Pz:a+8+2 * K<=Z:=by omega
         clear ba eM ku aY nQ vO fh z0 z2 Ir It fG gY;go_wp2_with fail
         try simp only[Int.natCast_add,Int.natCast_mul,Int.cast_ofNat_Int]
         go_loopw [6,10] (fun v6 v10 wr=> ∃(q:Nat) (l:List YQ) (A':Option Addr) (aA:Nat),q<=K/\v10= .int .i64 (8+2 * (q:Int))/\v6= .slice A' l.length aA/\WP w wr A' aA l R Z/\Zf1 S.size f p (K - q) (R+a+8+2 * q) l=rr) (fun _ v10 _=>(8+2 * K) - (intOf v10).toNat)
         case atStart=>exact⟨0,l,A',aA,by omega,by simp,rfl,si.out,cd.out⟩
         case round =>
          clear cd si;obtain⟨q,l,A',aA,hq,rfl,rfl,aQ,dc⟩:=hrel;have bF:=Zg aQ;have iW:=Zg dc;have t0:=aQ.dir.cell (i:=0) (by omega);have t1:=aQ.dir.cell (i:=1) (by omega);simp only[if_pos,if_neg,Nat.one_ne_zero] at t0 t1;clear aQ dc;by_cases MB:q<K
          ·have hu:=vN.out (R+a+8+2 * q) 2;have dc:=iW.out;obtain⟨D,hD⟩: ∃ D,K - q=D+1:=⟨K - q - 1,by omega⟩;rw[hD] at dc;unfold Zf1 Zf0 at dc;have hv:=ZR f bh.out 2 (R+a+8+2 * q);obtain⟨v,fj⟩: ∃ v,rdF f (R+a+8+2 * q) 2=v:=⟨_,rfl⟩;rw[fj] at hu dc hv;obtain⟨v0,v1⟩:=hv;have v2:v<65536:=v1;rw[show((R+a+8+2 * q:Nat):Int)=(R:Int)+a+(8+2 * (q:Int)) by omega] at hu;have HU:=Zg (fun W:World=>(hu W (by omega) (by omega)).mono fun e w' h=>And.intro h.1 h.2.symm);have kb:=Zg dc;have np:=Za5 v;have kz:=Zg (show K - (q+1)=D by omega);have sj:=Zg (bF.out.below ((Below.refl _ wr).alloc (Nat.le_refl _) (.cells #[.int .i64 (v / 4096),.int .i64 (p+v % 4096)] 82)));have EO:0<=v / 4096:=by omega
           clear hu dc fj v1 hD iW;by_cases d0:v / 4096=0
           ·have dc:=kb.out;rw[if_pos d0] at dc;have gr:=Zg dc;have e0:(v / 4096 == 0)=true:=by simp[d0]
            clear dc d0 kb;go_wp2_with (go_fit (HU.out _); rintro e u ⟨rfl,rfl⟩)
            go_roundw
            case rel=>exact⟨q+1,l,A',aA,by omega,by go_num,rfl,sj.out,by rw[kz.out,show R+a+8+2 * (q+1)=R+a+8+2 * q+2 by omega]; exact gr.out⟩
            case measure=>simp[intOf]; omega
           ·have dc:=kb.out;rw[if_neg d0] at dc;have gr:=Zg dc;have e0:(v / 4096 == 0)=false:=by simpa using d0
            obtain⟨N,hN⟩: ∃ N:Nat,ZK (v / 4096)=N:=⟨(ZK (v / 4096)).toNat,by have:=Xy (v / 4096); omega⟩;have ve:=fun W:World=>Zfg (v / 4096) W;have fM:=Xy (v / 4096);rw[hN] at fM ve;have HW:=Zg ve;have HN:=Zg hN;have ft:=Zg (YY wr (.int .i64 (v / 4096)) (.int .i64 (p+v % 4096)) 82);clear dc d0 kb ve hN;go_upto_region 20 with(first|(go_fit (HU.out _); rintro e u ⟨rfl,rfl⟩)|(go_fit (HW.out _); rintro e u ⟨rfl,rfl⟩))
            have vx:wr.heap.size<(wr.alloc (.cells #[.int .i64 (v / 4096),.int .i64 (p+v % 4096)] 82)).heap.size:=by simp
            have rI:w.heap.size<wr.heap.size:=bF.out.dir.1;clear bF HU HW t0 t1;generalize wr.alloc (.cells #[.int .i64 (v / 4096),.int .i64 (p+v % 4096)] 82)=w2 at *;generalize wr.heap.size=GX at *;have x0:=ft.out.cell (i:=0) (by omega);have x1:=ft.out.cell (i:=1) (by omega);simp only[if_pos,if_neg,Nat.one_ne_zero] at x0 x1;obtain⟨xx,dW⟩: ∃ xx,p+v % 4096=xx:=⟨_,rfl⟩;obtain⟨kk,rF⟩: ∃ kk,v / 4096=kk:=⟨_,rfl⟩;have kA:0<=xx:=by omega
            have xv:xx<4294971392:=by omega
            rw[dW] at x1 ft gr;rw[rF] at x0 ft HN gr e0 EO;clear dW rF np;have qh:=sj.out.len;go_cut [13,109] from 68 to 146 (fun v13 v wx=>v13= .int .i64 N/\ ∃ bb:Bool,v= .bool bb/\(bb=true↔ ¬ (N≠0/\xx+N<=S.size/\l.length<512))/\w2=wx)
            case first =>
             by_cases aU:xx+N<=S.size
             ·have ax:=Zg (fun W:World=>Vp S.size xx N W (by omega) (by omega) (by omega) (by omega));go_wp2_with (go_fit (ax.out _); rintro e u ⟨rfl,rfl⟩)
              all_goals go_meet
              all_goals
               case rel =>
                refine⟨by first|rfl|(congr 1; omega)|simp_all,_,rfl,?_,rfl⟩;simp_all <;> omega
             ·have ax:=Zg (fun W:World=>Zby S.size xx N W (by omega) (by omega) (by omega));go_wp2_with (go_fit (ax.out _); rintro e u ⟨rfl,rfl⟩)
              all_goals go_meet
              all_goals
               case rel =>
                refine⟨by first|rfl|(congr 1; omega)|simp_all,_,rfl,?_,rfl⟩;simp_all <;> omega
            case rest =>
             obtain⟨rfl,bb,rfl,eM,hw⟩:=hcut;subst hw;cases bb with
             | true =>
               have hn:rr=none:=by
                have h:=gr.out;rw[if_neg (fun hs=>eM.1 rfl ⟨by have:=hs.1; simp only[HN.out] at this; omega,by have:=hs.2.1; simp only[HN.out] at this; exact this,hs.2.2.1⟩)] at h;exact h.symm
               have aW:=js.out;rw[hn] at aW;simp only at aW;subst aW;clear eM x0 x1;go_wp2_with fail
               go_ret2;exact⟨rfl,sj.out.bel⟩
             | false =>
               have ba:N≠0/\xx+N<=S.size/\l.length<512:=Classical.byContradiction (fun hx=>by have:=eM.2 hx; cases this);obtain⟨k1,k2,k3⟩:=ba;clear eM;go_wp2_with fail
               go_loopw [14] (fun rb wr=> ∃ j:Nat,j<=l.length/\rb= .int .i64 j/\(∀ i (h:i<l.length),i<j->l[i].2+ZK l[i].1<=xx\/xx+N<=l[i].2)/\ ∃ d,wr=w2.drewN d) (fun rb _=>l.length - (intOf rb).toNat)
               case atStart=>exact⟨0,by omega,rfl,fun i h hi=>by omega,0,rfl⟩
               case round =>
                obtain⟨j,hj,rfl,xQ,hd⟩:=hrel;have Iu:=Zg hd;have xO:=Zg xQ;have Mz:wr.cell? ⟨GX,0,none⟩=some (.int .i64 kk):=by obtain⟨d,rfl⟩:=hd; exact x0
                have PA:wr.cell? ⟨GX,1,none⟩=some (.int .i64 xx):=by obtain⟨d,rfl⟩:=hd; exact x1
                have jw:Hid (WP w wr A' aA l R Z):=Zg (by obtain⟨d,rfl⟩:=hd; exact sj.out.drewN d);have PB:GX<wr.heap.size:=by obtain⟨d,rfl⟩:=hd; exact vx
                clear hd xQ;by_cases ET:j<l.length
                ·obtain⟨b1,MC,rfl,MD,y0,y1⟩:=(jw.out.own.sl XK).site ET;have vP:=Zg (List.getElem_mem ET);obtain⟨y,hy⟩: ∃ y,l[j]=y:=⟨_,rfl⟩;have HY:=Zg hy;rw[hy] at y0 y1 vP;clear hy;obtain⟨yk,yr⟩:=y;simp only at y0 y1;obtain⟨M,hM⟩: ∃ M,ZK yk=M:=⟨_,rfl⟩;have MA:=Xy yk;have EP:=fun W:World=>wide_q yk W;rw[hM] at MA EP;have ER:=Zg EP;have HM:=Zg hM;have hz:(0:Int)<=(j:Int):=by omega
                 have tQ:(j:Int)<(l.length:Int):=by omega
                 clear EP hM Mz;by_cases gy: -4611686018427387904<=yr/\yr<=4611686018427387904
                 ·obtain⟨PD,PE⟩:=gy;by_cases g1:xx<yr+M
                  ·have tc:decide (xx<yr+M)=true:=decide_eq_true g1;by_cases g2:yr<xx+N
                   ·have EK:decide (yr<xx+(N:Int))=true:=decide_eq_true g2;have hn:rr=none:=by
                     have h:=gr.out;rw[if_neg (fun hs=>by have:=hs.2.2.2 _ vP.out; simp only[HM.out,HN.out] at this; omega)] at h;exact h.symm
                    have aW:=js.out;rw[hn] at aW;simp only at aW;subst aW;clear hn;go_wp2_with fail
                    go_quiet ((go_at_call 95; exact Calls.quiet_of_same (ER.out _)))
                    go_wp2_with fail
                    go_ret2;exact⟨rfl,belD jw.out.bel _⟩
                   ·have EK:decide (yr<xx+(N:Int))=false:=decide_eq_false g2;go_wp2_with fail
                    go_quiet ((go_at_call 95; exact Calls.quiet_of_same (ER.out _)))
                    go_wp2_with fail
                    go_roundw
                    case rel=>exact⟨j+1,by omega,by go_num,fun i h hi=>by
                     by_cases e:i=j
                     ·subst e; rw[HY.out]; simp only[HM.out]; omega
                     ·exact xO.out i h (by omega),by obtain⟨d,rfl⟩:=Iu.out; exact⟨_,by rw[World.drewN_drewN]⟩⟩
                    case measure=>simp[intOf]; omega
                  ·have tc:decide (xx<yr+M)=false:=decide_eq_false g1;go_wp2_with fail
                   go_quiet ((go_at_call 95; exact Calls.quiet_of_same (ER.out _)))
                   go_wp2_with fail
                   go_roundw
                   case rel=>exact⟨j+1,by omega,by go_num,fun i h hi=>by
                    by_cases e:i=j
                    ·subst e; rw[HY.out]; simp only[HM.out]; omega
                    ·exact xO.out i h (by omega),by obtain⟨d,rfl⟩:=Iu.out; exact⟨_,by rw[World.drewN_drewN]⟩⟩
                   case measure=>simp[intOf]; omega
                 ·exact absurd (jw.out.small _ vP.out) (by simp only; omega)
                ·obtain rfl:j=l.length:=by omega
                 have dc:=gr.out;rw[if_pos ⟨by simp only[HN.out]; omega,by simp only[HN.out]; exact k2,k3,fun y hy=>by
                  obtain⟨i,hi,rfl⟩:=List.mem_iff_getElem.1 hy;have:=xO.out i hi hi;simp only[HN.out];omega⟩] at dc
                 have vQ:=Zg dc;have eH:=Zg (jw.out.own.alloc (.cells #[.int .i64 kk,.int .i64 xx] 82));have ES:=Zg (jw.out.below ((Below.refl _ wr).alloc (Nat.le_refl _) (.cells #[.int .i64 kk,.int .i64 xx] 82)));have cT:=Zg (YY wr (.int .i64 kk) (.int .i64 xx) 82);have xX:=jw.out.dir.1;have eK:=Zg (show(wr.alloc (.cells #[.int .i64 kk,.int .i64 xx] 82)).heap.size=wr.heap.size+1 by simp);clear dc ET;go_wp2_with (at_builtin; refine Zq rfl (.tmp 143) (.tmp 145) 29 rfl (w.heap.size+1) 82 (.agg #[.int .i64 0,.int .i64 0]) 16 (by kernel_rfl) Za6 rfl (by omega) XK Jj _ l rfl eH.out wr.heap.size 1 rfl (kk,xx) ?ca (by unfold maxLen; omega) (by omega) (by have:=eK.out; omega) ?_; rotate_left; intro g' fD w3 aS eU fE)
                 case ca =>
                  intro j u hu;have h:=cT.out.cell (i:=j) (by have:=(List.getElem?_eq_some_iff.1 hu).1; simpa [Wk] using this);rw[h];rcases j with _|_|j
                  ·simpa [Wk] using hu
                  ·simpa [Wk] using hu
                  ·simp[Wk] at hu
                 have bJ:Below (w.heap.size+1) _ w3:=ZJ.grew eH.out (Below.refl _ _) (Nat.le_refl _) (by have:=eK.out; omega) eU;have sk:Hid (WP w w3 (some ⟨g',0,none⟩) fD (l++[(kk,xx)]) R Z):=Zg ⟨by rw[List.length_append]; exact aS,ES.out.dir.below bJ (by omega),ES.out.bel.trans (bJ.mono (by omega)),by rw[List.length_append]; simp; omega,fun y hy=>by
                  rcases List.mem_append.1 hy with hy|hy
                  ·exact ES.out.small y hy
                  ·rw[List.mem_singleton] at hy; subst hy; simp only; omega⟩
                 clear aS eU fE bJ;go_roundw
                 case rel=>exact⟨q+1,l++[(kk,xx)],_,fD,by omega,by go_num,by simp,sk.out,by rw[kz.out,show R+a+8+2 * (q+1)=R+a+8+2 * q+2 by omega]; exact vQ.out⟩
                 case measure=>simp[intOf]; omega
          ·obtain rfl:q=K:=by omega
           have dc:=iW.out;rw[Nat.sub_self] at dc;unfold Zf1 at dc;subst dc;have aW:=js.out;simp only at aW;have DB:=Zg aW;clear aW js MB hq t0 t1;go_wp2_with fail
           go_roundw
           case rel=>exact⟨a+(8+2 * q),F,l,A',aA,by omega,by omega,by go_num,rfl,bF.out,by rw[<-Nat.add_assoc]; exact DB.out⟩
           case measure=>simp[intOf]; omega
    ·obtain rfl:a=Z:=by omega
     obtain⟨F,rfl⟩: ∃ F',F=F'+1:=⟨F - 1,by omega⟩;have aW:=fX.out;unfold Xt at aW;rw[if_pos (Nat.le_refl _)] at aW;subst aW;go_wp2_with fail
     go_ret2;exact⟨⟨A',aA,rfl,Joins.ownsRow_le bF.out.own (by omega),bF.out.len⟩,bF.out.bel⟩
  ·have ax:=Zg (fun W:World=>Zby S.size r s W (by omega) (by omega) c1);have h:=iW.out;unfold YU at h;rw[if_neg c0,if_pos c1] at h;subst h;clear c1;go_enter Tryz.func40,Tryz.ntmps40;go_wp2_with (go_fit (ax.out _); rintro e u ⟨rfl,rfl⟩)
   go_ret2;exact⟨rfl,au.out⟩
end Go.Proofs.YtplgdpjbkdagfaaGreat
