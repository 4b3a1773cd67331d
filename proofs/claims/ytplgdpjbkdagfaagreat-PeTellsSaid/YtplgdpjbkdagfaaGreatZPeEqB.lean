import Derived.Test.YtplgdpjbkdagfaaGreatZRPe
import Derived.Test.YtplgdpjbkdagfaaGreatZRNou
import Derived.Test.YtplgdpjbkdagfaaGreatPeSN
import Derived.Test.YtplgdpjbkdagfaaGreatZPeE
import Derived.Test.YtplgdpjbkdagfaaGreatZExpD
import Derived.Test.YtplgdpjbkdagfaaGreatZPMap
namespace Go.Proofs.YtplgdpjbkdagfaaGreat
set_option maxHeartbeats 8000000
open Lib renaming hid→Zg
open Go.ChangeShapes Go.WideShapes Go.ChangeAt Go.RowKit
set_option linter.unusedVariables false
set_option linter.unusedSimpArgs false
set_option maxRecDepth 100000
def JS (P:Prop) (e:Ending):Prop:= ∃ b:Bool,e= .returned (.bool b)/\(b=true↔P)
theorem JS.yes {P:Prop} (h:P):JS P (.returned (.bool true)):=⟨true,rfl,by simp[h]⟩
theorem JS.no {P:Prop} (h: ¬ P):JS P (.returned (.bool false)):=⟨false,rfl,by simp[h]⟩
theorem JS.of {P:Prop} {b:Bool} (h:b=true↔P):JS P (.returned (.bool b)):=⟨b,rfl,h⟩
theorem Za8 (cs lL:Array Value) (h h':ZX) (sv ps:Value) (l l':List Zx) (w:World) (x:YR cs h sv) (y:YR lL h' ps) (hs:Ua w sv l) (lM:Ua w ps l') (s':Zc4 h) (Gc:Zc4 h') :
 Calls Tryz.prog 43 #[.agg cs,.agg lL] w fun e u=>JS (Zkj h h'/\l.map Zx.cells=l'.map Zx.cells) e/\Below w.heap.size w u:=by
 obtain⟨A,c,rfl,dE,gJ⟩:=hs;obtain⟨A',c',rfl,pt,ug⟩:=lM;have HX:=Zg x;have HY:=Zg y;have df:=Zg dE;have rB:=Zg pt;have rC:=Zg (And.intro gJ ug);have a0:=x.c0;have a1:=x.c1;have a2:=x.c2;have a3:=x.c3;have a4:=x.c4;have a5:=x.c5;have b0:=y.c0;have b1:=y.c1;have b2:=y.c2;have b3:=y.c3;have b4:=y.c4;have b5:=y.c5;have a38:=x.c38;have Kj:=y.c38;have av:=Zg (((Below.refl w.heap.size w).alloc (Nat.le_refl _) (.cells cs 41)).alloc (by simp) (.cells lL 41));obtain⟨rd,du,Bj⟩:=Zms h h' s' Gc;have cZ:=Zg Bj;have Og:=Zg du;have mo:=Zg (heap_alloc2_old w (.cells cs 41) (.cells lL 41));have ni:=Zg (heap_alloc2_new w (.cells cs 41) (.cells lL 41));clear dE pt x y gJ ug du Bj;by_cases q0:h.base=h'.base;rotate_left 1
 ·have n0:(h.base != h'.base)=true:=bne_iff_ne.2 q0;have m0:(h.base == h'.base)=false:=beq_eq_false_iff_ne.2 q0;have HN:=Zg q0;clear q0;go_enter Tryz.func43,Tryz.ntmps43;go_wp2_with fail
  go_ret;exact⟨.no fun k=>HN.out k.1.1,av.out⟩
 have n0:(h.base != h'.base)=false:=bne_eq_false_iff_eq.2 q0;have m0:(h.base == h'.base)=true:=beq_iff_eq.2 q0;have Q0:=Zg q0;clear q0;by_cases q1:h.stamp=h'.stamp;rotate_left 1
 ·have n1:(h.stamp != h'.stamp)=true:=bne_iff_ne.2 q1;have m1:(h.stamp == h'.stamp)=false:=beq_eq_false_iff_ne.2 q1;have HN:=Zg q1;clear q1;go_enter Tryz.func43,Tryz.ntmps43;go_wp2_with fail
  go_ret;exact⟨.no fun k=>HN.out k.1.2.1,av.out⟩
 have n1:(h.stamp != h'.stamp)=false:=bne_eq_false_iff_eq.2 q1;have m1:(h.stamp == h'.stamp)=true:=beq_iff_eq.2 q1;have Q1:=Zg q1;clear q1;by_cases q2:h.chars=h'.chars;rotate_left 1
 ·have n2:(h.chars != h'.chars)=true:=bne_iff_ne.2 q2;have m2:(h.chars == h'.chars)=false:=beq_eq_false_iff_ne.2 q2;have HN:=Zg q2;clear q2;go_enter Tryz.func43,Tryz.ntmps43;go_wp2_with fail
  go_ret;exact⟨.no fun k=>HN.out k.1.2.2.1,av.out⟩
 have n2:(h.chars != h'.chars)=false:=bne_eq_false_iff_eq.2 q2;have m2:(h.chars == h'.chars)=true:=beq_iff_eq.2 q2;have Q2:=Zg q2;clear q2;by_cases q3:h.entry=h'.entry;rotate_left 1
 ·have n3:(h.entry != h'.entry)=true:=bne_iff_ne.2 q3;have m3:(h.entry == h'.entry)=false:=beq_eq_false_iff_ne.2 q3;have HN:=Zg q3;clear q3;go_enter Tryz.func43,Tryz.ntmps43;go_wp2_with fail
  go_ret;exact⟨.no fun k=>HN.out k.1.2.2.2.1,av.out⟩
 have n3:(h.entry != h'.entry)=false:=bne_eq_false_iff_eq.2 q3;have m3:(h.entry == h'.entry)=true:=beq_iff_eq.2 q3;have Q3:=Zg q3;clear q3;by_cases q4:h.size=h'.size;rotate_left 1
 ·have n4:(h.size != h'.size)=true:=bne_iff_ne.2 q4;have m4:(h.size == h'.size)=false:=beq_eq_false_iff_ne.2 q4;have HN:=Zg q4;clear q4;go_enter Tryz.func43,Tryz.ntmps43;go_wp2_with fail
  go_ret;exact⟨.no fun k=>HN.out k.1.2.2.2.2.1,av.out⟩
 have n4:(h.size != h'.size)=false:=bne_eq_false_iff_eq.2 q4;have m4:(h.size == h'.size)=true:=beq_iff_eq.2 q4;have Q4:=Zg q4;clear q4;by_cases q5:h.headers=h'.headers;rotate_left 1
 ·have n5:(h.headers != h'.headers)=true:=bne_iff_ne.2 q5;have m5:(h.headers == h'.headers)=false:=beq_eq_false_iff_ne.2 q5;have HN:=Zg q5;clear q5;go_enter Tryz.func43,Tryz.ntmps43;go_wp2_with fail
  go_ret;exact⟨.no fun k=>HN.out k.1.2.2.2.2.2.1,av.out⟩
 have n5:(h.headers != h'.headers)=false:=bne_eq_false_iff_eq.2 q5;have m5:(h.headers == h'.headers)=true:=beq_iff_eq.2 q5;have Q5:=Zg q5;clear q5;have heq:=Og.out;have qK:=(Zh mo.out).trans a38;have pr:=(Zh ni.out).trans Kj;rcases rd with _|_
 ·have HN:=Zg (show ¬ Zen h h' from fun k=>by have:=cZ.out.2 k; simp at this);go_enter Tryz.func43,Tryz.ntmps43;go_wp2_with (first
   | (refine ZO (by rfl) 38 (.tmp 47) rfl w.heap.size 6 rfl (Ub h) _ (HX.out.dirRow mo.out) rfl rfl rfl ?_)
   | (refine ZO (by rfl) 38 (.tmp 49) rfl (w.heap.size+1) 6 rfl (Ub h') _ (HY.out.dirRow ni.out) rfl rfl rfl ?_; generalize (Ub h).toArray=X at *; generalize (Ub h').toArray=Y at *; go_wp2_with fail)
   | fail)
  refine bodyPost_ret (v:= .bool false) (by simp[results,Tryz.results43,go_sem]) rfl ⟨.no fun k=>HN.out k.1.2.2.2.2.2.2,av.out⟩
 have HD:=Zg (show Zen h h' from cZ.out.1 rfl);have Oh:=Zg (show Zkj h h' from⟨Q0.out,Q1.out,Q2.out,Q3.out,Q4.out,Q5.out,HD.out⟩);by_cases iY:l.length=l'.length;rotate_left 1
 ·have dl:((l.length:Int) != (l'.length:Int))=true:=by rw[bne_iff_ne]; omega
  have vZ:=Zg iY;clear iY;go_enter Tryz.func43,Tryz.ntmps43;go_wp2_with (first
   | (refine ZO (by rfl) 38 (.tmp 47) rfl w.heap.size 6 rfl (Ub h) _ (HX.out.dirRow mo.out) rfl rfl rfl ?_)
   | (refine ZO (by rfl) 38 (.tmp 49) rfl (w.heap.size+1) 6 rfl (Ub h') _ (HY.out.dirRow ni.out) rfl rfl rfl ?_; generalize (Ub h).toArray=X at *; generalize (Ub h').toArray=Y at *; go_wp2_with fail)
   | fail)
  refine bodyPost_ret (v:= .bool false) (by simp[results,Tryz.results43,go_sem]) rfl ⟨.no fun k=>vZ.out (by have:=congrArg List.length k.2; simpa using this),av.out⟩
 have dl:((l.length:Int) != (l'.length:Int))=false:=by rw[bne_eq_false_iff_eq]; omega
 have vZ:=Zg iY;clear iY;go_enter Tryz.func43,Tryz.ntmps43;go_wp2_with (first
  | (refine ZO (by rfl) 38 (.tmp 47) rfl w.heap.size 6 rfl (Ub h) _ (HX.out.dirRow mo.out) rfl rfl rfl ?_)
  | (refine ZO (by rfl) 38 (.tmp 49) rfl (w.heap.size+1) 6 rfl (Ub h') _ (HY.out.dirRow ni.out) rfl rfl rfl ?_; generalize (Ub h).toArray=X at *; generalize (Ub h').toArray=Y at *; go_wp2_with fail)
  | fail)
 have pJ:w.heap.size<((w.alloc (.cells cs 41)).alloc (.cells lL 41)).heap.size:=by simp; omega
 have cY:w.heap.size+1<((w.alloc (.cells cs 41)).alloc (.cells lL 41)).heap.size:=by simp
 clear heq a0 a1 a2 a3 a4 a5 a38 b0 b1 b2 b3 b4 b5 Kj n0 n1 n2 n3 n4 n5 m0 m1 m2 m3 m4 m5 dl;generalize (w.alloc (.cells cs 41)).alloc (.cells lL 41)=w1 at *;have km:=Zg pJ;have eK:=Zg cY;have HK:=Zg qK;have Oi:=Zg pr;clear pJ cY qK pr;go_loopw [5] (fun o5 wr=> ∃ i:Nat,i<=l.length/\o5= .int .i64 i/\(∀ j (h1:j<l.length) (h2:j<l'.length),j<i->l[j].cells=l'[j].cells)/\Below w1.heap.size w1 wr) (fun o5 _=>l.length - (intOf o5).toNat)
 case atStart=>exact⟨0,by omega,rfl,fun j _ _ hj=>absurd hj (by omega),Below.refl _ _⟩
 case round =>
  obtain⟨i,hi,rfl,hp,hb⟩:=hrel;have HB:=Zg hb;have HP:=Zg hp;have aw:Hid (Below w.heap.size w wr):=Zg (av.out.trans (hb.mono av.out.size));have Ry:=(hb.cell (p:=⟨w.heap.size,38,none⟩) km.out).trans HK.out;have Oj:=(hb.cell (p:=⟨w.heap.size+1,38,none⟩) eK.out).trans Oi.out;have gJ:=rC.out.1;clear hb hp;by_cases af:i<l.length
  ·have aE:(i:Int)<l.length:=by omega
   have sV:i<l'.length:=by rw[<-vZ.out]; exact af
   have Kk:(i:Int)<l'.length:=by omega
   have cM:=Zg (And.intro af sV);obtain⟨b,o,rfl⟩: ∃ b o,A=some ⟨b,o,none⟩:=by
    rcases df.out with h|⟨b,o,h,_⟩
    ·rw[h] at af; simp at af
    ·exact⟨b,o,h⟩
   obtain⟨b',o',rfl⟩: ∃ b o,A'=some ⟨b,o,none⟩:=by
    rcases rB.out with h|⟨b,o,h,_⟩
    ·rw[h] at sV; simp at sV
    ·exact⟨b,o,h⟩
   obtain⟨_,d0,d1,d2,d3,d4,d5⟩:=(df.out.below aw.out).at6o i af;obtain⟨_,e0,e1,e2,e3,e4,e5⟩:=(rB.out.below aw.out).at6o i sV;obtain⟨S,hS⟩: ∃ S,l[i]=S:=⟨_,rfl⟩;obtain⟨S',Gb⟩: ∃ S,l'[i]=S:=⟨_,rfl⟩;have l8:=Zg (And.intro hS Gb);rw[hS] at d0 d1 d2 d3 d4 d5;rw[Gb] at e0 e1 e2 e3 e4 e5;clear hS Gb;obtain⟨nm,v,rva,raw,spot,ch⟩:=S;obtain⟨Kp,v',Bk,Bl,nr,Kq⟩:=S';simp only at d0 d1 d2 d3 d4 d5 e0 e1 e2 e3 e4 e5;obtain⟨r,hr,x7⟩:=Zes nm Kp v v' rva Bk raw Bl spot nr ch Kq;have Kl:=Zg x7;clear x7;rcases r with _|_
   ·
    go_wp2_with fail
    go_region
    go_wp2_with fail
    go_ret;exact⟨.no (by
     intro k;have k2: ∀(a b:Zx) ,a.cells=b.cells->a.name=b.name/\a.vsize=b.vsize/\a.rva=b.rva/\a.raw=b.raw/\a.spot=b.spot/\a.chars=b.chars:=fun a b q=>by simpa [Zx.cells] using q
     have k3:=congrArg (fun q=>q[i]?) k.2;simp only[List.getElem?_map,List.getElem?_eq_getElem cM.out.1,List.getElem?_eq_getElem cM.out.2,Option.map_some,Option.some.injEq] at k3;rw[l8.out.1,l8.out.2] at k3;have:=Kl.out.2 (k2 _ _ k3);simp at this),aw.out.drew⟩
   ·go_wp2_with fail
    go_region
    go_wp2_with fail
    go_roundw
    case rel=>exact⟨i+1,by have:=cM.out.1; omega,by go_num,fun j h1 h2 hj=>by
     rcases Nat.lt_or_ge j i with q|q
     ·exact HP.out j h1 h2 q
     ·obtain rfl:j=i:=by omega
      rw[l8.out.1,l8.out.2];obtain⟨k0,k1,k2,k3,k4,k5⟩:nm=Kp/\v=v'/\rva=Bk/\raw=Bl/\spot=nr/\ch=Kq:=by have q:=Kl.out; simpa using q
      subst k0 k1 k2 k3 k4 k5;rfl,HB.out.drew⟩
    case measure=>have:=cM.out.1; simp[intOf]; omega
  ·obtain rfl:i=l.length:=by omega
   have hN: ¬ (l.length:Int)<(l.length:Int):=by omega
   go_wp2_with fail
   go_ret;exact⟨.yes (by
    refine⟨Oh.out,List.ext_getElem (by simp[vZ.out]) fun j h1 h2=> ?_⟩;simp only[List.length_map] at h1 h2;simp only[List.getElem_map];exact HP.out j h1 h2 h1),aw.out⟩
theorem Zej {α :Type} (C: α ->List Value) (f0: α ->ByteArray) (f1: α ->Int) (hC: ∀ x,C x=[.string (f0 x),.int .i64 (f1 x)]) (A A':Option Addr) (l l2:List α) (c c':Nat) (w:World) (h:SlT C 2 w A l) (h':SlT C 2 w A' l2) (hn:l.length<=1000000) (jP:l2.length<=1000000) (b:Bool) (hb:b=true↔l.map C=l2.map C) :
 Calls Tryz.prog 46 #[.slice A l.length c,.slice A' l2.length c'] w fun e u=>e= .returned (.bool b)/\Below w.heap.size w u:=by
 have HS:=Zg h;have rz:=Zg h';have HC:=Zg hC;have HN:=Zg (And.intro hn jP);have fi:=Zg hb;clear h h' hC hb;by_cases hl:l.length=l2.length
 ·have HL:=Zg hl;have e0:((l.length:Int) != (l2.length:Int))=false:=by simp[hl]
  have ia:=Zg hn;clear hn jP hl;go_enter Tryz.func46,Tryz.ntmps46;go_wp2_with fail
  go_loopw [5] (fun v13 wr=> ∃ i:Nat,i<=l.length/\v13= .int .i64 i/\(∀(j:Nat) (h1:j<l.length) (h2:j<l2.length),j<i->C l[j]=C l2[j])/\Below w.heap.size w wr) (fun v13 _=>l.length - (intOf v13).toNat)
  case atStart=>exact⟨0,by omega,rfl,fun j _ _ h=>by omega,Below.refl _ _⟩
  case round =>
   obtain⟨i,hi,rfl,bu,bZ⟩:=hrel;have cw:=Zg bu;have HB:=Zg bZ;clear bu bZ;by_cases af:i<l.length
   ·have aE:(i:Int)<l.length:=by omega
    have aB:i<l2.length:=by have:=HL.out; omega
    have ib:(i:Int)<l2.length:=by omega
    obtain⟨bb,o,rfl,_,hc⟩: ∃ b o,A=some ⟨b,o,none⟩/\b<wr.heap.size/\ ∀(i:Nat) (hi:i<l.length) (j:Nat) (v:Value),(C l[i])[j]? =some v->wr.cell? ⟨b,o+(i * 2+j),none⟩=some v:=by
     rcases HS.out.below HB.out with h|h
     ·rw[h] at af; simp at af
     ·exact h
    obtain⟨oM,o',rfl,_,eN⟩: ∃ b o,A'=some ⟨b,o,none⟩/\b<wr.heap.size/\ ∀(i:Nat) (hi:i<l2.length) (j:Nat) (v:Value),(C l2[i])[j]? =some v->wr.cell? ⟨b,o+(i * 2+j),none⟩=some v:=by
     rcases rz.out.below HB.out with h|h
     ·rw[h] at aB; simp at aB
     ·exact h
    have hC:=HC.out;have d0:=hc i af 0 (.string (f0 l[i])) (by rw[hC]; rfl);have d1:=hc i af 1 (.int .i64 (f1 l[i])) (by rw[hC]; rfl);have e0:=eN i aB 0 (.string (f0 l2[i])) (by rw[hC]; rfl);have e1:=eN i aB 1 (.int .i64 (f1 l2[i])) (by rw[hC]; rfl);rw[show o+(i * 2+0)=o+i * 2 by omega] at d0;rw[show o'+(i * 2+0)=o'+i * 2 by omega] at e0;rw[show o+(i * 2+1)=o+i * 2+1 by omega] at d1;rw[show o'+(i * 2+1)=o'+i * 2+1 by omega] at e1;obtain⟨r,rD,hr⟩:=Zhm (f0 l[i]) (f0 l2[i]) (f1 l[i]) (f1 l2[i]);have ng:C l[i]=C l2[i]↔r=true:=by
     rw[hC,hC,hr];simp
    have eF:=Zg ng;clear hc eN hC hr ng;generalize f0 l[i]=p0 at *;generalize f0 l2[i]=q0 at *;generalize f1 l[i]=p1 at *;generalize f1 l2[i]=q1 at *;rcases r with _|_
    ·go_wp2_with fail
     go_region
     go_wp2_with fail
     go_ret;refine⟨?_,HB.out.drew⟩;rcases b with _|_
     ·rfl
     ·exfalso;have h1:=fi.out.1 rfl;have h2:=congrArg (fun L=>L[i]?) h1;simp only[List.getElem?_map,List.getElem?_eq_getElem af,List.getElem?_eq_getElem aB,Option.map_some,Option.some.injEq] at h2;have h3:=eF.out.1 h2;simp at h3
    ·have dN:=Zg (show ∀(j:Nat) (h1:j<l.length) (h2:j<l2.length),j<i+1->C l[j]=C l2[j] from fun j h1 h2 h3=>(by
      rcases(by omega:j<i\/j=i) with h4|h4
      ·exact cw.out j h1 h2 h4
      ·subst h4; exact eF.out.2 rfl))
     go_wp2_with fail
     go_region
     have oI:=HN.out.1;go_wp2_with fail
     go_roundw
     case rel=>exact⟨i+1,by omega,by go_num,dN.out,HB.out.drew⟩
     case measure=>simp[intOf]; omega
   ·obtain rfl:i=l.length:=by omega
    go_wp2_with fail
    go_ret;refine⟨?_,HB.out⟩;rcases b with _|_
    ·exfalso;have h1:l.map C=l2.map C:=by
      apply List.ext_getElem
      ·simp[HL.out]
      ·intro j h1 h2;simp only[List.length_map] at h1 h2;simp only[List.getElem_map];exact cw.out j h1 h2 h1
     have h2:=fi.out.2 h1;simp at h2
    ·rfl
 ·have e0:((l.length:Int) != (l2.length:Int))=true:=by simp; omega
  have HL:=Zg hl;clear hl;go_enter Tryz.func46,Tryz.ntmps46;go_wp2_with fail
  go_ret;refine⟨?_,Below.refl _ _⟩;rcases b with _|_
  ·rfl
  ·exfalso;have h1:=congrArg List.length (fi.out.1 rfl);simp only[List.length_map] at h1;exact HL.out h1
theorem Zkf {α :Type} (C: α ->List Value) (f0: α ->Int) (f1: α ->Int) (hC: ∀ x,C x=[.int .i64 (f0 x),.int .i64 (f1 x)]) (A A':Option Addr) (l l2:List α) (c c':Nat) (w:World) (h:SlT C 2 w A l) (h':SlT C 2 w A' l2) (hn:l.length<=1000000) (jP:l2.length<=1000000) (b:Bool) (hb:b=true↔l.map C=l2.map C) :
 Calls Tryz.prog 47 #[.slice A l.length c,.slice A' l2.length c'] w fun e u=>e= .returned (.bool b)/\Below w.heap.size w u:=by
 have HS:=Zg h;have rz:=Zg h';have HC:=Zg hC;have HN:=Zg (And.intro hn jP);have fi:=Zg hb;clear h h' hC hb;by_cases hl:l.length=l2.length
 ·have HL:=Zg hl;have e0:((l.length:Int) != (l2.length:Int))=false:=by simp[hl]
  have ia:=Zg hn;clear hn jP hl;go_enter Tryz.func47,Tryz.ntmps47;go_wp2_with fail
  go_loopw [5] (fun v13 wr=> ∃ i:Nat,i<=l.length/\v13= .int .i64 i/\(∀(j:Nat) (h1:j<l.length) (h2:j<l2.length),j<i->C l[j]=C l2[j])/\Below w.heap.size w wr) (fun v13 _=>l.length - (intOf v13).toNat)
  case atStart=>exact⟨0,by omega,rfl,fun j _ _ h=>by omega,Below.refl _ _⟩
  case round =>
   obtain⟨i,hi,rfl,bu,bZ⟩:=hrel;have cw:=Zg bu;have HB:=Zg bZ;clear bu bZ;by_cases af:i<l.length
   ·have aE:(i:Int)<l.length:=by omega
    have aB:i<l2.length:=by have:=HL.out; omega
    have ib:(i:Int)<l2.length:=by omega
    obtain⟨bb,o,rfl,_,hc⟩: ∃ b o,A=some ⟨b,o,none⟩/\b<wr.heap.size/\ ∀(i:Nat) (hi:i<l.length) (j:Nat) (v:Value),(C l[i])[j]? =some v->wr.cell? ⟨b,o+(i * 2+j),none⟩=some v:=by
     rcases HS.out.below HB.out with h|h
     ·rw[h] at af; simp at af
     ·exact h
    obtain⟨oM,o',rfl,_,eN⟩: ∃ b o,A'=some ⟨b,o,none⟩/\b<wr.heap.size/\ ∀(i:Nat) (hi:i<l2.length) (j:Nat) (v:Value),(C l2[i])[j]? =some v->wr.cell? ⟨b,o+(i * 2+j),none⟩=some v:=by
     rcases rz.out.below HB.out with h|h
     ·rw[h] at aB; simp at aB
     ·exact h
    have hC:=HC.out;have d0:=hc i af 0 (.int .i64 (f0 l[i])) (by rw[hC]; rfl);have d1:=hc i af 1 (.int .i64 (f1 l[i])) (by rw[hC]; rfl);have e0:=eN i aB 0 (.int .i64 (f0 l2[i])) (by rw[hC]; rfl);have e1:=eN i aB 1 (.int .i64 (f1 l2[i])) (by rw[hC]; rfl);rw[show o+(i * 2+0)=o+i * 2 by omega] at d0;rw[show o'+(i * 2+0)=o'+i * 2 by omega] at e0;rw[show o+(i * 2+1)=o+i * 2+1 by omega] at d1;rw[show o'+(i * 2+1)=o'+i * 2+1 by omega] at e1;obtain⟨r,rD,hr⟩:=Zni (f0 l[i]) (f0 l2[i]) (f1 l[i]) (f1 l2[i]);have ng:C l[i]=C l2[i]↔r=true:=by
     rw[hC,hC,hr];simp
    have eF:=Zg ng;clear hc eN hC hr ng;generalize f0 l[i]=p0 at *;generalize f0 l2[i]=q0 at *;generalize f1 l[i]=p1 at *;generalize f1 l2[i]=q1 at *;rcases r with _|_
    ·go_wp2_with fail
     go_region
     go_wp2_with fail
     go_ret;refine⟨?_,HB.out.drew⟩;rcases b with _|_
     ·rfl
     ·exfalso;have h1:=fi.out.1 rfl;have h2:=congrArg (fun L=>L[i]?) h1;simp only[List.getElem?_map,List.getElem?_eq_getElem af,List.getElem?_eq_getElem aB,Option.map_some,Option.some.injEq] at h2;have h3:=eF.out.1 h2;simp at h3
    ·have dN:=Zg (show ∀(j:Nat) (h1:j<l.length) (h2:j<l2.length),j<i+1->C l[j]=C l2[j] from fun j h1 h2 h3=>(by
      rcases(by omega:j<i\/j=i) with h4|h4
      ·exact cw.out j h1 h2 h4
      ·subst h4; exact eF.out.2 rfl))
     go_wp2_with fail
     go_region
     have oI:=HN.out.1;go_wp2_with fail
     go_roundw
     case rel=>exact⟨i+1,by omega,by go_num,dN.out,HB.out.drew⟩
     case measure=>simp[intOf]; omega
   ·obtain rfl:i=l.length:=by omega
    go_wp2_with fail
    go_ret;refine⟨?_,HB.out⟩;rcases b with _|_
    ·exfalso;have h1:l.map C=l2.map C:=by
      apply List.ext_getElem
      ·simp[HL.out]
      ·intro j h1 h2;simp only[List.length_map] at h1 h2;simp only[List.getElem_map];exact cw.out j h1 h2 h1
     have h2:=fi.out.2 h1;simp at h2
    ·rfl
 ·have e0:((l.length:Int) != (l2.length:Int))=true:=by simp; omega
  have HL:=Zg hl;clear hl;go_enter Tryz.func47,Tryz.ntmps47;go_wp2_with fail
  go_ret;refine⟨?_,Below.refl _ _⟩;rcases b with _|_
  ·rfl
  ·exfalso;have h1:=congrArg List.length (fi.out.1 rfl);simp only[List.length_map] at h1;exact HL.out h1
theorem Zkg {α :Type} (C: α ->List Value) (f0: α ->Int) (hC: ∀ x,C x=[.int .i64 (f0 x)]) (A A':Option Addr) (l l2:List α) (c c':Nat) (w:World) (h:SlT C 1 w A l) (h':SlT C 1 w A' l2) (hn:l.length<=1000000) (jP:l2.length<=1000000) (b:Bool) (hb:b=true↔l.map C=l2.map C) :
 Calls Tryz.prog 97 #[.slice A l.length c,.slice A' l2.length c'] w fun e u=>e= .returned (.bool b)/\Below w.heap.size w u:=by
 have HS:=Zg h;have rz:=Zg h';have HC:=Zg hC;have HN:=Zg (And.intro hn jP);have fi:=Zg hb;clear h h' hC hb;by_cases hl:l.length=l2.length
 ·have HL:=Zg hl;have e0:((l.length:Int) != (l2.length:Int))=false:=by simp[hl]
  have ia:=Zg hn;clear hn jP hl;go_enter Tryz.func97,Tryz.ntmps97;go_wp2_with fail
  go_loopw [5] (fun v13 wr=> ∃ i:Nat,i<=l.length/\v13= .int .i64 i/\(∀(j:Nat) (h1:j<l.length) (h2:j<l2.length),j<i->C l[j]=C l2[j])/\Below w.heap.size w wr) (fun v13 _=>l.length - (intOf v13).toNat)
  case atStart=>exact⟨0,by omega,rfl,fun j _ _ h=>by omega,Below.refl _ _⟩
  case round =>
   obtain⟨i,hi,rfl,bu,bZ⟩:=hrel;have cw:=Zg bu;have HB:=Zg bZ;clear bu bZ;by_cases af:i<l.length
   ·have aE:(i:Int)<l.length:=by omega
    have aB:i<l2.length:=by have:=HL.out; omega
    have ib:(i:Int)<l2.length:=by omega
    obtain⟨bb,o,rfl,_,hc⟩: ∃ b o,A=some ⟨b,o,none⟩/\b<wr.heap.size/\ ∀(i:Nat) (hi:i<l.length) (j:Nat) (v:Value),(C l[i])[j]? =some v->wr.cell? ⟨b,o+(i * 1+j),none⟩=some v:=by
     rcases HS.out.below HB.out with h|h
     ·rw[h] at af; simp at af
     ·exact h
    obtain⟨oM,o',rfl,_,eN⟩: ∃ b o,A'=some ⟨b,o,none⟩/\b<wr.heap.size/\ ∀(i:Nat) (hi:i<l2.length) (j:Nat) (v:Value),(C l2[i])[j]? =some v->wr.cell? ⟨b,o+(i * 1+j),none⟩=some v:=by
     rcases rz.out.below HB.out with h|h
     ·rw[h] at aB; simp at aB
     ·exact h
    have hC:=HC.out;have d0:=hc i af 0 (.int .i64 (f0 l[i])) (by rw[hC]; rfl);have e0:=eN i aB 0 (.int .i64 (f0 l2[i])) (by rw[hC]; rfl);rw[show o+(i * 1+0)=o+i by omega] at d0;rw[show o'+(i * 1+0)=o'+i by omega] at e0;obtain⟨r,rD,hr⟩: ∃ r:Bool,(f0 l[i] == f0 l2[i])=r/\(r=true↔f0 l[i]=f0 l2[i]):=⟨_,rfl,beq_iff_eq⟩;have Dx:(f0 l[i] != f0 l2[i])= !r:=by rw[<-rD]; rfl
    have ng:C l[i]=C l2[i]↔r=true:=by
     rw[hC,hC,hr];simp
    have eF:=Zg ng;clear hc eN hC hr ng;generalize f0 l[i]=p0 at *;generalize f0 l2[i]=q0 at *;rcases r with _|_
    ·go_wp2_with fail
     go_region
     go_wp2_with fail
     go_ret;refine⟨?_,HB.out.drew⟩;rcases b with _|_
     ·rfl
     ·exfalso;have h1:=fi.out.1 rfl;have h2:=congrArg (fun L=>L[i]?) h1;simp only[List.getElem?_map,List.getElem?_eq_getElem af,List.getElem?_eq_getElem aB,Option.map_some,Option.some.injEq] at h2;have h3:=eF.out.1 h2;simp at h3
    ·have dN:=Zg (show ∀(j:Nat) (h1:j<l.length) (h2:j<l2.length),j<i+1->C l[j]=C l2[j] from fun j h1 h2 h3=>(by
      rcases(by omega:j<i\/j=i) with h4|h4
      ·exact cw.out j h1 h2 h4
      ·subst h4; exact eF.out.2 rfl))
     go_wp2_with fail
     go_region
     have oI:=HN.out.1;go_wp2_with fail
     go_roundw
     case rel=>exact⟨i+1,by omega,by go_num,dN.out,HB.out.drew⟩
     case measure=>simp[intOf]; omega
   ·obtain rfl:i=l.length:=by omega
    go_wp2_with fail
    go_ret;refine⟨?_,HB.out⟩;rcases b with _|_
    ·exfalso;have h1:l.map C=l2.map C:=by
      apply List.ext_getElem
      ·simp[HL.out]
      ·intro j h1 h2;simp only[List.length_map] at h1 h2;simp only[List.getElem_map];exact cw.out j h1 h2 h1
     have h2:=fi.out.2 h1;simp at h2
    ·rfl
 ·have e0:((l.length:Int) != (l2.length:Int))=true:=by simp; omega
  have HL:=Zg hl;clear hl;go_enter Tryz.func97,Tryz.ntmps97;go_wp2_with fail
  go_ret;refine⟨?_,Below.refl _ _⟩;rcases b with _|_
  ·rfl
  ·exfalso;have h1:=congrArg List.length (fi.out.1 rfl);simp only[List.length_map] at h1;exact HL.out h1
structure Bare (y:PeV):Prop where
 e0:y.e0= .int .i64 0
 e1:y.e1= .slice none 0 0
 e2:y.e2= .slice none 0 0
 im:y.im= .slice none 0 0
 de:y.de= .slice none 0 0
 bo:y.bo= .slice none 0 0
 re:y.re= .slice none 0 0
 t0:y.t0= .bool false
 t1:y.t1= .int .i64 0
 t2:y.t2= .slice none 0 0
theorem Zek (y:PeV) (hy:Bare y) (h:ZX) (sv:Value) (l:List Zx) (w:World) (x:YR ((List.range 39).map y.hd).toArray h sv) (hs:Ua w sv l) (s':Zl3 h) (g N cap:Nat) (f:Nat->Int) (hi:y.img= .slice (some ⟨g,0,none⟩) N cap) (hr:Wj w g 0 N cap f) :
 Calls Tryz.prog 22 #[.agg (peC y),.agg (peC y)] w fun e u=>e= .returned (.bool true)/\Below w.heap.size w u:=by
 have bO:Below w.heap.size w ((w.alloc (.cells (peC y) 50)).alloc (.cells (peC y) 50)):=((Below.refl w.heap.size w).alloc (Nat.le_refl _) _).alloc (by simp) _;have jL:=heap_alloc2_old w (.cells (peC y) 50) (.cells (peC y) 50);have ja:=heap_alloc2_new w (.cells (peC y) 50) (.cells (peC y) 50);obtain⟨w2,aR⟩: ∃ q,(w.alloc (.cells (peC y) 50)).alloc (.cells (peC y) 50)=q:=⟨_,rfl⟩;rw[aR] at bO jL ja;have au:=Zg bO;have j8:=Zg aR;have cr:=Zg (show ∀ W,Below w2.heap.size w2 W-> ∀ j v,j<50->peF y j=v->W.cell? ⟨w.heap.size,j,none⟩=some v/\W.cell? ⟨w.heap.size+1,j,none⟩=some v from fun W hW j v hj hv=>by
  subst hv;exact⟨(hW.cell (p:=⟨w.heap.size,j,none⟩) (Zi jL)).trans ((Zh jL).trans (Yv y hj)),(hW.cell (p:=⟨w.heap.size+1,j,none⟩) (Zi ja)).trans ((Zh ja).trans (Yv y hj))⟩)
 have lp: ∀ P,(∀ j,j<50->w2.cell? ⟨P,j,none⟩=some (peF y j))->w2.rangeAt P 0 ((List.range 39).map y.hd):=fun P hP j v hv=>by
  have hj:j<39:=by
   rcases Nat.lt_or_ge j 39 with hj|hj
   ·exact hj
   ·simp[hj] at hv
  simp[hj] at hv;subst hv;rw[Nat.zero_add,hP j (by omega),JJ y hj]
 have oa:=Zg (lp w.heap.size (fun j hj=>(cr.out w2 (Below.refl _ _) j _ hj rfl).1));have sF:=Zg (lp (w.heap.size+1) (fun j hj=>(cr.out w2 (Below.refl _ _) j _ hj rfl).2));have oZ:=Zg (fun W (hW:Below w2.heap.size w2 W)=>QY _ _ h sv sv l W x x (by
  obtain⟨A,c,k1,k2,k3⟩:=hs;exact⟨A,c,k1,k2.below (au.out.trans (hW.mono au.out.size)),k3⟩) (by
  obtain⟨A,c,k1,k2,k3⟩:=hs;exact⟨A,c,k1,k2.below (au.out.trans (hW.mono au.out.size)),k3⟩) s')
 have cp:=Zg (fun W (hW:Below w2.heap.size w2 W)=>Tryz.bytes_Equal_strs (.slice (some ⟨g,0,none⟩) N cap) (.slice (some ⟨g,0,none⟩) N cap) (ZB f 0 N) (ZB f 0 N) W (YL (cap:=cap) (hr.below (au.out.trans (hW.mono au.out.size))).row) (YL (cap:=cap) (hr.below (au.out.trans (hW.mono au.out.size))).row));have HY:=Zg hy;have HI:=Zg hi;clear lp bO jL ja aR hs hr hy hi;go_enter Tryz.func22,Tryz.ntmps22;go_upto_region 1 with(fail)
 refine(congrArg _ j8.out).mpr ?_;have HZ:=Zg (Below.refl w2.heap.size w2);simp only[List.append_eq,List.cons_append,List.nil_append];go_wp2_with (first
  | (refine wpList_load_mid rfl 41 (.tmp 5) rfl w.heap.size 0 rfl ((List.range 39).map y.hd) _ oa.out Tryz.underlying41 rfl (by rw[List.length_map,List.length_range]; kernel_rfl) ?_)
  | (refine wpList_load_mid rfl 41 (.tmp 7) rfl (w.heap.size+1) 0 rfl ((List.range 39).map y.hd) _ sF.out Tryz.underlying41 rfl (by rw[List.length_map,List.length_range]; kernel_rfl) ?_)
  | fail)
 refine(oZ.out _ HZ.out).mono ?_;rintro e w3 ⟨rfl,hb⟩;replace HZ:=Zg (HZ.out.trans (hb.mono HZ.out.size));clear hb;have Fj:=(cr.out _ HZ.out 39 _ (by omega) HI.out).1;have Fk:=(cr.out _ HZ.out 39 _ (by omega) HI.out).2;go_wp2_with fail
 refine(cp.out _ HZ.out).mono ?_;rintro e w4 ⟨rfl,rfl⟩;rw[show((ZB f 0 N).toList == (ZB f 0 N).toList)=true from by simp];clear Fj Fk;have a40:=(cr.out _ HZ.out 40 _ (by omega) HY.out.e0).1;have Fm:=(cr.out _ HZ.out 40 _ (by omega) HY.out.e0).2;have CM:=(cr.out _ HZ.out 41 _ (by omega) HY.out.e1).1;have Fo:=(cr.out _ HZ.out 41 _ (by omega) HY.out.e1).2;go_wp2_with fail
 refine(Zmn _).mono ?_;rintro e w5 ⟨rfl,hb⟩;replace HZ:=Zg (HZ.out.trans (hb.mono HZ.out.size));clear hb;clear a40 Fm CM Fo;have a42:=(cr.out _ HZ.out 42 _ (by omega) HY.out.e2).1;have Fp:=(cr.out _ HZ.out 42 _ (by omega) HY.out.e2).2;go_wp2_with fail
 refine(Zkd _).mono ?_;rintro e w6 ⟨rfl,hb⟩;replace HZ:=Zg (HZ.out.trans (hb.mono HZ.out.size));clear hb;clear a42 Fp;have CN:=(cr.out _ HZ.out 43 _ (by omega) HY.out.im).1;have Fq:=(cr.out _ HZ.out 43 _ (by omega) HY.out.im).2;go_wp2_with fail
 refine(VK _ _).mono ?_;rintro e w7 ⟨rfl,hb⟩;replace HZ:=Zg (HZ.out.trans (hb.mono HZ.out.size));clear hb;clear CN Fq;have Fs:=(cr.out _ HZ.out 44 _ (by omega) HY.out.de).1;have Ft:=(cr.out _ HZ.out 44 _ (by omega) HY.out.de).2;go_wp2_with fail
 refine(VK _ _).mono ?_;rintro e w8 ⟨rfl,hb⟩;replace HZ:=Zg (HZ.out.trans (hb.mono HZ.out.size));clear hb;clear Fs Ft;have a45:=(cr.out _ HZ.out 45 _ (by omega) HY.out.bo).1;have Fu:=(cr.out _ HZ.out 45 _ (by omega) HY.out.bo).2;go_wp2_with fail
 refine(Zke _).mono ?_;rintro e w9 ⟨rfl,hb⟩;replace HZ:=Zg (HZ.out.trans (hb.mono HZ.out.size));clear hb;clear a45 Fu;have a46:=(cr.out _ HZ.out 46 _ (by omega) HY.out.re).1;have Fv:=(cr.out _ HZ.out 46 _ (by omega) HY.out.re).2;go_wp2_with fail
 refine(Zos _).mono ?_;rintro e mP ⟨rfl,hb⟩;replace HZ:=Zg (HZ.out.trans (hb.mono HZ.out.size));clear hb;clear a46 Fv;have a47:=(cr.out _ HZ.out 47 _ (by omega) HY.out.t0).1;have IP:=(cr.out _ HZ.out 47 _ (by omega) HY.out.t0).2;have a48:=(cr.out _ HZ.out 48 _ (by omega) HY.out.t1).1;have IQ:=(cr.out _ HZ.out 48 _ (by omega) HY.out.t1).2;have a49:=(cr.out _ HZ.out 49 _ (by omega) HY.out.t2).1;have IU:=(cr.out _ HZ.out 49 _ (by omega) HY.out.t2).2;go_wp2_with fail
 refine(Tryz.slices_Equal_int_empty none none 0 0 0 _ (by omega)).mono ?_;rintro e p' ⟨rfl,rfl⟩;go_wp2_with fail
 go_ret;exact⟨rfl,au.out.trans (HZ.out.mono au.out.size)⟩
theorem Zhb (y:PeV) (hy:Bare y) (w:World):Calls Tryz.prog 17 #[.agg (peC y)] w fun e u=>(∃ A c,e= .returned (.slice A 0 c))/\Below w.heap.size w u:=by
 have bO:Below w.heap.size w (w.alloc (.cells (peC y) 50)):=(Below.refl w.heap.size w).alloc (Nat.le_refl _) _;have jL:=heap_alloc_new w (.cells (peC y) 50);obtain⟨w2,aR⟩: ∃ q,w.alloc (.cells (peC y) 50)=q:=⟨_,rfl⟩;rw[aR] at bO jL;have au:=Zg bO;have j8:=Zg aR;have cr:=Zg (show ∀ W,Below w2.heap.size w2 W-> ∀ j v,j<50->peF y j=v->W.cell? ⟨w.heap.size,j,none⟩=some v from fun W hW j v hj hv=>by
  subst hv;exact(hW.cell (p:=⟨w.heap.size,j,none⟩) (Zi jL)).trans ((Zh jL).trans (Yv y hj)))
 have HY:=Zg hy;clear bO jL aR hy;go_enter Tryz.func17,Tryz.ntmps17;go_upto_region 1 with(fail)
 refine(congrArg _ j8.out).mpr ?_;have HZ:=Zg (Below.refl w2.heap.size w2);go_upto_region 2 with(fail)
 generalize Km:w2.alloc _=w3;replace HZ:=Zg (show Below w2.heap.size w2 w3 from by rw[<-Km]; exact(Below.refl _ _).alloc (Nat.le_refl _) _);clear Km;have CN:=cr.out _ HZ.out 43 _ (by omega) HY.out.im;have CM:=cr.out _ HZ.out 41 _ (by omega) HY.out.e1;go_wp2_with fail
 go_loopw [3,15] (fun v3 v15 wr=>v15= .int .i64 0/\v3= .slice (some ⟨w2.heap.size,0,none⟩) 0 0/\wr=w3) (fun _ _ _=>0)
 case atStart=>exact⟨rfl,rfl,rfl⟩
 case round =>
  obtain⟨rfl,rfl,rfl⟩:=hrel;go_wp2_with fail
  go_loopw [3,28] (fun v3 v28 wx=>v28= .int .i64 0/\v3= .slice (some ⟨w2.heap.size,0,none⟩) 0 0/\wx=wr) (fun _ _ _=>0)
  case atStart=>exact⟨rfl,rfl,rfl⟩
  case round =>
   obtain⟨rfl,rfl,rfl⟩:=hrel;go_wp2_with fail
   go_ret;exact⟨⟨_,_,rfl⟩,au.out.trans (HZ.out.mono au.out.size)⟩
def TlsEq (t t':Bool) (x x':Int) (l l':List Int):Prop:=t=t'/\x=x'/\l.map WH=l'.map WH
theorem Zcx (t t':Bool) (x x':Int) (l l':List Int) (A A':Option Addr) (c c':Nat) (w:World) (h:SlT WH 1 w A l) (h':SlT WH 1 w A' l') (hn:l.length<=1000000) (jP:l'.length<=1000000) :
 Calls Tryz.prog 48 #[.agg #[.bool t,.int .i64 x,.slice A l.length c],.agg #[.bool t',.int .i64 x',.slice A' l'.length c']] w fun e u=>JS (TlsEq t t' x x' l l') e/\Below w.heap.size w u:=by
 classical
 have av:=Zg (((Below.refl w.heap.size w).alloc (Nat.le_refl _) (.cells #[.bool t,.int .i64 x,.slice A l.length c] 48)).alloc (by simp) (.cells #[.bool t',.int .i64 x',.slice A' l'.length c'] 48));have HI:=Zg (fun W (hW:Below w.heap.size w W)=>Zkg WH (fun y=>y) (fun _=>rfl) A A' l l' c c' W (h.below hW) (h'.below hW) hn jP (decide (l.map WH=l'.map WH)) decide_eq_true_iff);clear h h' hn jP;by_cases c0:t=t'
 ·by_cases c1:x=x'
  ·subst c0 c1;have d0:(t == t)=true:=by simp
   have d1:(x == x)=true:=by simp
   go_enter Tryz.func48,Tryz.ntmps48;go_wp2_with fail
   refine(HI.out _ av.out).mono ?_;rintro e u ⟨rfl,hb⟩;have aj:=Zg (av.out.trans (hb.mono av.out.size));clear hb;obtain⟨b,Gd⟩: ∃ q,decide (l.map WH=l'.map WH)=q:=⟨_,rfl⟩;rw[Gd];have HQ:=Zg (show b=true↔TlsEq t t x x l l' from by rw[<-Gd,decide_eq_true_iff]; exact⟨fun k=>⟨rfl,rfl,k⟩,fun k=>k.2.2⟩);clear Gd;go_wp2_with fail
   go_ret;exact⟨.of HQ.out,aj.out⟩
  ·have HN:=Zg c1;have d0:(t == t')=true:=by rw[beq_iff_eq]; exact c0
   have d1:(x == x')=false:=beq_eq_false_iff_ne.2 c1;subst c0;clear c1;go_enter Tryz.func48,Tryz.ntmps48;go_wp2_with fail
   go_ret;exact⟨.no fun k=>HN.out k.2.1,av.out⟩
 ·have HN:=Zg c0;have d0:(t == t')=false:=beq_eq_false_iff_ne.2 c0;clear c0;go_enter Tryz.func48,Tryz.ntmps48;go_wp2_with fail
  go_ret;exact⟨.no fun k=>HN.out k.1,av.out⟩
def ExpEq (b b':Int) (fs iQ:List FnV) (ns iR:List NmV):Prop:=b=b'/\fs.map gC=iQ.map gC/\ns.map nC=iR.map nC
theorem Zcy (b b':Int) (fs iQ:List FnV) (ns iR:List NmV) (F F' N N':Option Addr) (fc CU nc CV:Nat) (w:World) (hF:SlT gC 2 w F fs) (Kn:SlT gC 2 w F' iQ) (hN:SlT nC 2 w N ns) (Ko:SlT nC 2 w N' iR) (ra:fs.length<=1000000) (Bh:iQ.length<=1000000) (jz:ns.length<=1000000) (Bi:iR.length<=1000000) :
 Calls Tryz.prog 44 #[.agg #[.int .i64 b,.slice F fs.length fc,.slice N ns.length nc],.agg #[.int .i64 b',.slice F' iQ.length CU,.slice N' iR.length CV]] w fun e u=>JS (ExpEq b b' fs iQ ns iR) e/\Below w.heap.size w u:=by
 have HF:=Zg hF;have Ok:=Zg Kn;have HN:=Zg hN;have Ol:=Zg Ko;have hU:=Zg (And.intro (And.intro ra Bh) (And.intro jz Bi));obtain⟨w1,ao⟩: ∃ w1,(w.alloc (.cells #[.int .i64 b,.slice F fs.length fc,.slice N ns.length nc] 45)).alloc (.cells #[.int .i64 b',.slice F' iQ.length CU,.slice N' iR.length CV] 45)=w1:=⟨_,rfl⟩;have cu:=Zg ao;have av:=Zg (show Below w.heap.size w w1 from by rw[<-ao]; exact((Below.refl w.heap.size w).alloc (Nat.le_refl _) _).alloc (by simp) _);have mo:=Zg (show w1.heap[w.heap.size]? =some (.cells #[.int .i64 b,.slice F fs.length fc,.slice N ns.length nc] 45 (0,0)) from by rw[<-ao]; exact heap_alloc2_old w _ _);have ni:=Zg (show w1.heap[w.heap.size+1]? =some (.cells #[.int .i64 b',.slice F' iQ.length CU,.slice N' iR.length CV] 45 (0,0)) from by rw[<-ao]; exact heap_alloc2_new w _ _);have HC:=Zg (fun W (hW:Below w1.heap.size w1 W)=>show(W.cell? ⟨w.heap.size,1,none⟩=some (.slice F fs.length fc)/\W.cell? ⟨w.heap.size,2,none⟩=some (.slice N ns.length nc))/\W.cell? ⟨w.heap.size+1,1,none⟩=some (.slice F' iQ.length CU)/\W.cell? ⟨w.heap.size+1,2,none⟩=some (.slice N' iR.length CV) from by
  have h0:=(hW.block _ (Zi mo.out)).trans mo.out;have h1:=(hW.block _ (Zi ni.out)).trans ni.out;exact⟨⟨by rw[Zh h0]; rfl,by rw[Zh h0]; rfl⟩,by rw[Zh h1]; rfl,by rw[Zh h1]; rfl⟩)
 have r0:w1.cell? ⟨w.heap.size,0,none⟩=some (.int .i64 b):=by rw[Zh mo.out]; rfl
 have Om:w1.cell? ⟨w.heap.size+1,0,none⟩=some (.int .i64 b'):=by rw[Zh ni.out]; rfl
 obtain⟨⟨k1,k2⟩,k1',k2'⟩:=HC.out w1 (Below.refl _ _);clear ao hF Kn hN Ko ra Bh jz Bi;go_enter Tryz.func44,Tryz.ntmps44;go_upto_region 1 with(fail)
 refine(congrArg _ cu.out).mpr ?_;by_cases cb:b=b';rotate_left 1
 ·have n0:(b != b')=true:=bne_iff_ne.2 cb;have m0:(b == b')=false:=beq_eq_false_iff_ne.2 cb;have HQ:=Zg cb;clear cb;go_wp2_with fail
  go_ret;exact⟨.no fun k=>HQ.out k.1,av.out⟩
 have n0:(b != b')=false:=bne_eq_false_iff_eq.2 cb;have m0:(b == b')=true:=beq_iff_eq.2 cb;have On:=Zg cb;clear cb;by_cases cf:fs.length=iQ.length;rotate_left 1
 ·have n1:((fs.length:Int) != (iQ.length:Int))=true:=by rw[bne_iff_ne]; omega
  have HQ:=Zg cf;clear cf;go_wp2_with fail
  go_ret;exact⟨.no fun k=>HQ.out (by have:=congrArg List.length k.2.1; simpa using this),av.out⟩
 have n1:((fs.length:Int) != (iQ.length:Int))=false:=by rw[bne_eq_false_iff_eq]; omega
 have zJ:=Zg cf;clear cf;by_cases cn:ns.length=iR.length;rotate_left 1
 ·have n2:((ns.length:Int) != (iR.length:Int))=true:=by rw[bne_iff_ne]; omega
  have HQ:=Zg cn;clear cn;go_wp2_with fail
  go_ret;exact⟨.no fun k=>HQ.out (by have:=congrArg List.length k.2.2; simpa using this),av.out⟩
 have n2:((ns.length:Int) != (iR.length:Int))=false:=by rw[bne_eq_false_iff_eq]; omega
 have Bg:=Zg cn;clear cn;go_wp2_with fail
 clear r0 Om k1 k1' k2 k2' n0 n1 n2 m0;go_loopw [5] (fun v5 wr=> ∃ i:Nat,i<=fs.length/\v5= .int .i64 i/\(∀(j:Nat) (h1:j<fs.length) (h2:j<iQ.length),j<i->gC fs[j]=gC iQ[j])/\Below w1.heap.size w1 wr) (fun v5 _=>fs.length - (intOf v5).toNat)
 case atStart=>exact⟨0,by omega,rfl,fun j _ _ h=>by omega,Below.refl _ _⟩
 case round =>
  obtain⟨i,hi,rfl,bu,bZ⟩:=hrel;have qC:=Zg bu;have bp:=Zg bZ;obtain⟨⟨k1,k2⟩,k1',k2'⟩:=HC.out wr bZ;have aw:=Zg (av.out.trans (bZ.mono av.out.size));clear bu bZ;have oI:=hU.out.1.1;by_cases af:i<fs.length
  ·have aE:(i:Int)<fs.length:=by omega
   have aB:i<iQ.length:=by have:=zJ.out; omega
   have ib:(i:Int)<iQ.length:=by omega
   obtain⟨bb,o,rfl,_,hc⟩: ∃ b o,F=some ⟨b,o,none⟩/\b<wr.heap.size/\ ∀(i:Nat) (hi:i<fs.length) (j:Nat) (v:Value),(gC fs[i])[j]? =some v->wr.cell? ⟨b,o+(i * 2+j),none⟩=some v:=by
    rcases HF.out.below aw.out with h|h
    ·rw[h] at af; simp at af
    ·exact h
   obtain⟨oM,o',rfl,_,eN⟩: ∃ b o,F'=some ⟨b,o,none⟩/\b<wr.heap.size/\ ∀(i:Nat) (hi:i<iQ.length) (j:Nat) (v:Value),(gC iQ[i])[j]? =some v->wr.cell? ⟨b,o+(i * 2+j),none⟩=some v:=by
    rcases Ok.out.below aw.out with h|h
    ·rw[h] at aB; simp at aB
    ·exact h
   obtain⟨y,hy⟩: ∃ y,fs[i]=y:=⟨_,rfl⟩;obtain⟨z,hz⟩: ∃ y,iQ[i]=y:=⟨_,rfl⟩;have d0:=hc i af 0 (.int .i64 y.1) (by rw[hy]; rfl);have d1:=hc i af 1 (.string (txt y.2)) (by rw[hy]; rfl);have e0:=eN i aB 0 (.int .i64 z.1) (by rw[hz]; rfl);have e1:=eN i aB 1 (.string (txt z.2)) (by rw[hz]; rfl);rw[show o+(i * 2+0)=o+i * 2 by omega] at d0;rw[show o+(i * 2+1)=o+i * 2+1 by omega] at d1;rw[show o'+(i * 2+0)=o'+i * 2 by omega] at e0;rw[show o'+(i * 2+1)=o'+i * 2+1 by omega] at e1;obtain⟨r,rD,hr⟩:=Zk0 y.1 z.1 (txt y.2) (txt z.2);have eF:=Zg (show gC fs[i]=gC iQ[i]↔r=true from by rw[hy,hz,hr]; simp[gC]);clear hc eN hr hy hz;rcases r with _|_
   ·go_wp2_with fail
    go_region
    go_wp2_with fail
    go_ret;exact⟨.no fun k=>by
     have h2:=congrArg (fun L=>L[i]?) k.2.1;simp only[List.getElem?_map,List.getElem?_eq_getElem af,List.getElem?_eq_getElem aB,Option.map_some,Option.some.injEq] at h2;have h3:=eF.out.1 h2;simp at h3,aw.out.drew⟩
   ·have dN:=Zg (show ∀(j:Nat) (h1:j<fs.length) (h2:j<iQ.length),j<i+1->gC fs[j]=gC iQ[j] from fun j h1 h2 h3=>(by
     rcases(by omega:j<i\/j=i) with h4|h4
     ·exact qC.out j h1 h2 h4
     ·subst h4; exact eF.out.2 rfl))
    go_wp2_with fail
    go_region
    go_wp2_with fail
    go_roundw
    case rel=>exact⟨i+1,by omega,by go_num,dN.out,bp.out.drew⟩
    case measure=>simp[intOf]; omega
  ·obtain rfl:i=fs.length:=by omega
   have BU:=Zg (show fs.map gC=iQ.map gC from by
    apply List.ext_getElem
    ·simp[zJ.out]
    ·intro j h1 h2;simp only[List.length_map] at h1 h2;simp only[List.getElem_map];exact qC.out j h1 h2 h1)
   have Oo: ¬ (fs.length:Int)<(fs.length:Int):=by omega
   go_wp2_with fail
   clear k1 k2 k1' k2' Oo qC;go_loopw [6] (fun v6 wr=> ∃ i:Nat,i<=ns.length/\v6= .int .i64 i/\(∀(j:Nat) (h1:j<ns.length) (h2:j<iR.length),j<i->nC ns[j]=nC iR[j])/\Below w1.heap.size w1 wr) (fun v6 _=>ns.length - (intOf v6).toNat)
   case atStart=>exact⟨0,by omega,rfl,fun j _ _ h=>by omega,bp.out⟩
   case round =>
    obtain⟨i,hi,rfl,bu,bZ⟩:=hrel;have uf:=Zg bu;have cU:=Zg bZ;obtain⟨⟨k1,k2⟩,k1',k2'⟩:=HC.out wr bZ;have aw:=Zg (av.out.trans (bZ.mono av.out.size));clear bu bZ;have oI:=hU.out.2.1;by_cases af:i<ns.length
    ·have aE:(i:Int)<ns.length:=by omega
     have aB:i<iR.length:=by have:=Bg.out; omega
     have ib:(i:Int)<iR.length:=by omega
     obtain⟨bb,o,rfl,_,hc⟩: ∃ b o,N=some ⟨b,o,none⟩/\b<wr.heap.size/\ ∀(i:Nat) (hi:i<ns.length) (j:Nat) (v:Value),(nC ns[i])[j]? =some v->wr.cell? ⟨b,o+(i * 2+j),none⟩=some v:=by
      rcases HN.out.below aw.out with h|h
      ·rw[h] at af; simp at af
      ·exact h
     obtain⟨oM,o',rfl,_,eN⟩: ∃ b o,N'=some ⟨b,o,none⟩/\b<wr.heap.size/\ ∀(i:Nat) (hi:i<iR.length) (j:Nat) (v:Value),(nC iR[i])[j]? =some v->wr.cell? ⟨b,o+(i * 2+j),none⟩=some v:=by
      rcases Ol.out.below aw.out with h|h
      ·rw[h] at aB; simp at aB
      ·exact h
     obtain⟨y,hy⟩: ∃ y,ns[i]=y:=⟨_,rfl⟩;obtain⟨z,hz⟩: ∃ y,iR[i]=y:=⟨_,rfl⟩;have d0:=hc i af 0 (.string (txt y.1)) (by rw[hy]; rfl);have d1:=hc i af 1 (.int .i64 y.2) (by rw[hy]; rfl);have e0:=eN i aB 0 (.string (txt z.1)) (by rw[hz]; rfl);have e1:=eN i aB 1 (.int .i64 z.2) (by rw[hz]; rfl);rw[show o+(i * 2+0)=o+i * 2 by omega] at d0;rw[show o+(i * 2+1)=o+i * 2+1 by omega] at d1;rw[show o'+(i * 2+0)=o'+i * 2 by omega] at e0;rw[show o'+(i * 2+1)=o'+i * 2+1 by omega] at e1;obtain⟨r,rD,hr⟩:=Zhl (txt y.1) (txt z.1) y.2 z.2;have eF:=Zg (show nC ns[i]=nC iR[i]↔r=true from by rw[hy,hz,hr]; simp[nC]);clear hc eN hr hy hz;rcases r with _|_
     ·go_wp2_with fail
      go_region
      go_wp2_with fail
      go_ret;exact⟨.no fun k=>by
       have h2:=congrArg (fun L=>L[i]?) k.2.2;simp only[List.getElem?_map,List.getElem?_eq_getElem af,List.getElem?_eq_getElem aB,Option.map_some,Option.some.injEq] at h2;have h3:=eF.out.1 h2;simp at h3,aw.out.drew⟩
     ·have dN:=Zg (show ∀(j:Nat) (h1:j<ns.length) (h2:j<iR.length),j<i+1->nC ns[j]=nC iR[j] from fun j h1 h2 h3=>(by
       rcases(by omega:j<i\/j=i) with h4|h4
       ·exact uf.out j h1 h2 h4
       ·subst h4; exact eF.out.2 rfl))
      go_wp2_with fail
      go_region
      go_wp2_with fail
      go_roundw
      case rel=>exact⟨i+1,by omega,by go_num,dN.out,cU.out.drew⟩
      case measure=>simp[intOf]; omega
    ·obtain rfl:i=ns.length:=by omega
     have Oq:=Zg (show ns.map nC=iR.map nC from by
      apply List.ext_getElem
      ·simp[Bg.out]
      ·intro j h1 h2;simp only[List.length_map] at h1 h2;simp only[List.getElem_map];exact uf.out j h1 h2 h1)
     have Rz: ¬ (ns.length:Int)<(ns.length:Int):=by omega
     go_wp2_with fail
     go_ret;exact⟨.yes ⟨On.out,BU.out,Oq.out⟩,aw.out⟩
end Go.Proofs.YtplgdpjbkdagfaaGreat
