import Derived.Test.YtplgdpjbkdagfaaGreatZMd
import Derived.Test.YtplgdpjbkdagfaaGreatZOwnT
import Derived.Deep.DeepFit
namespace Go.Proofs.YtplgdpjbkdagfaaGreat
open Lib renaming hid→Zg
open Go.ChangeShapes Go.WideShapes Go.ChangeAt Go.RowKit
set_option linter.unusedVariables false
set_option linter.unusedSimpArgs false
set_option maxRecDepth 100000
theorem Za2 {S T:ByteArray} (h:S.toList=T.toList):S=T:=by
 rw[←UX S,←UX T] at h ⊢
 unfold ZB at h ⊢
 rw[Lib.strOfNums_toList,Lib.strOfNums_toList] at h
 apply ByteArray.ext
 apply Array.ext'
 exact h
theorem toList_eq {S T:ByteArray}:S.toList=T.toList↔S=T:=⟨Za2,fun h=>by rw[h]⟩
theorem Zb5 (x0 y0:Int) (x1 y1:ByteArray): ∃ r:Bool,(∀ W,(Op.equalIn 10000 74 (.agg #[.int .i64 x0,.string x1]) (.agg #[.int .i64 y0,.string y1])).run Tryz.prog W= .ok r W)∧(r=true↔x0=y0∧x1=y1):=by
 have hS:Tryz.prog.underlying 74=some (.struct (Tryz.prog.fieldsOf 74)):=by kernel_rfl
 have hp:Tryz.prog.stoodInHeld 74=false:=by kernel_rfl
 have u3:=Tryz.underlying3
 have u9:=Tryz.underlying9
 have u4:=Tryz.underlying4
 refine⟨(x0 == y0)&&(x1.toList == y1.toList),fun W=> ?_,?_⟩
 ·rw[show(10000:Nat)=9999+1 from rfl,run_equalIn_agg W 9999 74 _ _ hS hp]
  simp only[Program.fieldsOf,Tryz.underlying74]
  go_simp
  repeat' split
  all_goals simp_all
 ·simp only[Bool.and_eq_true,beq_iff_eq,toList_eq,and_assoc]
set_option maxHeartbeats 2000000 in
theorem Zdg {α :Type} (C: α →List Value) (f0: α →Int) (f1: α →ByteArray) (hC: ∀ x,C x=[.int .i64 (f0 x),.string (f1 x)]) (A A':Option Addr) (l l2:List α) (c c':Nat) (w:World) (h:SlT C 2 w A l) (h':SlT C 2 w A' l2) (hn:l.length≤1000000) (hn':l2.length≤1000000) (b:Bool) (hb:b=true↔l.map C=l2.map C) :
 Calls Tryz.prog 54 #[.slice A l.length c,.slice A' l2.length c'] w fun e u=>e= .returned (.bool b)∧Below w.heap.size w u:=by
 have HS:=Zg h
 have HS':=Zg h'
 have HC:=Zg hC
 have HN:=Zg (And.intro hn hn')
 have HBB:=Zg hb
 clear h h' hC hb
 by_cases hl:l.length=l2.length
 ·have HL:=Zg hl
  have e0:((l.length:Int) != (l2.length:Int))=false:=by simp[hl]
  have HN1:=Zg hn
  clear hn hn' hl
  go_enter Tryz.func54,Tryz.ntmps54
  go_wp2_with fail
  go_loopw [13] (fun v13 wr=> ∃ i:Nat,i≤l.length∧v13= .int .i64 i∧(∀(j:Nat) (h1:j<l.length) (h2:j<l2.length),j<i→C l[j]=C l2[j])∧Below w.heap.size w wr) (fun v13 _=>l.length - (intOf v13).toNat)
  case atStart=>exact⟨0,by omega,rfl,fun j _ _ h=>by omega,Below.refl _ _⟩
  case round =>
   obtain⟨i,hi,rfl,hall,hbw⟩:=hrel
   have HALL:=Zg hall
   have HB:=Zg hbw
   clear hall hbw
   by_cases hlt:i<l.length
   ·have hlt':(i:Int)<l.length:=by omega
    have hlt2:i<l2.length:=by have:=HL.out; omega
    have hlt2':(i:Int)<l2.length:=by omega
    obtain⟨bb,o,rfl,_,hc⟩: ∃ b o,A=some ⟨b,o,none⟩∧b<wr.heap.size∧ ∀(i:Nat) (hi:i<l.length) (j:Nat) (v:Value),(C l[i])[j]? =some v→wr.cell? ⟨b,o+(i * 2+j),none⟩=some v:=by
     rcases HS.out.below HB.out with h|h
     ·rw[h] at hlt; simp at hlt
     ·exact h
    obtain⟨bb',o',rfl,_,hc'⟩: ∃ b o,A'=some ⟨b,o,none⟩∧b<wr.heap.size∧ ∀(i:Nat) (hi:i<l2.length) (j:Nat) (v:Value),(C l2[i])[j]? =some v→wr.cell? ⟨b,o+(i * 2+j),none⟩=some v:=by
     rcases HS'.out.below HB.out with h|h
     ·rw[h] at hlt2; simp at hlt2
     ·exact h
    have hC:=HC.out
    have d0:=hc i hlt 0 (.int .i64 (f0 l[i])) (by rw[hC]; rfl)
    have d1:=hc i hlt 1 (.string (f1 l[i])) (by rw[hC]; rfl)
    have e0:=hc' i hlt2 0 (.int .i64 (f0 l2[i])) (by rw[hC]; rfl)
    have e1:=hc' i hlt2 1 (.string (f1 l2[i])) (by rw[hC]; rfl)
    rw[show o+(i * 2+0)=o+i * 2 by omega] at d0
    rw[show o'+(i * 2+0)=o'+i * 2 by omega] at e0
    rw[show o+(i * 2+1)=o+i * 2+1 by omega] at d1
    rw[show o'+(i * 2+1)=o'+i * 2+1 by omega] at e1
    obtain⟨r,hes,hr⟩:=Zb5 (f0 l[i]) (f0 l2[i]) (f1 l[i]) (f1 l2[i])
    have hCC:C l[i]=C l2[i]↔r=true:=by
     rw[hC,hC,hr]
     simp
    have HCC:=Zg hCC
    clear hc hc' hC hr hCC
    generalize f0 l[i]=p0 at *
    generalize f0 l2[i]=q0 at *
    generalize f1 l[i]=p1 at *
    generalize f1 l2[i]=q1 at *
    rcases r with _|_
    ·go_wp2_with fail
     go_region
     go_wp2_with fail
     go_ret
     refine⟨?_,HB.out.drew⟩
     rcases b with _|_
     ·rfl
     ·exfalso
      have h1:=HBB.out.1 rfl
      have h2:=congrArg (fun L=>L[i]?) h1
      simp only[List.getElem?_map,List.getElem?_eq_getElem hlt,List.getElem?_eq_getElem hlt2,Option.map_some,Option.some.injEq] at h2
      have h3:=HCC.out.1 h2
      simp at h3
    ·have HNX:=Zg (show ∀(j:Nat) (h1:j<l.length) (h2:j<l2.length),j<i+1→C l[j]=C l2[j] from fun j h1 h2 h3=>(by
      rcases(by omega:j<i∨j=i) with h4|h4
      ·exact HALL.out j h1 h2 h4
      ·subst h4; exact HCC.out.2 rfl))
     go_wp2_with fail
     go_region
     have hnn:=HN.out.1
     go_wp2_with fail
     go_roundw
     case rel=>exact⟨i+1,by omega,by go_num,HNX.out,HB.out.drew⟩
     case measure=>simp[intOf]; omega
   ·obtain rfl:i=l.length:=by omega
    go_wp2_with fail
    go_ret
    refine⟨?_,HB.out⟩
    rcases b with _|_
    ·exfalso
     have h1:l.map C=l2.map C:=by
      apply List.ext_getElem
      ·simp[HL.out]
      ·intro j h1 h2
       simp only[List.length_map] at h1 h2
       simp only[List.getElem_map]
       exact HALL.out j h1 h2 h1
     have h2:=HBB.out.2 h1
     simp at h2
    ·rfl
 ·have e0:((l.length:Int) != (l2.length:Int))=true:=by simp; omega
  have HL:=Zg hl
  clear hl
  go_enter Tryz.func54,Tryz.ntmps54
  go_wp2_with fail
  go_ret
  refine⟨?_,Below.refl _ _⟩
  rcases b with _|_
  ·rfl
  ·exfalso
   have h1:=congrArg List.length (HBB.out.1 rfl)
   simp only[List.length_map] at h1
   exact HL.out h1
theorem QC (x0 y0:ByteArray) (x1 y1:Int): ∃ r:Bool,(∀ W,(Op.equalIn 10000 76 (.agg #[.string x0,.int .i64 x1]) (.agg #[.string y0,.int .i64 y1])).run Tryz.prog W= .ok r W)∧(r=true↔x0=y0∧x1=y1):=by
 have hS:Tryz.prog.underlying 76=some (.struct (Tryz.prog.fieldsOf 76)):=by kernel_rfl
 have hp:Tryz.prog.stoodInHeld 76=false:=by kernel_rfl
 have u3:=Tryz.underlying3
 have u9:=Tryz.underlying9
 have u4:=Tryz.underlying4
 refine⟨(x0.toList == y0.toList)&&(x1 == y1),fun W=> ?_,?_⟩
 ·rw[show(10000:Nat)=9999+1 from rfl,run_equalIn_agg W 9999 76 _ _ hS hp]
  simp only[Program.fieldsOf,Tryz.underlying76]
  go_simp
  repeat' split
  all_goals simp_all
 ·simp only[Bool.and_eq_true,beq_iff_eq,toList_eq,and_assoc]
set_option maxHeartbeats 2000000 in
theorem Za3 {α :Type} (C: α →List Value) (f0: α →ByteArray) (f1: α →Int) (hC: ∀ x,C x=[.string (f0 x),.int .i64 (f1 x)]) (A A':Option Addr) (l l2:List α) (c c':Nat) (w:World) (h:SlT C 2 w A l) (h':SlT C 2 w A' l2) (hn:l.length≤1000000) (hn':l2.length≤1000000) (b:Bool) (hb:b=true↔l.map C=l2.map C) :
 Calls Tryz.prog 55 #[.slice A l.length c,.slice A' l2.length c'] w fun e u=>e= .returned (.bool b)∧Below w.heap.size w u:=by
 have HS:=Zg h
 have HS':=Zg h'
 have HC:=Zg hC
 have HN:=Zg (And.intro hn hn')
 have HBB:=Zg hb
 clear h h' hC hb
 by_cases hl:l.length=l2.length
 ·have HL:=Zg hl
  have e0:((l.length:Int) != (l2.length:Int))=false:=by simp[hl]
  have HN1:=Zg hn
  clear hn hn' hl
  go_enter Tryz.func55,Tryz.ntmps55
  go_wp2_with fail
  go_loopw [13] (fun v13 wr=> ∃ i:Nat,i≤l.length∧v13= .int .i64 i∧(∀(j:Nat) (h1:j<l.length) (h2:j<l2.length),j<i→C l[j]=C l2[j])∧Below w.heap.size w wr) (fun v13 _=>l.length - (intOf v13).toNat)
  case atStart=>exact⟨0,by omega,rfl,fun j _ _ h=>by omega,Below.refl _ _⟩
  case round =>
   obtain⟨i,hi,rfl,hall,hbw⟩:=hrel
   have HALL:=Zg hall
   have HB:=Zg hbw
   clear hall hbw
   by_cases hlt:i<l.length
   ·have hlt':(i:Int)<l.length:=by omega
    have hlt2:i<l2.length:=by have:=HL.out; omega
    have hlt2':(i:Int)<l2.length:=by omega
    obtain⟨bb,o,rfl,_,hc⟩: ∃ b o,A=some ⟨b,o,none⟩∧b<wr.heap.size∧ ∀(i:Nat) (hi:i<l.length) (j:Nat) (v:Value),(C l[i])[j]? =some v→wr.cell? ⟨b,o+(i * 2+j),none⟩=some v:=by
     rcases HS.out.below HB.out with h|h
     ·rw[h] at hlt; simp at hlt
     ·exact h
    obtain⟨bb',o',rfl,_,hc'⟩: ∃ b o,A'=some ⟨b,o,none⟩∧b<wr.heap.size∧ ∀(i:Nat) (hi:i<l2.length) (j:Nat) (v:Value),(C l2[i])[j]? =some v→wr.cell? ⟨b,o+(i * 2+j),none⟩=some v:=by
     rcases HS'.out.below HB.out with h|h
     ·rw[h] at hlt2; simp at hlt2
     ·exact h
    have hC:=HC.out
    have d0:=hc i hlt 0 (.string (f0 l[i])) (by rw[hC]; rfl)
    have d1:=hc i hlt 1 (.int .i64 (f1 l[i])) (by rw[hC]; rfl)
    have e0:=hc' i hlt2 0 (.string (f0 l2[i])) (by rw[hC]; rfl)
    have e1:=hc' i hlt2 1 (.int .i64 (f1 l2[i])) (by rw[hC]; rfl)
    rw[show o+(i * 2+0)=o+i * 2 by omega] at d0
    rw[show o'+(i * 2+0)=o'+i * 2 by omega] at e0
    rw[show o+(i * 2+1)=o+i * 2+1 by omega] at d1
    rw[show o'+(i * 2+1)=o'+i * 2+1 by omega] at e1
    obtain⟨r,hes,hr⟩:=QC (f0 l[i]) (f0 l2[i]) (f1 l[i]) (f1 l2[i])
    have hCC:C l[i]=C l2[i]↔r=true:=by
     rw[hC,hC,hr]
     simp
    have HCC:=Zg hCC
    clear hc hc' hC hr hCC
    generalize f0 l[i]=p0 at *
    generalize f0 l2[i]=q0 at *
    generalize f1 l[i]=p1 at *
    generalize f1 l2[i]=q1 at *
    rcases r with _|_
    ·go_wp2_with fail
     go_region
     go_wp2_with fail
     go_ret
     refine⟨?_,HB.out.drew⟩
     rcases b with _|_
     ·rfl
     ·exfalso
      have h1:=HBB.out.1 rfl
      have h2:=congrArg (fun L=>L[i]?) h1
      simp only[List.getElem?_map,List.getElem?_eq_getElem hlt,List.getElem?_eq_getElem hlt2,Option.map_some,Option.some.injEq] at h2
      have h3:=HCC.out.1 h2
      simp at h3
    ·have HNX:=Zg (show ∀(j:Nat) (h1:j<l.length) (h2:j<l2.length),j<i+1→C l[j]=C l2[j] from fun j h1 h2 h3=>(by
      rcases(by omega:j<i∨j=i) with h4|h4
      ·exact HALL.out j h1 h2 h4
      ·subst h4; exact HCC.out.2 rfl))
     go_wp2_with fail
     go_region
     have hnn:=HN.out.1
     go_wp2_with fail
     go_roundw
     case rel=>exact⟨i+1,by omega,by go_num,HNX.out,HB.out.drew⟩
     case measure=>simp[intOf]; omega
   ·obtain rfl:i=l.length:=by omega
    go_wp2_with fail
    go_ret
    refine⟨?_,HB.out⟩
    rcases b with _|_
    ·exfalso
     have h1:l.map C=l2.map C:=by
      apply List.ext_getElem
      ·simp[HL.out]
      ·intro j h1 h2
       simp only[List.length_map] at h1 h2
       simp only[List.getElem_map]
       exact HALL.out j h1 h2 h1
     have h2:=HBB.out.2 h1
     simp at h2
    ·rfl
 ·have e0:((l.length:Int) != (l2.length:Int))=true:=by simp; omega
  have HL:=Zg hl
  clear hl
  go_enter Tryz.func55,Tryz.ntmps55
  go_wp2_with fail
  go_ret
  refine⟨?_,Below.refl _ _⟩
  rcases b with _|_
  ·rfl
  ·exfalso
   have h1:=congrArg List.length (HBB.out.1 rfl)
   simp only[List.length_map] at h1
   exact HL.out h1
theorem QD (x0 y0:ByteArray) (x1 y1:Int): ∃ r:Bool,(∀ W,(Op.equalIn 10000 80 (.agg #[.string x0,.int .i64 x1]) (.agg #[.string y0,.int .i64 y1])).run Tryz.prog W= .ok r W)∧(r=true↔x0=y0∧x1=y1):=by
 have hS:Tryz.prog.underlying 80=some (.struct (Tryz.prog.fieldsOf 80)):=by kernel_rfl
 have hp:Tryz.prog.stoodInHeld 80=false:=by kernel_rfl
 have u3:=Tryz.underlying3
 have u9:=Tryz.underlying9
 have u4:=Tryz.underlying4
 refine⟨(x0.toList == y0.toList)&&(x1 == y1),fun W=> ?_,?_⟩
 ·rw[show(10000:Nat)=9999+1 from rfl,run_equalIn_agg W 9999 80 _ _ hS hp]
  simp only[Program.fieldsOf,Tryz.underlying80]
  go_simp
  repeat' split
  all_goals simp_all
 ·simp only[Bool.and_eq_true,beq_iff_eq,toList_eq,and_assoc]
set_option maxHeartbeats 2000000 in
theorem Za4 {α :Type} (C: α →List Value) (f0: α →ByteArray) (f1: α →Int) (hC: ∀ x,C x=[.string (f0 x),.int .i64 (f1 x)]) (A A':Option Addr) (l l2:List α) (c c':Nat) (w:World) (h:SlT C 2 w A l) (h':SlT C 2 w A' l2) (hn:l.length≤1000000) (hn':l2.length≤1000000) (b:Bool) (hb:b=true↔l.map C=l2.map C) :
 Calls Tryz.prog 58 #[.slice A l.length c,.slice A' l2.length c'] w fun e u=>e= .returned (.bool b)∧Below w.heap.size w u:=by
 have HS:=Zg h
 have HS':=Zg h'
 have HC:=Zg hC
 have HN:=Zg (And.intro hn hn')
 have HBB:=Zg hb
 clear h h' hC hb
 by_cases hl:l.length=l2.length
 ·have HL:=Zg hl
  have e0:((l.length:Int) != (l2.length:Int))=false:=by simp[hl]
  have HN1:=Zg hn
  clear hn hn' hl
  go_enter Tryz.func58,Tryz.ntmps58
  go_wp2_with fail
  go_loopw [13] (fun v13 wr=> ∃ i:Nat,i≤l.length∧v13= .int .i64 i∧(∀(j:Nat) (h1:j<l.length) (h2:j<l2.length),j<i→C l[j]=C l2[j])∧Below w.heap.size w wr) (fun v13 _=>l.length - (intOf v13).toNat)
  case atStart=>exact⟨0,by omega,rfl,fun j _ _ h=>by omega,Below.refl _ _⟩
  case round =>
   obtain⟨i,hi,rfl,hall,hbw⟩:=hrel
   have HALL:=Zg hall
   have HB:=Zg hbw
   clear hall hbw
   by_cases hlt:i<l.length
   ·have hlt':(i:Int)<l.length:=by omega
    have hlt2:i<l2.length:=by have:=HL.out; omega
    have hlt2':(i:Int)<l2.length:=by omega
    obtain⟨bb,o,rfl,_,hc⟩: ∃ b o,A=some ⟨b,o,none⟩∧b<wr.heap.size∧ ∀(i:Nat) (hi:i<l.length) (j:Nat) (v:Value),(C l[i])[j]? =some v→wr.cell? ⟨b,o+(i * 2+j),none⟩=some v:=by
     rcases HS.out.below HB.out with h|h
     ·rw[h] at hlt; simp at hlt
     ·exact h
    obtain⟨bb',o',rfl,_,hc'⟩: ∃ b o,A'=some ⟨b,o,none⟩∧b<wr.heap.size∧ ∀(i:Nat) (hi:i<l2.length) (j:Nat) (v:Value),(C l2[i])[j]? =some v→wr.cell? ⟨b,o+(i * 2+j),none⟩=some v:=by
     rcases HS'.out.below HB.out with h|h
     ·rw[h] at hlt2; simp at hlt2
     ·exact h
    have hC:=HC.out
    have d0:=hc i hlt 0 (.string (f0 l[i])) (by rw[hC]; rfl)
    have d1:=hc i hlt 1 (.int .i64 (f1 l[i])) (by rw[hC]; rfl)
    have e0:=hc' i hlt2 0 (.string (f0 l2[i])) (by rw[hC]; rfl)
    have e1:=hc' i hlt2 1 (.int .i64 (f1 l2[i])) (by rw[hC]; rfl)
    rw[show o+(i * 2+0)=o+i * 2 by omega] at d0
    rw[show o'+(i * 2+0)=o'+i * 2 by omega] at e0
    rw[show o+(i * 2+1)=o+i * 2+1 by omega] at d1
    rw[show o'+(i * 2+1)=o'+i * 2+1 by omega] at e1
    obtain⟨r,hes,hr⟩:=QD (f0 l[i]) (f0 l2[i]) (f1 l[i]) (f1 l2[i])
    have hCC:C l[i]=C l2[i]↔r=true:=by
     rw[hC,hC,hr]
     simp
    have HCC:=Zg hCC
    clear hc hc' hC hr hCC
    generalize f0 l[i]=p0 at *
    generalize f0 l2[i]=q0 at *
    generalize f1 l[i]=p1 at *
    generalize f1 l2[i]=q1 at *
    rcases r with _|_
    ·go_wp2_with fail
     go_region
     go_wp2_with fail
     go_ret
     refine⟨?_,HB.out.drew⟩
     rcases b with _|_
     ·rfl
     ·exfalso
      have h1:=HBB.out.1 rfl
      have h2:=congrArg (fun L=>L[i]?) h1
      simp only[List.getElem?_map,List.getElem?_eq_getElem hlt,List.getElem?_eq_getElem hlt2,Option.map_some,Option.some.injEq] at h2
      have h3:=HCC.out.1 h2
      simp at h3
    ·have HNX:=Zg (show ∀(j:Nat) (h1:j<l.length) (h2:j<l2.length),j<i+1→C l[j]=C l2[j] from fun j h1 h2 h3=>(by
      rcases(by omega:j<i∨j=i) with h4|h4
      ·exact HALL.out j h1 h2 h4
      ·subst h4; exact HCC.out.2 rfl))
     go_wp2_with fail
     go_region
     have hnn:=HN.out.1
     go_wp2_with fail
     go_roundw
     case rel=>exact⟨i+1,by omega,by go_num,HNX.out,HB.out.drew⟩
     case measure=>simp[intOf]; omega
   ·obtain rfl:i=l.length:=by omega
    go_wp2_with fail
    go_ret
    refine⟨?_,HB.out⟩
    rcases b with _|_
    ·exfalso
     have h1:l.map C=l2.map C:=by
      apply List.ext_getElem
      ·simp[HL.out]
      ·intro j h1 h2
       simp only[List.length_map] at h1 h2
       simp only[List.getElem_map]
       exact HALL.out j h1 h2 h1
     have h2:=HBB.out.2 h1
     simp at h2
    ·rfl
 ·have e0:((l.length:Int) != (l2.length:Int))=true:=by simp; omega
  have HL:=Zg hl
  clear hl
  go_enter Tryz.func58,Tryz.ntmps58
  go_wp2_with fail
  go_ret
  refine⟨?_,Below.refl _ _⟩
  rcases b with _|_
  ·rfl
  ·exfalso
   have h1:=congrArg List.length (HBB.out.1 rfl)
   simp only[List.length_map] at h1
   exact HL.out h1
theorem Zeh (x0 y0:Int) (x1 y1:Int): ∃ r:Bool,(∀ W,(Op.equalIn 10000 82 (.agg #[.int .i64 x0,.int .i64 x1]) (.agg #[.int .i64 y0,.int .i64 y1])).run Tryz.prog W= .ok r W)∧(r=true↔x0=y0∧x1=y1):=by
 have hS:Tryz.prog.underlying 82=some (.struct (Tryz.prog.fieldsOf 82)):=by kernel_rfl
 have hp:Tryz.prog.stoodInHeld 82=false:=by kernel_rfl
 have u3:=Tryz.underlying3
 have u9:=Tryz.underlying9
 have u4:=Tryz.underlying4
 refine⟨(x0 == y0)&&(x1 == y1),fun W=> ?_,?_⟩
 ·rw[show(10000:Nat)=9999+1 from rfl,run_equalIn_agg W 9999 82 _ _ hS hp]
  simp only[Program.fieldsOf,Tryz.underlying82]
  go_simp
  repeat' split
  all_goals simp_all
 ·simp only[Bool.and_eq_true,beq_iff_eq,toList_eq,and_assoc]
set_option maxHeartbeats 2000000 in
theorem Zei {α :Type} (C: α →List Value) (f0: α →Int) (f1: α →Int) (hC: ∀ x,C x=[.int .i64 (f0 x),.int .i64 (f1 x)]) (A A':Option Addr) (l l2:List α) (c c':Nat) (w:World) (h:SlT C 2 w A l) (h':SlT C 2 w A' l2) (hn:l.length≤1000000) (hn':l2.length≤1000000) (b:Bool) (hb:b=true↔l.map C=l2.map C) :
 Calls Tryz.prog 59 #[.slice A l.length c,.slice A' l2.length c'] w fun e u=>e= .returned (.bool b)∧Below w.heap.size w u:=by
 have HS:=Zg h
 have HS':=Zg h'
 have HC:=Zg hC
 have HN:=Zg (And.intro hn hn')
 have HBB:=Zg hb
 clear h h' hC hb
 by_cases hl:l.length=l2.length
 ·have HL:=Zg hl
  have e0:((l.length:Int) != (l2.length:Int))=false:=by simp[hl]
  have HN1:=Zg hn
  clear hn hn' hl
  go_enter Tryz.func59,Tryz.ntmps59
  go_wp2_with fail
  go_loopw [13] (fun v13 wr=> ∃ i:Nat,i≤l.length∧v13= .int .i64 i∧(∀(j:Nat) (h1:j<l.length) (h2:j<l2.length),j<i→C l[j]=C l2[j])∧Below w.heap.size w wr) (fun v13 _=>l.length - (intOf v13).toNat)
  case atStart=>exact⟨0,by omega,rfl,fun j _ _ h=>by omega,Below.refl _ _⟩
  case round =>
   obtain⟨i,hi,rfl,hall,hbw⟩:=hrel
   have HALL:=Zg hall
   have HB:=Zg hbw
   clear hall hbw
   by_cases hlt:i<l.length
   ·have hlt':(i:Int)<l.length:=by omega
    have hlt2:i<l2.length:=by have:=HL.out; omega
    have hlt2':(i:Int)<l2.length:=by omega
    obtain⟨bb,o,rfl,_,hc⟩: ∃ b o,A=some ⟨b,o,none⟩∧b<wr.heap.size∧ ∀(i:Nat) (hi:i<l.length) (j:Nat) (v:Value),(C l[i])[j]? =some v→wr.cell? ⟨b,o+(i * 2+j),none⟩=some v:=by
     rcases HS.out.below HB.out with h|h
     ·rw[h] at hlt; simp at hlt
     ·exact h
    obtain⟨bb',o',rfl,_,hc'⟩: ∃ b o,A'=some ⟨b,o,none⟩∧b<wr.heap.size∧ ∀(i:Nat) (hi:i<l2.length) (j:Nat) (v:Value),(C l2[i])[j]? =some v→wr.cell? ⟨b,o+(i * 2+j),none⟩=some v:=by
     rcases HS'.out.below HB.out with h|h
     ·rw[h] at hlt2; simp at hlt2
     ·exact h
    have hC:=HC.out
    have d0:=hc i hlt 0 (.int .i64 (f0 l[i])) (by rw[hC]; rfl)
    have d1:=hc i hlt 1 (.int .i64 (f1 l[i])) (by rw[hC]; rfl)
    have e0:=hc' i hlt2 0 (.int .i64 (f0 l2[i])) (by rw[hC]; rfl)
    have e1:=hc' i hlt2 1 (.int .i64 (f1 l2[i])) (by rw[hC]; rfl)
    rw[show o+(i * 2+0)=o+i * 2 by omega] at d0
    rw[show o'+(i * 2+0)=o'+i * 2 by omega] at e0
    rw[show o+(i * 2+1)=o+i * 2+1 by omega] at d1
    rw[show o'+(i * 2+1)=o'+i * 2+1 by omega] at e1
    obtain⟨r,hes,hr⟩:=Zeh (f0 l[i]) (f0 l2[i]) (f1 l[i]) (f1 l2[i])
    have hCC:C l[i]=C l2[i]↔r=true:=by
     rw[hC,hC,hr]
     simp
    have HCC:=Zg hCC
    clear hc hc' hC hr hCC
    generalize f0 l[i]=p0 at *
    generalize f0 l2[i]=q0 at *
    generalize f1 l[i]=p1 at *
    generalize f1 l2[i]=q1 at *
    rcases r with _|_
    ·go_wp2_with fail
     go_region
     go_wp2_with fail
     go_ret
     refine⟨?_,HB.out.drew⟩
     rcases b with _|_
     ·rfl
     ·exfalso
      have h1:=HBB.out.1 rfl
      have h2:=congrArg (fun L=>L[i]?) h1
      simp only[List.getElem?_map,List.getElem?_eq_getElem hlt,List.getElem?_eq_getElem hlt2,Option.map_some,Option.some.injEq] at h2
      have h3:=HCC.out.1 h2
      simp at h3
    ·have HNX:=Zg (show ∀(j:Nat) (h1:j<l.length) (h2:j<l2.length),j<i+1→C l[j]=C l2[j] from fun j h1 h2 h3=>(by
      rcases(by omega:j<i∨j=i) with h4|h4
      ·exact HALL.out j h1 h2 h4
      ·subst h4; exact HCC.out.2 rfl))
     go_wp2_with fail
     go_region
     have hnn:=HN.out.1
     go_wp2_with fail
     go_roundw
     case rel=>exact⟨i+1,by omega,by go_num,HNX.out,HB.out.drew⟩
     case measure=>simp[intOf]; omega
   ·obtain rfl:i=l.length:=by omega
    go_wp2_with fail
    go_ret
    refine⟨?_,HB.out⟩
    rcases b with _|_
    ·exfalso
     have h1:l.map C=l2.map C:=by
      apply List.ext_getElem
      ·simp[HL.out]
      ·intro j h1 h2
       simp only[List.length_map] at h1 h2
       simp only[List.getElem_map]
       exact HALL.out j h1 h2 h1
     have h2:=HBB.out.2 h1
     simp at h2
    ·rfl
 ·have e0:((l.length:Int) != (l2.length:Int))=true:=by simp; omega
  have HL:=Zg hl
  clear hl
  go_enter Tryz.func59,Tryz.ntmps59
  go_wp2_with fail
  go_ret
  refine⟨?_,Below.refl _ _⟩
  rcases b with _|_
  ·rfl
  ·exfalso
   have h1:=congrArg List.length (HBB.out.1 rfl)
   simp only[List.length_map] at h1
   exact HL.out h1
theorem Zej (x0 y0:ByteArray) (x1 y1:Int) (x2 y2:Bool): ∃ r:Bool,(∀ W,(Op.equalIn 10000 58 (.agg #[.string x0,.int .i64 x1,.bool x2]) (.agg #[.string y0,.int .i64 y1,.bool y2])).run Tryz.prog W= .ok r W)∧(r=true↔x0=y0∧x1=y1∧x2=y2):=by
 have hS:Tryz.prog.underlying 58=some (.struct (Tryz.prog.fieldsOf 58)):=by kernel_rfl
 have hp:Tryz.prog.stoodInHeld 58=false:=by kernel_rfl
 have u3:=Tryz.underlying3
 have u9:=Tryz.underlying9
 have u4:=Tryz.underlying4
 refine⟨(x0.toList == y0.toList)&&(x1 == y1)&&(x2 == y2),fun W=> ?_,?_⟩
 ·rw[show(10000:Nat)=9999+1 from rfl,run_equalIn_agg W 9999 58 _ _ hS hp]
  simp only[Program.fieldsOf,Tryz.underlying58]
  go_simp
  repeat' split
  all_goals simp_all
 ·simp only[Bool.and_eq_true,beq_iff_eq,toList_eq,and_assoc]
set_option maxHeartbeats 2000000 in
theorem Zek {α :Type} (C: α →List Value) (f0: α →ByteArray) (f1: α →Int) (f2: α →Bool) (hC: ∀ x,C x=[.string (f0 x),.int .i64 (f1 x),.bool (f2 x)]) (A A':Option Addr) (l l2:List α) (c c':Nat) (w:World) (h:SlT C 3 w A l) (h':SlT C 3 w A' l2) (hn:l.length≤1000000) (hn':l2.length≤1000000) (b:Bool) (hb:b=true↔l.map C=l2.map C) :
 Calls Tryz.prog 100 #[.slice A l.length c,.slice A' l2.length c'] w fun e u=>e= .returned (.bool b)∧Below w.heap.size w u:=by
 have HS:=Zg h
 have HS':=Zg h'
 have HC:=Zg hC
 have HN:=Zg (And.intro hn hn')
 have HBB:=Zg hb
 clear h h' hC hb
 by_cases hl:l.length=l2.length
 ·have HL:=Zg hl
  have e0:((l.length:Int) != (l2.length:Int))=false:=by simp[hl]
  have HN1:=Zg hn
  clear hn hn' hl
  go_enter Tryz.func100,Tryz.ntmps100
  go_wp2_with fail
  go_loopw [13] (fun v13 wr=> ∃ i:Nat,i≤l.length∧v13= .int .i64 i∧(∀(j:Nat) (h1:j<l.length) (h2:j<l2.length),j<i→C l[j]=C l2[j])∧Below w.heap.size w wr) (fun v13 _=>l.length - (intOf v13).toNat)
  case atStart=>exact⟨0,by omega,rfl,fun j _ _ h=>by omega,Below.refl _ _⟩
  case round =>
   obtain⟨i,hi,rfl,hall,hbw⟩:=hrel
   have HALL:=Zg hall
   have HB:=Zg hbw
   clear hall hbw
   by_cases hlt:i<l.length
   ·have hlt':(i:Int)<l.length:=by omega
    have hlt2:i<l2.length:=by have:=HL.out; omega
    have hlt2':(i:Int)<l2.length:=by omega
    obtain⟨bb,o,rfl,_,hc⟩: ∃ b o,A=some ⟨b,o,none⟩∧b<wr.heap.size∧ ∀(i:Nat) (hi:i<l.length) (j:Nat) (v:Value),(C l[i])[j]? =some v→wr.cell? ⟨b,o+(i * 3+j),none⟩=some v:=by
     rcases HS.out.below HB.out with h|h
     ·rw[h] at hlt; simp at hlt
     ·exact h
    obtain⟨bb',o',rfl,_,hc'⟩: ∃ b o,A'=some ⟨b,o,none⟩∧b<wr.heap.size∧ ∀(i:Nat) (hi:i<l2.length) (j:Nat) (v:Value),(C l2[i])[j]? =some v→wr.cell? ⟨b,o+(i * 3+j),none⟩=some v:=by
     rcases HS'.out.below HB.out with h|h
     ·rw[h] at hlt2; simp at hlt2
     ·exact h
    have hC:=HC.out
    have d0:=hc i hlt 0 (.string (f0 l[i])) (by rw[hC]; rfl)
    have d1:=hc i hlt 1 (.int .i64 (f1 l[i])) (by rw[hC]; rfl)
    have d2:=hc i hlt 2 (.bool (f2 l[i])) (by rw[hC]; rfl)
    have e0:=hc' i hlt2 0 (.string (f0 l2[i])) (by rw[hC]; rfl)
    have e1:=hc' i hlt2 1 (.int .i64 (f1 l2[i])) (by rw[hC]; rfl)
    have e2:=hc' i hlt2 2 (.bool (f2 l2[i])) (by rw[hC]; rfl)
    rw[show o+(i * 3+0)=o+i * 3 by omega] at d0
    rw[show o'+(i * 3+0)=o'+i * 3 by omega] at e0
    rw[show o+(i * 3+1)=o+i * 3+1 by omega] at d1
    rw[show o'+(i * 3+1)=o'+i * 3+1 by omega] at e1
    rw[show o+(i * 3+2)=o+i * 3+2 by omega] at d2
    rw[show o'+(i * 3+2)=o'+i * 3+2 by omega] at e2
    obtain⟨r,hes,hr⟩:=Zej (f0 l[i]) (f0 l2[i]) (f1 l[i]) (f1 l2[i]) (f2 l[i]) (f2 l2[i])
    have hCC:C l[i]=C l2[i]↔r=true:=by
     rw[hC,hC,hr]
     simp
    have HCC:=Zg hCC
    clear hc hc' hC hr hCC
    generalize f0 l[i]=p0 at *
    generalize f0 l2[i]=q0 at *
    generalize f1 l[i]=p1 at *
    generalize f1 l2[i]=q1 at *
    generalize f2 l[i]=p2 at *
    generalize f2 l2[i]=q2 at *
    rcases r with _|_
    ·go_wp2_with fail
     go_region
     go_wp2_with fail
     go_ret
     refine⟨?_,HB.out.drew⟩
     rcases b with _|_
     ·rfl
     ·exfalso
      have h1:=HBB.out.1 rfl
      have h2:=congrArg (fun L=>L[i]?) h1
      simp only[List.getElem?_map,List.getElem?_eq_getElem hlt,List.getElem?_eq_getElem hlt2,Option.map_some,Option.some.injEq] at h2
      have h3:=HCC.out.1 h2
      simp at h3
    ·have HNX:=Zg (show ∀(j:Nat) (h1:j<l.length) (h2:j<l2.length),j<i+1→C l[j]=C l2[j] from fun j h1 h2 h3=>(by
      rcases(by omega:j<i∨j=i) with h4|h4
      ·exact HALL.out j h1 h2 h4
      ·subst h4; exact HCC.out.2 rfl))
     go_wp2_with fail
     go_region
     have hnn:=HN.out.1
     go_wp2_with fail
     go_roundw
     case rel=>exact⟨i+1,by omega,by go_num,HNX.out,HB.out.drew⟩
     case measure=>simp[intOf]; omega
   ·obtain rfl:i=l.length:=by omega
    go_wp2_with fail
    go_ret
    refine⟨?_,HB.out⟩
    rcases b with _|_
    ·exfalso
     have h1:l.map C=l2.map C:=by
      apply List.ext_getElem
      ·simp[HL.out]
      ·intro j h1 h2
       simp only[List.length_map] at h1 h2
       simp only[List.getElem_map]
       exact HALL.out j h1 h2 h1
     have h2:=HBB.out.2 h1
     simp at h2
    ·rfl
 ·have e0:((l.length:Int) != (l2.length:Int))=true:=by simp; omega
  have HL:=Zg hl
  clear hl
  go_enter Tryz.func100,Tryz.ntmps100
  go_wp2_with fail
  go_ret
  refine⟨?_,Below.refl _ _⟩
  rcases b with _|_
  ·rfl
  ·exfalso
   have h1:=congrArg List.length (HBB.out.1 rfl)
   simp only[List.length_map] at h1
   exact HL.out h1
theorem Zb6 (x0 y0:ByteArray) (x1 y1:Int) (x2 y2:Int) (x3 y3:Int) (x4 y4:Int) (x5 y5:Int): ∃ r:Bool,(∀ W,(Op.equalIn 10000 72 (.agg #[.string x0,.int .i64 x1,.int .i64 x2,.int .i64 x3,.int .i64 x4,.int .i64 x5]) (.agg #[.string y0,.int .i64 y1,.int .i64 y2,.int .i64 y3,.int .i64 y4,.int .i64 y5])).run Tryz.prog W= .ok r W)∧(r=true↔x0=y0∧x1=y1∧x2=y2∧x3=y3∧x4=y4∧x5=y5):=by
 have hS:Tryz.prog.underlying 72=some (.struct (Tryz.prog.fieldsOf 72)):=by kernel_rfl
 have hp:Tryz.prog.stoodInHeld 72=false:=by kernel_rfl
 have u3:=Tryz.underlying3
 have u9:=Tryz.underlying9
 have u4:=Tryz.underlying4
 refine⟨(x0.toList == y0.toList)&&(x1 == y1)&&(x2 == y2)&&(x3 == y3)&&(x4 == y4)&&(x5 == y5),fun W=> ?_,?_⟩
 ·rw[show(10000:Nat)=9999+1 from rfl,run_equalIn_agg W 9999 72 _ _ hS hp]
  simp only[Program.fieldsOf,Tryz.underlying72]
  go_simp
  repeat' split
  all_goals simp_all
 ·simp only[Bool.and_eq_true,beq_iff_eq,toList_eq,and_assoc]
set_option maxHeartbeats 2000000 in
theorem Js {α :Type} (C: α →List Value) (f0: α →ByteArray) (f1: α →Int) (f2: α →Int) (f3: α →Int) (f4: α →Int) (f5: α →Int) (hC: ∀ x,C x=[.string (f0 x),.int .i64 (f1 x),.int .i64 (f2 x),.int .i64 (f3 x),.int .i64 (f4 x),.int .i64 (f5 x)]) (A A':Option Addr) (l l2:List α) (c c':Nat) (w:World) (h:SlT C 6 w A l) (h':SlT C 6 w A' l2) (hn:l.length≤1000000) (hn':l2.length≤1000000) (b:Bool) (hb:b=true↔l.map C=l2.map C) :
 Calls Tryz.prog 99 #[.slice A l.length c,.slice A' l2.length c'] w fun e u=>e= .returned (.bool b)∧Below w.heap.size w u:=by
 have HS:=Zg h
 have HS':=Zg h'
 have HC:=Zg hC
 have HN:=Zg (And.intro hn hn')
 have HBB:=Zg hb
 clear h h' hC hb
 by_cases hl:l.length=l2.length
 ·have HL:=Zg hl
  have e0:((l.length:Int) != (l2.length:Int))=false:=by simp[hl]
  have HN1:=Zg hn
  clear hn hn' hl
  go_enter Tryz.func99,Tryz.ntmps99
  go_wp2_with fail
  go_loopw [13] (fun v13 wr=> ∃ i:Nat,i≤l.length∧v13= .int .i64 i∧(∀(j:Nat) (h1:j<l.length) (h2:j<l2.length),j<i→C l[j]=C l2[j])∧Below w.heap.size w wr) (fun v13 _=>l.length - (intOf v13).toNat)
  case atStart=>exact⟨0,by omega,rfl,fun j _ _ h=>by omega,Below.refl _ _⟩
  case round =>
   obtain⟨i,hi,rfl,hall,hbw⟩:=hrel
   have HALL:=Zg hall
   have HB:=Zg hbw
   clear hall hbw
   by_cases hlt:i<l.length
   ·have hlt':(i:Int)<l.length:=by omega
    have hlt2:i<l2.length:=by have:=HL.out; omega
    have hlt2':(i:Int)<l2.length:=by omega
    obtain⟨bb,o,rfl,_,hc⟩: ∃ b o,A=some ⟨b,o,none⟩∧b<wr.heap.size∧ ∀(i:Nat) (hi:i<l.length) (j:Nat) (v:Value),(C l[i])[j]? =some v→wr.cell? ⟨b,o+(i * 6+j),none⟩=some v:=by
     rcases HS.out.below HB.out with h|h
     ·rw[h] at hlt; simp at hlt
     ·exact h
    obtain⟨bb',o',rfl,_,hc'⟩: ∃ b o,A'=some ⟨b,o,none⟩∧b<wr.heap.size∧ ∀(i:Nat) (hi:i<l2.length) (j:Nat) (v:Value),(C l2[i])[j]? =some v→wr.cell? ⟨b,o+(i * 6+j),none⟩=some v:=by
     rcases HS'.out.below HB.out with h|h
     ·rw[h] at hlt2; simp at hlt2
     ·exact h
    have hC:=HC.out
    have d0:=hc i hlt 0 (.string (f0 l[i])) (by rw[hC]; rfl)
    have d1:=hc i hlt 1 (.int .i64 (f1 l[i])) (by rw[hC]; rfl)
    have d2:=hc i hlt 2 (.int .i64 (f2 l[i])) (by rw[hC]; rfl)
    have d3:=hc i hlt 3 (.int .i64 (f3 l[i])) (by rw[hC]; rfl)
    have d4:=hc i hlt 4 (.int .i64 (f4 l[i])) (by rw[hC]; rfl)
    have d5:=hc i hlt 5 (.int .i64 (f5 l[i])) (by rw[hC]; rfl)
    have e0:=hc' i hlt2 0 (.string (f0 l2[i])) (by rw[hC]; rfl)
    have e1:=hc' i hlt2 1 (.int .i64 (f1 l2[i])) (by rw[hC]; rfl)
    have e2:=hc' i hlt2 2 (.int .i64 (f2 l2[i])) (by rw[hC]; rfl)
    have e3:=hc' i hlt2 3 (.int .i64 (f3 l2[i])) (by rw[hC]; rfl)
    have e4:=hc' i hlt2 4 (.int .i64 (f4 l2[i])) (by rw[hC]; rfl)
    have e5:=hc' i hlt2 5 (.int .i64 (f5 l2[i])) (by rw[hC]; rfl)
    rw[show o+(i * 6+0)=o+i * 6 by omega] at d0
    rw[show o'+(i * 6+0)=o'+i * 6 by omega] at e0
    rw[show o+(i * 6+1)=o+i * 6+1 by omega] at d1
    rw[show o'+(i * 6+1)=o'+i * 6+1 by omega] at e1
    rw[show o+(i * 6+2)=o+i * 6+2 by omega] at d2
    rw[show o'+(i * 6+2)=o'+i * 6+2 by omega] at e2
    rw[show o+(i * 6+3)=o+i * 6+3 by omega] at d3
    rw[show o'+(i * 6+3)=o'+i * 6+3 by omega] at e3
    rw[show o+(i * 6+4)=o+i * 6+4 by omega] at d4
    rw[show o'+(i * 6+4)=o'+i * 6+4 by omega] at e4
    rw[show o+(i * 6+5)=o+i * 6+5 by omega] at d5
    rw[show o'+(i * 6+5)=o'+i * 6+5 by omega] at e5
    obtain⟨r,hes,hr⟩:=Zb6 (f0 l[i]) (f0 l2[i]) (f1 l[i]) (f1 l2[i]) (f2 l[i]) (f2 l2[i]) (f3 l[i]) (f3 l2[i]) (f4 l[i]) (f4 l2[i]) (f5 l[i]) (f5 l2[i])
    have hCC:C l[i]=C l2[i]↔r=true:=by
     rw[hC,hC,hr]
     simp
    have HCC:=Zg hCC
    clear hc hc' hC hr hCC
    generalize f0 l[i]=p0 at *
    generalize f0 l2[i]=q0 at *
    generalize f1 l[i]=p1 at *
    generalize f1 l2[i]=q1 at *
    generalize f2 l[i]=p2 at *
    generalize f2 l2[i]=q2 at *
    generalize f3 l[i]=p3 at *
    generalize f3 l2[i]=q3 at *
    generalize f4 l[i]=p4 at *
    generalize f4 l2[i]=q4 at *
    generalize f5 l[i]=p5 at *
    generalize f5 l2[i]=q5 at *
    rcases r with _|_
    ·go_wp2_with fail
     go_region
     go_wp2_with fail
     go_ret
     refine⟨?_,HB.out.drew⟩
     rcases b with _|_
     ·rfl
     ·exfalso
      have h1:=HBB.out.1 rfl
      have h2:=congrArg (fun L=>L[i]?) h1
      simp only[List.getElem?_map,List.getElem?_eq_getElem hlt,List.getElem?_eq_getElem hlt2,Option.map_some,Option.some.injEq] at h2
      have h3:=HCC.out.1 h2
      simp at h3
    ·have HNX:=Zg (show ∀(j:Nat) (h1:j<l.length) (h2:j<l2.length),j<i+1→C l[j]=C l2[j] from fun j h1 h2 h3=>(by
      rcases(by omega:j<i∨j=i) with h4|h4
      ·exact HALL.out j h1 h2 h4
      ·subst h4; exact HCC.out.2 rfl))
     go_wp2_with fail
     go_region
     have hnn:=HN.out.1
     go_wp2_with fail
     go_roundw
     case rel=>exact⟨i+1,by omega,by go_num,HNX.out,HB.out.drew⟩
     case measure=>simp[intOf]; omega
   ·obtain rfl:i=l.length:=by omega
    go_wp2_with fail
    go_ret
    refine⟨?_,HB.out⟩
    rcases b with _|_
    ·exfalso
     have h1:l.map C=l2.map C:=by
      apply List.ext_getElem
      ·simp[HL.out]
      ·intro j h1 h2
       simp only[List.length_map] at h1 h2
       simp only[List.getElem_map]
       exact HALL.out j h1 h2 h1
     have h2:=HBB.out.2 h1
     simp at h2
    ·rfl
 ·have e0:((l.length:Int) != (l2.length:Int))=true:=by simp; omega
  have HL:=Zg hl
  clear hl
  go_enter Tryz.func99,Tryz.ntmps99
  go_wp2_with fail
  go_ret
  refine⟨?_,Below.refl _ _⟩
  rcases b with _|_
  ·rfl
  ·exfalso
   have h1:=congrArg List.length (HBB.out.1 rfl)
   simp only[List.length_map] at h1
   exact HL.out h1
end Go.Proofs.YtplgdpjbkdagfaaGreat
