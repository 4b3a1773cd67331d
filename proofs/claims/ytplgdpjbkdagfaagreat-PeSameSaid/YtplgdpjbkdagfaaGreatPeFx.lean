import Derived.Test.YtplgdpjbkdagfaaGreatZPeFw
import Derived.Test.YtplgdpjbkdagfaaGreatZStoreRow
import Derived.Deep.Cut
namespace Go.Proofs.YtplgdpjbkdagfaaGreat
open Lib renaming hid→Zg
open Go.ChangeShapes Go.WideShapes Go.ChangeAt Go.RowKit
set_option linter.unusedVariables false
set_option linter.unusedSimpArgs false
set_option maxRecDepth 100000
theorem Ze8 {w:World} {F:Option Addr} {n:Nat} {Sx:Nat→ByteArray} (h:Zfr w F n Sx) {i:Nat} (hi:i<n): ∃ b off,F=some ⟨b,off,none⟩∧w.cell? ⟨b,off+i,none⟩=some (.string (Sx i)):=by
 rcases h with h|⟨b,off,hF,_,hc⟩
 ·omega
 ·exact⟨b,off,hF,hc i hi⟩
set_option maxHeartbeats 4000000 in
theorem Ze9 (p:PIn) (w:World) (hp:p.Is w) (hl:p.Lens):Calls Tryz.prog 18 #[.agg p.cells] w fun e u=>(e= .returned (.bool false)∨e= .returned (.bool true)∧p.Few)∧Below w.heap.size w u:=by
 have hb0:Below w.heap.size w (w.alloc (.cells p.cells 32)):=(Below.refl w.heap.size w).alloc (Nat.le_refl _) _
 have hz:=heap_alloc_new w (.cells p.cells 32)
 have HP1:=Zg (hp.below hb0)
 have HL:=Zg hl
 obtain⟨w1,hw1⟩: ∃ q,w.alloc (.cells p.cells 32)=q:=⟨_,rfl⟩
 rw[hw1] at hb0 hz HP1
 have HB0:=Zg hb0
 have HZ:=Zg hz
 have HW:=Zg hw1
 clear hp hl hb0 hz hw1
 have HCL:=Zg (show ∀ j v,p.cells[j]? =some v→w1.cell? ⟨w.heap.size,j,none⟩=some v from fun j v hv=>(Zh HZ.out).trans hv)
 go_enter Tryz.func18,Tryz.ntmps18
 go_upto_region 1 with(fail)
 refine(congrArg _ HW.out).mpr ?_
 go_wp2_with fail
 go_loopw [3] (fun v3 wr=> ∃ i:Nat,i≤12∧v3= .int .i64 i∧wr=w1∧ ∀ j,j<i→(j<p.fn→(p.fS j).size≤60)∧(j<p.nn→(p.nS j).size≤60)) (fun v3 _=>12 - (intOf v3).toNat)
 case atStart=>exact⟨0,by omega,rfl,rfl,fun j hj=>by omega⟩
 case round =>
  obtain⟨i,hi,rfl,rfl,hall⟩:=hrel
  have HALL:=Zg hall
  clear hall
  by_cases hlt:i<12
  ·have hlt':(i:Int)<12:=by omega
   have c1:=HCL.out 1 (.slice p.fA p.fn p.fc) rfl
   have c2:=HCL.out 2 (.slice p.nA p.nn p.nc) rfl
   have HF:=Zg (fun(h:i<p.fn)=>Ze8 HP1.out.f h)
   have HN:=Zg (fun(h:i<p.nn)=>Ze8 HP1.out.n h)
   have HFB:=Zg (And.intro HL.out.f HL.out.n)
   obtain⟨F,hF⟩: ∃ F,p.fA=F:=⟨_,rfl⟩
   obtain⟨N,hN⟩: ∃ N,p.nA=N:=⟨_,rfl⟩
   obtain⟨lf,hlf⟩: ∃ n,p.fn=n:=⟨_,rfl⟩
   obtain⟨ln,hln⟩: ∃ n,p.nn=n:=⟨_,rfl⟩
   obtain⟨S,hS⟩: ∃ S,p.fS i=S:=⟨_,rfl⟩
   obtain⟨T,hT⟩: ∃ S,p.nS i=S:=⟨_,rfl⟩
   rw[hF,hlf] at c1
   rw[hN,hln] at c2
   rw[hF,hlf,hS] at HF
   rw[hN,hln,hT] at HN
   rw[hlf,hln] at HFB
   have HNX:=Zg (show(i<lf→S.size≤60)→(i<ln→T.size≤60)→ ∀ j,j<i+1→(j<p.fn→(p.fS j).size≤60)∧(j<p.nn→(p.nS j).size≤60) from fun h1 h2 j hj=>by
    rcases(by omega:j<i∨j=i) with h|h
    ·exact HALL.out j h
    ·subst h; rw[hlf,hln,hS,hT]; exact⟨h1,h2⟩)
   have HI:=Zg hlt
   clear hF hN hlf hln hS hT hi hlt
   by_cases h1:i<lf
   ·by_cases h2:S.size≤60
    ·skip
     by_cases h3:i<ln
     ·by_cases h4:T.size≤60
      ·obtain⟨fb,fo,rfl,k1⟩:=HF.out h1
       have a1:(i:Int)<(lf:Int):=by omega
       have a2: ¬ (60:Int)<(S.size:Int):=by omega
       obtain⟨nb,no,rfl,k2⟩:=HN.out h3
       have b1:(i:Int)<(ln:Int):=by omega
       have b2: ¬ (60:Int)<(T.size:Int):=by omega
       go_wp2_with fail
       go_roundw
       case rel=>exact⟨i+1,by have:=HI.out; omega,by go_num,(by first|trivial|rfl),HNX.out (fun _=>by omega) (fun _=>by omega)⟩
       case measure=>have:=HI.out; simp[intOf]; omega
      ·obtain⟨fb,fo,rfl,k1⟩:=HF.out h1
       have a1:(i:Int)<(lf:Int):=by omega
       have a2: ¬ (60:Int)<(S.size:Int):=by omega
       obtain⟨nb,no,rfl,k2⟩:=HN.out h3
       have b1:(i:Int)<(ln:Int):=by omega
       have b2:(60:Int)<(T.size:Int):=by omega
       go_wp2_with fail
       go_ret
       exact⟨.inl rfl,HB0.out⟩
     ·obtain⟨fb,fo,rfl,k1⟩:=HF.out h1
      have a1:(i:Int)<(lf:Int):=by omega
      have a2: ¬ (60:Int)<(S.size:Int):=by omega
      have b1: ¬ (i:Int)<(ln:Int):=by omega
      go_wp2_with fail
      go_roundw
      case rel=>exact⟨i+1,by have:=HI.out; omega,by go_num,(by first|trivial|rfl),HNX.out (fun _=>by omega) (fun _=>by omega)⟩
      case measure=>have:=HI.out; simp[intOf]; omega
    ·obtain⟨fb,fo,rfl,k1⟩:=HF.out h1
     have a1:(i:Int)<(lf:Int):=by omega
     have a2:(60:Int)<(S.size:Int):=by omega
     go_wp2_with fail
     go_ret
     exact⟨.inl rfl,HB0.out⟩
   ·skip
    by_cases h3:i<ln
    ·by_cases h4:T.size≤60
     ·have a1: ¬ (i:Int)<(lf:Int):=by omega
      obtain⟨nb,no,rfl,k2⟩:=HN.out h3
      have b1:(i:Int)<(ln:Int):=by omega
      have b2: ¬ (60:Int)<(T.size:Int):=by omega
      go_wp2_with fail
      go_roundw
      case rel=>exact⟨i+1,by have:=HI.out; omega,by go_num,(by first|trivial|rfl),HNX.out (fun _=>by omega) (fun _=>by omega)⟩
      case measure=>have:=HI.out; simp[intOf]; omega
     ·have a1: ¬ (i:Int)<(lf:Int):=by omega
      obtain⟨nb,no,rfl,k2⟩:=HN.out h3
      have b1:(i:Int)<(ln:Int):=by omega
      have b2:(60:Int)<(T.size:Int):=by omega
      go_wp2_with fail
      go_ret
      exact⟨.inl rfl,HB0.out⟩
    ·have a1: ¬ (i:Int)<(lf:Int):=by omega
     have b1: ¬ (i:Int)<(ln:Int):=by omega
     go_wp2_with fail
     go_roundw
     case rel=>exact⟨i+1,by have:=HI.out; omega,by go_num,(by first|trivial|rfl),HNX.out (fun _=>by omega) (fun _=>by omega)⟩
     case measure=>have:=HI.out; simp[intOf]; omega
  ·obtain rfl:i=12:=by omega
   have HF12:=Zg HALL.out
   clear HALL
   have c6:=HCL.out 6 (.slice p.bA p.bL.length p.bc) rfl
   go_wp2_with fail
   go_loopw [4] (fun v4 wx=> ∃ i:Nat,i≤p.bL.length∧i≤34∧v4= .int .i64 i∧wx=wr∧ ∀(j:Nat) (h:j<p.bL.length),j<i→(p.bL[j]).1.size≤60) (fun v4 _=>35 - (intOf v4).toNat)
   case atStart=>exact⟨0,by omega,by omega,rfl,rfl,fun j _ hj=>by omega⟩
   case round =>
    obtain⟨i,hi,hi34,rfl,rfl,hall⟩:=hrel
    have HALL:=Zg hall
    clear hall
    have HLB:=Zg HL.out.b
    by_cases hlt:i<p.bL.length
    ·have hlt':(i:Int)<(p.bL.length:Int):=by omega
     by_cases h34:i=34
     ·have g34:(34:Int)≤(i:Int):=by omega
      clear hi hlt
      go_wp2_with fail
      go_ret
      exact⟨.inl rfl,HB0.out⟩
     ·have g34: ¬ (34:Int)≤(i:Int):=by omega
      obtain⟨bb,off,hbA,k8,k0,k9⟩:=Zfu HP1.out.b hlt
      clear k8 k9
      rw[hbA] at c6
      obtain⟨S,hS⟩: ∃ S,(p.bL[i]).1=S:=⟨_,rfl⟩
      rw[hS] at k0
      have HNX:=Zg (show S.size≤60→ ∀(j:Nat) (h:j<p.bL.length),j<i+1→(p.bL[j]).1.size≤60 from fun h1 j hj hj2=>by
       rcases(by omega:j<i∨j=i) with h|h
       ·exact HALL.out j hj h
       ·subst h; rw[hS]; exact h1)
      have HI:=Zg (And.intro hlt (And.intro hi34 h34))
      clear hS hi hlt hi34
      by_cases h60:S.size≤60
      ·have a2: ¬ (60:Int)<(S.size:Int):=by omega
       go_wp2_with fail
       go_roundw
       case rel=>exact⟨i+1,by have:=HI.out; omega,by have:=HI.out; omega,(by have:=HI.out; go_num),(by first|trivial|rfl),HNX.out h60⟩
       case measure=>have:=HI.out; simp[intOf]; omega
      ·have a2:(60:Int)<(S.size:Int):=by omega
       go_wp2_with fail
       go_ret
       exact⟨.inl rfl,HB0.out⟩
    ·obtain rfl:i=p.bL.length:=by omega
     have HBL:=Zg (show p.bL.length≤34∧ ∀ x∈p.bL,x.1.size≤60 from⟨hi34,fun x hx=>by
      obtain⟨j,hj,rfl⟩:=List.getElem_of_mem hx
      exact HALL.out j hj hj⟩)
     have c5:=HCL.out 5 (.slice p.rA p.rL.length p.rc) rfl
     have c3:=HCL.out 3 (.slice p.iA p.im p.ic) rfl
     have c4:=HCL.out 4 (.slice p.lA p.lm p.lc) rfl
     clear hi hi34 hlt HALL
     by_cases h60:p.rL.length≤60
     ·have a1:(p.rL.length:Int)≤60:=by omega
      go_wp2_with fail
      refine(Zb7 p.iA p.im p.ic p.iX _ HP1.out.i HL.out.i).mono ?_
      rintro e u ⟨hq,rfl⟩
      rcases hq with rfl|⟨rfl,q1,q2⟩
      ·go_wp2_with fail
       go_ret
       exact⟨.inl rfl,HB0.out⟩
      ·have HQ:=Zg (And.intro q1 q2)
       clear q1 q2
       go_wp2_with fail
       refine(Zb7 p.lA p.lm p.lc p.lX _ HP1.out.l HL.out.l).mono ?_
       rintro e u ⟨hq,rfl⟩
       rcases hq with rfl|⟨rfl,q1,q2⟩
       ·go_wp2_with fail
        go_ret
        exact⟨.inl rfl,HB0.out⟩
       ·have HQ2:=Zg (And.intro q1 q2)
        clear q1 q2
        go_wp2_with fail
        go_ret
        exact⟨.inr ⟨rfl,⟨fun j h1 h2=>(HF12.out j h1).1 h2,fun j h1 h2=>(HF12.out j h1).2 h2,HBL.out.1,HBL.out.2,h60,HQ.out.1,HQ.out.2,HQ2.out.1,HQ2.out.2⟩⟩,HB0.out⟩
     ·have a1: ¬ (p.rL.length:Int)≤60:=by omega
      go_wp2_with fail
      go_ret
      exact⟨.inl rfl,HB0.out⟩
end Go.Proofs.YtplgdpjbkdagfaaGreat
