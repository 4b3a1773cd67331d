import Derived.Test.YtplgdpjbkdagfaaGreatZPeFw
import Derived.Test.YtplgdpjbkdagfaaGreatZPMap
import Derived.Deep.Cut
namespace Go.Proofs.YtplgdpjbkdagfaaGreat
set_option maxHeartbeats 8000000
open Lib renaming hid→Zg
open Go.ChangeShapes Go.WideShapes Go.ChangeAt Go.RowKit
set_option linter.unusedVariables false
set_option linter.unusedSimpArgs false
set_option maxRecDepth 100000
theorem Zjd {w:World} {F:Option Addr} {n:Nat} {Sx:Nat->ByteArray} (h:Zip w F n Sx) {i:Nat} (hi:i<n): ∃ b off,F=some ⟨b,off,none⟩/\w.cell? ⟨b,off+i,none⟩=some (.string (Sx i)):=by
 rcases h with h|⟨b,off,hF,_,hc⟩
 ·omega
 ·exact⟨b,off,hF,hc i hi⟩
theorem Zob (p:PIn) (w:World) (hp:p.Is w) (hl:p.Lens):Calls Tryz.prog 18 #[.agg p.cells] w fun e u=>(e= .returned (.bool false)\/e= .returned (.bool true)/\p.Few)/\Below w.heap.size w u:=by
 have bO:Below w.heap.size w (w.alloc (.cells p.cells 32)):=(Below.refl w.heap.size w).alloc (Nat.le_refl _) _;have hz:=heap_alloc_new w (.cells p.cells 32);have lU:=Zg (hp.below bO);have HL:=Zg hl;obtain⟨w1,ao⟩: ∃ q,w.alloc (.cells p.cells 32)=q:=⟨_,rfl⟩;rw[ao] at bO hz lU;have au:=Zg bO;have HZ:=Zg hz;have HW:=Zg ao;clear hp hl bO hz ao;have kt:=Zg (show ∀ j v,p.cells[j]? =some v->w1.cell? ⟨w.heap.size,j,none⟩=some v from fun j v hv=>(Zh HZ.out).trans hv);go_enter Tryz.func18,Tryz.ntmps18;go_upto_region 1 with(fail)
 refine(congrArg _ HW.out).mpr ?_;go_wp2_with fail
 go_loopw [3] (fun v3 wr=> ∃ i:Nat,i<=12/\v3= .int .i64 i/\wr=w1/\ ∀ j,j<i->(j<p.fn->(p.fS j).size<=60)/\(j<p.nn->(p.nS j).size<=60)) (fun v3 _=>12 - (intOf v3).toNat)
 case atStart=>exact⟨0,by omega,rfl,rfl,fun j hj=>by omega⟩
 case round =>
  obtain⟨i,hi,rfl,rfl,bu⟩:=hrel;have cw:=Zg bu;clear bu;by_cases af:i<12
  ·have aE:(i:Int)<12:=by omega
   have c1:=kt.out 1 (.slice p.fA p.fn p.fc) rfl;have c2:=kt.out 2 (.slice p.nA p.nn p.nc) rfl;have HF:=Zg (fun(h:i<p.fn)=>Zjd lU.out.f h);have HN:=Zg (fun(h:i<p.nn)=>Zjd lU.out.n h);have p7:=Zg (And.intro HL.out.f HL.out.n);obtain⟨F,hF⟩: ∃ F,p.fA=F:=⟨_,rfl⟩;obtain⟨N,hN⟩: ∃ N,p.nA=N:=⟨_,rfl⟩;obtain⟨lf,oX⟩: ∃ n,p.fn=n:=⟨_,rfl⟩;obtain⟨ln,ow⟩: ∃ n,p.nn=n:=⟨_,rfl⟩;obtain⟨S,hS⟩: ∃ S,p.fS i=S:=⟨_,rfl⟩;obtain⟨T,hT⟩: ∃ S,p.nS i=S:=⟨_,rfl⟩;rw[hF,oX] at c1;rw[hN,ow] at c2;rw[hF,oX,hS] at HF;rw[hN,ow,hT] at HN;rw[oX,ow] at p7;have dN:=Zg (show(i<lf->S.size<=60)->(i<ln->T.size<=60)-> ∀ j,j<i+1->(j<p.fn->(p.fS j).size<=60)/\(j<p.nn->(p.nS j).size<=60) from fun h1 h2 j hj=>by
    rcases(by omega:j<i\/j=i) with h|h
    ·exact cw.out j h
    ·subst h; rw[oX,ow,hS,hT]; exact⟨h1,h2⟩)
   have HI:=Zg af;clear hF hN oX ow hS hT hi af;by_cases h1:i<lf
   ·by_cases h2:S.size<=60
    ·skip
     by_cases h3:i<ln
     ·by_cases h4:T.size<=60
      ·obtain⟨fb,fo,rfl,k1⟩:=HF.out h1;have a1:(i:Int)<(lf:Int):=by omega
       have a2: ¬ (60:Int)<(S.size:Int):=by omega
       obtain⟨nb,no,rfl,k2⟩:=HN.out h3;have b1:(i:Int)<(ln:Int):=by omega
       have b2: ¬ (60:Int)<(T.size:Int):=by omega
       go_wp2_with fail
       go_roundw
       case rel=>exact⟨i+1,by have:=HI.out; omega,by go_num,(by first|trivial|rfl),dN.out (fun _=>by omega) (fun _=>by omega)⟩
       case measure=>have:=HI.out; simp[intOf]; omega
      ·obtain⟨fb,fo,rfl,k1⟩:=HF.out h1;have a1:(i:Int)<(lf:Int):=by omega
       have a2: ¬ (60:Int)<(S.size:Int):=by omega
       obtain⟨nb,no,rfl,k2⟩:=HN.out h3;have b1:(i:Int)<(ln:Int):=by omega
       have b2:(60:Int)<(T.size:Int):=by omega
       go_wp2_with fail
       go_ret;exact⟨.inl rfl,au.out⟩
     ·obtain⟨fb,fo,rfl,k1⟩:=HF.out h1;have a1:(i:Int)<(lf:Int):=by omega
      have a2: ¬ (60:Int)<(S.size:Int):=by omega
      have b1: ¬ (i:Int)<(ln:Int):=by omega
      go_wp2_with fail
      go_roundw
      case rel=>exact⟨i+1,by have:=HI.out; omega,by go_num,(by first|trivial|rfl),dN.out (fun _=>by omega) (fun _=>by omega)⟩
      case measure=>have:=HI.out; simp[intOf]; omega
    ·obtain⟨fb,fo,rfl,k1⟩:=HF.out h1;have a1:(i:Int)<(lf:Int):=by omega
     have a2:(60:Int)<(S.size:Int):=by omega
     go_wp2_with fail
     go_ret;exact⟨.inl rfl,au.out⟩
   ·skip
    by_cases h3:i<ln
    ·by_cases h4:T.size<=60
     ·have a1: ¬ (i:Int)<(lf:Int):=by omega
      obtain⟨nb,no,rfl,k2⟩:=HN.out h3;have b1:(i:Int)<(ln:Int):=by omega
      have b2: ¬ (60:Int)<(T.size:Int):=by omega
      go_wp2_with fail
      go_roundw
      case rel=>exact⟨i+1,by have:=HI.out; omega,by go_num,(by first|trivial|rfl),dN.out (fun _=>by omega) (fun _=>by omega)⟩
      case measure=>have:=HI.out; simp[intOf]; omega
     ·have a1: ¬ (i:Int)<(lf:Int):=by omega
      obtain⟨nb,no,rfl,k2⟩:=HN.out h3;have b1:(i:Int)<(ln:Int):=by omega
      have b2:(60:Int)<(T.size:Int):=by omega
      go_wp2_with fail
      go_ret;exact⟨.inl rfl,au.out⟩
    ·have a1: ¬ (i:Int)<(lf:Int):=by omega
     have b1: ¬ (i:Int)<(ln:Int):=by omega
     go_wp2_with fail
     go_roundw
     case rel=>exact⟨i+1,by have:=HI.out; omega,by go_num,(by first|trivial|rfl),dN.out (fun _=>by omega) (fun _=>by omega)⟩
     case measure=>have:=HI.out; simp[intOf]; omega
  ·obtain rfl:i=12:=by omega
   have zU:=Zg cw.out;clear cw;have c6:=kt.out 6 (.slice p.bA p.bL.length p.bc) rfl;go_wp2_with fail
   go_loopw [4] (fun v4 wx=> ∃ i:Nat,i<=p.bL.length/\i<=34/\v4= .int .i64 i/\wx=wr/\ ∀(j:Nat) (h:j<p.bL.length),j<i->(p.bL[j]).1.size<=60) (fun v4 _=>35 - (intOf v4).toNat)
   case atStart=>exact⟨0,by omega,by omega,rfl,rfl,fun j _ hj=>by omega⟩
   case round =>
    obtain⟨i,hi,sr,rfl,rfl,bu⟩:=hrel;have cw:=Zg bu;clear bu;have aJ:=Zg HL.out.b;by_cases af:i<p.bL.length
    ·have aE:(i:Int)<(p.bL.length:Int):=by omega
     by_cases oq:i=34
     ·have ML:(34:Int)<=(i:Int):=by omega
      clear hi af;go_wp2_with fail
      go_ret;exact⟨.inl rfl,au.out⟩
     ·have ML: ¬ (34:Int)<=(i:Int):=by omega
      obtain⟨bb,off,MM,k8,k0,k9⟩:=Zis lU.out.b af;clear k8 k9;rw[MM] at c6;obtain⟨S,hS⟩: ∃ S,(p.bL[i]).1=S:=⟨_,rfl⟩;rw[hS] at k0;have dN:=Zg (show S.size<=60-> ∀(j:Nat) (h:j<p.bL.length),j<i+1->(p.bL[j]).1.size<=60 from fun h1 j hj tO=>by
       rcases(by omega:j<i\/j=i) with h|h
       ·exact cw.out j hj h
       ·subst h; rw[hS]; exact h1)
      have HI:=Zg (And.intro af (And.intro sr oq));clear hS hi af sr;by_cases E7:S.size<=60
      ·have a2: ¬ (60:Int)<(S.size:Int):=by omega
       go_wp2_with fail
       go_roundw
       case rel=>exact⟨i+1,by have:=HI.out; omega,by have:=HI.out; omega,(by have:=HI.out; go_num),(by first|trivial|rfl),dN.out E7⟩
       case measure=>have:=HI.out; simp[intOf]; omega
      ·have a2:(60:Int)<(S.size:Int):=by omega
       go_wp2_with fail
       go_ret;exact⟨.inl rfl,au.out⟩
    ·obtain rfl:i=p.bL.length:=by omega
     have su:=Zg (show p.bL.length<=34/\ ∀ x∈p.bL,x.1.size<=60 from⟨sr,fun x hx=>by
      obtain⟨j,hj,rfl⟩:=List.getElem_of_mem hx;exact cw.out j hj hj⟩)
     have c5:=kt.out 5 (.slice p.rA p.rL.length p.rc) rfl;have c3:=kt.out 3 (.slice p.iA p.im p.ic) rfl;have c4:=kt.out 4 (.slice p.lA p.lm p.lc) rfl;clear hi sr af cw;by_cases E7:p.rL.length<=60
     ·have a1:(p.rL.length:Int)<=60:=by omega
      go_wp2_with fail
      refine(Zfl p.iA p.im p.ic p.iX _ lU.out.i HL.out.i).mono ?_;rintro e u ⟨hq,rfl⟩;rcases hq with rfl|⟨rfl,q1,q2⟩
      ·go_wp2_with fail
       go_ret;exact⟨.inl rfl,au.out⟩
      ·have HQ:=Zg (And.intro q1 q2);clear q1 q2;go_wp2_with fail
       refine(Zfl p.lA p.lm p.lc p.lX _ lU.out.l HL.out.l).mono ?_;rintro e u ⟨hq,rfl⟩;rcases hq with rfl|⟨rfl,q1,q2⟩
       ·go_wp2_with fail
        go_ret;exact⟨.inl rfl,au.out⟩
       ·have ka:=Zg (And.intro q1 q2);clear q1 q2;go_wp2_with fail
        go_ret;exact⟨.inr ⟨rfl,⟨fun j h1 h2=>(zU.out j h1).1 h2,fun j h1 h2=>(zU.out j h1).2 h2,su.out.1,su.out.2,E7,HQ.out.1,HQ.out.2,ka.out.1,ka.out.2⟩⟩,au.out⟩
     ·have a1: ¬ (p.rL.length:Int)<=60:=by omega
      go_wp2_with fail
      go_ret;exact⟨.inl rfl,au.out⟩
end Go.Proofs.YtplgdpjbkdagfaaGreat
