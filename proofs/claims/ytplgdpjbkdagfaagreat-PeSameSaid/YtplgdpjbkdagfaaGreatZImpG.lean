import Derived.Test.YtplgdpjbkdagfaaGreatZExpD
import Derived.Test.YtplgdpjbkdagfaaGreatExpH
import Derived.Test.YtplgdpjbkdagfaaGreatZMem
namespace Go.Proofs.YtplgdpjbkdagfaaGreat
open Lib renaming hid→Zg
set_option maxRecDepth 100000
open Go.ChangeShapes Go.WideShapes Go.ChangeAt Go.RowKit
set_option linter.unusedVariables false
set_option linter.unusedSimpArgs false
theorem Yo (A:Option Addr) (cap:Nat) (bs:List Nat) (o n:Nat) (v:Int) (u:Nat) (w:World) (hb:Lb bs) (hl:bs.length≤1000000) (hs:SlB w A bs.length (lF bs)) (h1:1≤n) (h8:n≤8) (h:o+n≤bs.length) (hu:IntKind.u64.wrap v=(u:Int)) (hu':u≤18446744073709551615) :
 Calls Tryz.prog 77 #[.slice A bs.length cap,.int .i64 o,.int .i64 n,.int .i64 v] w fun e w'=> ∃ g c,e= .returned (.slice (some ⟨g,0,none⟩) bs.length c)∧YI w' w.heap.size g c (ZQ bs o n u)∧Below w.heap.size w w':=by
 have hlen:=Zo (b:=bs) (o:=o) (n:=n) h u
 have HP:=Zg (fun W=>VC bs o n u W hb hl h1 h8 h hu')
 have HC:=Zg (fun W=>UR W (ZQ bs o n u) (UQ hb o n u) (by omega))
 have hst:(convert 25 9 (.slice A bs.length cap)).run Tryz.prog w= .ok (.string (txt bs)) w:=by
  rcases hs with h0|⟨b,off,rfl,_,hr⟩
  ·omega
  ·exact YB (cap:=cap) hr
 rw[hlen] at HC
 obtain⟨r,hr⟩: ∃ r,ZQ bs o n u=r:=⟨_,rfl⟩
 rw[hr] at HP HC ⊢
 clear hlen hs hr hb
 go_enter Tryz.func77,Tryz.ntmps77
 go_wp2_with fail
 refine(HP.out _).mono ?_
 rintro e w1 ⟨rfl,hw1⟩
 obtain⟨C,w2,hc,ho,hw2⟩:=HC.out w1
 have HB:=Zg (hw1.trans (hw2.mono hw1.size))
 have HO:=Zg (ho.weaken (base':=w.heap.size) hw1.size)
 clear hw1 hw2 ho
 go_wp2_with fail
 go_ret
 exact⟨_,_,rfl,HO.out,HB.out⟩
structure Vq where
 D:Nat→ByteArray
 M:Nat→Nat
 SA:Nat→Option Addr
 SC:Nat→Nat
 T:Nat→Nat→ByteArray
 O:Nat→Nat→Int
 Y:Nat→Nat→Bool
def QE (w:World) (X:Vq) (i:Nat):Prop:=X.M i=0∨ ∃ b off,X.SA i=some ⟨b,off,none⟩∧b<w.heap.size∧ ∀ j,j<X.M i→w.cell? ⟨b,off+j * 3,none⟩=some (.string (X.T i j))∧w.cell? ⟨b,off+j * 3+1,none⟩=some (.int .i64 (X.O i j))∧w.cell? ⟨b,off+j * 3+2,none⟩=some (.bool (X.Y i j))∧(X.T i j).size≤9223372036854775807
theorem QE.below {w w':World} {X:Vq} {i:Nat} (h:QE w X i) (hb:Below w.heap.size w w'):QE w' X i:=by
 rcases h with h|⟨b,off,hA,hlt,hc⟩
 ·exact .inl h
 ·exact .inr ⟨b,off,hA,Nat.lt_of_lt_of_le hlt hb.size,fun j hj=>⟨(hb.cell (p:=⟨b,_,none⟩) hlt).trans (hc j hj).1,(hb.cell (p:=⟨b,_,none⟩) hlt).trans (hc j hj).2.1,(hb.cell (p:=⟨b,_,none⟩) hlt).trans (hc j hj).2.2.1,(hc j hj).2.2.2⟩⟩
def Zik (w:World) (A:Option Addr) (n:Nat) (X:Vq):Prop:=n=0∨ ∃ b off,A=some ⟨b,off,none⟩∧b<w.heap.size∧ ∀ i,i<n→w.cell? ⟨b,off+i * 2,none⟩=some (.string (X.D i))∧w.cell? ⟨b,off+i * 2+1,none⟩=some (.slice (X.SA i) (X.M i) (X.SC i))∧(X.D i).size≤9223372036854775807∧X.M i≤9223372036854775807∧QE w X i
theorem Zik.below {w w':World} {A:Option Addr} {n:Nat} {X:Vq} (h:Zik w A n X) (hb:Below w.heap.size w w'):Zik w' A n X:=by
 rcases h with h|⟨b,off,hA,hlt,hc⟩
 ·exact .inl h
 ·exact .inr ⟨b,off,hA,Nat.lt_of_lt_of_le hlt hb.size,fun i hi=>⟨(hb.cell (p:=⟨b,_,none⟩) hlt).trans (hc i hi).1,(hb.cell (p:=⟨b,_,none⟩) hlt).trans (hc i hi).2.1,(hc i hi).2.2.1,(hc i hi).2.2.2.1,(hc i hi).2.2.2.2.below hb⟩⟩
def FewI (X:Vq) (i:Nat):Prop:=(X.D i).size≤60∧X.M i≤70∧ ∀ j,j<X.M i→(X.T i j).size≤80
set_option maxHeartbeats 4000000 in
theorem Zb7 (A:Option Addr) (n cap:Nat) (X:Vq) (w:World) (h:Zik w A n X) (hn:n≤9223372036854775807) :
 Calls Tryz.prog 36 #[.slice A n cap] w fun e w'=>(e= .returned (.bool false)∨e= .returned (.bool true)∧n≤20∧ ∀ i,i<n→FewI X i)∧w=w':=by
 have H:=Zg h
 clear h
 go_enter Tryz.func36,Tryz.ntmps36
 by_cases h20:n≤20
 ·go_wp2_with fail
  go_loop [3,4] (fun v3 _=> ∃ i:Nat,i≤n∧v3= .int .i64 i∧Hid (∀ i',i'<i→FewI X i')) (fun v3 _=>n - (intOf v3).toNat)
  case atStart=>exact⟨0,Nat.zero_le _,rfl,Zg (fun i' hi=>by omega)⟩
  case round =>
   obtain⟨i,hi,rfl,HD⟩:=hrel
   by_cases hlt:i<n
   ·rcases H.out with h0|⟨b,off,rfl,hb,hc⟩
    ·omega
    obtain⟨c0,c1,hsz,hm,hsy⟩:=hc i hlt
    have HSY:=Zg hsy
    have hin:(i:Int)<(n:Int):=by omega
    clear hc hsy hb
    obtain⟨S,hS⟩: ∃ S,X.D i=S:=⟨_,rfl⟩
    obtain⟨m,hm'⟩: ∃ m,X.M i=m:=⟨_,rfl⟩
    obtain⟨sa,hsa⟩: ∃ q,X.SA i=q:=⟨_,rfl⟩
    obtain⟨sc,hsc⟩: ∃ q,X.SC i=q:=⟨_,rfl⟩
    rw[hS] at c0 hsz
    rw[hm',hsa,hsc] at c1
    rw[hm'] at hm
    have HE:=Zg (And.intro hS (And.intro hm' hsa))
    clear hS hm' hsa hsc
    have HLT:=Zg hlt
    clear hlt hi
    by_cases e1:S.size≤60
    ·have f1: ¬ (60:Int)<(S.size:Int):=by omega
     by_cases e2:m≤70
     ·have f2: ¬ (70:Int)<(m:Int):=by omega
      go_wp2_with fail
      go_loop [4] (fun v4=> ∃ j:Nat,j≤m∧v4= .int .i64 j∧Hid (∀ j',j'<j→(X.T i j').size≤80)) (fun v4=>m - (intOf v4).toNat)
      case atStart=>exact⟨0,Nat.zero_le _,rfl,Zg (fun j' hj=>by omega)⟩
      case round =>
       obtain⟨j,hj,rfl,HJ⟩:=hrel
       by_cases hjl:j<m
       ·rcases HSY.out with h0|⟨b',off',hA',hb',hc'⟩
        ·rw[HE.out.2.1] at h0; omega
        obtain⟨d0,d1,d2,hts⟩:=hc' j (by rw[HE.out.2.1]; exact hjl)
        rw[HE.out.2.2] at hA'
        subst hA'
        have hjm:(j:Int)<(m:Int):=by omega
        obtain⟨T,hT⟩: ∃ T,X.T i j=T:=⟨_,rfl⟩
        rw[hT] at d0 hts
        have HT:=Zg hT
        have HJL:=Zg hjl
        clear hc' hb' d1 d2 hT hjl hj
        by_cases e3:T.size≤80
        ·have f3: ¬ (80:Int)<(T.size:Int):=by omega
         go_wp2_with fail
         go_round
         case rel=>exact⟨j+1,by have:=HJL.out; omega,by simp,Zg (fun j' hj'=>by
          rcases Nat.lt_or_ge j' j with h1|h1
          ·exact HJ.out j' h1
          ·obtain rfl:j'=j:=by omega
           rw[HT.out]; exact e3)⟩
         case measure =>
          have:=HJL.out
          simp[intOf]
          omega
        ·have f3:(80:Int)<(T.size:Int):=by omega
         go_wp2_with fail
         go_ret
         exact⟨.inl rfl,rfl⟩
       ·obtain rfl:j=m:=by omega
        have hjj: ¬ (j:Int)<(j:Int):=by omega
        go_wp2_with fail
        go_round
        case rel=>exact⟨i+1,by have:=HLT.out; omega,by simp,Zg (fun i' hi'=>by
         rcases Nat.lt_or_ge i' i with h1|h1
         ·exact HD.out i' h1
         ·obtain rfl:i'=i:=by omega
          refine⟨by rw[HE.out.1]; exact e1,by rw[HE.out.2.1]; exact e2,fun j' hj'=>HJ.out j' (by rw[HE.out.2.1] at hj'; exact hj')⟩)⟩
        case measure =>
         have:=HLT.out
         simp[intOf]
         omega
     ·have f2:(70:Int)<(m:Int):=by omega
      go_wp2_with fail
      go_ret
      exact⟨.inl rfl,rfl⟩
    ·have f1:(60:Int)<(S.size:Int):=by omega
     go_wp2_with fail
     go_ret
     exact⟨.inl rfl,rfl⟩
   ·obtain rfl:i=n:=by omega
    have hii: ¬ (i:Int)<(i:Int):=by omega
    go_wp2_with fail
    go_ret
    exact⟨.inr ⟨rfl,HD.out⟩,rfl⟩
 ·have f0:(20:Int)<(n:Int):=by omega
  go_wp2_with fail
  go_ret
  exact⟨.inl rfl,rfl⟩
end Go.Proofs.YtplgdpjbkdagfaaGreat
