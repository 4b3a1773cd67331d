import Derived.Test.YtplgdpjbkdagfaaGreatZPeE
import Derived.Test.YtplgdpjbkdagfaaGreatZRNou
import Derived.Test.YtplgdpjbkdagfaaGreatZImpD
import Derived.Test.YtplgdpjbkdagfaaGreatZExpD
import Derived.Test.YtplgdpjbkdagfaaGreatZNought
import Derived.Test.YtplgdpjbkdagfaaGreatRelParse
namespace Go.Proofs.YtplgdpjbkdagfaaGreat
set_option maxHeartbeats 8000000
open List renaming getElem?_toArray→Za, getElem?_cons_succ→Zb, getElem?_cons_zero→Zc, setIfInBounds_toArray→Zd, set_cons_zero→Ze, set_cons_succ→Zf
open Lib renaming hid→Zg
open Go.ChangeShapes Go.WideShapes Go.ChangeAt Go.RowKit
set_option linter.unusedVariables false
set_option linter.unusedSimpArgs false
set_option maxRecDepth 100000
theorem Zf9 (A:Option Addr) (n cap k:Nat) (r:Int) (hr:262144<r) (gp:r<=4294967296) (hn:n<=262144) (hk:k<=100) (W:World):Calls Tryz.prog 113 #[.slice A n cap,.int .i64 r,.int .i64 k] W fun e w'=>e= .returned (.bool false)/\W=w' :=
 ZV A n cap r k false W (by omega) (by omega) (by omega) ⟨(fun h=>by cases h),(fun h=>by omega)⟩
theorem VI (A:Option Addr) (n cap k:Nat) (r:Int) (hr:262144<r) (gp:r<=4294967296) (hn:n<=262144) (hk:k<=100) (w:World):Calls Tryz.prog 118 #[.slice A n cap,.int .i64 r,.int .i64 k] w fun e w'=>e= .returned (.bool false)/\w=w':=by
 have ax:=Zg (fun W=>Zf9 A n cap k r hr gp hn hk W);go_enter Tryz.func118,Tryz.ntmps118;go_wp2_with (first|(refine(ax.out _).mono ?_; rintro e w' ⟨rfl,rfl⟩)|fail)
 go_ret;exact⟨rfl,rfl⟩
theorem bndFR (A:Option Addr) (n cap:Nat) (r:Int) (hr:262144<r) (gp:r<=4294967296) (hn:n<=262144) (sz:Int) (w:World):Calls Tryz.prog 83 #[.slice A n cap,.agg #[.int .i64 r,.int .i64 sz]] w fun e u=>e= .returned (.tuple #[.slice none 0 0,.int .i64 8])/\Below w.heap.size w u:=by
 have az:Below w.heap.size w ((w.alloc (.cells #[.int .i64 r,.int .i64 sz] 37)).alloc (.cells #[] 80)):=((Below.refl w.heap.size w).alloc (Nat.le_refl _) _).alloc (by simp) _;have av:=Zg az;have ax:=Zg (fun W=>Zf9 A n cap 8 r hr gp hn (by omega) W);have fh:=Zg (fun W=>VI A n cap 8 r hr gp hn (by omega) W);clear az;have h0:(r == 0)=false:=by rw[beq_eq_false_iff_ne]; omega
 go_enter Tryz.func83,Tryz.ntmps83;go_wp2_with fail
 generalize (w.alloc (.cells #[.int .i64 r,.int .i64 sz] 37)).alloc (.cells #[] 80)=w1 at *;go_loopw [7,8] (fun v7 v8 wr=>v8= .int .i64 r/\v7= .int .i64 0/\Below w.heap.size w wr) (fun _ v8 _=>0)
 case atStart=>exact⟨rfl,rfl,av.out⟩
 case round =>
  obtain⟨rfl,rfl,hb⟩:=hrel;have HB:=Zg hb;clear hb;go_wp2_with (first|(refine(ax.out _).mono ?_; rintro e w' ⟨rfl,rfl⟩)|(refine(fh.out _).mono ?_; rintro e w' ⟨rfl,rfl⟩)|fail)
  go_ret2;exact⟨rfl,HB.out⟩
theorem impR (A:Option Addr) (n cap:Nat) (r:Int) (hr:262144<r) (gp:r<=4294967296) (hn:n<=262144) (sz:Int) (w:World):Calls Tryz.prog 111 #[.slice A n cap,.agg #[.int .i64 r,.int .i64 sz],.int .i64 20,.func (.func 112) #[] #[]] w fun e u=>e= .returned (.tuple #[.slice none 0 0,.int .i64 10])/\Below w.heap.size w u:=by
 have az:Below w.heap.size w ((w.alloc (.cells #[.int .i64 r,.int .i64 sz] 37)).alloc (.cells #[] 78)):=((Below.refl w.heap.size w).alloc (Nat.le_refl _) _).alloc (by simp) _;have av:=Zg az;have ax:=Zg (fun W=>Zf9 A n cap 20 r hr gp hn (by omega) W);have fh:=Zg (fun W=>VI A n cap 20 r hr gp hn (by omega) W);clear az;have h0:(r == 0)=false:=by rw[beq_eq_false_iff_ne]; omega
 go_enter Tryz.func111,Tryz.ntmps111;go_wp2_with fail
 generalize (w.alloc (.cells #[.int .i64 r,.int .i64 sz] 37)).alloc (.cells #[] 78)=w1 at *;go_loopw [11] (fun v11 wr=>v11= .int .i64 r/\Below w.heap.size w wr) (fun _ _=>0)
 case atStart=>exact⟨rfl,av.out⟩
 case round =>
  obtain⟨rfl,hb⟩:=hrel;have HB:=Zg hb;clear hb;go_wp2_with (first|(refine(ax.out _).mono ?_; rintro e w' ⟨rfl,rfl⟩)|(refine(fh.out _).mono ?_; rintro e w' ⟨rfl,rfl⟩)|fail)
  go_ret2;exact⟨rfl,HB.out⟩
theorem imFR (A:Option Addr) (n cap:Nat) (r:Int) (hr:262144<r) (gp:r<=4294967296) (hn:n<=262144) (sz:Int) (w:World):Calls Tryz.prog 80 #[.slice A n cap,.agg #[.int .i64 r,.int .i64 sz]] w fun e u=>e= .returned (.tuple #[.slice none 0 0,.int .i64 10])/\Below w.heap.size w u:=by
 have au:=Zg ((Below.refl w.heap.size w).alloc (Nat.le_refl _) (.cells #[.int .i64 r,.int .i64 sz] 37));have HP:=Zg (fun W=>impR A n cap r hr gp hn sz W);have h0:(r == 0)=false:=by rw[beq_eq_false_iff_ne]; omega
 go_enter Tryz.func80,Tryz.ntmps80;go_wp2_with fail
 refine(HP.out _).mono ?_;rintro e w2 ⟨rfl,hb⟩;have aj:=Zg (au.out.trans (hb.mono au.out.size));clear hb;go_wp2_with fail
 go_ret2;exact⟨rfl,aj.out⟩
theorem depR (A:Option Addr) (n cap:Nat) (r:Int) (hr:262144<r) (gp:r<=4294967296) (hn:n<=262144) (sz:Int) (w:World):Calls Tryz.prog 111 #[.slice A n cap,.agg #[.int .i64 r,.int .i64 sz],.int .i64 32,.func (.func 120) #[] #[]] w fun e u=>e= .returned (.tuple #[.slice none 0 0,.int .i64 10])/\Below w.heap.size w u:=by
 have az:Below w.heap.size w ((w.alloc (.cells #[.int .i64 r,.int .i64 sz] 37)).alloc (.cells #[] 78)):=((Below.refl w.heap.size w).alloc (Nat.le_refl _) _).alloc (by simp) _;have av:=Zg az;have ax:=Zg (fun W=>Zf9 A n cap 32 r hr gp hn (by omega) W);have fh:=Zg (fun W=>VI A n cap 32 r hr gp hn (by omega) W);clear az;have h0:(r == 0)=false:=by rw[beq_eq_false_iff_ne]; omega
 go_enter Tryz.func111,Tryz.ntmps111;go_wp2_with fail
 generalize (w.alloc (.cells #[.int .i64 r,.int .i64 sz] 37)).alloc (.cells #[] 78)=w1 at *;go_loopw [11] (fun v11 wr=>v11= .int .i64 r/\Below w.heap.size w wr) (fun _ _=>0)
 case atStart=>exact⟨rfl,av.out⟩
 case round =>
  obtain⟨rfl,hb⟩:=hrel;have HB:=Zg hb;clear hb;go_wp2_with (first|(refine(ax.out _).mono ?_; rintro e w' ⟨rfl,rfl⟩)|(refine(fh.out _).mono ?_; rintro e w' ⟨rfl,rfl⟩)|fail)
  go_ret2;exact⟨rfl,HB.out⟩
theorem deFR (A:Option Addr) (n cap:Nat) (r:Int) (hr:262144<r) (gp:r<=4294967296) (hn:n<=262144) (sz:Int) (w:World):Calls Tryz.prog 84 #[.slice A n cap,.agg #[.int .i64 r,.int .i64 sz]] w fun e u=>e= .returned (.tuple #[.slice none 0 0,.int .i64 10])/\Below w.heap.size w u:=by
 have au:=Zg ((Below.refl w.heap.size w).alloc (Nat.le_refl _) (.cells #[.int .i64 r,.int .i64 sz] 37));have HP:=Zg (fun W=>depR A n cap r hr gp hn sz W);have h0:(r == 0)=false:=by rw[beq_eq_false_iff_ne]; omega
 go_enter Tryz.func84,Tryz.ntmps84;go_wp2_with fail
 refine(HP.out _).mono ?_;rintro e w2 ⟨rfl,hb⟩;have aj:=Zg (au.out.trans (hb.mono au.out.size));clear hb;go_wp2_with fail
 go_ret2;exact⟨rfl,aj.out⟩
def Xj (N:Nat) (f:Nat->Int):List Nat:=(List.range N).map fun i=>(f i).toNat
theorem Xg (N:Nat) (f:Nat->Int):(Xj N f).length=N:=by simp[Xj]
theorem Zkk {N:Nat} {f:Nat->Int} (hf:Zm f) {i:Nat} (hi:i<N):lF (Xj N f) i=f i:=by
 have:=(hf i).1;unfold lF Xj;simp[List.getD,hi];omega
theorem WB {N:Nat} {f:Nat->Int} (hf:Zm f):Lb (Xj N f):=fun v hv=>by
 simp only[Xj,List.mem_map,List.mem_range] at hv;obtain⟨i,_,rfl⟩:=hv;have:=(hf i).2;omega
theorem Za9 {w:World} {b off N cap:Nat} {f:Nat->Int} (h:Wj w b off N cap f):SlB w (some ⟨b,off,none⟩) (Xj N f).length (lF (Xj N f)) :=
 .inr ⟨b,off,rfl,h.lt,fun i hi=>by rw[Xg] at hi; rw[Zkk h.by255 hi]; exact h.row i hi⟩
def erO {α :Type} (R:Option α) (e:Int):Int:=match R with
 | none=>e
 | some _=>0
theorem YN {α :Type} {C: α ->List Value} {sz:Nat} {U:World} {B:Nat} {e:TypeId} {v:Value} {l:List α} (h:ZJ C sz U B e v l):ZE B (fun W=>ZJ C sz W B e v l) U :=
 fun W2 hk hs=>h.of_block fun k ei=>hk k (h.lt k ei).1 (h.lt k ei).2
def ExpS (base:Nat) (R:Option Zib) (_:Nat) (a b c:Value) (U:World):Prop:=match R with
 | none=>a= .int .i64 0/\b= .slice none 0 0/\c= .slice none 0 0
 | some x=> ∃ A k A' k',a= .int .i64 x.1/\b= .slice A x.2.1.length k/\c= .slice A' x.2.2.length k'/\ZJ gC 2 U base 74 (.slice A x.2.1.length k) x.2.1/\ZJ nC 2 U base 76 (.slice A' x.2.2.length k') x.2.2
theorem Zkl (w:World) (N:Nat) (IM:Nat->Int) (hN:N<=262144) (rva sz:Int) (r0:0<=rva) (r1:rva<4294967296) (s0:0<=sz) (s1:sz<4294967296) :
 Qy w N IM 79 [.agg #[.int .i64 rva,.int .i64 sz]] (erO (Xc (Xj N IM) rva sz) 11) (ExpS w.heap.size (Xc (Xj N IM) rva sz)):=fun W gi P ho hb hp hn W2 hk hs=>by
 have hr:=(ho.of_block hs (hk.block gi ⟨ho.lt,hn⟩)).rowB;have hlen:=Xg N IM;have hle:w.heap.size<=W2.heap.size:=Nat.le_trans hb.size hs;have h:=Zgj (some ⟨gi,0,none⟩) N (Xj N IM) rva sz W2 (WB hr.by255) (by rw[hlen]; exact Nat.le_refl _) (by omega) (by rw[hlen]; omega) (Za9 hr) (by omega) (by omega) (by omega) (by omega);rw[hlen] at h;refine h.mono ?_;rintro e u ⟨hq,aC⟩;generalize Xc (Xj N IM) rva sz=R at hq ⊢;cases R with
 | none =>
   have fl:e= .returned (.tuple #[.agg #[.int .i64 0,.slice none 0 0,.slice none 0 0],.int .i64 11]):=hq;subst fl;exact⟨_,_,_,rfl,⟨rfl,rfl,rfl⟩,aC,ZE.const fun _=>⟨rfl,rfl,rfl⟩⟩
 | some x =>
   obtain⟨A,c,A',c',rfl,h1,h2⟩:=hq;exact⟨_,_,_,rfl,⟨rfl,rfl,rfl⟩,aC,fun W3 ey d'=>⟨A,c,A',c',rfl,rfl,rfl,(YN h1 W3 ey d').lower hle,(YN h2 W3 ey d').lower hle⟩⟩
def Znh (base:Nat) (R:Option (List Jf)) (_:Nat) (v:Value) (U:World):Prop:=match R with
 | none=>v= .slice none 0 0
 | some vs=> ∃ A c l,v= .slice A l.length c/\Ut U base A c l/\l.map (·.v)=vs
theorem XL {U:World} {B base:Nat} {A:Option Addr} {c:Nat} {l:List WN} (h:Ut U B A c l) (hB:base<=B):ZE B (fun W=>Ut W base A c l) U:=fun W2 hk hs =>
 ⟨(YN h.1 W2 hk hs).lower hB,fun y hy=>⟨by
   rcases(h.2 y hy).1 with k|⟨b,off,hA,af,hc⟩
   ·exact .inl k
   ·exact SlT.keep (.inr ⟨b,off,hA,af,hc⟩) hs fun b' dD=>hk b' ((h.2 y hy).2 b' dD) (by rw[hA] at dD; simp at dD; omega),fun b hb=>Nat.le_trans hB ((h.2 y hy).2 b hb)⟩⟩
theorem QQ {bs:List Nat} {rva n:Nat} {rd:List Nat->Nat->Ds} (h:bs.length<rva):ZU bs rva n rd=none:=by
 unfold ZU;rw[if_neg (by omega)];show WE bs n rd (17+1) rva []=none
 unfold WE;rw[if_neg (by rw[YZ (by omega)]; decide),if_neg (by omega)]
theorem Zkm (w:World) (N:Nat) (IM:Nat->Int) (hN:N<=262144) (rva:Nat) (sz:Int) (r1:rva<4294967296) :
 VX w N IM 80 [.agg #[.int .i64 rva,.int .i64 sz]] (erO (ZU (Xj N IM) rva 20 ZT) 10) (Znh w.heap.size (ZU (Xj N IM) rva 20 ZT)):=fun W gi P ho hb hp hn W2 hk hs=>by
 have hr:=(ho.of_block hs (hk.block gi ⟨ho.lt,hn⟩)).rowB;have hlen:=Xg N IM;have hle:w.heap.size<=W2.heap.size:=Nat.le_trans hb.size hs;by_cases hf:rva<=1000000
 ·have h:=Zdq (some ⟨gi,0,none⟩) N (Xj N IM) rva sz W2 (by rw[hlen]; exact Nat.le_refl _) (by omega) (by rw[hlen]; omega) (WB hr.by255) (Za9 hr) hf;rw[hlen] at h;refine h.mono ?_;rintro e u ⟨hq,aC⟩;generalize ZU (Xj N IM) rva 20 ZT=R at hq ⊢;cases R with
  | none =>
    have fl:e= .returned (.tuple #[.slice none 0 0,.int .i64 10]):=hq;subst fl;exact⟨_,rfl,rfl,aC,ZE.const fun _=>rfl⟩
  | some x =>
    obtain⟨A,c,l,rfl,h1,h2⟩:=hq;exact⟨_,rfl,rfl,aC,fun W3 ey d'=>⟨A,c,l,rfl,XL h1 hle W3 ey d',h2⟩⟩
 ·rw[QQ (by rw[hlen]; omega)];exact(imFR (some ⟨gi,0,none⟩) N N rva (by omega) (by omega) hN sz W2).mono (by rintro e u ⟨rfl,aC⟩; exact⟨_,rfl,rfl,aC,ZE.const fun _=>rfl⟩)
theorem Zkn (w:World) (N:Nat) (IM:Nat->Int) (hN:N<=262144) (rva:Nat) (sz:Int) (r1:rva<4294967296) :
 VX w N IM 84 [.agg #[.int .i64 rva,.int .i64 sz]] (erO (ZU (Xj N IM) rva 32 Yl) 10) (Znh w.heap.size (ZU (Xj N IM) rva 32 Yl)):=fun W gi P ho hb hp hn W2 hk hs=>by
 have hr:=(ho.of_block hs (hk.block gi ⟨ho.lt,hn⟩)).rowB;have hlen:=Xg N IM;have hle:w.heap.size<=W2.heap.size:=Nat.le_trans hb.size hs;by_cases hf:rva<=1000000
 ·have h:=Zbu (some ⟨gi,0,none⟩) N (Xj N IM) rva sz W2 (by rw[hlen]; exact Nat.le_refl _) (by omega) (by rw[hlen]; omega) (WB hr.by255) (Za9 hr) hf;rw[hlen] at h;refine h.mono ?_;rintro e u ⟨hq,aC⟩;generalize ZU (Xj N IM) rva 32 Yl=R at hq ⊢;cases R with
  | none =>
    have fl:e= .returned (.tuple #[.slice none 0 0,.int .i64 10]):=hq;subst fl;exact⟨_,rfl,rfl,aC,ZE.const fun _=>rfl⟩
  | some x =>
    obtain⟨A,c,l,rfl,h1,h2⟩:=hq;exact⟨_,rfl,rfl,aC,fun W3 ey d'=>⟨A,c,l,rfl,XL h1 hle W3 ey d',h2⟩⟩
 ·rw[QQ (by rw[hlen]; omega)];exact(deFR (some ⟨gi,0,none⟩) N N rva (by omega) (by omega) hN sz W2).mono (by rintro e u ⟨rfl,aC⟩; exact⟨_,rfl,rfl,aC,ZE.const fun _=>rfl⟩)
def Zc6 {α :Type} (C: α ->List Value) (sz:Nat) (ty:TypeId) (base:Nat) (R:Option (List α)) (_:Nat) (v:Value) (U:World):Prop:=match R with
 | none=>v= .slice none 0 0
 | some l=> ∃ A c,v= .slice A l.length c/\ZJ C sz U base ty (.slice A l.length c) l
theorem Zko (w:World) (N:Nat) (IM:Nat->Int) (hN:N<=262144) (rva sz:Int) (r0:0<=rva) (r1:rva<4294967296) (s0:0<=sz) (s1:sz<4294967296) :
 VX w N IM 81 [.agg #[.int .i64 rva,.int .i64 sz]] (erO (YU N IM rva sz) 9) (Zc6 Wk 2 82 w.heap.size (YU N IM rva sz)):=fun W gi P ho hb hp hn W2 hk hs=>by
 have hr:=(ho.of_block hs (hk.block gi ⟨ho.lt,hn⟩)).rowB;have hle:w.heap.size<=W2.heap.size:=Nat.le_trans hb.size hs;refine(Zj9 (some ⟨gi,0,none⟩) N N IM rva sz W2 (Nat.le_refl _) (by omega) hr.by255 (.inr ⟨gi,0,rfl,hr.lt,hr.row⟩) (by omega) (by omega) (by omega) (by omega)).mono ?_;rintro e u ⟨hq,aC⟩;generalize YU N IM rva sz=R at hq ⊢;cases R with
 | none =>
   have fl:e= .returned (.tuple #[.slice none 0 0,.int .i64 9]):=hq;subst fl;exact⟨_,rfl,rfl,aC,ZE.const fun _=>rfl⟩
 | some x =>
   obtain⟨A,c,rfl,h1⟩:=hq;exact⟨_,rfl,rfl,aC,fun W3 ey d'=>⟨A,c,rfl,(YN h1 W3 ey d').lower hle⟩⟩
def Xa (bs:List Nat) (rva:Nat):Option (List Zge):=if rva=0 then some [] else XW bs rva 33 rva 0 []
theorem Zhe {bs:List Nat} {rva:Nat} (h:bs.length<rva):Xa bs rva=none:=by
 unfold Xa;rw[if_neg (by omega)];show XW bs rva (32+1) rva 0 []=none
 unfold XW;rw[if_neg (by rw[YZ (by omega)]; simp),if_pos (.inl (by omega))]
theorem Zkp (w:World) (N:Nat) (IM:Nat->Int) (hN:N<=262144) (rva:Nat) (sz:Int) (r1:rva<4294967296) :
 VX w N IM 83 [.agg #[.int .i64 rva,.int .i64 sz]] (erO (Xa (Xj N IM) rva) 8) (Zc6 bC 2 80 w.heap.size (Xa (Xj N IM) rva)):=fun W gi P ho hb hp hn W2 hk hs=>by
 have hr:=(ho.of_block hs (hk.block gi ⟨ho.lt,hn⟩)).rowB;have hlen:=Xg N IM;have hle:w.heap.size<=W2.heap.size:=Nat.le_trans hb.size hs;by_cases h0:rva=0
 ·subst h0;have hM:Xa (Xj N IM) 0=some []:=by unfold Xa; rw[if_pos rfl]
  rw[hM];exact(bndZ (some ⟨gi,0,none⟩) N N sz W2).mono (by rintro e u ⟨rfl,aC⟩; exact⟨_,rfl,rfl,aC,ZE.const fun _=>⟨none,0,rfl,ZJ.nil _ _ _⟩⟩)
 by_cases hf:rva<=1073741824
 ·have h:=Zgf (some ⟨gi,0,none⟩) N (Xj N IM) rva sz W2 (WB hr.by255) (by rw[hlen]; exact Nat.le_refl _) (by omega) (Za9 hr) (by omega) hf;rw[hlen] at h;have hM:XW (Xj N IM) rva 33 rva 0 []=Xa (Xj N IM) rva:=by unfold Xa; rw[if_neg h0]
  rw[hM] at h;refine h.mono ?_;rintro e u ⟨hq,aC⟩;generalize Xa (Xj N IM) rva=R at hq ⊢;cases R with
  | none =>
    have fl:e= .returned (.tuple #[.slice none 0 0,.int .i64 8]):=hq;subst fl;exact⟨_,rfl,rfl,aC,ZE.const fun _=>rfl⟩
  | some x =>
    obtain⟨A,c,rfl,h1⟩:=hq;exact⟨_,rfl,rfl,aC,fun W3 ey d'=>⟨A,c,rfl,(YN h1 W3 ey d').lower hle⟩⟩
 ·rw[Zhe (by rw[hlen]; omega)];exact(bndFR (some ⟨gi,0,none⟩) N N rva (by omega) (by omega) hN sz W2).mono (by rintro e u ⟨rfl,aC⟩; exact⟨_,rfl,rfl,aC,ZE.const fun _=>rfl⟩)
def TlsS (base:Nat) (R:Option (Bool × Int × List Int)) (_:Nat) (a b c:Value) (U:World):Prop:=match R with
 | none=>a= .bool false/\b= .int .i64 0/\c= .slice none 0 0
 | some x=> ∃ A k,a= .bool x.1/\b= .int .i64 x.2.1/\c= .slice A x.2.2.length k/\ZJ WH 1 U base 3 (.slice A x.2.2.length k) x.2.2
theorem Zkq (w:World) (N:Nat) (IM:Nat->Int) (hN:N<=262144) (rva:Nat) (sz base:Int) (r1:rva<4294967296) (b0:0<=base) (b1:base<=18446744073709551615) :
 Qy w N IM 82 [.agg #[.int .i64 rva,.int .i64 sz],.int .u64 base] (erO (qF N IM rva base) 12) (TlsS w.heap.size (qF N IM rva base)):=fun W gi P ho hb hp hn W2 hk hs=>by
 have hr:=(ho.of_block hs (hk.block gi ⟨ho.lt,hn⟩)).rowB;have hle:w.heap.size<=W2.heap.size:=Nat.le_trans hb.size hs;refine(Znk gi 0 N N IM rva sz base W2 hr (by omega) (by omega) b0 b1).mono ?_;rintro e u ⟨hq,aC⟩;generalize qF N IM rva base=R at hq ⊢;rcases hq with⟨t,x,l,L,c,rfl,rfl,h1⟩|⟨rfl,rfl⟩
 ·exact⟨_,_,_,rfl,⟨rfl,rfl,rfl⟩,aC,fun W3 ey d'=>⟨L,c,rfl,rfl,rfl,(YN h1 W3 ey d').lower hle⟩⟩
 ·exact⟨_,_,_,rfl,⟨rfl,rfl,rfl⟩,aC,ZE.const fun _=>⟨rfl,rfl,rfl⟩⟩
theorem Zeo (bs:List Nat) (rva:Nat) (sz:Int) (w:World) (hb:Lb bs) (hlen:bs.length<=1000000) (hr:rva<4294967296) :
 Calls Tryz.prog 42 #[.string (txt bs),.agg #[.int .i64 rva,.int .i64 sz]] w fun e w'=>Zmy w w' (Xa bs rva) e:=by
 obtain⟨R,hR⟩: ∃ R,Xa bs rva=R:=⟨_,rfl⟩;rw[hR];unfold Xa at hR;have aT:(txt bs).size=bs.length:=Zk bs;have aJ:=Zg hb;have sZ:=Zg (show ∀ W:World,(Instr.makeSlice 25 (.int .i64 8) (.int .i64 8)).run Tryz.prog W= .ok (.slice (some ⟨W.heap.size,0,none⟩) 8 8) (W.alloc (.cells (madeCells #[.int .u8 0] 8) 5)) from fun W=>run_make_row' (P:=Tryz.prog) 25 5 (.int .u8 0) 1 Tryz.underlying25 Ws rfl .i64 .i64 8 (by omega) (by omega) W);obtain⟨w1,ao⟩: ∃ w1,w.alloc (.cells #[.int .i64 rva,.int .i64 sz] 37)=w1:=⟨_,rfl⟩;have cu:=Zg ao;have av:=Zg (show Below w.heap.size w w1 from by rw[<-ao]; exact(Below.refl _ _).alloc (Nat.le_refl _) _);have dw:=Zg (show w1.heap[w.heap.size]? =some (.cells #[.int .i64 rva,.int .i64 sz] 37 (0,0)) from by rw[<-ao]; exact heap_alloc_new w _);clear ao hb;have q0:w1.cell? ⟨w.heap.size,0,none⟩=some (.int .i64 rva):=by rw[Zh dw.out]; rfl
 go_enter Tryz.func42,Tryz.ntmps42;go_upto_region 1 with(fail)
 refine(congrArg _ cu.out).mpr ?_;by_cases c0:rva=0
 ·rw[if_pos c0] at hR;subst hR;have d0:((rva:Int) == 0)=true:=by rw[beq_iff_eq]; omega
  clear c0;go_wp2_with fail
  go_ret2;exact⟨⟨none,0,rfl,ZJ.nil _ _ _⟩,av.out⟩
 ·rw[if_neg c0] at hR;have d0:((rva:Int) == 0)=false:=beq_eq_false_iff_ne.mpr (by omega);have HR:=Zg hR;clear c0 hR;go_wp2_with fail
  clear q0;go_loopw [6,7,8] (fun v6 v7 v8 wr=> ∃(k n m:Nat) (l:List Zge) (A':Option Addr) (c':Nat),k+n=33/\l.length=k/\k<=32/\m<65536/\v6= .slice A' k c'/\v7= .int .i64 m/\v8= .int .i64 k/\ZJ bC 2 wr (w.heap.size+1) 80 (.slice A' k c') l/\Below w.heap.size w wr/\wr.heap[w.heap.size]? =some (.cells #[.int .i64 rva,.int .i64 sz] 37 (0,0))/\XW bs rva n (rva+8 * k) m l=R) (fun _ _ v8 _=>33 - (intOf v8).toNat)
  case atStart=>exact⟨0,33,0,[],none,0,rfl,rfl,by omega,by omega,rfl,rfl,rfl,ZJ.nil _ _ _,av.out,dw.out,HR.out⟩
  case round =>
   obtain⟨k,n,m,l,A',c',hn,hl,Dh,hm,rfl,rfl,rfl,ae,aq,nj,hR⟩:=hrel;have HO:=Zg ae;have HB:=Zg aq;have HX:=Zg nj;have HL:=Zg hl;clear ae aq nj HR;obtain⟨n,rfl⟩: ∃ q,n=q+1:=⟨n - 1,by omega⟩;simp only[XW] at hR;rw[hl] at hR;obtain⟨m8,gU⟩: ∃ q,8 * k=q:=⟨_,rfl⟩;obtain⟨o,ho⟩: ∃ q,rva+m8=q:=⟨_,rfl⟩;have ud:rva+8 * (k+1)=o+8:=by omega
   rw[gU,ho] at hR;have em:(8:Int) * (k:Int)=(m8:Int):=by omega
   have wm:IntKind.i64.wrap (m8:Int)=(m8:Int):=by rw[IntKind.wrap_i64]; omega
   have eo:(rva:Int)+(m8:Int)=(o:Int):=by omega
   have wo:IntKind.i64.wrap (o:Int)=(o:Int):=by rw[IntKind.wrap_i64]; omega
   have ax:=Zg (fun W=>QT bs.length o 8 W (by omega));have e0:wr.cell? ⟨w.heap.size,0,none⟩=some (.int .i64 rva):=by rw[Zh HX.out]; rfl
   have dN:=Zg ud;clear gU ho ud hl;by_cases c1:o+8<=bs.length
   ·have oH:=Zg (Jk aJ.out c1);have aU:decide (o+8<=bs.length)=true:=decide_eq_true c1;rw[aU] at ax;obtain⟨o8,fe⟩: ∃ q,o+8=q:=⟨_,rfl⟩;rw[fe] at oH dN hR;have Bw:(o:Int)+8=(o8:Int):=by omega
    have Da:IntKind.i64.wrap (o8:Int)=(o8:Int):=by rw[IntKind.wrap_i64]; omega
    have x0:(0:Int)<=(o:Int):=by omega
    have x1:(o:Int)<=(o8:Int):=by omega
    have x2:(o8:Int)<=(bs.length:Int):=by omega
    have x3:(o8:Int).toNat=o8:=Int.toNat_natCast _;have x4:(o:Int).toNat=o:=Int.toNat_natCast _;have fQ:=Zg fe;have eW:=Zg (show o8<=bs.length from by omega);have ph:=Zg hR;have Dk:=Zg (show ¬ ¬ o8<=bs.length from fun q=>q (by omega));clear fe c1 aU hR;go_wp2_with fail
    refine(ax.out _).mono ?_;rintro e w' ⟨rfl,rfl⟩;go_upto_region 10 with(fail)
    clear e0;have HS:=Zg (show Below wr.heap.size wr wr.drew from(Below.refl _ _).drew);refine wp_region_noPanic ?_;refine Zt (fun W=>Below wr.heap.size wr W) (fun _=>True) 99 (by kernel_rfl) ?_;refine wU (i:=0) HS.out ?_;refine wU (i:=1) HS.out ?_;refine wU (i:=2) HS.out ?_;refine wU (i:=3) HS.out ?_;refine wU (i:=4) HS.out ?_;have rn:=sZ.out wr.drew;refine wO (i:=5) (fun K hK=> ?_);go_simp;clear rn;have aF:=Zg (show Below wr.heap.size wr (wr.drew.alloc (.cells (madeCells #[.int .u8 0] 8) 5)) from HS.out.alloc (Nat.le_refl _) _);refine hK.out _ _ aF.out (fun _=>trivial) ?_;clear hK K;try simp only[Act.put,Zd,Ze,Zf]
    have dI:(convert 25 9 (.slice (some ⟨wr.heap.size,0,none⟩) 8 8)).run Tryz.prog (wr.drew.alloc (.cells (madeCells #[.int .u8 0] 8) 5))= .ok (.string (ZB (fun _=>0) 0 8)) (wr.drew.alloc (.cells (madeCells #[.int .u8 0] 8) 5)):=Uh wr.drew 8;obtain⟨w2,aR⟩: ∃ q,wr.drew.alloc (.cells (madeCells #[.int .u8 0] 8) 5)=q:=⟨_,rfl⟩;rw[aR] at dI aF;have eS:=Zg aR;clear aR;refine(congrArg _ eS.out).mpr ?_;refine wO (i:=6) (fun K hK=> ?_);go_simp;clear dI;refine hK.out _ _ aF.out (fun _=>trivial) ?_;clear hK K;try simp only[Act.put,Zd,Ze,Zf]
    have s5:=oH.out;have aa:=ph.out;obtain⟨NO,nk⟩: ∃ q,Yn bs o 8=q:=⟨_,rfl⟩;rw[nk] at s5 aa;generalize ZB (fun _=>0) 0 8=Z at *;refine wU (i:=7) aF.out ?_;refine Zo (by kernel_rfl) ?_ _;refine NoPanic.normal ?_;clear s5 nk eS x0 x1 x2 x3 x4;have aC:=aF.out;have bQ:=Zg (HO.out.below aC);have aj:=Zg (HB.out.trans (aC.mono HB.out.size));have gZ:=Zg ((aC.block _ (Zi HX.out)).trans HX.out);clear aC;rcases NO with _|_
    ·rw[if_neg (fun h=>by simp at h)] at aa;obtain⟨o4,dj⟩: ∃ q,o+4=q:=⟨_,rfl⟩;obtain⟨o6,nu⟩: ∃ q,o+6=q:=⟨_,rfl⟩;have um:(o:Int)+4=(o4:Int):=by omega
     have Bx:IntKind.i64.wrap (o4:Int)=(o4:Int):=by rw[IntKind.wrap_i64]; omega
     have RI:(o:Int)+6=(o6:Int):=by omega
     have RJ:IntKind.i64.wrap (o6:Int)=(o6:Int):=by rw[IntKind.wrap_i64]; omega
     have iS:=Zg (fun W=>ZQ bs o 4 W aJ.out (by omega) (by omega) (by have:=fQ.out; have:=eW.out; omega));have jc:=Zg (fun W=>ZQ bs o4 2 W aJ.out (by omega) (by omega) (by have:=fQ.out; have:=eW.out; omega));have Kv:=Zg (fun W=>ZQ bs o6 2 W aJ.out (by omega) (by omega) (by have:=fQ.out; have:=eW.out; omega));have s7:=ZG (aJ.out.drop o4) 2;have Gg:=ZG (aJ.out.drop o6) 2;rw[show(256:Nat) ^ 2=65536 from rfl] at s7 Gg;have Kw:Zab bs rva o=match YO bs (rva+Yg (bs.drop o4) 2) 40 with|some t=>if Un t then some (t,Yg (bs.drop o) 4) else none|none=>none:=by unfold Zab; rw[dj]; rfl
     rw[Kw,nu] at aa;obtain⟨u0,kB⟩: ∃ v,Yg (bs.drop o) 4=v:=⟨_,rfl⟩;obtain⟨u4,kC⟩: ∃ v,Yg (bs.drop o4) 2=v:=⟨_,rfl⟩;obtain⟨u6,Bu⟩: ∃ v,Yg (bs.drop o6) 2=v:=⟨_,rfl⟩;rw[kB] at iS aa;rw[kC] at jc aa s7;rw[Bu] at Kv aa Gg;obtain⟨q4,KF⟩: ∃ q,rva+u4=q:=⟨_,rfl⟩;rw[KF] at aa;have RL:(rva:Int)+(u4:Int)=(q4:Int):=by omega
     have RM:IntKind.i64.wrap (q4:Int)=(q4:Int):=by rw[IntKind.wrap_i64]; omega
     have bW:=Zg (fun W=>Xr bs q4 40 W aJ.out (by omega));have bk:=Zg aa;clear Kw kB kC Bu KF dj nu aa;have B0:=Zg (fun W (hW:Below w2.heap.size w2 W)=>show W.cell? ⟨w.heap.size,0,none⟩=some (.int .i64 rva) from by rw[Zh ((hW.block _ (Zi gZ.out)).trans gZ.out)]; rfl);go_upto_region 14 with(fail)
     clear HS aF;rcases htx:YO bs q4 40 with _|t
     ·rw[htx] at bW;have aa:=bk.out;rw[htx] at aa;simp only[ite_self] at aa;subst aa;clear bk htx;have HS:=Zg (show Below w2.heap.size w2 w2.drew from(Below.refl _ _).drew);refine wp_region_noPanic ?_;refine Zt (fun W=>Below w2.heap.size w2 W) (fun _=>True) 99 (by kernel_rfl) ?_;refine wU (i:=0) HS.out ?_;refine wU (i:=1) HS.out ?_;refine wU (i:=2) HS.out ?_ (hy:=by refine Or.inl ⟨by rfl,?_⟩; intro W aL; have mb:=B0.out W aL; clear aL; go_simp; try with_reducible rfl);refine wU (i:=3) HS.out ?_;refine wU (i:=4) HS.out ?_;refine wU (i:=5) HS.out ?_;refine Zz (i:=6) (oi:= ?_) (v:= .int .i64 u4) ?_ (by kernel_rfl) (by kernel_rfl) (by kernel_rfl) (fun _ _ _ h=>h) (by decide) ?_ HS.out (fun _=>trivial) ?_;rotate_left 1
      ·(simp only[Za,Zb,Zc]; rfl)
      ·refine⟨by rfl,fun W hW=>⟨72,#[.string (txt bs),.int .i64 o4,.int .i64 2],?_,jc.out W⟩⟩;first|kernel_rfl|(go_simp; done)|rfl
      try simp only[Act.put,Zd,Ze,Zf]
      refine wU (i:=7) HS.out ?_;refine Zz (i:=8) (oi:= ?_) (v:= .tuple #[.string ByteArray.empty,.bool false]) ?_ (by kernel_rfl) (by kernel_rfl) (by kernel_rfl) (fun _ _ _ h=>h) (by decide) ?_ HS.out (fun _=>trivial) ?_;rotate_left 1
      ·(simp only[Za,Zb,Zc]; rfl)
      ·refine⟨by rfl,fun W hW=>⟨75,#[.string (txt bs),.int .i64 q4,.int .i64 40],?_,bW.out W⟩⟩;first|kernel_rfl|(go_simp; done)|rfl
      try simp only[Act.put,Zd,Ze,Zf]
      refine wU (i:=9) HS.out ?_;refine wU (i:=10) HS.out ?_;refine wU (i:=11) HS.out ?_;refine wU (i:=12) HS.out ?_;refine wU (i:=13) HS.out ?_;refine Zo (by kernel_rfl) ?_ _;refine NoPanic.normal ?_;have aN:=Zg (show Below w.heap.size w w2.drew from aj.out.drew);by_cases kK:k=32
      ·have d32:(32:Int)<=(k:Int):=by omega
       clear kK;go_wp2_with fail
       go_ret2;exact⟨rfl,aN.out⟩
      ·have d32: ¬ (32:Int)<=(k:Int):=by omega
       clear kK;go_wp2_with fail
       go_ret2;exact⟨rfl,aN.out⟩
     ·have aE:=YC aJ.out htx;have fq:=Zg (fun W=>Ve t W aE.1 (by have:=aE.2; omega));rw[htx] at bW;have aa:=bk.out;rw[htx] at aa;simp only at aa;have ar:=Zg aa;clear bk htx aa aE;have HS:=Zg (show Below w2.heap.size w2 w2.drew from(Below.refl _ _).drew);refine wp_region_noPanic ?_;refine Zt (fun W=>Below w2.heap.size w2 W) (fun _=>True) 99 (by kernel_rfl) ?_;refine wU (i:=0) HS.out ?_;refine wU (i:=1) HS.out ?_;refine wU (i:=2) HS.out ?_ (hy:=by refine Or.inl ⟨by rfl,?_⟩; intro W aL; have mb:=B0.out W aL; clear aL; go_simp; try with_reducible rfl);refine wU (i:=3) HS.out ?_;refine wU (i:=4) HS.out ?_;refine wU (i:=5) HS.out ?_;refine Zz (i:=6) (oi:= ?_) (v:= .int .i64 u4) ?_ (by kernel_rfl) (by kernel_rfl) (by kernel_rfl) (fun _ _ _ h=>h) (by decide) ?_ HS.out (fun _=>trivial) ?_;rotate_left 1
      ·(simp only[Za,Zb,Zc]; rfl)
      ·refine⟨by rfl,fun W hW=>⟨72,#[.string (txt bs),.int .i64 o4,.int .i64 2],?_,jc.out W⟩⟩;first|kernel_rfl|(go_simp; done)|rfl
      try simp only[Act.put,Zd,Ze,Zf]
      refine wU (i:=7) HS.out ?_;refine Zz (i:=8) (oi:= ?_) (v:= .tuple #[.string (txt t),.bool true]) ?_ (by kernel_rfl) (by kernel_rfl) (by kernel_rfl) (fun _ _ _ h=>h) (by decide) ?_ HS.out (fun _=>trivial) ?_;rotate_left 1
      ·(simp only[Za,Zb,Zc]; rfl)
      ·refine⟨by rfl,fun W hW=>⟨75,#[.string (txt bs),.int .i64 q4,.int .i64 40],?_,bW.out W⟩⟩;first|kernel_rfl|(go_simp; done)|rfl
      try simp only[Act.put,Zd,Ze,Zf]
      refine wU (i:=9) HS.out ?_;refine wU (i:=10) HS.out ?_;refine wU (i:=11) HS.out ?_;refine wU (i:=12) HS.out ?_;refine wU (i:=13) HS.out ?_;refine Zo (by kernel_rfl) ?_ _;refine NoPanic.normal ?_;have aN:=Zg (show Below w.heap.size w w2.drew from aj.out.drew);have cT:=Zg (show ZJ bC 2 w2.drew (w.heap.size+1) 80 (.slice A' k c') l from bQ.out.below (Below.refl w2.heap.size w2).drew);have iw:=Zg (show w2.drew.heap[w.heap.size]? =some (.cells #[.int .i64 rva,.int .i64 sz] 37 (0,0)) from gZ.out);generalize w2.drew=w3 at *;by_cases kK:k=32
      ·have d32:(32:Int)<=(k:Int):=by omega
       have aa:=ar.out;rw[if_pos (.inr (.inr kK))] at aa;subst aa;clear kK ar;go_wp2_with fail
       go_ret2;exact⟨rfl,aN.out⟩
      ·have d32: ¬ (32:Int)<=(k:Int):=by omega
       have Gh:k<32:=by omega
       have aa:=ar.out;rw[if_neg (fun h=>h.elim Dk.out (fun h=>h.elim (fun h=>by simp at h) kK))] at aa;clear ar kK;by_cases ba:Un t=true
       ·rw[if_pos ba] at aa;simp only at aa;have bS:=Zg aa;rw[ba] at fq;clear ba aa;go_wp2_with fail
        refine(fq.out _).mono ?_;rintro e w' ⟨rfl,rfl⟩;go_wp2_with fail
        refine(iS.out _).mono ?_;rintro e w' ⟨rfl,rfl⟩;have aK:=Zg (cT.out.alloc (.cells #[.string (txt t),.int .i64 u0] 80));have cK:=Zg (Uo t u0 w3);have aV:=Zg (aN.out.alloc aN.out.size (.cells #[.string (txt t),.int .i64 u0] 80));have je:=Zg (show(w3.alloc (.cells #[.string (txt t),.int .i64 u0] 80)).heap[w.heap.size]? =_ from(Below.heap_alloc _ _ _ (Zi iw.out)).trans iw.out);have cj:=Zg (show w.heap.size+1<=(w3.alloc (.cells #[.string (txt t),.int .i64 u0] 80)).heap.size from Zi je.out);rw[<-HL.out] at aK Gh hn ⊢;have dH:=Zg (show l.length+1<=maxLen from by unfold maxLen; omega);have dX:=Zg (show(l.length+1) * 24<=140737488355328 from by omega);by_cases lP:0<m
        ·rw[if_pos lP] at bS;have dm:(0:Int)<(m:Int):=by omega
         have Es:(m:Int) - 1=((m - 1:Nat):Int):=by omega
         have OH:IntKind.i64.wrap ((m - 1:Nat):Int)=((m - 1:Nat):Int):=by rw[IntKind.wrap_i64]; omega
         obtain⟨m1,uJ⟩: ∃ q,m - 1=q:=⟨_,rfl⟩;rw[uJ] at Es OH bS;have Gi:m1<65536:=by omega
         clear uJ lP;go_wp2_with (first
          | (at_builtin; refine Zq rfl (.tmp 61) (.tmp 67) 30 rfl (w.heap.size+1) 80 _ 24 rfl VN rfl (by omega) Zbo Ze0 _ l rfl aK.out w3.heap.size 1 rfl (t,u0) cK.out dH.out dX.out cj.out ?_; intro g5 aG w8 ag aI aD
             have ay:=Zg (aK.out.grew aV.out (by omega) aV.out.size aI);have mj:=Zg ((aI.block w.heap.size (Zi je.out) (fun h=>by have:=(aK.out.lt _ h.symm).1; omega)).trans je.out);have di:=Zg ag;clear ag aI aD)
          | fail)
         go_roundw
         case rel=>exact⟨l.length+1,n,m1,l++[(t,u0)],some ⟨g5,0,none⟩,aG,by omega,by simp,by omega,Gi,rfl,rfl,rfl,by simpa using di.out,ay.out,mj.out,by rw[HL.out,dN.out]; exact bS.out⟩
         case measure =>
          have:=HL.out;simp[intOf];omega
        ·rw[if_neg lP] at bS;have dm: ¬ (0:Int)<(m:Int):=by omega
         clear lP;go_wp2_with (first
          | (at_builtin; refine Zq rfl (.tmp 61) (.tmp 67) 30 rfl (w.heap.size+1) 80 _ 24 rfl VN rfl (by omega) Zbo Ze0 _ l rfl aK.out w3.heap.size 1 rfl (t,u0) cK.out dH.out dX.out cj.out ?_; intro g5 aG w8 ag aI aD
             have ay:=Zg (aK.out.grew aV.out (by omega) aV.out.size aI);have mj:=Zg ((aI.block w.heap.size (Zi je.out) (fun h=>by have:=(aK.out.lt _ h.symm).1; omega)).trans je.out);have di:=Zg ag;clear ag aI aD)
          | fail)
         refine(Kv.out _).mono ?_;rintro e w' ⟨rfl,rfl⟩;go_wp2_with fail
         go_roundw
         case rel=>exact⟨l.length+1,n,u6,l++[(t,u0)],some ⟨g5,0,none⟩,aG,by omega,by simp,by omega,Gg,rfl,rfl,rfl,by simpa using di.out,ay.out,mj.out,by rw[HL.out,dN.out]; exact bS.out⟩
         case measure =>
          have:=HL.out;simp[intOf];omega
       ·have cP:=Bool.eq_false_iff.2 ba;rw[cP] at aa fq;simp at aa;subst aa;clear ba cP;go_wp2_with fail
        refine(fq.out _).mono ?_;rintro e w' ⟨rfl,rfl⟩;go_wp2_with fail
        go_ret2;exact⟨rfl,aN.out⟩
    ·have OI:=aa;by_cases lP:m=0
     ·rw[if_pos ⟨lP,rfl⟩] at aa;have dm: ¬ (0:Int)<(m:Int):=by omega
      subst aa;clear lP;go_wp2_with fail
      go_ret2;exact⟨⟨A',c',by rw[HL.out]; rfl,by rw[HL.out]; exact Joins.ownsRow_le bQ.out (by omega)⟩,aj.out⟩
     ·rw[if_neg (fun h=>lP h.1),if_pos (.inr (.inl rfl))] at aa;have dm:(0:Int)<(m:Int):=by omega
      subst aa;clear lP;go_wp2_with fail
      go_ret2;exact⟨rfl,aj.out⟩
   ·have aU:decide (o+8<=bs.length)=false:=decide_eq_false c1;rw[aU] at ax;rw[YZ c1,if_neg (fun h=>by simp at h),if_pos (.inl c1)] at hR;subst hR;clear c1 aU;go_wp2_with fail
    refine(ax.out _).mono ?_;rintro e w' ⟨rfl,rfl⟩;go_wp2_with fail
    go_ret2;exact⟨rfl,HB.out⟩
theorem Zkr (S:ByteArray) (r n:Nat) (w:World) (hs:S.size<=1000000) (hr:r<18446744073709551616) (hn:n<=1000) :
 Calls Tryz.prog 96 #[.string S,.int .u64 r,.int .i64 n] w fun e u=>e= .returned (.bool (decide (r+n<=S.size)))/\w=u:=by
 by_cases h:r<=1073741824
 ·have ax:=Zg (fun W=>QT S.size r n W (by omega));have d0:(r:Int)<=1073741824:=by omega
  have w0:IntKind.i64.wrap (r:Int)=(r:Int):=by rw[IntKind.wrap_i64]; omega
  generalize decide (r+n<=S.size)=B at *;go_enter Tryz.func96,Tryz.ntmps96;go_wp2_with fail
  refine(ax.out _).mono ?_;rintro e u ⟨rfl,rfl⟩;go_wp2_with fail
  go_ret;exact⟨rfl,rfl⟩
 ·have d0: ¬ (r:Int)<=1073741824:=by omega
  rw[decide_eq_false (by omega)];go_enter Tryz.func96,Tryz.ntmps96;go_wp2_with fail
  go_ret;exact⟨rfl,rfl⟩
def WI (a b:Int):Nat:=((a - b) % 18446744073709551616).toNat
theorem Zep (a b:Int):IntKind.u64.wrap (a - b)=((WI a b:Nat):Int):=by
 rw[IntKind.wrap_u64]; unfold WI; omega
theorem Zeq (a b:Int):WI a b<18446744073709551616:=by unfold WI; omega
def WW (n:Nat) (f:Nat->Int) (base:Int) (D:Nat):Nat->List Int->Option (List Int)
 | 0,_=>none
 | m+1,l =>
   if ¬ D+(8 * l.length+8)<=n then none else
   if rdF f (D+8 * l.length) 8=0 then some l else
   if 8<=l.length\/ ¬ WI (rdF f (D+8 * l.length) 8) base+1<=n then none else
   WW n f base D m (l++[((WI (rdF f (D+8 * l.length) 8) base:Nat):Int)])
def rf (n:Nat) (f:Nat->Int) (rva:Nat) (base:Int):Option (Bool × Int × List Int) :=
 if rva=0 then some (false,0,[]) else
 if ¬ rva+40<=n then none else
 if ¬ WI (rdF f (rva+16) 8) base+4<=n then none else
 match (if rdF f (rva+24) 8=0 then some [] else WW n f base (WI (rdF f (rva+24) 8) base) 9 []) with
 | none=>none
 | some l=>some (true,((WI (rdF f (rva+16) 8) base:Nat):Int),l)
theorem Zmt (S:ByteArray) (rva:Nat) (sz base:Int) (w:World) (hs:S.size<=1000000) (hr:rva<4294967296) (b0:0<=base) (b1:base<=18446744073709551615) :
 Calls Tryz.prog 41 #[.string S,.agg #[.int .i64 rva,.int .i64 sz],.int .u64 base] w fun e u=>TlsQ w (rf S.size (PlainAid.bt S) rva base) e u/\Below w.heap.size w u:=by
 have bh:=Zg (Xx S);have oF:=fun(o:Nat) (W:World) (h:o+8<=S.size)=>Vd S o 8 W (by omega) (by omega) h;obtain⟨f,hf⟩: ∃ f,PlainAid.bt S=f:=⟨_,rfl⟩;rw[hf] at bh oF ⊢;have sX:=Zg oF;have s8:=Zg (fun(r n:Nat) (W:World) (h1:r<18446744073709551616) (h2:n<=1000)=>Zkr S r n W hs h1 h2);obtain⟨R,hR⟩: ∃ R,rf S.size f rva base=R:=⟨_,rfl⟩;rw[hR];unfold rf at hR;obtain⟨N,hN⟩: ∃ N,S.size=N:=⟨_,rfl⟩;rw[hN] at sX s8 hR hs;have eV:=Zg hN;clear hf oF;obtain⟨w1,ao⟩: ∃ w1,((w.alloc (.cells #[.int .i64 rva,.int .i64 sz] 37)).alloc (.cells #[.bool false,.int .i64 0,.slice none 0 0] 48)).alloc (.cells #[.bool false,.int .i64 0,.slice none 0 0] 48)=w1:=⟨_,rfl⟩;have cY:(w.alloc (.cells #[.int .i64 rva,.int .i64 sz] 37)).heap.size=w.heap.size+1:=by simp
 have jh:((w.alloc (.cells #[.int .i64 rva,.int .i64 sz] 37)).alloc (.cells #[.bool false,.int .i64 0,.slice none 0 0] 48)).heap.size=w.heap.size+2:=by simp
 have HB:=Zg (show Below w.heap.size w w1 from by rw[<-ao]; exact((((Below.refl w.heap.size w).alloc (Nat.le_refl _) _).alloc (by rw[cY]; omega) _).alloc (by rw[jh]; omega) _));have H0:=Zg (show w1.heap[w.heap.size]? =some (.cells #[.int .i64 rva,.int .i64 sz] 37 (0,0)) from by
  rw[<-ao];exact(Below.heap_alloc _ _ w.heap.size (by rw[jh]; omega)).trans ((Below.heap_alloc _ _ w.heap.size (by rw[cY]; omega)).trans (heap_alloc_new w _)))
 have H1:=Zg (show w1.heap[w.heap.size+1]? =some (.cells #[.bool false,.int .i64 0,.slice none 0 0] 48 (0,0)) from by
  rw[<-ao];refine(Below.heap_alloc _ _ (w.heap.size+1) (by rw[jh]; omega)).trans ?_;have h:=heap_alloc_new (w.alloc (.cells #[.int .i64 rva,.int .i64 sz] 37)) (.cells #[.bool false,.int .i64 0,.slice none 0 0] 48);rwa [cY] at h)
 have H2:=Zg (show w1.heap[w.heap.size+2]? =some (.cells #[.bool false,.int .i64 0,.slice none 0 0] 48 (0,0)) from by
  rw[<-ao];have h:=heap_alloc_new ((w.alloc (.cells #[.int .i64 rva,.int .i64 sz] 37)).alloc (.cells #[.bool false,.int .i64 0,.slice none 0 0] 48)) (.cells #[.bool false,.int .i64 0,.slice none 0 0] 48);rwa [jh] at h)
 have eK:=Zg (show w1.heap.size=w.heap.size+3 from by rw[<-ao]; simp);have cu:=Zg ao;have r0:w1.cell? ⟨w.heap.size,0,none⟩=some (.int .i64 rva):=by rw[Zh H0.out]; rfl
 clear ao cY jh;go_enter Tryz.func41,Tryz.ntmps41;go_upto_region 2 with(fail)
 refine(congrArg _ cu.out).mpr ?_;by_cases c0:rva=0
 ·rw[if_pos c0] at hR;subst hR;have d0:((rva:Int) == 0)=true:=by rw[beq_iff_eq]; omega
  clear c0;have z0:w1.cell? ⟨w.heap.size+2,0,none⟩=some (.bool false):=by rw[Zh H2.out]; rfl
  have z1:w1.cell? ⟨w.heap.size+2,1,none⟩=some (.int .i64 0):=by rw[Zh H2.out]; rfl
  have z2:w1.cell? ⟨w.heap.size+2,2,none⟩=some (.slice none 0 0):=by rw[Zh H2.out]; rfl
  go_wp2_with (first|(refine wpList_store_row rfl 48 _ _ rfl (w.heap.size+1) #[.bool false,.int .i64 0,.slice none 0 0] rfl rfl 48 _ H1.out rfl rfl (by simp[Value.oneCell']) ?_)|fail)
  exact bodyPost_ret (v:= .tuple #[.agg #[.bool false,.int .i64 0,.slice none 0 0],.int .i64 0]) (Zj rfl _ _ (w.heap.size+1) 48 _ (0,0) _ _ rfl rfl (setRow_heap _ _ _ _ _ _ H1.out) rfl rfl rfl) rfl ⟨.inl ⟨false,0,[],none,0,rfl,rfl,ZJ.nil _ _ _⟩,below_setRow HB.out (by omega) _⟩
 rw[if_neg c0] at hR;have d0:((rva:Int) == 0)=false:=beq_eq_false_iff_ne.mpr (by omega);have ax:=Zg (fun W=>QT N rva 40 W (by omega));have gx:(S.size:Int)=(N:Int):=by rw[eV.out]
 clear c0;by_cases c1:rva+40<=N
 ·rw[if_neg (fun h=>h c1)] at hR;rw[decide_eq_true c1] at ax;obtain⟨o1,cG⟩: ∃ q,rva+16=q:=⟨_,rfl⟩;obtain⟨o2,dJ⟩: ∃ q,rva+24=q:=⟨_,rfl⟩;have RN:(rva:Int)+16=(o1:Int):=by omega
  have RO:IntKind.i64.wrap (o1:Int)=(o1:Int):=by rw[IntKind.wrap_i64]; omega
  have Gy:(rva:Int)+24=(o2:Int):=by omega
  have Gz:IntKind.i64.wrap (o2:Int)=(o2:Int):=by rw[IntKind.wrap_i64]; omega
  rw[cG,dJ] at hR;have mn:=Zg (fun W=>sX.out o1 W (by omega));have nh:=Zg (fun W=>sX.out o2 W (by omega));obtain⟨I,hI⟩: ∃ q,rdF f o1 8=q:=⟨_,rfl⟩;obtain⟨C,hC⟩: ∃ q,rdF f o2 8=q:=⟨_,rfl⟩;rw[hI] at mn hR;rw[hC] at nh hR;have OJ:=Zep I base;have Kx:=Zeq I base;have Ky:=Zep C base;have Kz:=Zeq C base;obtain⟨x,hx⟩: ∃ q,WI I base=q:=⟨_,rfl⟩;obtain⟨D,hD⟩: ∃ q,WI C base=q:=⟨_,rfl⟩;rw[hx] at OJ Kx hR;rw[hD] at Ky Kz hR;have fG:=Zg (fun W=>s8.out x 4 W Kx (by omega));clear c1 cG dJ hI hC hx hD;by_cases c2:x+4<=N
  ·rw[if_neg (fun h=>h c2)] at hR;rw[decide_eq_true c2] at fG;have wx:IntKind.i64.wrap (x:Int)=(x:Int):=by rw[IntKind.wrap_i64]; omega
   have HR:=Zg hR;clear c2 hR;go_wp2_with fail
   refine(ax.out _).mono ?_;rintro e u ⟨rfl,rfl⟩;go_wp2_with fail
   refine(mn.out _).mono ?_;rintro e u ⟨rfl,rfl⟩;go_wp2_with fail
   refine(nh.out _).mono ?_;rintro e u ⟨rfl,rfl⟩;go_wp2_with fail
   refine(fG.out _).mono ?_;rintro e u ⟨rfl,rfl⟩;obtain⟨w2,aR⟩: ∃ w2,w1.alloc (.cells #[.bool true,.int .i64 x,.slice none 0 0] 48)=w2:=⟨_,rfl⟩;have eS:=Zg aR;have hA:Below w1.heap.size w1 w2:=by rw[<-aR]; exact(Below.refl w1.heap.size w1).alloc (Nat.le_refl _) _
   replace HB:=Zg (HB.out.trans (hA.mono HB.out.size));replace H1:=Zg ((hA.block _ (Zi H1.out)).trans H1.out);replace H2:=Zg ((hA.block _ (Zi H2.out)).trans H2.out);have H3:=Zg (show w2.heap[w.heap.size+3]? =some (.cells #[.bool true,.int .i64 x,.slice none 0 0] 48 (0,0)) from by
    rw[<-aR];have h:=heap_alloc_new w1 (.cells #[.bool true,.int .i64 x,.slice none 0 0] 48);rwa [eK.out] at h)
   have cY:=eK.out;clear aR hA r0;go_upto_region 11 with(fail)
   refine(congrArg _ eS.out).mpr ?_;go_wp2_with fail
   by_cases cC:C=0
   ·have dC:(C != 0)=false:=by rw[bne_eq_false_iff_eq]; exact cC
    have aa:=HR.out;rw[if_pos cC] at aa;simp only at aa;subst aa;subst cC;clear Ky;refine wp_loop_rounds 1 ?_;rw[rounds_succ];have z0:w2.cell? ⟨w.heap.size+3,0,none⟩=some (.bool true):=by rw[Zh H3.out]; rfl
    have z1:w2.cell? ⟨w.heap.size+3,1,none⟩=some (.int .i64 x):=by rw[Zh H3.out]; rfl
    have z2:w2.cell? ⟨w.heap.size+3,2,none⟩=some (.slice none 0 0):=by rw[Zh H3.out]; rfl
    go_wp2_with (first|(refine wpList_store_row rfl 48 _ _ rfl (w.heap.size+1) #[.bool true,.int .i64 x,.slice none 0 0] rfl rfl 48 _ H1.out rfl rfl (by simp[Value.oneCell']) ?_)|fail)
    refine bodyPost_ret (v:= .tuple #[.agg #[.bool true,.int .i64 x,.slice none 0 0],.int .i64 0]) (Zj rfl _ _ (w.heap.size+1) 48 _ (0,0) _ _ rfl rfl (setRow_heap _ _ _ _ _ _ H1.out) rfl rfl rfl) rfl ⟨.inl ⟨true,(x:Int),[],none,0,rfl,rfl,?_⟩,below_setRow HB.out (by omega) _⟩;exact ZJ.nil _ _ _
   ·have dC:(C != 0)=true:=by rw[bne_iff_ne]; exact cC
    have aa:=HR.out;rw[if_neg cC] at aa;have HR:=Zg aa;clear aa cC;go_loopw [14] (fun rb wr=> ∃(k n:Nat) (l:List Int) (A':Option Addr) (c':Nat),k+n=9/\l.length=k/\k<=8/\rb= .int .i64 k/\ZJ WH 1 wr (w.heap.size+4) 3 (.slice A' k c') l/\Below w.heap.size w wr/\wr.heap[w.heap.size+1]? =some (.cells #[.bool false,.int .i64 0,.slice none 0 0] 48 (0,0))/\wr.heap[w.heap.size+2]? =some (.cells #[.bool false,.int .i64 0,.slice none 0 0] 48 (0,0))/\wr.heap[w.heap.size+3]? =some (.cells #[.bool true,.int .i64 x,.slice A' k c'] 48 (0,0))/\(match WW N f base D n l with|none=>none|some l=>some (true,(x:Int),l))=R) (fun rb _=>9 - (intOf rb).toNat)
    case atStart=>exact⟨0,9,[],none,0,rfl,rfl,by omega,rfl,ZJ.nil _ _ _,HB.out,H1.out,H2.out,H3.out,HR.out⟩
    case round =>
     obtain⟨k,n,l,A',c',hn,hl,RT,rfl,ae,aq,h1,h2,h3,aa⟩:=hrel;replace HB:=Zg aq;replace H1:=Zg h1;replace H2:=Zg h2;replace H3:=Zg h3;have HO:=Zg ae;have HL:=Zg hl;clear aq h1 h2 h3 ae HR;obtain⟨n,rfl⟩: ∃ q,n=q+1:=⟨n - 1,by omega⟩;simp only[WW] at aa;rw[hl] at aa;obtain⟨m8,gU⟩: ∃ q,8 * k=q:=⟨_,rfl⟩;rw[gU] at aa;have em:(8:Int) * (k:Int)=(m8:Int):=by omega
     have wm:IntKind.i64.wrap (m8:Int)=(m8:Int):=by rw[IntKind.wrap_i64]; omega
     obtain⟨m9,uu⟩: ∃ q,m8+8=q:=⟨_,rfl⟩;rw[uu] at aa;have RP:(m8:Int)+8=(m9:Int):=by omega
     have RQ:IntKind.i64.wrap (m9:Int)=(m9:Int):=by rw[IntKind.wrap_i64]; omega
     have HT:=Zg (fun W=>s8.out D m9 W Kz (by omega));clear hl;by_cases c3:D+m9<=N
     ·rw[if_neg (fun h=>h c3)] at aa;rw[decide_eq_true c3] at HT;have wD:IntKind.i64.wrap (D:Int)=(D:Int):=by rw[IntKind.wrap_i64]; omega
      obtain⟨o,ho⟩: ∃ q,D+m8=q:=⟨_,rfl⟩;rw[ho] at aa;have eo:(D:Int)+(m8:Int)=(o:Int):=by omega
      have wo:IntKind.i64.wrap (o:Int)=(o:Int):=by rw[IntKind.wrap_i64]; omega
      have Bt:=Zg (fun W=>sX.out o W (by omega));obtain⟨v,hv⟩: ∃ q,rdF f o 8=q:=⟨_,rfl⟩;rw[hv] at Bt aa;have KD:=Zep v base;have KE:=Zeq v base;obtain⟨r,gp⟩: ∃ q,WI v base=q:=⟨_,rfl⟩;rw[gp] at KD KE aa;have CY:=Zg (fun W=>s8.out r 1 W KE (by omega));clear c3 ho hv gp gU uu;by_cases c4:v=0
      ·rw[if_pos c4] at aa;have d4:(v == 0)=true:=by rw[beq_iff_eq]; exact c4
       simp only at aa;subst aa;subst c4;clear KD;go_wp2_with fail
       refine(HT.out _).mono ?_;rintro e u ⟨rfl,rfl⟩;go_wp2_with fail
       refine(Bt.out _).mono ?_;rintro e u ⟨rfl,rfl⟩;have z0:wr.cell? ⟨w.heap.size+3,0,none⟩=some (.bool true):=by rw[Zh H3.out]; rfl
       have z1:wr.cell? ⟨w.heap.size+3,1,none⟩=some (.int .i64 x):=by rw[Zh H3.out]; rfl
       have z2:wr.cell? ⟨w.heap.size+3,2,none⟩=some (.slice A' k c'):=by rw[Zh H3.out]; rfl
       go_wp2_with (first|(refine wpList_store_row rfl 48 _ _ rfl (w.heap.size+1) #[.bool true,.int .i64 x,.slice A' k c'] rfl rfl 48 _ H1.out rfl rfl (by simp[Value.oneCell']) ?_)|fail)
       refine bodyPost_ret (v:= .tuple #[.agg #[.bool true,.int .i64 x,.slice A' k c'],.int .i64 0]) (Zj rfl _ _ (w.heap.size+1) 48 _ (0,0) _ _ rfl rfl (setRow_heap _ _ _ _ _ _ H1.out) rfl rfl rfl) rfl ⟨.inl ⟨true,(x:Int),l,A',c',rfl,by rw[HL.out],?_⟩,below_setRow HB.out (by omega) _⟩;exact by rw[HL.out]; exact Joins.ownsRow_le (Yz HO.out (by omega) _) (by omega)
      ·rw[if_neg c4] at aa;have d4:(v == 0)=false:=beq_eq_false_iff_ne.mpr c4;clear c4;by_cases c5:8<=k
       ·rw[if_pos (.inl c5)] at aa;have d5:(8:Int)<=(k:Int):=by omega
        simp only at aa;subst aa;clear c5;go_wp2_with fail
        refine(HT.out _).mono ?_;rintro e u ⟨rfl,rfl⟩;go_wp2_with fail
        refine(Bt.out _).mono ?_;rintro e u ⟨rfl,rfl⟩;have z0:wr.cell? ⟨w.heap.size+2,0,none⟩=some (.bool false):=by rw[Zh H2.out]; rfl
        have z1:wr.cell? ⟨w.heap.size+2,1,none⟩=some (.int .i64 0):=by rw[Zh H2.out]; rfl
        have z2:wr.cell? ⟨w.heap.size+2,2,none⟩=some (.slice none 0 0):=by rw[Zh H2.out]; rfl
        go_wp2_with (first|(refine wpList_store_row rfl 48 _ _ rfl (w.heap.size+1) #[.bool false,.int .i64 0,.slice none 0 0] rfl rfl 48 _ H1.out rfl rfl (by simp[Value.oneCell']) ?_)|fail)
        exact bodyPost_ret (v:= .tuple #[.agg #[.bool false,.int .i64 0,.slice none 0 0],.int .i64 12]) (Zj rfl _ _ (w.heap.size+1) 48 _ (0,0) _ _ rfl rfl (setRow_heap _ _ _ _ _ _ H1.out) rfl rfl rfl) rfl ⟨.inr ⟨rfl,rfl⟩,below_setRow HB.out (by omega) _⟩
       ·have d5: ¬ (8:Int)<=(k:Int):=by omega
        have AU:k<8:=by omega
        by_cases c6:r+1<=N
        ·rw[if_neg (fun h=>h.elim c5 (fun h=>h c6))] at aa;rw[decide_eq_true c6] at CY;have RS:IntKind.i64.wrap (r:Int)=(r:Int):=by rw[IntKind.wrap_i64]; omega
         have ar:=Zg aa;clear c5 c6 aa;have e3:wr.cell? ⟨w.heap.size+3,2,none⟩=some (.slice A' k c'):=by rw[Zh H3.out]; rfl
         go_wp2_with fail
         refine(HT.out _).mono ?_;rintro e u ⟨rfl,rfl⟩;go_wp2_with fail
         refine(Bt.out _).mono ?_;rintro e u ⟨rfl,rfl⟩;go_wp2_with fail
         refine(CY.out _).mono ?_;rintro e u ⟨rfl,rfl⟩;have aK:=Zg (HO.out.alloc (.cells #[.int .i64 r] 3));have cT:=Zg (heap_alloc_new wr (.cells #[.int .i64 r] 3));have cK:=Zg (show ∀ j u,(WH (r:Int))[j]? =some u->(wr.alloc (.cells #[.int .i64 r] 3)).cell? ⟨wr.heap.size,j,none⟩=some u from fun j u hu=>by
          rw[Zh cT.out];rcases j with _|j
          ·simpa [WH] using hu
          ·simp[WH] at hu)
         have aV:=Zg (HB.out.alloc HB.out.size (.cells #[.int .i64 r] 3));have jI:=Zg (show(wr.alloc (.cells #[.int .i64 r] 3)).heap[w.heap.size+1]? =_ from(Below.heap_alloc _ _ _ (Zi H1.out)).trans H1.out);have jJ:=Zg (show(wr.alloc (.cells #[.int .i64 r] 3)).heap[w.heap.size+2]? =_ from(Below.heap_alloc _ _ _ (Zi H2.out)).trans H2.out);have fm:=Zg (show(wr.alloc (.cells #[.int .i64 r] 3)).heap[w.heap.size+3]? =_ from(Below.heap_alloc _ _ _ (Zi H3.out)).trans H3.out);have cj:=Zg (show w.heap.size+4<=(wr.alloc (.cells #[.int .i64 r] 3)).heap.size from Zi fm.out);have dH:=Zg (show l.length+1<=maxLen from by rw[HL.out]; unfold maxLen; omega);have dX:=Zg (show(l.length+1) * 8<=140737488355328 from by rw[HL.out]; omega);go_wp2_with (first
          | (at_builtin; refine Zq rfl (.tmp 97) (.tmp 102) 22 rfl (w.heap.size+4) 3 (.int .i64 0) 8 (by kernel_rfl) Zhk rfl (by omega) QV Zer _ l rfl aK.out wr.heap.size 1 rfl (r:Int) cK.out dH.out dX.out cj.out ?_; intro g5 aG w8 ag aI aD
             have cH:=Zg aI;have jf:=Zg ag;have fv:=Zg ((aI.block (w.heap.size+3) (Zi fm.out) (fun h=>by have:=(aK.out.lt _ h.symm).1; omega)).trans fm.out);have xJ:w8.cell? ⟨w.heap.size+3,2,none⟩=some (.slice A' k c'):=by rw[Zh fv.out]; rfl
             have xK:w8.frozen? ⟨w.heap.size+3,2,none⟩=false:=frozen_of_row _ _ _ _ _ fv.out;clear aD aI ag)
          | fail)
         have ay:=Zg (aK.out.grew aV.out (by omega) aV.out.size cH.out);have ot:=Zg ((cH.out.block (w.heap.size+1) (Zi jI.out) (fun h=>by have:=(aK.out.lt _ h.symm).1; omega)).trans jI.out);have ou:=Zg ((cH.out.block (w.heap.size+2) (Zi jJ.out) (fun h=>by have:=(aK.out.lt _ h.symm).1; omega)).trans jJ.out);go_roundw
         case rel=>exact⟨k+1,n,l++[(r:Int)],_,aG,by omega,by simp[HL.out],by omega,by first|rfl|go_num,by rw[<-HL.out]; simpa using Yi jf.out (by simp) _,ay.out.setCell (p:=⟨w.heap.size+3,2,none⟩) (Nat.le_add_right _ _) _,(heap_setCell_other w8 _ _ _ (by simp)).trans ot.out,(heap_setCell_other w8 _ _ _ (by simp)).trans ou.out,(by rw[<-HL.out]; simpa using heap_setCell_same w8 (w.heap.size+3) 2 _ _ _ fv.out),ar.out⟩
         case measure=>simp[intOf]; omega
        ·rw[if_pos (.inr c6)] at aa;rw[decide_eq_false c6] at CY;simp only at aa;subst aa;clear c5 c6;go_wp2_with fail
         refine(HT.out _).mono ?_;rintro e u ⟨rfl,rfl⟩;go_wp2_with fail
         refine(Bt.out _).mono ?_;rintro e u ⟨rfl,rfl⟩;go_wp2_with fail
         refine(CY.out _).mono ?_;rintro e u ⟨rfl,rfl⟩;have z0:wr.cell? ⟨w.heap.size+2,0,none⟩=some (.bool false):=by rw[Zh H2.out]; rfl
         have z1:wr.cell? ⟨w.heap.size+2,1,none⟩=some (.int .i64 0):=by rw[Zh H2.out]; rfl
         have z2:wr.cell? ⟨w.heap.size+2,2,none⟩=some (.slice none 0 0):=by rw[Zh H2.out]; rfl
         go_wp2_with (first|(refine wpList_store_row rfl 48 _ _ rfl (w.heap.size+1) #[.bool false,.int .i64 0,.slice none 0 0] rfl rfl 48 _ H1.out rfl rfl (by simp[Value.oneCell']) ?_)|fail)
         exact bodyPost_ret (v:= .tuple #[.agg #[.bool false,.int .i64 0,.slice none 0 0],.int .i64 12]) (Zj rfl _ _ (w.heap.size+1) 48 _ (0,0) _ _ rfl rfl (setRow_heap _ _ _ _ _ _ H1.out) rfl rfl rfl) rfl ⟨.inr ⟨rfl,rfl⟩,below_setRow HB.out (by omega) _⟩
     ·rw[if_pos c3] at aa;rw[decide_eq_false c3] at HT;simp only at aa;subst aa;clear c3;go_wp2_with fail
      refine(HT.out _).mono ?_;rintro e u ⟨rfl,rfl⟩;have z0:wr.cell? ⟨w.heap.size+2,0,none⟩=some (.bool false):=by rw[Zh H2.out]; rfl
      have z1:wr.cell? ⟨w.heap.size+2,1,none⟩=some (.int .i64 0):=by rw[Zh H2.out]; rfl
      have z2:wr.cell? ⟨w.heap.size+2,2,none⟩=some (.slice none 0 0):=by rw[Zh H2.out]; rfl
      go_wp2_with (first|(refine wpList_store_row rfl 48 _ _ rfl (w.heap.size+1) #[.bool false,.int .i64 0,.slice none 0 0] rfl rfl 48 _ H1.out rfl rfl (by simp[Value.oneCell']) ?_)|fail)
      exact bodyPost_ret (v:= .tuple #[.agg #[.bool false,.int .i64 0,.slice none 0 0],.int .i64 12]) (Zj rfl _ _ (w.heap.size+1) 48 _ (0,0) _ _ rfl rfl (setRow_heap _ _ _ _ _ _ H1.out) rfl rfl rfl) rfl ⟨.inr ⟨rfl,rfl⟩,below_setRow HB.out (by omega) _⟩
  ·rw[if_pos c2] at hR;rw[decide_eq_false c2] at fG;subst hR;clear c2;go_wp2_with fail
   refine(ax.out _).mono ?_;rintro e u ⟨rfl,rfl⟩;go_wp2_with fail
   refine(mn.out _).mono ?_;rintro e u ⟨rfl,rfl⟩;go_wp2_with fail
   refine(nh.out _).mono ?_;rintro e u ⟨rfl,rfl⟩;go_wp2_with fail
   refine(fG.out _).mono ?_;rintro e u ⟨rfl,rfl⟩;have z0:w1.cell? ⟨w.heap.size+2,0,none⟩=some (.bool false):=by rw[Zh H2.out]; rfl
   have z1:w1.cell? ⟨w.heap.size+2,1,none⟩=some (.int .i64 0):=by rw[Zh H2.out]; rfl
   have z2:w1.cell? ⟨w.heap.size+2,2,none⟩=some (.slice none 0 0):=by rw[Zh H2.out]; rfl
   go_wp2_with (first|(refine wpList_store_row rfl 48 _ _ rfl (w.heap.size+1) #[.bool false,.int .i64 0,.slice none 0 0] rfl rfl 48 _ H1.out rfl rfl (by simp[Value.oneCell']) ?_)|fail)
   exact bodyPost_ret (v:= .tuple #[.agg #[.bool false,.int .i64 0,.slice none 0 0],.int .i64 12]) (Zj rfl _ _ (w.heap.size+1) 48 _ (0,0) _ _ rfl rfl (setRow_heap _ _ _ _ _ _ H1.out) rfl rfl rfl) rfl ⟨.inr ⟨rfl,rfl⟩,below_setRow HB.out (by omega) _⟩
 ·rw[if_pos c1] at hR;rw[decide_eq_false c1] at ax;subst hR;clear c1;go_wp2_with fail
  refine(ax.out _).mono ?_;rintro e u ⟨rfl,rfl⟩;have z0:w1.cell? ⟨w.heap.size+2,0,none⟩=some (.bool false):=by rw[Zh H2.out]; rfl
  have z1:w1.cell? ⟨w.heap.size+2,1,none⟩=some (.int .i64 0):=by rw[Zh H2.out]; rfl
  have z2:w1.cell? ⟨w.heap.size+2,2,none⟩=some (.slice none 0 0):=by rw[Zh H2.out]; rfl
  go_wp2_with (first|(refine wpList_store_row rfl 48 _ _ rfl (w.heap.size+1) #[.bool false,.int .i64 0,.slice none 0 0] rfl rfl 48 _ H1.out rfl rfl (by simp[Value.oneCell']) ?_)|fail)
  exact bodyPost_ret (v:= .tuple #[.agg #[.bool false,.int .i64 0,.slice none 0 0],.int .i64 12]) (Zj rfl _ _ (w.heap.size+1) 48 _ (0,0) _ _ rfl rfl (setRow_heap _ _ _ _ _ _ H1.out) rfl rfl rfl) rfl ⟨.inr ⟨rfl,rfl⟩,below_setRow HB.out (by omega) _⟩
end Go.Proofs.YtplgdpjbkdagfaaGreat
