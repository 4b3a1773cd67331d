import Derived.Test.YtplgdpjbkdagfaaGreatZRPe
import Derived.Test.YtplgdpjbkdagfaaGreatZRHdB6
import Derived.Test.YtplgdpjbkdagfaaGreatZPeEqE
import Derived.Test.YtplgdpjbkdagfaaGreatZHdrD
import Derived.Test.YtplgdpjbkdagfaaGreatZFold
import Derived.Test.YtplgdpjbkdagfaaGreatZHdrA
import Derived.Deep.AppendSrc
import Derived.Deep.MidRow
import Derived.Test.YtplgdpjbkdagfaaGreatRefPut
import Derived.Test.YtplgdpjbkdagfaaGreatCopy
import Derived.Test.YtplgdpjbkdagfaaGreatZRNou
import Derived.Test.YtplgdpjbkdagfaaGreatZMd
import Derived.Test.YtplgdpjbkdagfaaGreatZPeE
import Derived.Test.YtplgdpjbkdagfaaGreatZOwnT
import Derived.Deep.Cut
import Derived.Test.YtplgdpjbkdagfaaGreatZImpD
import Derived.Test.YtplgdpjbkdagfaaGreatZExpD
import Derived.Test.YtplgdpjbkdagfaaGreatZMem
namespace Go.Proofs.YtplgdpjbkdagfaaGreat
set_option maxHeartbeats 8000000
open List renaming getElem?_toArray→Za
open Lib renaming hid→Zg
open Go.ChangeShapes Go.WideShapes Go.ChangeAt Go.RowKit
set_option linter.unusedVariables false
set_option linter.unusedSimpArgs false
set_option maxRecDepth 100000
theorem Zfi (L:ByteArray):txt (Xj L.size (PlainAid.bt L))=L:=by
 have h:=Ja (Xj L.size (PlainAid.bt L)) 0 L.size (by rw[Xg]; omega);rw[List.drop_zero,List.take_of_length_le (by rw[Xg]; exact Nat.le_refl _)] at h;rw[<-h,ZA (f':=PlainAid.bt L) (o':=0) (fun i hi=>by rw[Nat.zero_add]; exact Zkk (Xx L) hi),Ju]
theorem rrE (L:ByteArray) (w:World) (hL:L.size<=262144) (rva sz:Int) (r0:0<=rva) (r1:rva<4294967296) (s0:0<=sz) (s1:sz<4294967296) :
 RR3 w 38 #[.string L,.agg #[.int .i64 rva,.int .i64 sz]] (erO (Xc (Xj L.size (PlainAid.bt L)) rva sz) 11) (ExpS 0 (Xc (Xj L.size (PlainAid.bt L)) rva sz) 0):=fun W _=>by
 have h:=Zbv (Xj L.size (PlainAid.bt L)) rva sz W (WB (Xx L)) (by rw[Xg]; omega) (by omega) (by omega) (by omega) (by omega);rw[Zfi] at h;refine h.mono ?_;rintro e u ⟨hq,aC⟩;generalize Xc (Xj L.size (PlainAid.bt L)) rva sz=R at hq ⊢;cases R with
 | none =>
   have fl:e= .returned (.tuple #[.agg #[.int .i64 0,.slice none 0 0,.slice none 0 0],.int .i64 11]):=hq;subst fl;exact⟨_,_,_,rfl,⟨rfl,rfl,rfl⟩,aC,ZE.const fun _=>⟨rfl,rfl,rfl⟩⟩
 | some x =>
   obtain⟨A,c,A',c',rfl,h1,h2⟩:=hq;exact⟨_,_,_,rfl,⟨rfl,rfl,rfl⟩,aC,fun W3 ey d'=>⟨A,c,A',c',rfl,rfl,rfl,(YN h1 W3 ey d').lower (Nat.zero_le _),(YN h2 W3 ey d').lower (Nat.zero_le _)⟩⟩
theorem rrI (L:ByteArray) (w:World) (hL:L.size<=262144) (rva:Nat) (sz:Int) (r1:rva<4294967296) :
 RR1 w 39 #[.string L,.agg #[.int .i64 rva,.int .i64 sz],.bool false] (erO (ZU (Xj L.size (PlainAid.bt L)) rva 20 ZT) 10) (Znh 0 (ZU (Xj L.size (PlainAid.bt L)) rva 20 ZT) 0):=fun W _=>by
 have h:=Zbe (Xj L.size (PlainAid.bt L)) rva sz W (WB (Xx L)) (by rw[Xg]; omega) r1;rw[Zfi] at h;refine h.mono ?_;rintro e u ⟨hq,aC⟩;generalize ZU (Xj L.size (PlainAid.bt L)) rva 20 ZT=R at hq ⊢;cases R with
 | none =>
   have fl:e= .returned (.tuple #[.slice none 0 0,.int .i64 10]):=hq;subst fl;exact⟨_,rfl,rfl,aC,ZE.const fun _=>rfl⟩
 | some x =>
   obtain⟨A,c,l,rfl,h1,h2⟩:=hq;exact⟨_,rfl,rfl,aC,fun W3 ey d'=>⟨A,c,l,rfl,XL h1 (Nat.zero_le _) W3 ey d',h2⟩⟩
theorem rrD (L:ByteArray) (w:World) (hL:L.size<=262144) (rva:Nat) (sz:Int) (r1:rva<4294967296) :
 RR1 w 39 #[.string L,.agg #[.int .i64 rva,.int .i64 sz],.bool true] (erO (ZU (Xj L.size (PlainAid.bt L)) rva 32 Yl) 10) (Znh 0 (ZU (Xj L.size (PlainAid.bt L)) rva 32 Yl) 0):=fun W _=>by
 have h:=Zdc (Xj L.size (PlainAid.bt L)) rva sz W (WB (Xx L)) (by rw[Xg]; omega) r1;rw[Zfi] at h;refine h.mono ?_;rintro e u ⟨hq,aC⟩;generalize ZU (Xj L.size (PlainAid.bt L)) rva 32 Yl=R at hq ⊢;cases R with
 | none =>
   have fl:e= .returned (.tuple #[.slice none 0 0,.int .i64 10]):=hq;subst fl;exact⟨_,rfl,rfl,aC,ZE.const fun _=>rfl⟩
 | some x =>
   obtain⟨A,c,l,rfl,h1,h2⟩:=hq;exact⟨_,rfl,rfl,aC,fun W3 ey d'=>⟨A,c,l,rfl,XL h1 (Nat.zero_le _) W3 ey d',h2⟩⟩
def RelS5 (R:Option (List YQ)) (v:Value) (U:World):Prop:=Zc6 Wk 2 82 0 R 0 v U/\ ∀ l,R=some l->l.length<=512
theorem rrR (L:ByteArray) (w:World) (hL:L.size<=262144) (rva sz:Int) (r0:0<=rva) (r1:rva<4294967296) (s0:0<=sz) (s1:sz<4294967296) :
 RR1 w 40 #[.string L,.agg #[.int .i64 rva,.int .i64 sz]] (erO (YU L.size (PlainAid.bt L) rva sz) 9) (RelS5 (YU L.size (PlainAid.bt L) rva sz)):=fun W _=>by
 refine(Zi9 L rva sz W (by omega) (by omega) (by omega) (by omega) (by omega)).mono ?_;rintro e u ⟨hq,aC⟩;generalize YU L.size (PlainAid.bt L) rva sz=R at hq ⊢;cases R with
 | none =>
   have fl:e= .returned (.tuple #[.slice none 0 0,.int .i64 9]):=hq;subst fl;exact⟨_,rfl,rfl,aC,ZE.const fun _=>⟨rfl,fun l h=>by simp at h⟩⟩
 | some x =>
   obtain⟨A,c,rfl,h1,h2⟩:=hq;exact⟨_,rfl,rfl,aC,fun W3 ey d'=>⟨⟨A,c,rfl,(YN h1 W3 ey d').lower (Nat.zero_le _)⟩,fun l h=>by simp at h; subst h; exact h2⟩⟩
theorem rrB (L:ByteArray) (w:World) (hL:L.size<=262144) (rva:Nat) (sz:Int) (r1:rva<4294967296) :
 RR1 w 42 #[.string L,.agg #[.int .i64 rva,.int .i64 sz]] (erO (Xa (Xj L.size (PlainAid.bt L)) rva) 8) (Zc6 bC 2 80 0 (Xa (Xj L.size (PlainAid.bt L)) rva) 0):=fun W _=>by
 have h:=Zeo (Xj L.size (PlainAid.bt L)) rva sz W (WB (Xx L)) (by rw[Xg]; omega) r1;rw[Zfi] at h;refine h.mono ?_;rintro e u ⟨hq,aC⟩;generalize Xa (Xj L.size (PlainAid.bt L)) rva=R at hq ⊢;cases R with
 | none =>
   have fl:e= .returned (.tuple #[.slice none 0 0,.int .i64 8]):=hq;subst fl;exact⟨_,rfl,rfl,aC,ZE.const fun _=>rfl⟩
 | some x =>
   obtain⟨A,c,rfl,h1⟩:=hq;exact⟨_,rfl,rfl,aC,fun W3 ey d'=>⟨A,c,rfl,(YN h1 W3 ey d').lower (Nat.zero_le _)⟩⟩
theorem rrT (L:ByteArray) (w:World) (hL:L.size<=262144) (rva:Nat) (sz base:Int) (r1:rva<4294967296) (b0:0<=base) (b1:base<=18446744073709551615) :
 RR3 w 41 #[.string L,.agg #[.int .i64 rva,.int .i64 sz],.int .u64 base] (erO (rf L.size (PlainAid.bt L) rva base) 12) (TlsS 0 (rf L.size (PlainAid.bt L) rva base) 0):=fun W _=>by
 refine(Zmt L rva sz base W (by omega) r1 b0 b1).mono ?_;rintro e u ⟨hq,aC⟩;generalize rf L.size (PlainAid.bt L) rva base=R at hq ⊢;rcases hq with⟨t,x,l,L,c,rfl,rfl,h1⟩|⟨rfl,rfl⟩
 ·exact⟨_,_,_,rfl,⟨rfl,rfl,rfl⟩,aC,fun W3 ey d'=>⟨L,c,rfl,rfl,rfl,(YN h1 W3 ey d').lower (Nat.zero_le _)⟩⟩
 ·exact⟨_,_,_,rfl,⟨rfl,rfl,rfl⟩,aC,ZE.const fun _=>⟨rfl,rfl,rfl⟩⟩
theorem Zn7 {W:World} {g o:Nat} {S:ByteArray} (h:W.heap[g]? =some (.cells (peC peZ) 50 (0,0))) (hc:W.cell? ⟨g,o,none⟩=some (.string S)):False:=by
 rw[Zh h] at hc;have ho:o<50:=by
  rcases Nat.lt_or_ge o 50 with k|k
  ·exact k
  ·rw[Array.getElem?_eq_none (by rw[Zu]; exact k)] at hc; simp at hc
 rw[Yv peZ ho] at hc;simp only[peF,peZ] at hc;repeat' split at hc
 all_goals simp at hc
def Zm9 (n:Nat) (f:Nat->Int) (W:World) (cs:Array Value):Prop:= ∃ A c,YR cs (Zw f (headP n f)) (.slice A (ZM f (headP n f+264) (headK n f)).length c)/\SlT Zx.cells 6 W A (ZM f (headP n f+264) (headK n f))/\(ZM f (headP n f+264) (headK n f)).length<=16
theorem Zcc (N:Nat) (F:Nat->Int) (nb:Nat) (f:Nat->Int) (r k n:Nat) (h:n=0\/k+n<=nb):Zea N F nb f r k n=Zjr N F nb f r k n:=by
 funext q
 have hp:UU nb k n=n:=by
  unfold UU;rcases h with h|h
  ·subst h; rw[if_neg (by omega)]
  ·by_cases hn:1<=n
   ·rw[if_pos (by omega)]; omega
   ·rw[if_neg (by omega)]; omega
 unfold Zjr Zea ovF JO;rw[hp];by_cases hq:r<=q/\q<r+n/\q<N
 ·rw[if_pos hq,if_pos hq,if_pos (by omega)]
 ·rw[if_neg hq,if_neg hq]
theorem JE (N:Nat) (F:Nat->Int) (nb:Nat): ∀(l:List Zx) (f:Nat->Int),(∀ s∈l,s.raw.toNat=0\/s.spot.toNat+s.raw.toNat<=nb)->Zg6 N F nb l f=Qa N F nb l f
 | [],_,_=>rfl
 | s::l,f,h=>by
   rw[Zg6,Qa,Zcc _ _ _ _ _ _ _ (h s (List.mem_cons_self ..))];exact JE N F nb l _ (fun x hx=>h x (List.mem_cons_of_mem _ hx))
theorem Zja (N:Nat) (F:Nat->Int) (nb hd:Nat) (l:List Zx) (hh:hd<=nb) (h: ∀ s∈l,s.raw.toNat=0\/s.spot.toNat+s.raw.toNat<=nb):Znf N F nb hd l=Zjs N F nb hd l:=by
 unfold Znf Zjs;rw[Zcc _ _ _ _ _ _ _ (.inr (by omega))];exact JE N F nb l _ h
theorem Zcd {size len:Int}: ∀(l:List Zx) (next:Int),Yo size len next l-> ∀ s∈l,¬ (0<s.raw/\len<s.spot+s.raw)
 | [],_,_=>fun s hs=>by simp at hs
 | x::l,next,h=>fun s hs=>by
   rcases List.mem_cons.1 hs with rfl|hs
   ·exact h.1.2.2.2.2.2
   ·exact Zcd l _ h.2 s hs
theorem Zdy {n:Nat} {f:Nat->Int} (hE:ZI n f=0):Yo (Zw f (headP n f)).size n (ZS (Zw f (headP n f)).headers 4096) (ZM f (headP n f+264) (headK n f)):=by
 unfold ZI at hE;by_cases h0:(Zv n f).2≠0
 ·rw[if_pos h0] at hE; exact absurd hE h0
 rw[if_neg h0] at hE;by_cases h1:Qz f (Zv n f).1.toNat≠0
 ·rw[if_pos h1] at hE; exact absurd hE h1
 rw[if_neg h1] at hE;by_cases h2: ¬ XS f (Zv n f).1.toNat (Zw f (Zv n f).1.toNat).base (Zw f (Zv n f).1.toNat).size
 ·rw[if_pos h2] at hE; exact absurd hE (by decide)
 rw[if_neg h2] at hE;by_cases h3: ¬ Ys n (Zv n f).1.toNat (Zw f (Zv n f).1.toNat).headers (rdF f ((Zv n f).1.toNat+6) 2)
 ·rw[if_pos h3] at hE; exact absurd hE (by decide)
 rw[if_neg h3] at hE;by_cases h4: ¬ Yo (Zw f (Zv n f).1.toNat).size n (ZS (Zw f (Zv n f).1.toNat).headers 4096) (ZM f ((Zv n f).1.toNat+264) (rdF f ((Zv n f).1.toNat+6) 2).toNat)
 ·rw[if_pos h4] at hE; exact absurd hE (by decide)
 exact Classical.not_not.1 h4
theorem Zlu {n:Nat} {f:Nat->Int} (hf:Zm f) (hE:ZI n f=0) (N hd:Nat) (jj:(Zw f (headP n f)).headers=hd):Znf N f n hd (ZM f (headP n f+264) (headK n f))=Zjs N f n hd (ZM f (headP n f+264) (headK n f)):=by
 refine Zja N f n hd _ ?_ ?_
 ·have:=(Zaf hE).2.2.2.2.2;omega
 ·intro s hs;have h1:=Zcd _ _ (Zdy hE) s hs;have hb:JU s:=by
   simp only[ZM,List.mem_map] at hs;obtain⟨j,_,rfl⟩:=hs;exact Uk hf _
  have:=hb.w0;have:=hb.s0;omega
theorem Qx (n:Nat) (f:Nat->Int) (base addr:Int) (hn:n<=1000000): ∀(m:Nat) (l:List Int),l.length+m=9->(l.length=0\/WI addr base+8 * l.length<=n)->Jm n f base addr m l=WW n f base (WI addr base) m l
 | 0,_,_,_=>rfl
 | m+1,l,h,hi=>by
   have ht:l.length=0\/WI addr base+8 * l.length<=n->ry base addr l.length=WI addr base+8 * l.length:=fun hi=>by
    unfold ry WI at *;rcases hi with hi|hi
    ·rw[hi]; simp
    ·omega
   rw[Jm,WW,ht hi];by_cases h1:WI addr base+8 * l.length+8<=n
   ·rw[if_neg (show ¬ n<WI addr base+8 * l.length+8 by omega),if_neg (show ¬ ¬ WI addr base+(8 * l.length+8)<=n by omega)];by_cases h2:rdF f (WI addr base+8 * l.length) 8=0
    ·rw[if_pos h2,if_pos h2]
    ·rw[if_neg h2,if_neg h2];have ho:((WI (rdF f (WI addr base+8 * l.length) 8) base:Nat):Int)=(rdF f (WI addr base+8 * l.length) 8 - base) % 18446744073709551616:=by unfold WI; omega
     by_cases h3:8<=l.length\/ ¬ WI (rdF f (WI addr base+8 * l.length) 8) base+1<=n
     ·rw[if_pos h3,if_pos (by rw[<-ho]; omega)]
     ·rw[if_neg h3,if_neg (by rw[<-ho]; omega),ho];exact Qx n f base addr hn m _ (by rw[List.length_append]; simp; omega) (.inr (by rw[List.length_append]; simp; omega))
   ·rw[if_pos (show n<WI addr base+8 * l.length+8 by omega),if_pos (show ¬ WI addr base+(8 * l.length+8)<=n by omega)]
theorem Zfj (n:Nat) (f:Nat->Int) (rva:Nat) (base:Int) (hn:n<=1000000):qF n f rva base=rf n f rva base:=by
 unfold qF rf;have ho:((WI (rdF f (rva+16) 8) base:Nat):Int)=(rdF f (rva+16) 8 - base) % 18446744073709551616:=by unfold WI; omega
 by_cases h0:rva=0
 ·rw[if_pos h0,if_pos h0]
 rw[if_neg h0,if_neg h0];by_cases h1:rva+40<=n
 ·rw[if_neg (show ¬ n<rva+40 by omega),if_neg (show ¬ ¬ rva+40<=n by omega)];by_cases h2:WI (rdF f (rva+16) 8) base+4<=n
  ·rw[if_neg (show ¬ (n:Int)<(rdF f (rva+16) 8 - base) % 18446744073709551616+4 by rw[<-ho]; omega),if_neg (show ¬ ¬ WI (rdF f (rva+16) 8) base+4<=n by omega),ho];have hc:Qe n f base (rdF f (rva+24) 8)=(if rdF f (rva+24) 8=0 then some [] else WW n f base (WI (rdF f (rva+24) 8) base) 9 []):=by
    unfold Qe;split
    ·rfl
    ·exact Qx n f base _ hn 9 [] rfl (.inl rfl)
   rw[hc];generalize (if rdF f (rva+24) 8=0 then some [] else WW n f base (WI (rdF f (rva+24) 8) base) 9 [])=R;cases R <;> rfl
  ·rw[if_pos (show(n:Int)<(rdF f (rva+16) 8 - base) % 18446744073709551616+4 by rw[<-ho]; omega),if_pos (show ¬ WI (rdF f (rva+16) 8) base+4<=n by omega)]
 ·rw[if_pos (show n<rva+40 by omega),if_pos (show ¬ rva+40<=n by omega)]
def peN (n:Nat) (f:Nat->Int):Nat:=(Zw f (headP n f)).size.toNat
def peI (n:Nat) (f:Nat->Int):Nat->Int:=Zjs (peN n f) f n (Zw f (headP n f)).headers.toNat (ZM f (headP n f+264) (headK n f))
def Xb (n:Nat) (f:Nat->Int) (i:Nat):Nat × Nat:=(((Zw f (headP n f)).dirs i).1.toNat,((Zw f (headP n f)).dirs i).2.toNat)
def peX (n:Nat) (f:Nat->Int):Option Zib:=Xc (Xj (peN n f) (peI n f)) (Xb n f 0).1 (Xb n f 0).2
def peJ (n:Nat) (f:Nat->Int):Option (List Jf):=ZU (Xj (peN n f) (peI n f)) (Xb n f 1).1 20 ZT
def peS (n:Nat) (f:Nat->Int):Option (List YQ):=YU (peN n f) (peI n f) (Xb n f 5).1 (Xb n f 5).2
def peT (n:Nat) (f:Nat->Int):Option (Bool × Int × List Int):=qF (peN n f) (peI n f) (Xb n f 9).1 (Zw f (headP n f)).base
def peB (n:Nat) (f:Nat->Int):Option (List Zge):=Xa (Xj (peN n f) (peI n f)) (Xb n f 11).1
def peK (n:Nat) (f:Nat->Int):Option (List Jf):=ZU (Xj (peN n f) (peI n f)) (Xb n f 13).1 32 Yl
def Zdz (n:Nat) (f:Nat->Int):Int:=peE (peN n f) (peI n f) (Xb n f) (Zw f (headP n f)).base
def VV (n:Nat) (f:Nat->Int):PeD :=
 ⟨Zw f (headP n f),ZM f (headP n f+264) (headK n f),ZB (peI n f) 0 (peN n f),((peX n f).getD (0,[],[])).1,((peX n f).getD (0,[],[])).2.1,((peX n f).getD (0,[],[])).2.2,(peJ n f).getD [],(peK n f).getD [],(peB n f).getD [],(peS n f).getD [],((peT n f).getD (false,0,[])).1,((peT n f).getD (false,0,[])).2.1,((peT n f).getD (false,0,[])).2.2⟩
open Classical in
noncomputable def Ux (n:Nat) (f:Nat->Int):Int × PeD :=
 if ZI n f≠0 then(ZI n f,dZ) else if Zdz n f≠0 then(Zdz n f,dZ) else(0,VV n f)
theorem Vf {n:Nat} {f:Nat->Int} (h:ZI n f≠0):Ux n f=(ZI n f,dZ):=by unfold Ux; rw[if_pos h]
theorem JF {n:Nat} {f:Nat->Int} (h:ZI n f=0) (h2:Zdz n f≠0):Ux n f=(Zdz n f,dZ):=by unfold Ux; rw[if_neg (by simpa using h),if_pos h2]
theorem Uy {n:Nat} {f:Nat->Int} (h:ZI n f=0) (h2:Zdz n f=0):Ux n f=(0,VV n f):=by unfold Ux; rw[if_neg (by simpa using h),if_neg (by simpa using h2)]
theorem Zlv (N:Nat) (F:Nat->Int) (nb hd:Nat) (l:List Zx) (q:Nat) (hq:N<=q):Zjs N F nb hd l q=0:=by
 have h: ∀(l:List Zx) (m:Nat->Int),m q=0->Qa N F nb l m q=0:=by
  intro l;induction l with
  | nil=>exact fun m h=>h
  | cons s l ih =>
    intro m h;rw[Qa];refine ih _ ?_;unfold Zjr ovF;rw[if_neg (by omega)];exact h
 unfold Zjs;refine h l _ ?_;unfold Zjr ovF;rw[if_neg (by omega)]
theorem Zjb (N:Nat) (F:Nat->Int) (nb hd:Nat) (l:List Zx) (hF:Zm F):Zm (Zjs N F nb hd l):=by
 have ho: ∀(m:Nat->Int) (r k n:Nat),Zm m->Zm (Zjr N F nb m r k n):=fun m r k n hm i=>by
  unfold Zjr ovF;split
  ·exact hF _
  ·exact hm i
 have h: ∀(l:List Zx) (m:Nat->Int),Zm m->Zm (Qa N F nb l m):=by
  intro l;induction l with
  | nil=>exact fun m h=>h
  | cons s l ih=>exact fun m h=>ih _ (ho _ _ _ _ h)
 unfold Zjs;exact h l _ (ho _ _ _ _ (fun i=>⟨Int.le_refl _,by decide⟩))
theorem bt_peI (n:Nat) (f:Nat->Int) (hf:Zm f):PlainAid.bt (ZB (peI n f) 0 (peN n f))=peI n f:=by
 funext q
 rcases Nat.lt_or_ge q (peN n f) with h|h
 ·have h2:Zm (peI n f):=Zjb _ _ _ _ _ hf;rw[XO h2 h,Nat.zero_add]
 ·rw[show peI n f q=0 from Zlv _ _ _ _ _ _ h];unfold PlainAid.bt;rw[dif_neg (by rw[Zr]; omega)]
theorem Zaq {n:Nat} {f:Nat->Int} {p:Int}: ∀(k o:Nat) (l l':List YQ),Zf1 n f p k o l=some l'->l.length<=512->l'.length<=512
 | 0,_,l,l',h,hl=>by
   rw[Zf1] at h;simp only[Option.some.injEq] at h;rw[<-h]; exact hl
 | k+1,o,l,l',h,hl=>by
   rw[Zf1] at h;split at h
   ·exact Zaq k _ _ _ h hl
   ·split at h
    ·rename_i hs;exact Zaq k _ _ _ h (by rw[List.length_append,List.length_singleton]; have:=hs.2.2.1; omega)
    ·cases h
theorem JG {n:Nat} {f:Nat->Int} {e:Nat}: ∀(F o:Nat) (l l':List YQ),Xt n f e F o l=some l'->l.length<=512->l'.length<=512
 | 0,_,_,_,h,_=>by rw[Xt] at h; cases h
 | F+1,o,l,l',h,hl=>by
   rw[Xt] at h;split at h
   ·simp only[Option.some.injEq] at h;rw[<-h]; exact hl
   ·split at h
    ·cases h
    ·split at h
     ·cases h
     ·rename_i hr;exact JG F _ _ _ h (Zaq _ _ _ _ hr hl)
theorem Zgx {n:Nat} {f:Nat->Int} {r s:Int} {l:List YQ} (h:YU n f r s=some l):l.length<=512:=by
 unfold YU at h;split at h
 ·simp only[Option.some.injEq] at h;rw[<-h]; simp
 ·split at h
  ·cases h
  ·exact JG _ _ _ _ h (by simp)
structure HeadB (n:Nat) (f:Nat->Int):Prop where
 size:(Zw f (headP n f)).size=peN n f
 n1:peN n f<=262144
 n2:4096<=peN n f
 hd:(Zw f (headP n f)).headers=(Zw f (headP n f)).headers.toNat
 h2:(Zw f (headP n f)).headers.toNat<=4096
 b0:0<=(Zw f (headP n f)).base
 b1:(Zw f (headP n f)).base<=18446744073709551615
 k:1<=headK n f/\headK n f<=16
 dir: ∀ i,(Zw f (headP n f)).dirs i=(((Xb n f i).1:Int),((Xb n f i).2:Int))/\(Xb n f i).1<4294967296/\(Xb n f i).2<4294967296
theorem headB {n:Nat} {f:Nat->Int} (dF:Zm f) (hE:ZI n f=0):HeadB n f:=by
 obtain⟨e1,e2⟩:=Zaf hE;have hN:(Zw f (headP n f)).size=peN n f:=by unfold peN; have:=e1.2.2.2.2.2.2.1; omega
 have a:=e2.1;have b:=e2.2.1;have c:=e2.2.2.1;have d:=e2.2.2.2.1;refine⟨hN,by have:=e1.2.2.2.2.2.2.2; omega,by have:=e1.2.2.2.2.2.2.1; omega,by omega,by omega,by have:=e1.2.2.2.1; omega,by have:=e1.2.2.2.2.1; omega,by unfold headK; omega,fun i=> ?_⟩;have h1:=ZR f dF 4 (headP n f+136+8 * i);have h2:=ZR f dF 4 (headP n f+136+8 * i+4);rw[show(256:Int) ^ 4=4294967296 by rfl] at h1 h2;refine⟨Prod.ext ?_ ?_,?_,?_⟩
 ·exact(Int.toNat_of_nonneg h1.1).symm
 ·exact(Int.toNat_of_nonneg h2.1).symm
 ·show(rdF f (headP n f+136+8 * i) 4).toNat<_
  omega
 ·show(rdF f (headP n f+136+8 * i+4) 4).toNat<_
  omega
theorem Zce (n:Nat) (f:Nat->Int):(ZM f (headP n f+264) (headK n f)).length=headK n f:=by simp[ZM]
theorem Zjc {n:Nat} {f:Nat->Int} (hb:HeadB n f) {u w0:World} {y:PeV} {cs:Array Value} {gi C bE bI bR bT bB bD:Nat}
 (hz:Zdz n f=0)
 (hk: ∃ wb,Zm9 n f wb cs/\wb.heap[w0.heap.size]? =some (.cells (peC peZ) 50 (0,0))/\Xl (fun k=>k<wb.heap.size/\k≠w0.heap.size) wb u)
 (hh: ∀ j,j<39->cs[j]? =some (y.hd j)) (hi:y.img= .slice (some ⟨gi,0,none⟩) (peN n f) C) (ho:YA u w0.heap.size gi (peN n f) C (peI n f))
 (nE:ExpS bE (peX n f) 0 y.e0 y.e1 y.e2 u) (nI:Znh bI (peJ n f) 0 y.im u) (nR:Zc6 Wk 2 82 bR (peS n f) 0 y.re u) (nT:TlsS bT (peT n f) 0 y.t0 y.t1 y.t2 u) (nB:Zc6 bC 2 80 bB (peB n f) 0 y.bo u) (nD:Znh bD (peK n f) 0 y.de u):Zod u y (VV n f):=by
 have gx:=hb.n1;obtain⟨z1,z2,z3,z4,z5,z6⟩:=Zel hz;obtain⟨xE,Cq⟩:=Vn z1 (by omega);obtain⟨xI,Cr⟩:=Vn z2 (by omega);obtain⟨xR,Cs⟩:=Vn z3 (by omega);obtain⟨xT,Ct⟩:=Vn z4 (by omega);obtain⟨xB,Cu⟩:=Vn z5 (by omega);obtain⟨xD,Cv⟩:=Vn z6 (by omega);have qE:=QN Cq;have qI:=UD Cr;have qR:=Zgx Cs;have qT:=Zmq ((Zfj (peN n f) (peI n f) (Xb n f 9).1 (Zw f (headP n f)).base (by omega)).symm.trans Ct);have qB:=Zhd Cu;have qD:=UD Cv;have Cq:peX n f=some xE:=Cq;have Cr:peJ n f=some xI:=Cr;have Cs:peS n f=some xR:=Cs;have Ct:peT n f=some xT:=Ct;have Cu:peB n f=some xB:=Cu;have Cv:peK n f=some xD:=Cv;unfold VV;rw[Cq] at nE ⊢;rw[Cr] at nI ⊢;rw[Cs] at nR ⊢;rw[Ct] at nT ⊢;rw[Cu] at nB ⊢;rw[Cv] at nD ⊢;simp only[Option.getD_some];obtain⟨AE,kE,MI,MJ,E1,E2,E3,E4,E5⟩:=nE;obtain⟨AI,cI,Iz,I1,I2,I3⟩:=nI;obtain⟨AR,cR,R1,R2⟩:=nR;obtain⟨AT,kT,T1,T2,T3,T4⟩:=nT;obtain⟨AB,cB,B1,B2⟩:=nB;obtain⟨AD,cD,IA,D1,D2,D3⟩:=nD;obtain⟨wb,⟨AS,cS,k1,k2,k3⟩,cE,hkept⟩:=hk;have hlen:=Zce n f;have nZ:=hb.k;have so:=hb.dir;generalize ZM f (headP n f+264) (headK n f)=l at *;generalize Zw f (headP n f)=H at *;have db:Zc4 H:=fun i _=>by
  obtain⟨h1,h2,h3⟩:=so i;rw[h1];exact⟨by simp only; omega,by simp only; omega,by simp only; omega,by simp only; omega⟩
 have bm:cs=((List.range 39).map y.hd).toArray:=by
  apply Array.ext
  ·rw[k1.size]; simp
  ·intro j h1 h2;have hj:j<39:=by rw[k1.size] at h1; exact h1
   have:=hh j hj;rw[Array.getElem?_eq_getElem h1] at this;simp only[Option.some.injEq] at this;rw[this];simp
 rw[bm] at k1;have dE:SlT Zx.cells 6 u AS l:=by
  rcases k2 with q|⟨b,off,hA,af,hc⟩
  ·rw[q] at hlen; simp at hlen; omega
  ·have bK:b≠w0.heap.size:=fun q=>by
    have h0:=hc 0 (by omega) 0 _ rfl;rw[q] at h0;exact Zn7 cE h0
   refine SlT.keep (.inr ⟨b,off,hA,af,hc⟩) hkept.size fun b' dD=> ?_;have eM:b=b':=by rw[hA] at dD; simpa using dD
   subst eM;exact hkept.block b ⟨af,bK⟩
 refine⟨⟨_,k1,AS,cS,rfl,dE,k3⟩,db,⟨gi,_,C,peI n f,hi,ho.rowB,rfl⟩,E1,⟨AE,kE,E2,E4.sl QJ,by simp only; omega⟩,⟨MI,MJ,E3,E5.sl Zbp,by simp only; omega⟩,⟨AI,cI,Iz,I1,?_,I3⟩,⟨AD,cD,IA,D1,?_,D3⟩,⟨AB,cB,B1,B2.sl Zbo,by simp only; omega⟩,⟨AR,cR,R1,R2.sl XK,by simp only; omega⟩,T1,T2,⟨AT,kT,T3,T4.sl QV,by simp only; omega⟩⟩
 ·have iY:Iz.length=xI.length:=by rw[<-I3]; simp
  exact⟨I2.1.sl Vb,by omega,fun y hy=>⟨(I2.2 y hy).1,by have:=qI.2 y.v (by rw[<-I3]; exact List.mem_map_of_mem hy); omega⟩⟩
 ·have iY:IA.length=xD.length:=by rw[<-D3]; simp
  exact⟨D2.1.sl Vb,by omega,fun y hy=>⟨(D2.2 y hy).1,by have:=qD.2 y.v (by rw[<-D3]; exact List.mem_map_of_mem hy); omega⟩⟩
def Wb (n:Nat) (f:Nat->Int) (x:Ending) (u:World):Prop:= ∃ y,x= .returned (.tuple #[.agg (peC y),.int .i64 (Ux n f).1])/\UR u y (Ux n f).2
theorem Wb.zero {n:Nat} {f:Nat->Int} {u:World} {e:Int} (h:Ux n f=(e,dZ)):Wb n f (.returned (.tuple #[.agg (peC peZ),.int .i64 e])) u:=⟨peZ,by rw[h],by rw[h]; exact peZ_is u⟩
theorem Wb.all {n:Nat} {f:Nat->Int} {u:World} {y:PeV} (h:Ux n f=(0,VV n f)) (hy:Zod u y (VV n f)):Wb n f (.returned (.tuple #[.agg (peC y),.int .i64 0])) u:=⟨y,by rw[h],by rw[h]; exact hy.weak⟩
theorem Zcf (f:Nat->Int):ZI 0 f=2:=by
 have h:Zv 0 f=(0,2):=by unfold Zv; rw[if_pos (by decide)]
 unfold ZI;rw[h,if_pos (by decide)]
theorem Zgy (b off n cap:Nat) (f:Nat->Int) (w:World) (h:Wj w b off n cap f):Calls Tryz.prog 11 #[.slice (some ⟨b,off,none⟩) n cap] w fun x u=>Wb n f x u/\Below w.heap.size w u:=by
 by_cases hE:ZI n f=0
 ·have hb:=headB h.by255 hE;refine(Zem b off n cap f w h hE (peN n f) (Zw f (headP n f)).headers.toNat hb.size hb.hd (peI n f) (Zlu h.by255 hE _ _ hb.hd) (Xb n f) hb.dir _ rfl).mono ?_;rintro x u ⟨bZ,ht⟩;refine⟨?_,bZ⟩;cases ht with
  | bad h0=>exact Wb.zero (JF hE h0)
  | good h0 y cs gi W hk hh hi ho hW lE lI lR lT lB lD =>
    refine Wb.all (Uy hE h0) (Zjc hb h0 ?_ hh hi ho lE.now lI.now lR.now lT.now lB.now lD.now);obtain⟨wb,⟨g,hg⟩,h1,h2⟩:=hk;exact⟨wb,⟨_,_,hg.hv,hg.sl,hg.len⟩,h1,h2⟩
 ·refine(VC _ (ZI n f) hE w (fun W hW=> ?_)).mono ?_
  ·refine(QS b off n cap f W (h.below hW)).mono ?_;rintro x u ⟨⟨v,rfl,cs,rfl,hq⟩,hb⟩;rcases hq with⟨_,hv⟩|⟨h0,_⟩
   ·exact⟨⟨cs,rfl,hv⟩,hb⟩
   ·exact absurd h0 hE
  ·rintro x u ⟨rfl,hb⟩;exact⟨Wb.zero (Vf hE),hb⟩
theorem Zn8 (S:ByteArray) (w:World) (hs:S.size<=1000000) (hE:ZI S.size (PlainAid.bt S)≠0):Calls Tryz.prog 19 #[.string S] w fun x u=>x= .returned (.tuple #[.agg (peC peZ),.int .i64 (ZI S.size (PlainAid.bt S))])/\Below w.heap.size w u:=by
 obtain⟨E,EW⟩: ∃ E,ZI S.size (PlainAid.bt S)=E:=⟨_,rfl⟩;rw[EW] at hE ⊢;have e1:(E != 0)=true:=by simpa using hE
 have HH:=Zg (fun W=>VP S W hs);have Iv:=Zg (And.intro EW hE);have bO:Below w.heap.size w ((w.alloc (.cells (peC peZ) 50)).alloc (.cells (peC peZ) 50)):=((Below.refl w.heap.size w).alloc (Nat.le_refl _) _).alloc (by simp) _;have jL:=heap_alloc2_old w (.cells (peC peZ) 50) (.cells (peC peZ) 50);have ja:=heap_alloc2_new w (.cells (peC peZ) 50) (.cells (peC peZ) 50);clear EW hE;go_enter Tryz.func19,Tryz.ntmps19;go_upto_region 2 with(first|(refine wpList_store_row rfl 50 (.tmp 4) (.tmp 9) rfl (w.heap.size+1) (peC peZ) rfl rfl 50 (peC peZ) ja (by kernel_rfl) (Zu _) Wh ?_)|fail)
 rw[Xs];have az:=below_setRow bO (show w.heap.size<=w.heap.size+1 by omega) (peC peZ);have bw:=setRow_heap _ _ _ (peC peZ) _ _ ja;have dQ:=(setRow_other ((w.alloc (.cells (peC peZ) 50)).alloc (.cells (peC peZ) 50)) (w.heap.size+1) w.heap.size (peC peZ) (by omega)).trans jL;generalize ((w.alloc (.cells (peC peZ) 50)).alloc (.cells (peC peZ) 50)).setRow (w.heap.size+1) (peC peZ)=w1 at *;have av:=Zg az;have bq:=Zg dQ;have dL:=Zg bw;clear bO jL ja az dQ bw;go_wp2_with fail
 refine(HH.out w1).mono ?_;rintro e w2 ⟨⟨v,rfl,cs,hv,hq⟩,hb⟩;rw[Iv.out.1] at hv hq;have fj:YR cs Ul (.slice none 0 0):=by
  rcases hq with⟨_,h⟩|⟨h,_⟩
  ·exact h
  ·exact absurd h Iv.out.2
 subst hv;have iH:=fj.size;have aZ:=fj.one rfl;have aj:=Zg (av.out.trans (hb.mono av.out.size));have jA:=Zg ((hb.block _ (Zi bq.out)).trans bq.out);have eX:=Zg ((hb.block _ (Zi dL.out)).trans dL.out);have aT:(Tryz.prog.info? 41).map (·.size)=some cs.size:=by rw[iH]; kernel_rfl
 have fp:(Zl 0 0 0 0 0 0).size=cs.size:=by rw[iH]; kernel_rfl
 have gu:Below w2.heap.size w2 ((w2.alloc (.cells (Zl 0 0 0 0 0 0) 41)).setRow w2.heap.size cs):=below_setRow ((Below.refl _ w2).alloc (Nat.le_refl _) _) (Nat.le_refl _) _;have aN:=Zg (aj.out.trans (gu.mono aj.out.size));have nU:=Zg ((gu.block _ (Zi jA.out)).trans jA.out);have fW:=Zg ((gu.block _ (Zi eX.out)).trans eX.out);clear hb gu iH fj hq;go_upto_region 3 with(first|(refine wpList_store_row rfl 41 (.tmp 5) (.tmp 13) rfl w2.heap.size cs rfl rfl 41 (Zl 0 0 0 0 0 0) (heap_alloc_new _ _) aT fp aZ ?_; rw[Yh]; generalize dn:(w2.alloc (.cells (Zl 0 0 0 0 0 0) 41)).setRow w2.heap.size cs=w3 at *)|fail)
 clear aT fp aZ dn;have mT:=Zg (WV w3 (w.heap.size+1) peZ (fun j hj=>by rw[Zh fW.out]; exact Yv peZ hj));go_wp2_with (first
  | (refine wpList_load_mid rfl 50 (.tmp 4) rfl (w.heap.size+1) 0 rfl ((List.range 50).map (peF peZ)) _ mT.out Tryz.underlying50 rfl (by rw[List.length_map,List.length_range]; kernel_rfl) ?_)
  | (refine wpList_store_row rfl 50 (.tmp 2) (.tmp 17) rfl w.heap.size (peC peZ) rfl rfl 50 (peC peZ) nU.out (by kernel_rfl) (Zu _) Wh ?_)
  | fail)
 refine bodyPost_ret (v:= .tuple #[.agg (peC peZ),.int .i64 E]) (Zj rfl _ _ w.heap.size 50 _ (0,0) _ _ rfl rfl (setRow_heap _ _ _ _ _ _ nU.out) Tryz.underlying50 rfl (by rw[Zu]; kernel_rfl)) rfl ⟨rfl,below_setRow aN.out (Nat.le_refl _) _⟩
theorem Zn9 (S:ByteArray) (w:World) (hs:S.size<=1000000):Calls Tryz.prog 19 #[.string S] w fun x u=>Wb S.size (PlainAid.bt S) x u/\Below w.heap.size w u:=by
 obtain⟨f,hf⟩: ∃ f,PlainAid.bt S=f:=⟨_,rfl⟩;obtain⟨n,hn⟩: ∃ n,S.size=n:=⟨_,rfl⟩;have dF:Zm f:=by rw[<-hf]; exact Xx S
 have ME:ZB f 0 n=S:=by rw[<-hf,<-hn]; exact Ju S
 rw[hf,hn];by_cases hE:ZI n f=0
 ·have hb:=headB dF hE;have gx:=hb.n1;obtain⟨L,hL⟩: ∃ L,ZB (peI n f) 0 (peN n f)=L:=⟨_,rfl⟩;have Iw:L.size=peN n f:=by rw[<-hL,Zr]
  have Ix:PlainAid.bt L=peI n f:=by rw[<-hL]; exact bt_peI n f dF
  have hD:=hb.dir;have hlen:=Zce n f;have r1:=rrE L w (by omega) (Xb n f 0).1 (Xb n f 0).2 (by omega) (by have:=(hD 0).2.1; omega) (by omega) (by have:=(hD 0).2.2; omega);have r2:=rrI L w (by omega) (Xb n f 1).1 (Xb n f 1).2 (hD 1).2.1;have r3:=rrR L w (by omega) (Xb n f 5).1 (Xb n f 5).2 (by omega) (by have:=(hD 5).2.1; omega) (by omega) (by have:=(hD 5).2.2; omega);have r4:=rrT L w (by omega) (Xb n f 9).1 (Xb n f 9).2 (Zw f (headP n f)).base (hD 9).2.1 hb.b0 hb.b1;have r5:=rrB L w (by omega) (Xb n f 11).1 (Xb n f 11).2 (hD 11).2.1;have r6:=rrD L w (by omega) (Xb n f 13).1 (Xb n f 13).2 (hD 13).2.1;rw[Iw,Ix] at r1 r2 r3 r4 r5 r6;rw[<-Zfj (peN n f) (peI n f) (Xb n f 9).1 (Zw f (headP n f)).base (by omega)] at r4;have jr: ∀ s∈ZM f (headP n f+264) (headK n f),JU s:=fun s hs=>by
   simp only[ZM,List.mem_map] at hs;obtain⟨j,_,rfl⟩:=hs;exact Uk dF _
  refine(Zmo S L (peN n f) (peI n f) (Zm9 n f) (fun i=>((Xb n f i).1:Int)) (fun i=>((Xb n f i).2:Int)) (Zw f (headP n f)).base w Iw (by omega) Ix ?_ ?_ ?_ ?_ _ _ _ _ _ _ _ _ _ _ _ _ r1 r2 r3 r4 r5 r6).mono ?_
  ·intro W _;refine(VP S W hs).mono ?_;rintro e u ⟨⟨v,rfl,cs,hv,hq⟩,hb⟩;rw[hf,hn] at hv hq;rw[hE] at hv;subst hv;rcases hq with⟨hx,_⟩|⟨_,sv,k1,A,c,rfl,k2,k3⟩
   ·exact absurd hE hx
   ·exact⟨⟨cs,rfl,A,c,k1,k2,k3⟩,hb⟩
  ·rintro W cs ⟨A,c,k1,k2,k3⟩;refine⟨k1.size,k1.one rfl,fun i hi=> ?_,k1.c0⟩;have h0:=k1.dir0 i hi;have h1:=k1.dir1 i hi;rw[(hD i).1] at h0 h1;exact⟨h0,h1⟩
  ·rintro W U cs ⟨A,c,k1,k2,k3⟩ hb;exact⟨A,c,k1,k2.below hb,k3⟩
  ·rintro W cs _ ⟨A,c,k1,k2,k3⟩;have h:=Zl5 cs (Zw f (headP n f)) A c _ n f (peN n f) (Zw f (headP n f)).headers.toNat W k1 k2 jr k3 hb.size (by omega) hb.hd (by have:=hb.h2; omega) (by omega);rw[show ZB (Zjs (peN n f) f n (Zw f (headP n f)).headers.toNat (ZM f (headP n f+264) (headK n f))) 0 (peN n f)=L from hL,ME] at h;exact h
  rintro x u ⟨bZ,ht⟩;refine⟨?_,bZ⟩;cases ht with
  | bad h0=>exact Wb.zero (JF hE h0)
  | good h0 y cs gi C W hk hh hi ho hW lE lI lR lT lB lD =>
    exact Wb.all (Uy hE h0) (Zjc hb h0 hk hh hi ho lE.now lI.now lR.now.1 lT.now lB.now lD.now)
 ·refine(Zn8 S w hs (by rw[hf,hn]; exact hE)).mono ?_;rw[hf,hn];rintro x u ⟨rfl,hb⟩;exact⟨Wb.zero (Vf hE),hb⟩
structure YG (w:World) (base g cap:Nat) (bs:List Nat):Prop where
 le:base<=g
 lt:g<w.heap.size
 row:Row w g 0 bs.length (lF bs)
 lb:Lb bs
 len:bs.length<=cap
 most:cap<=9223372036854775807
 wr: ∀ j,j<cap->(w.cell? ⟨g,j,none⟩).isSome=true/\w.frozen? ⟨g,j,none⟩=false
theorem YG.of_block {w w':World} {base g cap:Nat} {bs:List Nat} (h:YG w base g cap bs) (hs:w.heap.size<=w'.heap.size) (hb:w'.heap[g]? =w.heap[g]?):YG w' base g cap bs :=
 ⟨h.le,Nat.lt_of_lt_of_le h.lt hs,fun i hi=>(World.cell?_of_block (a:=⟨g,_,none⟩) hb).trans (h.row i hi),h.lb,h.len,h.most,fun j hj=>by
   rw[World.cell?_of_block (a:=⟨g,j,none⟩) hb,World.frozen?_of_block (a:=⟨g,j,none⟩) hb]; exact h.wr j hj⟩
theorem YG.below {w w':World} {base g cap:Nat} {bs:List Nat} (h:YG w base g cap bs) (hb:Below w.heap.size w w'):YG w' base g cap bs:=h.of_block hb.size (hb.block g h.lt)
theorem YG.weaken {w:World} {base base' g cap:Nat} {bs:List Nat} (h:YG w base g cap bs) (hb:base'<=base):YG w base' g cap bs:=⟨Nat.le_trans hb h.le,h.lt,h.row,h.lb,h.len,h.most,h.wr⟩
theorem YG.alloc {w:World} {base g cap:Nat} {bs:List Nat} (h:YG w base g cap bs) (o:Obj):YG (w.alloc o) base g cap bs:=h.below ((Below.refl _ _).alloc (Nat.le_refl _) o)
theorem YG.slB {w:World} {base g cap:Nat} {bs:List Nat} (h:YG w base g cap bs):SlB w (some ⟨g,0,none⟩) bs.length (lF bs):= .inr ⟨g,0,rfl,h.lt,h.row⟩
theorem YG.noughts {w:World} {base g n:Nat} (h:Own w g n (fun _=> .int .u8 0)) (hb:base<=g) (hm:n<=9223372036854775807):YG w base g n (List.replicate n 0):=by
 refine⟨hb,h.1,fun i hi=> ?_,fun v hv=>by rw[List.eq_of_mem_replicate hv]; omega,by simp,hm,fun j hj=>⟨by rw[h.cell hj]; rfl,h.frozen hj⟩⟩;have ef:i<n:=by simpa using hi
 rw[Nat.zero_add,h.cell ef];unfold lF;simp[List.getD,ef]
theorem YG.conv (w:World) (bs:List Nat) (cap lo hi:Nat) (hb:Lb bs) (h:bs.length<=cap) (hm:cap<=9223372036854775807) (h1:cap<=lo) :
 YG (w.alloc (.cells (bytesRow (txt bs) cap) 5 (lo,hi))) w.heap.size w.heap.size cap bs:=by
 have hz:(bytesRow (txt bs) cap).size=cap:=by
  have:(txt bs).data.size=(txt bs).size:=rfl;have:=Zk bs;simp[bytesRow];omega
 refine⟨Nat.le_refl _,by simp,fun i ef=> ?_,hb,h,hm,fun j hj=>⟨?_,?_⟩⟩
 ·have qL:i<(txt bs).data.size:=by have:=Zk bs; exact(show i<(txt bs).size by omega)
  rw[Nat.zero_add,World.cell?_alloc_mark w (bytesRow (txt bs) cap) 5 (lo,hi) i,bytesRow_at (txt bs) cap i qL,<-WJ hb ef];unfold PlainAid.bt;rw[dif_pos (show i<(txt bs).size from qL)];rfl
 ·rw[World.cell?_alloc_mark w (bytesRow (txt bs) cap) 5 (lo,hi) j,Array.getElem?_eq_getElem (by omega)];rfl
 ·rw[World.frozen?_alloc_mark w (bytesRow (txt bs) cap) 5 lo hi j];simp only[Bool.and_eq_false_iff,decide_eq_false_iff_not];left;omega
theorem UK (bs cs:List Nat) (i:Nat):lF (bs++cs) i=VQ bs.length (lF bs) (lF cs) i:=by
 unfold lF VQ;by_cases h:i<bs.length
 ·rw[if_pos h]; simp[List.getD,List.getElem?_append_left h]
 ·rw[if_neg h]; simp[List.getD,List.getElem?_append_right (Nat.le_of_not_lt h)]
theorem Wz {w:World} (t:List Nat) (h:Lb t):Src Tryz.prog 1 9 (.string (txt t)) t.length (Zs t.length (lF t)) w:=by
 have h':=Zih (w:=w) (txt t);rw[Zk,WQ (f':=lF t) (fun i hi=>WJ h hi)] at h';exact h'
theorem XJ (g:Nat): ∀(vs:List Value) (o:Nat) (w:World),(w.setCells g o vs).heap.size=w.heap.size
 | [],_,_=>rfl
 | v::r,o,w=>by rw[World.setCells,XJ g r]; simp
theorem YJ {w:World} {ops:Array Oper} {rest:List Oper} {o:Oper} {a:Act} {Q:Exit->Act->World->Prop} (eu:o.guard=none) (s x:Operand) (tx:TypeId)
 (ho:o.op= .call { callee:= .builtin .append,args:= #[s,x],argTypes:= #[25,tx] })
 {base g n cap m:Nat} {bs cs:List Nat} (X:Value) (ae:YG w base g cap bs) (oW:n=bs.length) (gL:m=cs.length) (cY:Src Tryz.prog 1 tx X m (Zs m (lF cs)) w) (bm:Lb cs) (oV:n+m<=1000000) (aH:base<=w.heap.size)
 (hv:a.eval s= .slice (some ⟨g,0,none⟩) n cap) (hx:a.eval x=X)
 (hK: ∀ g' aA w',YG w' base g' aA (bs++cs)->Below base w w'->wpList Tryz.prog ops Q rest (a.put o.dst (.slice (some ⟨g',0,none⟩) (n+m) aA)) w'):wpList Tryz.prog ops Q (o::rest) a w:=by
 obtain⟨i0,hi,dQ,bw,ed⟩:=info_parts Ws;subst oW gL;have hs:Src Tryz.prog i0.size tx X cs.length (Zs cs.length (lF cs)) w:=by rw[bw]; exact cY
 have bG: ∃ g' aA w',(Builtin.append_ #[25,tx] o.type #[.slice (some ⟨g,0,none⟩) bs.length cap,X]).run Tryz.prog w= .ok (.slice (some ⟨g',0,none⟩) (bs.length+cs.length) aA) w'/\YG w' base g' aA (bs++cs)/\Below base w w':=by
  by_cases cQ:bs.length+cs.length<=cap
  ·have aU: ∀ j,j<(Zs cs.length (lF cs)).length->(w.cell? ⟨g,bs.length+j,none⟩).isSome=true:=fun j hj=>(ae.wr (bs.length+j) (by rw[Zn] at hj; omega)).1;have hr:=run_append_room_src (P:=Tryz.prog) w 25 tx o.type 5 i0 Tryz.underlying25 hi g 0 bs.length cap X cs.length _ hs cQ
    (fun j hj=>by rw[bw,Nat.mul_one,Nat.zero_add]; exact aU j hj) (fun j hj=>by rw[bw,Nat.mul_one,Nat.zero_add]; exact(ae.wr (bs.length+j) (by rw[Zn] at hj; omega)).2)
   rw[bw,Nat.mul_one,Nat.zero_add] at hr;refine⟨_,_,_,hr,⟨ae.le,by rw[XJ]; exact ae.lt,fun i hi=> ?_,ae.lb.append bm,by rw[List.length_append]; exact cQ,ae.most,fun j hj=>⟨World.isSome_setCells _ _ _ _ _ (ae.wr j hj).1,by rw[World.frozen?_setCells]; exact(ae.wr j hj).2⟩⟩,Ya ae.le _ _ _ (Below.refl base w)⟩;rw[UK];unfold VQ;rw[List.length_append] at hi;rw[Nat.zero_add];by_cases e:i<bs.length
   ·rw[if_pos e,World.cell?_setCells_out _ _ _ _ _ (fun _ _=> .inl e)];have:=ae.row i e;rwa [Nat.zero_add] at this
   ·rw[if_neg e];have:=World.cell?_setCells_in g (Zs cs.length (lF cs)) bs.length w aU (i - bs.length) (by rw[Zn]; omega);rw[show bs.length+(i - bs.length)=i by omega] at this;rw[this];simp[Zs]
  ·have hold:(Builtin.firstCells i0.size bs.length (.slice (some ⟨g,0,none⟩) bs.length cap)).run Tryz.prog w.drew= .ok (Zs bs.length (lF bs)).toArray w.drew:=by
    rw[bw];refine run_firstCells_some w.drew 1 bs.length ⟨g,0,none⟩ bs.length cap (Zs bs.length (lF bs)) (by rw[Zn,Nat.mul_one]) fun j u hu=> ?_;have hj:j<bs.length:=by
     rcases Nat.lt_or_ge j bs.length with hj|hj
     ·exact hj
     ·rw[List.getElem?_eq_none (by rw[Zn]; omega)] at hu; cases hu
    rw[ZN bs.length (lF bs) hj] at hu;obtain rfl:=Option.some.inj hu;have cJ:(⟨g,0,none⟩:Addr).add j=⟨g,0+j,none⟩:=by unfold Addr.add; split <;> simp_all
    rw[cJ];exact ae.row j hj
   have hr:=run_append_grow_src (P:=Tryz.prog) w 25 tx o.type 5 i0 (.int .u8 0) Tryz.underlying25 hi dQ (some ⟨g,0,none⟩) bs.length cap (Zs bs.length (lF bs)) hold X cs.length _ hs (by omega) (by omega) (growslice_fits (by omega) (by rw[ed]; omega));have dK:=grownCap_ge w (bs.length+cs.length) cap 5;have gL:=grownCap_le_maxLen w (bs.length+cs.length) cap 5 (by simp only[maxLen]; omega);simp only[maxLen] at gL;have hz:(Value.int .u8 0).cells= #[.int .u8 0]:=rfl;have hh:=heap_alloc_new w.drew (.cells ((Zs bs.length (lF bs)++Zs cs.length (lF cs)).toArray++Builtin.zeroCells (Value.int .u8 0).cells (grownCap w (bs.length+cs.length) cap 5 - (bs.length+cs.length))) 5);have aT:((Zs bs.length (lF bs)++Zs cs.length (lF cs)).toArray++Builtin.zeroCells (Value.int .u8 0).cells (grownCap w (bs.length+cs.length) cap 5 - (bs.length+cs.length))).size=grownCap w (bs.length+cs.length) cap 5:=by
    rw[Array.size_append,size_zeroCells,hz];simp[Zn];omega
   refine⟨_,_,_,hr,⟨aH,by simp,fun i hi=> ?_,ae.lb.append bm,by rw[List.length_append]; exact dK,by omega,fun j hj=>⟨?_,frozen_of_row _ _ _ _ _ hh⟩⟩,((Below.refl base w).drew).alloc (by simpa using aH) _⟩
   ·rw[List.length_append] at hi;rw[Nat.zero_add,UK];have:=cell_of_row _ _ i _ _ _ hh;refine Eq.trans this ?_;rw[Wo,Array.getElem?_append_left (by simpa [Zn] using hi),Za,ZN _ _ hi]
   ·have:=cell_of_row _ _ j _ _ _ hh;refine Eq.trans (congrArg Option.isSome this) ?_;rw[Array.getElem?_eq_getElem (by omega)];rfl
 refine wpList_plain eu fun K kS=> ?_;obtain⟨g',aA,w',bG,r1,r2⟩:=bG;unfold Oper.wp execOp;simp only[ho,resolve,invoke,builtin,Sem.run_bind,Sem.run_pure,Result.andThen_ok,List.map_toArray,List.map_cons,List.map_nil,hv,hx,bG];exact kS _ _ (hK g' aA w' r1 r2)
def bytN (v n:Nat):List Nat:=(List.range n).map fun i=>v / 2 ^ (8 * i) % 256
theorem Zfk (v n:Nat):(bytN v n).length=n:=by simp[bytN]
theorem Zlw (v n j:Nat) (h:j<n):lF (bytN v n) j=Yj (v:Int) j:=by
 have e:(bytN v n)[j]? =some (v / 2 ^ (8 * j) % 256):=by unfold bytN; rw[List.getElem?_map,List.getElem?_range h]; rfl
 unfold lF Yj;rw[List.getD,e,Option.getD_some,Int.natCast_emod,Int.natCast_ediv,Int.natCast_pow];rfl
def ZW (b:List Nat) (o n v:Nat):List Nat:=b.take o++(bytN v n++b.drop (o+n))
theorem Zp {b:List Nat} {o n:Nat} (h:o+n<=b.length) (v:Nat):(ZW b o n v).length=b.length:=by
 simp only[ZW,List.length_append,List.length_take,List.length_drop,Zfk]; omega
theorem JH {b:List Nat} (hb:Lb b) (o n v:Nat):Lb (ZW b o n v):=by
 refine(hb.take o).append (Lb.append (fun x hx=> ?_) (hb.drop _));obtain⟨i,_,rfl⟩:=List.mem_map.mp hx;omega
theorem Zlx {b:List Nat} {o n:Nat} (h:o+n<=b.length) (v i:Nat) (hi:i<b.length):lF (ZW b o n v) i=Xk (lF b) o (v:Int) n i:=by
 have hl:(b.take o).length=o:=by rw[List.length_take]; omega
 unfold ZW Xk;rw[UK,hl];unfold VQ;by_cases h1:i<o
 ·rw[if_pos h1,if_neg (by omega),Zhv _ _ _ h1]
 ·rw[if_neg h1,UK,Zfk];unfold VQ;by_cases h2:i<o+n
  ·rw[if_pos (by omega),if_pos (by omega)];exact Zlw v n (i - o) (by omega)
  ·rw[if_neg (by omega),if_neg (by omega),Zhu];congr 1
   omega
theorem VW (bs:List Nat) (o n v:Nat) (w:World) (hb:Lb bs) (hl:bs.length<=1000000) (h1:1<=n) (h8:n<=8) (h:o+n<=bs.length) (hv:v<=18446744073709551615) :
 Calls Tryz.prog 78 #[.string (txt bs),.int .i64 o,.int .i64 n,.int .u64 v] w fun e w'=>e= .returned (.tuple #[.string (txt (ZW bs o n v)),.bool true])/\Below w.heap.size w w':=by
 refine(Jc (txt bs) o n v w (by rw[Zk]; exact hl) h1 h8 (by rw[Zk]; exact h) (by omega) (by omega)).mono ?_;rintro e w' ⟨rfl,hw⟩;refine⟨?_,hw⟩;have:ZB (Xk (PlainAid.bt (txt bs)) o v n) 0 (txt bs).size=txt (ZW bs o n v):=by
  unfold txt at *;rw[Zr,Zp h];refine ZA fun i hi=> ?_;rw[Nat.zero_add,Zlx h v i hi];unfold Xk;split
  ·rfl
  ·exact WJ hb hi
 rw[this]
theorem JI (w:World) (bs:List Nat) (hb:Lb bs) (hl:bs.length<=1000000): ∃ C w',(convert 9 25 (.string (txt bs))).run Tryz.prog w= .ok (.slice (some ⟨w.heap.size,0,none⟩) bs.length C) w' /\
 YG w' w.heap.size w.heap.size C bs/\Below w.heap.size w w':=by
 have dI:=run_bytes_of_string (P:=Tryz.prog) w 9 25 5 (txt bs) Tryz.underlying9 Tryz.underlying25 Tryz.underlying5;obtain⟨C,hC⟩: ∃ C,grownCap w bs.length 0 5=C:=⟨_,rfl⟩;have dK:=grownCap_ge w bs.length 0 5;have gL:=grownCap_le_maxLen w bs.length 0 5 (by simp only[maxLen]; omega);simp only[maxLen] at gL;rw[Zk,hC] at dI;rw[hC] at dK gL;have xA:(bytesRow (txt bs) C).size=C:=by
  have h1:(txt bs).data.size=(txt bs).size:=rfl;have h2:=Zk bs;simp[bytesRow]; omega
 rw[xA] at dI;refine⟨C,_,dI,YG.conv w.drew bs C C (C+1) hb dK (by omega) (Nat.le_refl _),?_⟩;exact((Below.refl w.heap.size w).drew.alloc (Nat.le_refl _) _)
theorem ZZ {v:Nat} (h:v<=18446744073709551615):IntKind.u64.wrap (v:Int)=(v:Int):=by rw[IntKind.wrap_u64]; omega
theorem Xe (A:Option Addr) (cap:Nat) (bs:List Nat) (o n:Nat) (v:Int) (u:Nat) (w:World) (hb:Lb bs) (hl:bs.length<=1000000) (hs:SlB w A bs.length (lF bs)) (h1:1<=n) (h8:n<=8) (h:o+n<=bs.length) (hu:IntKind.u64.wrap v=(u:Int)) (EY:u<=18446744073709551615) :
 Calls Tryz.prog 76 #[.slice A bs.length cap,.int .i64 o,.int .i64 n,.int .i64 v] w fun e w'=> ∃ g c,e= .returned (.slice (some ⟨g,0,none⟩) bs.length c)/\YG w' w.heap.size g c (ZW bs o n u)/\Below w.heap.size w w':=by
 have hlen:=Zp (b:=bs) (o:=o) (n:=n) h u;have HP:=Zg (fun W=>VW bs o n u W hb hl h1 h8 h EY);have HC:=Zg (fun W=>JI W (ZW bs o n u) (JH hb o n u) (by omega));have aQ:(convert 25 9 (.slice A bs.length cap)).run Tryz.prog w= .ok (.string (txt bs)) w:=by
  rcases hs with h0|⟨b,off,rfl,_,hr⟩
  ·omega
  ·exact YL (cap:=cap) hr
 rw[hlen] at HC;obtain⟨r,hr⟩: ∃ r,ZW bs o n u=r:=⟨_,rfl⟩;rw[hr] at HP HC ⊢;clear hlen hs hr hb;go_enter Tryz.func76,Tryz.ntmps76;go_wp2_with fail
 refine(HP.out _).mono ?_;rintro e w1 ⟨rfl,ao⟩;obtain⟨C,w2,hc,ho,aR⟩:=HC.out w1;have HB:=Zg (ao.trans (aR.mono ao.size));have HO:=Zg (ho.weaken (base':=w.heap.size) ao.size);clear ao aR ho;go_wp2_with fail
 go_ret;exact⟨_,_,rfl,HO.out,HB.out⟩
theorem Zoa {w:World} {L:Option Addr} {l:List Int} (h:SlT WH 1 w L l) {i:Nat} (hi:i<l.length): ∃ b off,L=some ⟨b,off,none⟩/\b<w.heap.size/\w.cell? ⟨b,off+i,none⟩=some (.int .i64 l[i]):=by
 rcases h with h|⟨b,off,rfl,af,hc⟩
 ·rw[h] at hi; simp at hi
 ·exact⟨b,off,rfl,af,by have:=hc i hi 0 _ (by simp[WH]; rfl); simpa using this⟩
theorem Wc (x:Int): ∃ y:Int,IntKind.u64.wrap x=y/\0<=y/\y<=18446744073709551615:=⟨x % 18446744073709551616,IntKind.wrap_u64 x,by omega,by omega⟩
theorem at11w (st:Nat) (aQ:st<=400000) (base x:Int) (L:Option Addr) (cs:List Int) (cap:Nat) (w:World) (hL:SlT WH 1 w L cs) (hm:cs.length<=9223372036854775807) :
 Calls Tryz.prog 31 #[.int .i64 st,.int .u64 base,.int .i64 x,.slice L cs.length cap] w fun e u=> ∃ g c n f,e= .returned (.slice (some ⟨g,0,none⟩) n c)/\st<=n/\n<=st+200/\YA u w.heap.size g n c f/\Below w.heap.size w u:=by
 have vm:=Zg hL;have bF:=Zg (And.intro aQ hm);obtain⟨Z,hZ⟩: ∃ Z,st+48=Z:=⟨_,rfl⟩;obtain⟨o1,cG⟩: ∃ o,st+16=o:=⟨_,rfl⟩;obtain⟨o2,dJ⟩: ∃ o,st+24=o:=⟨_,rfl⟩;have e1:(st:Int)+48=(Z:Int):=by omega
 have e2:(st:Int)+16=(o1:Int):=by omega
 have e3:(st:Int)+24=(o2:Int):=by omega
 have w1:IntKind.i64.wrap (Z:Int)=(Z:Int):=by rw[IntKind.wrap_i64]; omega
 have w2:IntKind.i64.wrap (o1:Int)=(o1:Int):=by rw[IntKind.wrap_i64]; omega
 have w3:IntKind.i64.wrap (o2:Int)=(o2:Int):=by rw[IntKind.wrap_i64]; omega
 have w4:IntKind.u64.wrap (st:Int)=(st:Int):=by rw[IntKind.wrap_u64]; omega
 obtain⟨x1,xv,_,_⟩:=Wc x;obtain⟨v1,ur,a1,b1⟩:=Wc (base+x1);obtain⟨x2,pv,_,_⟩:=Wc (base+st);obtain⟨v2,oJ,a2,b2⟩:=Wc (x2+48);have HQ:=Zg (And.intro hZ (And.intro cG dJ));have HV:=Zg (And.intro (And.intro a1 b1) (And.intro a2 b2));clear hL aQ hm hZ cG dJ a1 b1 a2 b2;go_enter Tryz.func31,Tryz.ntmps31;go_wp2_with (at_make; refine Yx rfl (.tmp 12) (.tmp 12) rfl w.heap.size .i64 .i64 Z rfl rfl (by have:=HQ.out; have:=bF.out; omega) (Nat.le_refl _) ?_; intro w5 ho hb hs; have dI:=YL (cap:=Z) ho.row; have bp:=Zg hb; clear ho hb hs)
 obtain⟨S0,EZ⟩: ∃ S0,ZB (fun _=>0) 0 Z=S0:=⟨_,rfl⟩;have bq:=Zg (show S0.size=Z by rw[<-EZ]; exact Zr _ _ _);rw[EZ];clear dI EZ;refine(Jc S0 o1 8 v1 w5 (by rw[bq.out]; have:=HQ.out; have:=bF.out; omega) (by omega) (by omega) (by rw[bq.out]; have:=HQ.out; omega) HV.out.1.1 HV.out.1.2).mono ?_;rintro e w6 ⟨rfl,cF⟩;obtain⟨S1,E0⟩: ∃ S1,ZB (Xk (PlainAid.bt S0) o1 v1 8) 0 S0.size=S1:=⟨_,rfl⟩;have dL:=Zg (show S1.size=Z by rw[<-E0,Zr]; exact bq.out);rw[E0];have cU:=Zg (bp.out.trans (cF.mono bp.out.size));clear E0 cF bq bp;go_wp2_with fail
 refine(Jc S1 o2 8 v2 w6 (by rw[dL.out]; have:=HQ.out; have:=bF.out; omega) (by omega) (by omega) (by rw[dL.out]; have:=HQ.out; omega) HV.out.2.1 HV.out.2.2).mono ?_;rintro e w7 ⟨rfl,jB⟩;obtain⟨S2,ym⟩: ∃ S2,ZB (Xk (PlainAid.bt S1) o2 v2 8) 0 S1.size=S2:=⟨_,rfl⟩;have jA:=Zg (show S2.size=Z by rw[<-ym,Zr]; exact dL.out);rw[ym];have dS:=Zg (cU.out.trans (jB.mono cU.out.size));clear ym jB dL cU xv ur pv oJ;go_wp2_with fail
 go_loopw [9,10] (fun v9 o wr=> ∃(i:Nat) (S:ByteArray),i<=10/\i<=cs.length/\o= .int .i64 i/\v9= .string S/\S.size=Z+8 * i/\Below w.heap.size w wr) (fun _ o _=>10 - (intOf o).toNat)
 case atStart=>exact⟨0,S2,by omega,by omega,rfl,rfl,by rw[jA.out]; omega,dS.out⟩
 case round =>
  obtain⟨i,S,hi,zT,rfl,rfl,aT,bZ⟩:=hrel;have eV:=Zg aT;have aw:=Zg bZ;have HI:=Zg (And.intro hi zT);have zS:=bF.out;have hq:=HQ.out;clear bZ dS jA aT;by_cases af:i<cs.length/\i<10
  ·obtain⟨bb,off,rfl,gd,q4⟩:=Zoa (vm.out.below aw.out) af.1;have cM:=Zg af;generalize cs[i]=v at *;have g1:decide ((i:Int)<(cs.length:Int))=true:=decide_eq_true (by omega);have g2:decide ((i:Int)<10)=true:=decide_eq_true (by omega);have hz:(0:Int)<=(i:Int):=by omega
   have tQ:(i:Int)<(cs.length:Int):=by omega
   obtain⟨y1,gN,_,_⟩:=Wc v;obtain⟨y2,jR,c1,c2⟩:=Wc (base+y1);have tI:=Zg (fun W:World=>Yp y2 8 8 W c1 c2 (by omega));have uv:=fun(W:World)=>run_string_add_sum (P:=Tryz.prog) W S (ZB (Yj y2) 0 8) (by rw[eV.out,Zr]; omega);have MF:=Zg (show(S++ZB (Yj y2) 0 8).size=Z+8 * (i+1) by rw[ByteArray.size_append,eV.out,Zr]; omega);have PF:i<10:=af.2;have MG:(i:Int)<10:=by omega
   clear af zS hq hi zT;go_wp2_with (go_fit (tI.out _); rintro e u ⟨rfl,MK⟩)
   go_roundw
   case rel=>exact⟨i+1,_,by have:=cM.out; omega,by have:=cM.out; omega,by go_num,rfl,MF.out,aw.out.trans (MK.mono aw.out.size)⟩
   case measure=>have:=cM.out; simp[intOf]; omega
  ·have jg:=fun(W:World)=>run_string_add_sum (P:=Tryz.prog) W S (ZB (fun _=>0) 0 8) (by rw[eV.out,Zr]; omega);have xY:=Zg (show S.size+(ZB (fun _=>0) 0 8).size=Z+8 * (i+1) by rw[eV.out,Zr]; omega);have j0:(i:Int)=cs.length\/((i:Int)<cs.length/\(i:Int)=10):=by omega
   have p7:=Zg (show Z=st+48/\i<=10 from⟨by omega,hi⟩);clear af zS hq zT;rcases j0 with j0|⟨il,kH⟩
   ·have g1:decide ((i:Int)<(cs.length:Int))=false:=decide_eq_false (by omega);have tc: ¬ (i:Int)<(cs.length:Int):=by omega
    clear j0;go_wp2_with (at_make; refine Yx rfl (.const (.int .i64 8)) (.const (.int .i64 8)) rfl w.heap.size .i64 .i64 8 rfl rfl (by omega) aw.out.size ?_; intro w8 ho hb hs; have EX:=YL (cap:=8) ho.row; have aV:=Zg (aw.out.trans (hb.mono aw.out.size)); obtain⟨C9,w9,E6,ov,ah⟩:=Je w8 (S++ZB (fun _=>0) 0 8) (by rw[ByteArray.size_append,xY.out]; have:=p7.out; have:=bF.out; omega); have di:=Zg (show YA w9 w8.heap.size w8.heap.size (S.size+(ZB (fun _=>0) 0 8).size) C9 (PlainAid.bt (S++ZB (fun _=>0) 0 8)) from by rw[<-ByteArray.size_append]; exact ov); have ay:=Zg (aV.out.trans (ah.mono aV.out.size)); clear ho hb hs ov ah)
    go_ret;exact⟨_,_,_,rfl,by rw[xY.out]; have:=p7.out; omega,by rw[xY.out]; have:=p7.out; omega,⟨_,di.out.weaken aV.out.size⟩,ay.out⟩
   ·have g1:decide ((i:Int)<(cs.length:Int))=true:=decide_eq_true il;have g2:decide ((i:Int)<10)=false:=decide_eq_false (by omega);have EK: ¬ (i:Int)<10:=by omega
    clear kH;go_wp2_with (at_make; refine Yx rfl (.const (.int .i64 8)) (.const (.int .i64 8)) rfl w.heap.size .i64 .i64 8 rfl rfl (by omega) aw.out.size ?_; intro w8 ho hb hs; have EX:=YL (cap:=8) ho.row; have aV:=Zg (aw.out.trans (hb.mono aw.out.size)); obtain⟨C9,w9,E6,ov,ah⟩:=Je w8 (S++ZB (fun _=>0) 0 8) (by rw[ByteArray.size_append,xY.out]; have:=p7.out; have:=bF.out; omega); have di:=Zg (show YA w9 w8.heap.size w8.heap.size (S.size+(ZB (fun _=>0) 0 8).size) C9 (PlainAid.bt (S++ZB (fun _=>0) 0 8)) from by rw[<-ByteArray.size_append]; exact ov); have ay:=Zg (aV.out.trans (ah.mono aV.out.size)); clear ho hb hs ov ah)
    go_ret;exact⟨_,_,_,rfl,by rw[xY.out]; have:=p7.out; omega,by rw[xY.out]; have:=p7.out; omega,⟨_,di.out.weaken aV.out.size⟩,ay.out⟩
theorem Yr (A:Option Addr) (cap:Nat) (bs:List Nat) (o n:Nat) (v:Int) (u:Nat) (w:World) (hb:Lb bs) (hl:bs.length<=1000000) (hs:SlB w A bs.length (lF bs)) (h1:1<=n) (h8:n<=8) (h:o+n<=bs.length) (hu:IntKind.u64.wrap v=(u:Int)) (EY:u<=18446744073709551615) :
 Calls Tryz.prog 77 #[.slice A bs.length cap,.int .i64 o,.int .i64 n,.int .i64 v] w fun e w'=> ∃ g c,e= .returned (.slice (some ⟨g,0,none⟩) bs.length c)/\YG w' w.heap.size g c (ZW bs o n u)/\Below w.heap.size w w':=by
 have hlen:=Zp (b:=bs) (o:=o) (n:=n) h u;have HP:=Zg (fun W=>VW bs o n u W hb hl h1 h8 h EY);have HC:=Zg (fun W=>JI W (ZW bs o n u) (JH hb o n u) (by omega));have aQ:(convert 25 9 (.slice A bs.length cap)).run Tryz.prog w= .ok (.string (txt bs)) w:=by
  rcases hs with h0|⟨b,off,rfl,_,hr⟩
  ·omega
  ·exact YL (cap:=cap) hr
 rw[hlen] at HC;obtain⟨r,hr⟩: ∃ r,ZW bs o n u=r:=⟨_,rfl⟩;rw[hr] at HP HC ⊢;clear hlen hs hr hb;go_enter Tryz.func77,Tryz.ntmps77;go_wp2_with fail
 refine(HP.out _).mono ?_;rintro e w1 ⟨rfl,ao⟩;obtain⟨C,w2,hc,ho,aR⟩:=HC.out w1;have HB:=Zg (ao.trans (aR.mono ao.size));have HO:=Zg (ho.weaken (base':=w.heap.size) ao.size);clear ao aR ho;go_wp2_with fail
 go_ret;exact⟨_,_,rfl,HO.out,HB.out⟩
structure VA where
 D:Nat->ByteArray
 M:Nat->Nat
 SA:Nat->Option Addr
 SC:Nat->Nat
 T:Nat->Nat->ByteArray
 O:Nat->Nat->Int
 Y:Nat->Nat->Bool
def Zcg (w:World) (X:VA) (i:Nat):Prop:=X.M i=0\/ ∃ b off,X.SA i=some ⟨b,off,none⟩/\b<w.heap.size/\ ∀ j,j<X.M i->w.cell? ⟨b,off+j * 3,none⟩=some (.string (X.T i j))/\w.cell? ⟨b,off+j * 3+1,none⟩=some (.int .i64 (X.O i j))/\w.cell? ⟨b,off+j * 3+2,none⟩=some (.bool (X.Y i j))/\(X.T i j).size<=9223372036854775807
theorem Zcg.below {w w':World} {X:VA} {i:Nat} (h:Zcg w X i) (hb:Below w.heap.size w w'):Zcg w' X i:=by
 rcases h with h|⟨b,off,hA,af,hc⟩
 ·exact .inl h
 ·exact .inr ⟨b,off,hA,Nat.lt_of_lt_of_le af hb.size,fun j hj=>⟨(hb.cell (p:=⟨b,_,none⟩) af).trans (hc j hj).1,(hb.cell (p:=⟨b,_,none⟩) af).trans (hc j hj).2.1,(hb.cell (p:=⟨b,_,none⟩) af).trans (hc j hj).2.2.1,(hc j hj).2.2.2⟩⟩
def Zna (w:World) (A:Option Addr) (n:Nat) (X:VA):Prop:=n=0\/ ∃ b off,A=some ⟨b,off,none⟩/\b<w.heap.size/\ ∀ i,i<n->w.cell? ⟨b,off+i * 2,none⟩=some (.string (X.D i))/\w.cell? ⟨b,off+i * 2+1,none⟩=some (.slice (X.SA i) (X.M i) (X.SC i))/\(X.D i).size<=9223372036854775807/\X.M i<=9223372036854775807/\Zcg w X i
theorem Zna.below {w w':World} {A:Option Addr} {n:Nat} {X:VA} (h:Zna w A n X) (hb:Below w.heap.size w w'):Zna w' A n X:=by
 rcases h with h|⟨b,off,hA,af,hc⟩
 ·exact .inl h
 ·exact .inr ⟨b,off,hA,Nat.lt_of_lt_of_le af hb.size,fun i hi=>⟨(hb.cell (p:=⟨b,_,none⟩) af).trans (hc i hi).1,(hb.cell (p:=⟨b,_,none⟩) af).trans (hc i hi).2.1,(hc i hi).2.2.1,(hc i hi).2.2.2.1,(hc i hi).2.2.2.2.below hb⟩⟩
def FewI (X:VA) (i:Nat):Prop:=(X.D i).size<=60/\X.M i<=70/\ ∀ j,j<X.M i->(X.T i j).size<=80
theorem Zfl (A:Option Addr) (n cap:Nat) (X:VA) (w:World) (h:Zna w A n X) (hn:n<=9223372036854775807) :
 Calls Tryz.prog 36 #[.slice A n cap] w fun e w'=>(e= .returned (.bool false)\/e= .returned (.bool true)/\n<=20/\ ∀ i,i<n->FewI X i)/\w=w':=by
 have H:=Zg h;clear h;go_enter Tryz.func36,Tryz.ntmps36;by_cases Hw:n<=20
 ·go_wp2_with fail
  go_loop [3,4] (fun v3 _=> ∃ i:Nat,i<=n/\v3= .int .i64 i/\Hid (∀ i',i'<i->FewI X i')) (fun v3 _=>n - (intOf v3).toNat)
  case atStart=>exact⟨0,Nat.zero_le _,rfl,Zg (fun i' hi=>by omega)⟩
  case round =>
   obtain⟨i,hi,rfl,HD⟩:=hrel;by_cases af:i<n
   ·rcases H.out with h0|⟨b,off,rfl,hb,hc⟩
    ·omega
    obtain⟨c0,c1,aT,hm,jM⟩:=hc i af;have cO:=Zg jM;have aU:(i:Int)<(n:Int):=by omega
    clear hc jM hb;obtain⟨S,hS⟩: ∃ S,X.D i=S:=⟨_,rfl⟩;obtain⟨m,yl⟩: ∃ m,X.M i=m:=⟨_,rfl⟩;obtain⟨sa,sq⟩: ∃ q,X.SA i=q:=⟨_,rfl⟩;obtain⟨sc,IB⟩: ∃ q,X.SC i=q:=⟨_,rfl⟩;rw[hS] at c0 aT;rw[yl,sq,IB] at c1;rw[yl] at hm;have HE:=Zg (And.intro hS (And.intro yl sq));clear hS yl sq IB;have cM:=Zg af;clear af hi;by_cases e1:S.size<=60
    ·have f1: ¬ (60:Int)<(S.size:Int):=by omega
     by_cases e2:m<=70
     ·have f2: ¬ (70:Int)<(m:Int):=by omega
      go_wp2_with fail
      go_loop [4] (fun v4=> ∃ j:Nat,j<=m/\v4= .int .i64 j/\Hid (∀ j',j'<j->(X.T i j').size<=80)) (fun v4=>m - (intOf v4).toNat)
      case atStart=>exact⟨0,Nat.zero_le _,rfl,Zg (fun j' hj=>by omega)⟩
      case round =>
       obtain⟨j,hj,rfl,HJ⟩:=hrel;by_cases ze:j<m
       ·rcases cO.out with h0|⟨b',mw,B6,dD,eN⟩
        ·rw[HE.out.2.1] at h0; omega
        obtain⟨d0,d1,d2,BP⟩:=eN j (by rw[HE.out.2.1]; exact ze);rw[HE.out.2.2] at B6;subst B6;have PG:(j:Int)<(m:Int):=by omega
        obtain⟨T,hT⟩: ∃ T,X.T i j=T:=⟨_,rfl⟩;rw[hT] at d0 BP;have HT:=Zg hT;have Iy:=Zg ze;clear eN dD d1 d2 hT ze hj;by_cases e3:T.size<=80
        ·have f3: ¬ (80:Int)<(T.size:Int):=by omega
         go_wp2_with fail
         go_round
         case rel=>exact⟨j+1,by have:=Iy.out; omega,by simp,Zg (fun j' r7=>by
          rcases Nat.lt_or_ge j' j with h1|h1
          ·exact HJ.out j' h1
          ·obtain rfl:j'=j:=by omega
           rw[HT.out]; exact e3)⟩
         case measure =>
          have:=Iy.out;simp[intOf];omega
        ·have f3:(80:Int)<(T.size:Int):=by omega
         go_wp2_with fail
         go_ret;exact⟨.inl rfl,rfl⟩
       ·obtain rfl:j=m:=by omega
        have PH: ¬ (j:Int)<(j:Int):=by omega
        go_wp2_with fail
        go_round
        case rel=>exact⟨i+1,by have:=cM.out; omega,by simp,Zg (fun i' ef=>by
         rcases Nat.lt_or_ge i' i with h1|h1
         ·exact HD.out i' h1
         ·obtain rfl:i'=i:=by omega
          refine⟨by rw[HE.out.1]; exact e1,by rw[HE.out.2.1]; exact e2,fun j' r7=>HJ.out j' (by rw[HE.out.2.1] at r7; exact r7)⟩)⟩
        case measure =>
         have:=cM.out;simp[intOf];omega
     ·have f2:(70:Int)<(m:Int):=by omega
      go_wp2_with fail
      go_ret;exact⟨.inl rfl,rfl⟩
    ·have f1:(60:Int)<(S.size:Int):=by omega
     go_wp2_with fail
     go_ret;exact⟨.inl rfl,rfl⟩
   ·obtain rfl:i=n:=by omega
    have MH: ¬ (i:Int)<(i:Int):=by omega
    go_wp2_with fail
    go_ret;exact⟨.inr ⟨rfl,HD.out⟩,rfl⟩
 ·have f0:(20:Int)<(n:Int):=by omega
  go_wp2_with fail
  go_ret;exact⟨.inl rfl,rfl⟩
end Go.Proofs.YtplgdpjbkdagfaaGreat
