import Derived.Test.YtplgdpjbkdagfaaGreatZAwake1
import Derived.Test.YtplgdpjbkdagfaaGreatZOwnT
import Derived.Test.YtplgdpjbkdagfaaGreatCopy
import Derived.Deep.DeepFit
namespace Go.Proofs.YtplgdpjbkdagfaaGreat
set_option maxHeartbeats 8000000
open Lib renaming hid→Zg
set_option maxRecDepth 100000
open Go.ChangeShapes Go.WideShapes Go.ChangeAt Go.RowKit
set_option linter.unusedVariables false
set_option linter.unusedSimpArgs false
abbrev YQ:=Int × Int
def Wk (x:YQ):List Value:=[.int .i64 x.1,.int .i64 x.2]
theorem XK (x:YQ):(Wk x).length=2:=rfl
theorem Jj (x:YQ): ∀ u∈Wk x,u.oneCell'=true:=by
 intro u hu;simp[Wk] at hu;rcases hu with rfl|rfl <;> rfl
def Zfz (n:Nat) (l:List YQ) (x:YQ):Prop:=ZK x.1≠0/\x.2+ZK x.1<=n/\l.length<512/\ ∀ y∈l,y.2+ZK y.1<=x.2\/x.2+ZK x.1<=y.2
instance (n:Nat) (l:List YQ) (x:YQ):Decidable (Zfz n l x):=by unfold Zfz; infer_instance
def Zf0 (p v:Int):YQ:=(v / 4096,p+v % 4096)
def Zf1 (n:Nat) (f:Nat->Int) (p:Int):Nat->Nat->List YQ->Option (List YQ)
 | 0,_,l=>some l
 | k+1,o,l=>if rdF f o 2 / 4096=0 then Zf1 n f p k (o+2) l else if Zfz n l (Zf0 p (rdF f o 2)) then Zf1 n f p k (o+2) (l++[Zf0 p (rdF f o 2)]) else none
def Xt (n:Nat) (f:Nat->Int) (e:Nat):Nat->Nat->List YQ->Option (List YQ)
 | 0,_,_=>none
 | F+1,o,l =>
   if e<=o then some l else
   match XG f o e with
   | none=>none
   | some (p,z) =>
     match Zf1 n f p ((z.toNat - 8) / 2) (o+8) l with
     | none=>none
     | some l'=>Xt n f e F (o+z.toNat) l'
def YU (n:Nat) (f:Nat->Int) (r s:Int):Option (List YQ) :=
 if r=0 then some [] else if ¬ (0<=r/\0<=s/\r<=n - s) then none else Xt n f (r.toNat+s.toNat) (s.toNat+1) r.toNat []
structure Za4 (tk:Nat->Bool) (l:List YQ):Prop where
 mark: ∀ j:Nat,tk j=true↔ ∃ y∈l,y.2<=j/\(j:Int)<y.2+ZK y.1
 good: ∀ y∈l,ZK y.1≠0/\0<=y.2
 len:l.length<=512
theorem Za4.site {tk:Nat->Bool} {l:List YQ} (h:Za4 tk l) (n:Nat) (k r:Int) (h0:0<=r):Zfz n l (k,r)↔AX n tk k r/\l.length<512:=by
 have hL:=Xy k;constructor
 ·rintro⟨h1,h2,h3,h4⟩;refine⟨⟨h1,h2,fun j Rk tO=> ?_⟩,h3⟩;cases lZ:tk j with
  | false=>rfl
  | true =>
    obtain⟨y,hy,gN,jR⟩:=(h.mark j).1 lZ;have:=h4 y hy;simp only at this;omega
 ·rintro⟨⟨h1,h2,h3⟩,h4⟩;refine⟨h1,h2,h4,fun y hy=> ?_⟩;have gN:=h.good y hy;have Rf:=Xy y.1;simp only;by_cases c:y.2+ZK y.1<=r\/r+ZK k<=y.2
  ·exact c
  ·exfalso;have h5:=h3 (max r y.2).toNat (by omega) (by omega);have h6:=(h.mark (max r y.2).toNat).2 ⟨y,hy,by omega,by omega⟩;rw[h5] at h6;cases h6
theorem Za4.add {tk:Nat->Bool} {l:List YQ} (h:Za4 tk l) (k r:Int) (h0:0<=r) (hk:ZK k≠0) (hl:l.length<512):Za4 (Zkx tk r (r+ZK k)) (l++[(k,r)]):=by
 refine⟨fun j=> ?_,fun y hy=> ?_,by simp; omega⟩
 ·have h1:=h.mark j;unfold Zkx;constructor
  ·intro h2;rw[Bool.or_eq_true] at h2;rcases h2 with h2|h2
   ·obtain⟨y,hy,h3⟩:=h1.1 h2;exact⟨y,by simp[hy],h3⟩
   ·exact⟨(k,r),by simp,by simpa using h2⟩
  ·rintro⟨y,hy,h3,h4⟩;rw[Bool.or_eq_true];rw[List.mem_append,List.mem_singleton] at hy;rcases hy with hy|rfl
   ·exact .inl (h1.2 ⟨y,hy,h3,h4⟩)
   ·exact .inr (by simpa using ⟨h3,h4⟩)
 ·rw[List.mem_append,List.mem_singleton] at hy;rcases hy with hy|rfl
  ·exact h.good y hy
  ·exact⟨hk,h0⟩
theorem Za4.nil:Za4 (fun _=>false) []:=⟨fun j=>by simp,fun y hy=>by simp at hy,by simp⟩
theorem Za5 (n:Int):bits .and .i64 n 4095=n % 4096:=XI n 12 (by omega)
def ParseR (w w':World) (r:Option (List YQ)) (e:Ending):Prop :=
 (match r with
  | none=>e= .returned (.tuple #[.slice none 0 0,.int .i64 9])
  | some l=> ∃ A cap,e= .returned (.tuple #[.slice A l.length cap,.int .i64 0])/\ZJ Wk 2 w' w.heap.size 82 (.slice A l.length cap) l)/\Below w.heap.size w w'
structure Zf2 (w wr:World) (n gt:Nat) (A:Option Addr) (cap:Nat) (l:List YQ) (tk:Nat->Bool):Prop where
 own:ZJ Wk 2 wr w.heap.size 82 (.slice A l.length cap) l
 row:Own wr gt n (fun i=> .bool (tk i))
 marks:Za4 tk l
 apart: ∀ k,(Value.slice A l.length cap).ownBlock=some k->k≠gt
 bel:Below w.heap.size w wr
theorem Za6:(Tryz.prog.info? 82).map (fun i=>(i.zero,i.size,i.bytes))=some (some (.agg #[.int .i64 0,.int .i64 0]),2,16):=by kernel_rfl
theorem Zj9 (A:Option Addr) (n cap:Nat) (f:Nat->Int) (r s:Int) (w:World) (hl:n<=cap) (hm:n<=140737488355328) (hb:Zm f) (hs:SlB w A n f)
 (r0: -9223372036854775808<=r) (r1:r<=9223372036854775807) (s0: -9223372036854775808<=s) (s1:s<=9223372036854775807) :
 Calls Tryz.prog 81 #[.slice A n cap,.agg #[.int .i64 r,.int .i64 s]] w fun e w'=>ParseR w w' (YU n f r s) e:=by
 have HB:=Zg hb;have HS:=Zg hs;clear hb hs;obtain⟨res,ir⟩: ∃ res,YU n f r s=res:=⟨_,rfl⟩;rw[ir];have iW:=Zg ir;clear ir;by_cases c0:r=0
 ·subst c0;have h:=iW.out;unfold YU at h;rw[if_pos rfl] at h;subst h;go_enter Tryz.func81,Tryz.ntmps81;go_wp2_with fail
  go_ret2;exact⟨⟨none,0,rfl,ZJ.nil _ _ _⟩,by go_grown⟩
 ·have e0:(r == 0)=false:=by simpa using c0
  by_cases c1:0<=r/\0<=s/\r<=n - s
  ·obtain⟨c1,c2,c3⟩:=c1;obtain⟨R,rfl⟩: ∃ R:Nat,r=R:=⟨r.toNat,by omega⟩;obtain⟨Z,rfl⟩: ∃ Z:Nat,s=Z:=⟨s.toNat,by omega⟩;have aU:=ZV A n cap R Z true (w.alloc (.cells #[.int .i64 R,.int .i64 Z] 37)) (by omega) s0 s1 ⟨fun _=>⟨c1,c2,c3⟩,fun _=>rfl⟩;have ax:=Zg aU;have aW:Xt n f (R+Z) (Z+1) R []=res:=by
    have h:=iW.out;unfold YU at h;rw[if_neg c0,if_neg (fun h=>h ⟨c1,c2,c3⟩)] at h;simpa using h
   have fX:=Zg aW;clear aU iW aW;go_enter Tryz.func81,Tryz.ntmps81;go_wp2_with fail
   refine ax.out.mono ?_;rintro e w' ⟨rfl,rfl⟩;go_wp2_with (at_make; refine Yk _ rfl (.tmp 29) (.tmp 29) 197 rfl 4 (.bool false) 1 (by kernel_rfl) (by kernel_rfl) rfl .i64 .i64 n (by simp[Act.eval,Act.put]) (by simp[Act.eval,Act.put]) (by omega) (by omega) ?_; intro w1 ao cG)
   have qb:(w.alloc (.cells #[.int .i64 R,.int .i64 Z] 37)).heap.size=w.heap.size+1:=by simp
   have fk:((w.alloc (.cells #[.int .i64 R,.int .i64 Z] 37)).alloc (.cells #[] 82)).heap.size=w.heap.size+2:=by simp
   have hT:=((YY w (.int .i64 R) (.int .i64 Z) 37).alloc (.cells #[] 82)).below ao (by rw[fk]; omega);have aq:Below w.heap.size w w1:=(((Below.refl w.heap.size w).alloc (Nat.le_refl _) _).alloc (by simp) _).trans (ao.mono (by rw[fk]; omega));have ae:=(ZJ.made (C:=Wk) (sz:=2) (w.alloc (.cells #[.int .i64 R,.int .i64 Z] 37)) w.heap.size (by simp) 82).below ao;have t0:=hT.cell (i:=0) (by omega);have t1:=hT.cell (i:=1) (by omega);simp only[if_pos,if_neg,Nat.one_ne_zero] at t0 t1;rw[qb] at ae;rw[fk] at cG;obtain⟨gt,FZ⟩: ∃ gt,gt=w.heap.size+1+1:=⟨_,rfl⟩;have NG:=Zg (show w.heap.size<gt by omega);rw[show w.heap.size+2=gt from by omega] at cG;have aQ:Zf2 w w1 n gt (some ⟨w.heap.size+1,0,none⟩) 0 [] (fun _=>false):=⟨ae,cG,Za4.nil,fun k hk=>by(injection hk with hk; subst hk; show w.heap.size+1≠gt; omega),aq⟩;have bF:=Zg aQ;clear ao cG hT aq ae qb fk aQ;go_wp2_with fail
   go_quiet (fail)
   go_wp2_with fail
   rw[<-FZ];have Ca:=Zg FZ;clear t0 t1 FZ e0 c0 c1 c2 r0 r1 s0 s1;obtain⟨E,hE⟩: ∃ E,E=R+Z:=⟨_,rfl⟩;have NH:E<=n:=by omega
   rw[show(R:Int)+Z=E by omega];rw[<-hE] at fX;have Rg:R<=E:=by omega
   have Rh:E - R<=Z:=by omega
   clear hE;go_loopw [6,8] (fun v6 v8 wr=> ∃(o F:Nat) (l:List YQ) (tk:Nat->Bool) (A':Option Addr) (aA:Nat),o<=E/\E<o+F/\v8= .int .i64 o/\v6= .slice A' l.length aA/\Zf2 w wr n gt A' aA l tk/\Xt n f E F o l=res) (fun _ v8 _=>E - (intOf v8).toNat)
   case atStart=>exact⟨R,Z+1,[],_,_,_,by omega,by omega,rfl,rfl,⟨bF.out.own,bF.out.row,bF.out.marks,bF.out.apart,belD bF.out.bel nq⟩,fX.out⟩
   case round =>
    obtain⟨o,F,l,tk,A',aA,ho,hF,rfl,rfl,aQ,aW⟩:=hrel;have bF:=Zg aQ;have fX:=Zg aW;clear aQ aW;by_cases af:o<E
    ·obtain⟨b,off,rfl,gd,cE⟩: ∃ b off,A=some ⟨b,off,none⟩/\b<w.heap.size/\Row w b off n f:=by
      rcases HS.out with h|h
      ·omega
      ·exact h
     have lJ:=Zg (show ∀ W,Below w.heap.size w W->Row W b off n f from fun W hW=>cE.below hW gd);obtain⟨F,rfl⟩: ∃ F',F=F'+1:=⟨F - 1,by omega⟩;have hh:=Zlj b off n cap f o E wr (by omega) (by omega) NH HB.out (lJ.out wr bF.out.bel);have aW:=fX.out;unfold Xt at aW;rw[if_neg (by omega)] at aW;clear cE;cases jj:XG f o E with
     | none =>
       rw[jj] at hh aW;simp only[Option.getD_none,Option.isSome_none] at hh aW;subst aW;have HH:=Zg hh;clear hh jj;go_wp2_with fail
       go_fit HH.out
       rintro e w' ⟨rfl,rfl⟩;go_wp2_with fail
       go_ret2;exact⟨rfl,bF.out.bel⟩
     | some pz =>
       obtain⟨p,z⟩:=pz;rw[jj] at hh aW;simp only[Option.getD_some,Option.isSome_some] at hh aW;obtain⟨q1,q2,q3,q4,q5,q6⟩:=Zgn jj;have qp:=ZR f HB.out 4 o;rw[<-q2] at qp;obtain⟨Rl,NM⟩:=qp;have Ri:p<4294967296:=by omega
       obtain⟨K,rfl⟩: ∃ K:Nat,z=(8+2 * K:Nat):=⟨((z - 8) / 2).toNat,by omega⟩;rw[show(((8+2 * K:Nat):Int).toNat - 8) / 2=K by omega,show((8+2 * K:Nat):Int).toNat=8+2 * K by omega] at aW;obtain⟨rr,aY⟩: ∃ rr,Zf1 n f p K (o+8) l=rr:=⟨_,rfl⟩;rw[aY] at aW;have HH:=Zg hh;have cd:=Zg aY;have nQ:=Zg aW;have ka:=Zg q2;have hK:o+8+2 * K<=E:=by omega
       clear hh jj q2 q3 q4 q5 q6 aY aW NM q1 fX;go_wp2_with fail
       go_fit HH.out
       rintro e w' ⟨rfl,rfl⟩;go_wp2_with fail
       try simp only[Int.natCast_add,Int.natCast_mul,Int.cast_ofNat_Int]
       go_loopw [6,13] (fun v6 v13 wr=> ∃(q:Nat) (l:List YQ) (tk:Nat->Bool) (A':Option Addr) (aA:Nat),q<=K/\v13= .int .i64 (8+2 * (q:Int))/\v6= .slice A' l.length aA/\Zf2 w wr n gt A' aA l tk/\Zf1 n f p (K - q) (o+8+2 * q) l=rr) (fun _ v13 _=>8+2 * K - (intOf v13).toNat)
       case atStart=>exact⟨0,l,tk,A',aA,by omega,by simp,rfl,bF.out,cd.out⟩
       case round =>
        clear bF cd HH;obtain⟨q,l,tk,A',aA,hq,rfl,rfl,aQ,dc⟩:=hrel;have bF:=Zg aQ;have iW:=Zg dc;clear aQ dc;by_cases aB:q<K
        ·have hu:=Zd6 b off n cap f (o+(8+2 * q)) wr (by omega) (by omega) HB.out (lJ.out wr bF.out.bel);have dc:=iW.out;obtain⟨D,hD⟩: ∃ D,K - q=D+1:=⟨K - q - 1,by omega⟩;rw[hD] at dc;unfold Zf1 Zf0 at dc;have hv:=ZR f HB.out 2 (o+(8+2 * q));rw[show o+8+2 * q=o+(8+2 * q) by omega] at dc;obtain⟨v,fj⟩: ∃ v,rdF f (o+(8+2 * q)) 2=v:=⟨_,rfl⟩;rw[fj] at hu dc hv;obtain⟨v0,v1⟩:=hv;have v2:v<65536:=by omega
         rw[show((o+(8+2 * q):Nat):Int)=(o:Int)+(8+2 * (q:Int)) by omega] at hu;have HU:=Zg hu;have kb:=Zg dc;have np:=Za5 v;have AV:K - (q+1)=D:=by omega
         have kz:=Zg AV;clear hu dc fj v1 hD AV iW;have NJ:0<=v / 4096:=by omega
         by_cases d0:v / 4096=0
         ·have dc:=kb.out;rw[if_pos d0] at dc;have gr:=Zg dc;have e0:(v / 4096 == 0)=true:=by simp[d0]
          clear dc d0 kb;go_wp2_with fail
          go_fit HU.out
          rintro e w' ⟨rfl,rfl⟩;go_wp2_with fail
          go_roundw
          case rel=>exact⟨q+1,l,tk,A',aA,by omega,by go_num,rfl,bF.out,by rw[kz.out,show o+8+2 * (q+1)=o+(8+2 * q)+2 by omega]; exact gr.out⟩
          case measure=>simp[intOf]; omega
         ·have dc:=kb.out;rw[if_neg d0] at dc;have gr:=Zg dc;have e0:(v / 4096 == 0)=false:=by simpa using d0
          have D0:=Zg d0;have FV:=bF.out.row.1;have bO:Below wr.heap.size wr (wr.alloc (.cells #[.int .i64 (v / 4096),.int .i64 (p+v % 4096)] 82)):=(Below.refl _ _).alloc (Nat.le_refl _) _;have cE:=bF.out.row.below bO FV;obtain⟨bb,eM⟩: ∃ bb:Bool,bb=true↔AX n tk (v / 4096) (p+v % 4096):=⟨@decide (AX n tk (v / 4096) (p+v % 4096)) (Classical.propDecidable _),by simp⟩;have ht:=Zlk (wr.alloc (.cells #[.int .i64 (v / 4096),.int .i64 (p+v % 4096)] 82)) gt n n tk (v / 4096) (p+v % 4096) bb (by omega) (by omega) hm cE eM;have HT:=Zg ht;have ua:=bF.out.marks.site n (v / 4096) (p+v % 4096) (by omega);have FW:=Zg ua;have fi:=Zg eM;have au:=Zg bO;have ft:=Zg (YY wr (.int .i64 (v / 4096)) (.int .i64 (p+v % 4096)) 82);have AW:gt≠wr.heap.size:=by omega
          have NK:=Zg AW;have Et:=Zg FV;clear dc kb d0 cE eM ht ua bO AW FV;go_wp2_with fail
          go_fit HU.out
          rintro e w' ⟨rfl,rfl⟩;go_wp2_with fail
          go_fit HT.out
          rintro e w2 ⟨rfl,xP,oh⟩;have bQ:=Zg (ft.out.grown oh (fun h=>NK.out (by injection h with h; exact h.symm)));have o0:=bQ.out.cell (i:=0) (by omega);have o1:=bQ.out.cell (i:=1) (by omega);simp only[if_pos,if_neg,Nat.one_ne_zero] at o0 o1;have vv:=Zg xP;have FX:=Zg oh;have oE:=Zg ((bF.out.bel.trans (au.out.mono bF.out.bel.size)).trans ⟨oh.os,oh.tape,oh.output,oh.size,fun k hk=>oh.block k (by have:=bF.out.bel.size; simp; omega) (fun h=>by injection h with h; have:=NG.out; omega)⟩);clear xP oh HT HU;cases bb with
          | false =>
            have hn:rr=none:=by
             have h:=gr.out;rw[if_neg (fun hs=>by have:=fi.out.2 (FW.out.1 hs).1; cases this)] at h;exact h.symm
            have aW:=nQ.out;rw[hn] at aW;simp only at aW;subst aW;go_wp2_with fail
            go_ret2;exact⟨rfl,oE.out⟩
          | true =>
            have qh:=bF.out.marks.len;by_cases hl:l.length=512
            ·have hn:rr=none:=by
              have h:=gr.out;rw[if_neg (fun hs=>by have:=(FW.out.1 hs).2; omega)] at h;exact h.symm
             have aW:=nQ.out;rw[hn] at aW;simp only at aW;subst aW;have el:((l.length:Int) == 512)=true:=by simp; omega
             clear hn qh;go_wp2_with fail
             go_ret2;exact⟨rfl,oE.out⟩
            ·have el:((l.length:Int) == 512)=false:=by simp; omega
             have dc:=gr.out;have DN:=Zg (fi.out.1 rfl);rw[if_pos (FW.out.2 ⟨fi.out.1 rfl,by omega⟩)] at dc;have vQ:=Zg dc;have ub:=(bF.out.own.below au.out).grown FX.out (fun k hk h=>by injection h with h; exact bF.out.apart k hk h.symm);have dB:=Zg (ub.alloc (.cells #[.int .i64 (v / 4096),.int .i64 (p+v % 4096)] 82));have cT:=Zg (YY w2 (.int .i64 (v / 4096)) (.int .i64 (p+v % 4096)) 82);have aH:=Zg oE.out.size;have iY:l.length<512:=by omega
             clear dc ub hl qh;go_wp2_with (at_builtin; refine Zq rfl (.tmp 83) (.tmp 85) 29 rfl w.heap.size 82 (.agg #[.int .i64 0,.int .i64 0]) 16 (by kernel_rfl) Za6 rfl (by omega) XK Jj _ l rfl dB.out w2.heap.size 1 rfl (v / 4096,p+v % 4096) ?ca (by unfold maxLen; omega) (by omega) (by have:=aH.out; simp; omega) ?_; rotate_left; intro g' fD w3 aS eU fE)
             case ca =>
              intro j u hu;have h:=cT.out.cell (i:=j) (by have:=(List.getElem?_eq_some_iff.1 hu).1; simpa [Wk] using this);rw[h];rcases j with _|_|j
              ·simpa [Wk] using hu
              ·simpa [Wk] using hu
              ·simp[Wk] at hu
             have aQ:Zf2 w w3 n gt (some ⟨g',0,none⟩) fD (l++[(v / 4096,p+v % 4096)]) (Zkx tk (p+v % 4096) (p+v % 4096+ZK (v / 4096))):=by
              obtain⟨Rm,h1,h2⟩:=vv.out;obtain rfl:=h2 rfl;have aT:(w2.alloc (.cells #[.int .i64 (v / 4096),.int .i64 (p+v % 4096)] 82)).heap.size=w2.heap.size+1:=by simp
              have Rj:gt<w2.heap.size:=h1.1;refine⟨by rw[List.length_append]; exact aS,(h1.alloc (.cells #[.int .i64 (v / 4096),.int .i64 (p+v % 4096)] 82)).grown eU (fun h=>bF.out.apart gt h.symm rfl),bF.out.marks.add _ _ (by omega) DN.out.1 iY,fun k hk=> ?_,?_⟩
              ·injection hk with hk;subst hk;rcases fE with h|h
               ·exact bF.out.apart _ h
               ·intro h2;have h2:g'=gt:=h2;omega
              ·exact dB.out.grew ((oE.out.alloc (by have:=oE.out.size; omega) (.cells #[.int .i64 (v / 4096),.int .i64 (p+v % 4096)] 82))) (Nat.le_refl _) (by have:=oE.out.size; omega) eU
             have FY:=Zg aQ;clear aQ aS eU fE;go_roundw
             case rel=>exact⟨q+1,l++[(v / 4096,p+v % 4096)],_,_,fD,by omega,by go_num,by simp,FY.out,by rw[kz.out,show o+8+2 * (q+1)=o+(8+2 * q)+2 by omega]; exact vQ.out⟩
             case measure=>simp[intOf]; omega
        ·obtain rfl:q=K:=by omega
         have dc:=iW.out;rw[Nat.sub_self] at dc;unfold Zf1 at dc;subst dc;have aW:=nQ.out;simp only at aW;have js:=Zg aW;clear aW nQ aB hq;go_wp2_with fail
         go_roundw
         case rel=>exact⟨o+(8+2 * q),F,l,tk,A',aA,by omega,by omega,by go_num,rfl,bF.out,js.out⟩
         case measure=>simp[intOf]; omega
    ·obtain rfl:o=E:=by omega
     have aW:=fX.out;have NL: ∃ F',F=F'+1:=⟨F - 1,by omega⟩;obtain⟨F,rfl⟩:=NL;unfold Xt at aW;rw[if_pos (by omega)] at aW;subst aW;clear af ho;go_wp2_with fail
     go_ret2;exact⟨⟨_,_,rfl,bF.out.own⟩,bF.out.bel⟩
  ·have h:=iW.out;unfold YU at h;rw[if_neg c0,if_pos c1] at h;subst h;have aU:=ZV A n cap r s false (w.alloc (.cells #[.int .i64 r,.int .i64 s] 37)) (by omega) s0 s1 ⟨(fun h=>by cases h),fun h=>absurd h c1⟩;have ax:=Zg aU;clear aU c1;go_enter Tryz.func81,Tryz.ntmps81;go_wp2_with fail
   refine ax.out.mono ?_;rintro e w' ⟨rfl,rfl⟩;go_wp2_with fail
   go_ret2;exact⟨rfl,by go_grown⟩
end Go.Proofs.YtplgdpjbkdagfaaGreat
