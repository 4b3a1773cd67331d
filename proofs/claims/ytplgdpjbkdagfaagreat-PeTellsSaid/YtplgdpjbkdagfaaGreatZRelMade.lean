import Derived.Test.YtplgdpjbkdagfaaGreatZRNou
import Derived.Test.YtplgdpjbkdagfaaGreatZHdrA
import Derived.Test.YtplgdpjbkdagfaaGreatRefPut
namespace Go.Proofs.YtplgdpjbkdagfaaGreat
set_option maxHeartbeats 8000000
open Lib renaming hid→Zg
set_option maxRecDepth 100000
open Go.ChangeShapes Go.WideShapes Go.ChangeAt Go.RowKit
set_option linter.unusedVariables false
set_option linter.unusedSimpArgs false
def ent (x:YQ):List Int:=[(x.1 % 16 * 4096+x.2 % 4096) % 256,(x.1 % 16 * 4096+x.2 % 4096) / 256]
def le4 (v:Int):List Int:=listF (fun i=>Yj v (0+i)) 4
def Zf3 (p:Int):List YQ->Nat
 | []=>0
 | x::l=>if x.2 / 4096=p then Zf3 p l+1 else 0
def pad (r:List Int):List Int:=if r.length % 4≠0 then r++[0,0] else r
def QH (p:Int) (r:List Int):List Int:=le4 (p * 4096)++le4 (8+(r.length:Int))++r
def Ug (l:List YQ):Nat->Nat->List Int
 | 0,_=>[]
 | F+1,i =>
   match l[i]? with
   | none=>[]
   | some x =>
     QH (x.2 / 4096) (pad (((l.drop i).take (Zf3 (x.2 / 4096) (l.drop i))).flatMap ent))++Ug l F (i+Zf3 (x.2 / 4096) (l.drop i))
def UO (n:Nat):List Int:=listF (fun i=>((i:Int) * i+3) % 256) n
theorem QI (n:Nat):(UO n).length=n:=VZ _ _
theorem Zee (p:Int): ∀(l:List YQ) (n:Nat),n<=l.length->(∀ j (h:j<l.length),j<n->l[j].2 / 4096=p)->(∀ h:n<l.length,l[n].2 / 4096≠p)->Zf3 p l=n
 | [],n,h,_,_=>by simp at h; subst h; rfl
 | x::l,0,_,_,h=>by
   have:=h (by simp);unfold Zf3;rw[if_neg (by simpa using this)]
 | x::l,n+1,h0,h1,h2=>by
   unfold Zf3;rw[if_pos (by have:=h1 0 (by simp) (by omega); simpa using this),Zee p l n (by simpa using h0) (fun j h hj=>by have:=h1 (j+1) (by simpa using h) (by omega); simpa using this) (fun h=>by have:=h2 (by simpa using h); simpa using this)]
theorem ZP (v:Int):(le4 v).length=4:=by simp[le4,VZ]
theorem XB (v:Int):Zm (Yj v):=fun i=>Jt v i
theorem Zng (v:Int):Bs (le4 v):=Bs.listF (fun i=>Jt v (0+i)) 4
theorem ent_bs (x:YQ):Bs (ent x):=fun b hb=>by
 simp[ent] at hb;rcases hb with rfl|rfl <;> omega
theorem or_ent (x y:Int):bits .or .i64 (x % 16 * 4096) (y % 4096)=x % 16 * 4096+y % 4096:=by
 obtain⟨a,ha⟩: ∃ a:Nat,x % 16=a:=⟨(x % 16).toNat,by omega⟩;obtain⟨b,hb⟩: ∃ b:Nat,y % 4096=b:=⟨(y % 4096).toNat,by omega⟩;rw[ha,hb];have h:=i64_or (a * 4096) b (by omega) (by omega);have e:a * 4096 ||| b=a * 4096+b:=by
  have:=Nat.two_pow_add_eq_or_of_lt (show b<2 ^ 12 by omega) a;rw[show a * 4096=2 ^ 12 * a by omega];omega
 rw[e] at h;rw[show(a:Int) * 4096=((a * 4096:Nat):Int) by omega,h];omega
theorem and_15 (n:Int):bits .and .i64 n 15=n % 16:=XI n 4 (by omega)
def MadeR (w w':World) (l:List YQ) (n:Nat) (e:Ending):Prop :=
 ∃ A cap,e= .returned (.tuple #[.slice A (n+(Ug l (l.length+1) 0).length) cap,.agg #[.int .i64 n,.int .i64 (Ug l (l.length+1) 0).length]]) /\
   Yy w' w.heap.size (.slice A (n+(Ug l (l.length+1) 0).length) cap) (UO n++Ug l (l.length+1) 0)/\Below w.heap.size w w'
theorem Zef (L:Option Addr) (l:List YQ) (lc n:Nat) (w:World) (hL:SlT Wk 2 w L l) (iY:l.length<=60) (hn:n<=300000) (hr: ∀ x∈l,0<=x.2/\x.2<16777216) :
 Calls Tryz.prog 29 #[.slice L l.length lc,.int .i64 n] w fun e w'=>MadeR w w' l n e:=by
 have vm:=Zg hL;have HR:=Zg hr;clear hL hr;go_enter Tryz.func29,Tryz.ntmps29;go_wp2_with (at_make; refine JZ rfl (.tmp 14) (.tmp 14) rfl w.heap.size .i64 .i64 n (by simp[Act.eval,Act.put]) (by simp[Act.eval,Act.put]) (by omega) (by simp) ?_; intro w1 ao az cY)
 have aT:(w.alloc (.cells #[.int .i64 0,.int .i64 0] 37)).heap.size=w.heap.size+1:=by simp
 have hT:=(YY w (.int .i64 0) (.int .i64 0) 37).below az (by rw[aT]; omega);have aq:Below w.heap.size w w1:=((Below.refl w.heap.size w).alloc (Nat.le_refl _) (.cells #[.int .i64 0,.int .i64 0] 37)).trans (az.mono (by rw[aT]; omega));rw[aT] at ao cY;have HT:=Zg hT;have HB:=Zg aq;have HW:=Zg ao;have HS:=Zg cY;clear hT aq ao cY az aT;go_loopw [18] (fun o wr=> ∃(i:Nat) (bs:List Int),i<=n/\o= .int .i64 i/\Yy wr w.heap.size (.slice (some ⟨w.heap.size+1,0,none⟩) n n) bs/\(∀ j,j<n->bs[j]? =some (if j<i then((j:Int) * j+3) % 256 else 0))/\Own wr w.heap.size 2 (fun i=>if i=0 then .int .i64 0 else .int .i64 0)/\Below w.heap.size w wr/\wr.heap.size=w.heap.size+1+1) (fun o _=>n - (intOf o).toNat)
 case atStart=>exact⟨0,List.replicate n 0,by omega,rfl,HW.out,fun j hj=>by simp[List.getElem?_replicate,hj],HT.out,HB.out,HS.out⟩
 case round =>
  obtain⟨i,bs,hi,rfl,ao,gX,hT,aq,cY⟩:=hrel;clear HT HB HW HS;have HT:=Zg hT;have HB:=Zg aq;have HW:=Zg ao;have HS:=Zg cY;have gw:=Zg gX;clear hT aq ao cY gX;by_cases af:i<n
  ·have hlen:=HW.out.slice.1;have ho:Own wr (w.heap.size+1) n (fun i=> .int .u8 (Vo bs i)):=by
    rcases HW.out.slice.2.2.2.2 with h|⟨g,hg,_,h⟩
    ·omega
    ·injection hg with hg;injection hg with hg;rw[hg]; exact h
   have c0:=ho.cell (i:=i) af;have z0:=ho.frozen (i:=i) af;have MH:(i:Int) * i<=90000000000:=by
    have:i * i<=300000 * 300000:=Nat.mul_le_mul (by omega) (by omega);have h2:((i * i:Nat):Int)<=90000000000:=by omega
    rwa [Int.natCast_mul] at h2
   have He:0<=(i:Int) * i:=Int.mul_nonneg (by omega) (by omega);have bF:=Zg (HW.out.stored i (((i:Int) * i+3) % 256));clear ho hlen;go_wp2_with fail
   go_roundw
   case rel=>exact⟨i+1,bs.set i (((i:Int) * i+3) % 256),by omega,by go_num,bF.out.1,fun j hj=>by
    rw[List.getElem?_set];by_cases e:i=j
    ·subst e;rw[if_pos rfl,if_pos (by have:=HW.out.slice.1; omega),if_pos (by omega)]
    ·rw[if_neg e,gw.out j hj];by_cases e2:j<i
     ·rw[if_pos e2,if_pos (by omega)]
     ·rw[if_neg e2,if_neg (by omega)],HT.out.of_block (Below.heap_setCell _ _ _ _ (by simp)) (by simp[World.setCell]),HB.out.setCell (by simp) _,by simp[World.setCell]; exact HS.out⟩
   case measure=>simp[intOf]; omega
  ·obtain rfl:i=n:=by omega
   have gX:bs=UO i:=by
    apply List.ext_getElem?;intro j;have hlen:=HW.out.slice.1;by_cases hj:j<i
    ·rw[gw.out j hj,if_pos hj];simp[UO,listF,hj]
    ·rw[List.getElem?_eq_none (by omega),List.getElem?_eq_none (by simp[UO,listF]; omega)]
   subst gX;obtain⟨W0,uc⟩: ∃ W0:World,wr=W0:=⟨_,rfl⟩;subst uc;clear gw af hi;go_wp2_with fail
   obtain⟨T,hT⟩: ∃ T,Ug l (l.length+1) 0=T:=⟨_,rfl⟩;have vv:=Zg hT;have Kc:wr.heap.size=w.heap.size+1+1:=HS.out;have F0:=Zg Kc;clear hT Kc;obtain⟨W0,uc⟩: ∃ W0:World,W0=wr:=⟨_,rfl⟩;have dU:=Zg uc;go_loopw [8,9] (fun v8 v9 wr=> ∃(k F:Nat) (bs:List Int) (A:Option Addr) (cap:Nat),k<=l.length/\l.length<k+F/\bs.length<=12 * k/\v9= .int .i64 k/\v8= .slice A bs.length cap/\Yy wr W0.heap.size (.slice A bs.length cap) bs/\Below W0.heap.size W0 wr/\bs++Ug l F k=T) (fun _ v9 _=>l.length - (intOf v9).toNat)
   case atStart=>exact⟨0,l.length+1,[],none,0,by omega,by omega,by simp,rfl,rfl,Yy.nil _ _,by rw[uc]; exact Below.refl _ _,by simpa using vv.out⟩
   case round =>
    obtain⟨k,F,bs,A,cap,hk,hF,gd,rfl,rfl,jK,fO,aW⟩:=hrel;subst uc;obtain⟨wo,rfl⟩: ∃ wo:World,wo=wr:=⟨_,rfl⟩;have eH:=Zg jK;have cp:=Zg fO;have fX:=Zg aW;clear jK fO aW;obtain⟨F,rfl⟩: ∃ F',F=F'+1:=⟨F - 1,by omega⟩;by_cases af:k<l.length
    ·have NN:k<60:=by omega
     have bM:=Zg (show SlT Wk 2 wo L l from vm.out.below (HB.out.trans (cp.out.mono HB.out.size)));obtain⟨b,off,rfl,qi,q0,q1⟩:=bM.out.site af;have hx:=HR.out l[k] (List.getElem_mem af);have aW:=fX.out;unfold Ug at aW;rw[List.getElem?_eq_getElem af] at aW;simp only at aW;obtain⟨p,hp⟩: ∃ p,l[k].2 / 4096=p:=⟨_,rfl⟩;rw[hp] at aW;have HP:=Zg hp;have nQ:=Zg aW;clear aW fX;generalize dW:l[k]=x at *;obtain⟨kd,rv⟩:=x;simp only at q0 q1 hp hx;obtain⟨x0,x1⟩:=hx;have G7:0<=p:=by omega
     have yS:p<4096:=by omega
     have NP:=Zg dW;clear dW;go_wp2_with fail
     go_loopw [11,12] (fun v11 v12 wr=> ∃(j:Nat) (row:List Int) (A:Option Addr) (cap:Nat),k<=j/\j<=l.length/\row.length=2 * (j - k)/\v12= .int .i64 j/\v11= .slice A row.length cap/\Yy wr wo.heap.size (.slice A row.length cap) row/\Below wo.heap.size wo wr/\row=((l.drop k).take (j - k)).flatMap ent/\ ∀ q (h:q<l.length),k<=q->q<j->l[q].2 / 4096=p) (fun _ v12 _=>l.length - (intOf v12).toNat)
     case atStart=>exact⟨k,[],none,0,by omega,by omega,by simp,rfl,rfl,Yy.nil _ _,Below.refl _ _,by simp,fun q h h1 h2=>by omega⟩
     case round =>
      obtain⟨j,row,A',aA,Rn,hj,qu,rfl,rfl,jK,fO,cE,Ke⟩:=hrel;have kf:=Zg jK;have gv:=Zg fO;have lJ:=Zg cE;have F1:=Zg Ke;have nY:=Zg qu;have NQ:row.length<=120:=by omega
      clear jK fO cE Ke qu;by_cases aB:j<l.length
      ·have NR:j<60:=by omega
       obtain⟨b',mw,eM,se,s0,s1⟩:=(bM.out.below gv.out).site aB;injection eM with eM;injection eM with F3 hbb2;subst F3 hbb2;have hy:=HR.out l[j] (List.getElem_mem aB);have CF:=Zg (show(l.drop k).take (j+1 - k)=(l.drop k).take (j - k)++[l[j]] by
        rw[show j+1 - k=(j - k)+1 by omega,List.take_succ_eq_append_getElem (by simp; omega)];simp[show k+(j - k)=j by omega])
       have NS:=Zg (show ∀ y,l[j]=y-> ∀ h:y.2 / 4096=p,∀ q (h:q<l.length),k<=q->q<j+1->l[q].2 / 4096=p from fun y hy h q hq h1 h2=>by
        by_cases e:q=j
        ·subst e; rw[hy]; exact h
        ·exact F1.out q hq h1 (by omega))
       have NT:=Zg (show ∀ y,l[j]=y-> ¬ y.2 / 4096=p-> ∀ h:j<l.length,l[j].2 / 4096≠p from fun y hy h _=>by rw[hy]; exact h);obtain⟨y,F4⟩: ∃ y,l[j]=y:=⟨_,rfl⟩;rw[F4] at s0 s1 hy CF;have Kd:=Zg F4;clear F4;obtain⟨wS,rm⟩:=y;simp only at s0 s1 hy;obtain⟨y0,y1⟩:=hy;by_cases d:rm / 4096=p
       ·have hY:=NS.out _ Kd.out d;have HY:=Zg hY;clear hY;have e1:(rm / 4096 == p)=true:=by simpa using d
        have ha:=and_15 wS;have hb:=Za5 rm;have ho:=or_ent wS rm;have hz:(0:Int)<=(j:Int):=by omega
        have tQ:(j:Int)<(l.length:Int):=by omega
        clear d;go_wp2_with fail
        go_quiet (fail)
        have aH:=Zg gv.out.size;have dB:=Zg ((kf.out.drewN nq).alloc (.cells ((ent (wS,rm)).map (Value.int .u8)).toArray 5));go_wp2_with (at_builtin; refine ZF rfl (.tmp 77) (.tmp 83) 25 rfl wo.heap.size _ row rfl dB.out _ rfl (ent (wS,rm)) (Zd4 (wr.drewN nq) (ent (wS,rm)) 2) (by simp[ent]; omega) (by have:=aH.out; simp; omega) ?_; intro A3 qw w3 aS eU fE)
        have cT:=Zg aS;have aN:=Zg (dB.out.grew ((belD gv.out nq).alloc (by have:=aH.out; simpa using this) (.cells ((ent (wS,rm)).map (Value.int .u8)).toArray 5)) (Nat.le_refl _) (by have:=aH.out; simp; omega) eU);clear aS eU fE;go_roundw
        case rel=>exact⟨j+1,row++ent (wS,rm),A3,qw,by omega,by omega,by rw[List.length_append,nY.out]; simp[ent]; omega,by go_num,by rw[List.length_append],by rw[List.length_append]; exact cT.out,aN.out,by rw[CF.out,List.flatMap_append,<-lJ.out]; simp,HY.out⟩
        case measure=>simp[intOf]; omega
       ·have HN:=Zg (NT.out _ Kd.out d);have e1:(rm / 4096 == p)=false:=by simpa using d
        have hz:(0:Int)<=(j:Int):=by omega
        have tQ:(j:Int)<(l.length:Int):=by omega
        have qt:=Zg (Zee p (l.drop k) (j - k) (by simp; omega) (fun q h hq=>by have:=F1.out (k+q) (by simp at h; omega) (by omega) (by omega); simpa using this) (fun h=>by have:=HN.out aB; simpa [show k+(j - k)=j by omega] using this));have F2:=Zg (show k<j by
         rcases Nat.lt_or_ge k j with h|h
         ·exact h
         ·exfalso;obtain rfl:j=k:=by omega
          exact HN.out af (by rw[NP.out]; exact HP.out))
        clear d;have bG:=qt.out;have ku:=nQ.out;rw[bG,show k+(j - k)=j by omega,<-lJ.out] at ku;have js:=Zg ku;have tP:k<j:=F2.out;clear bG ku nQ qt;have wK:=Zg gv.out.size;have nH:=Zg cp.out.size;have qu:=nY.out;by_cases wR:row.length % 4=0
        ·have iK:pad row=row:=by unfold pad; rw[if_neg (by omega)]
         rw[iK] at js;have jE:((row.length:Int) % 4 != 0)=false:=by simp; omega
         have iL:=kf;have aM:=gv;have gp:row.length<=122:=by omega
         have iM:8+row.length<=12 * (j - k):=by omega
         have mX:=Zg iM;clear iK kf gv wR qu iM;go_wp2_with fail
         generalize wr=ws at *;go_wp2_with fail
         go_fit (Yp (p * 4096) 4 4 ws (by omega) (by omega) (by decide))
         rintro e w4 ⟨rfl,bP⟩;have fK:=Zg (iL.out.below bP);have wL:=Zg (aM.out.trans (bP.mono aM.out.size));have bV:=Zg (eH.out.below (aM.out.trans (bP.mono aM.out.size)));have lW:=Zg (show W0.heap.size<=w4.heap.size from Nat.le_trans cp.out.size (aM.out.trans (bP.mono aM.out.size)).size);have fY:=Zg (cp.out.trans ((aM.out.trans (bP.mono aM.out.size)).mono cp.out.size));clear bP;go_wp2_with (at_builtin; refine ZF rfl (.tmp 94) (.tmp 98) 9 rfl W0.heap.size _ bs rfl bV.out _ rfl (le4 (p * 4096)) (Wd (XB _) 0 4) (by rw[ZP]; omega) lW.out ?_; intro A5 aG w5 ag aI aD)
         have wM:=Zg (show ∀ k,(Value.slice A5 (bs.length+(le4 (p * 4096)).length) aG).ownBlock=some k-> ∀ k',(Value.slice A' row.length aA).ownBlock=some k'->k≠k' from fun k hk k' gH=>by
          have h2:=fK.out.lt k' gH;rcases aD with h|h
          ·have h3:=eH.out.lt k (h ▸ hk);omega
          ·rw[h] at hk;injection hk with hk;omega)
         have ju:=Zg (fK.out.grown aI (fun k' gH h=>by
          have h2:=fK.out.lt k' gH;have h3:=eH.out.lt k' h;omega))
         have cx:=Zg ag;have gR:=Zg (bV.out.grew fY.out (Nat.le_refl _) lW.out aI);clear ag aI aD fK bV fY;go_wp2_with fail
         go_fit (Yp (8+(row.length:Int)) 4 4 w5 (by omega) (by omega) (by decide))
         rintro e w6 ⟨rfl,cF⟩;have wN:=Zg (ju.out.below cF);have dk:=Zg (cx.out.below cF);have qv:=Zg (gR.out.trans (cF.mono gR.out.size));have jo:=Zg (qv.out.size);clear cF ju cx gR;go_wp2_with (first|(at_builtin; refine ZF rfl (.tmp 99) (.tmp 104) 9 rfl W0.heap.size _ (bs++le4 (p * 4096)) (by simp[Act.eval,Act.put]) dk.out _ rfl (le4 (8+(row.length:Int))) (Wd (XB _) 0 4) (by rw[List.length_append,ZP,ZP]; omega) jo.out ?_; intro A7 wQ w7 dq iN mY)|(at_builtin; refine ZF rfl (.tmp 105) (.tmp 106) 25 rfl W0.heap.size _ (bs++le4 (p * 4096)++le4 (8+(row.length:Int))) (by simp[Act.eval,Act.put]) dq _ rfl row (JK (wN.out.grown iN (fun k' gH h=>wM.out _ h k' gH rfl))) (by rw[List.length_append,List.length_append,ZP,ZP]; omega) (Nat.le_trans jo.out iN.size) ?_; intro A9 iO w9 dG nW jv))
         have q9:=Zg (dq.grew (dk.out.grew qv.out (Nat.le_refl _) jo.out iN) (Nat.le_refl _) (Nat.le_trans jo.out iN.size) nW);have di:=Zg dG;have HJ:=Zg hj;clear dq iN mY dG nW jv;try go_wp2_with fail
         go_roundw
         case rel=>exact⟨j,F,bs++le4 (p * 4096)++le4 (8+(row.length:Int))++row,A9,iO,HJ.out,by omega,by have:=mX.out; simp only[List.length_append,ZP] at this ⊢; omega,rfl,by simp only[List.length_append,ZP],by have:=di.out; simp only[List.length_append,ZP] at this ⊢; exact this,q9.out,by rw[<-js.out]; simp[QH,List.append_assoc]⟩
         case measure=>simp[intOf]; omega
        ·have iK:pad row=row++[0,0]:=by unfold pad; rw[if_pos wR]
         rw[iK] at js;have jE:((row.length:Int) % 4 != 0)=true:=by simp; omega
         have iM:8+(row++[0,0]).length<=12 * (j - k):=by rw[List.length_append]; simp; omega
         have mX:=Zg iM;have dB:=Zg (kf.out.alloc (.cells (([0,0]:List Int).map (Value.int .u8)).toArray 5));have gp:(row++[0,0]).length<=122:=by rw[List.length_append]; simp; omega
         have iq:row.length+([0,0]:List Int).length=(row++[0,0]).length:=by rw[List.length_append]
         clear iK wR qu iM;go_wp2_with (at_builtin; refine ZF rfl (.tmp 91) (.tmp 92) 25 rfl wo.heap.size _ row rfl dB.out _ rfl [0,0] (Zd4 wr [0,0] 2) (by simp; omega) (by have:=wK.out; simp; omega) ?_; intro A3 qw w3 aS eU fE; simp only[iq] at aS ⊢; clear iq; generalize row++[0,0]=row2 at *)
         have iL:=Zg aS;have aM:=Zg (dB.out.grew (gv.out.alloc wK.out (.cells (([0,0]:List Int).map (Value.int .u8)).toArray 5)) (Nat.le_refl _) (by have:=wK.out; simp; omega) eU);clear aS eU fE dB kf gv;generalize w3=ws at *;go_wp2_with fail
         go_fit (Yp (p * 4096) 4 4 ws (by omega) (by omega) (by decide))
         rintro e w4 ⟨rfl,bP⟩;have fK:=Zg (iL.out.below bP);have wL:=Zg (aM.out.trans (bP.mono aM.out.size));have bV:=Zg (eH.out.below (aM.out.trans (bP.mono aM.out.size)));have lW:=Zg (show W0.heap.size<=w4.heap.size from Nat.le_trans cp.out.size (aM.out.trans (bP.mono aM.out.size)).size);have fY:=Zg (cp.out.trans ((aM.out.trans (bP.mono aM.out.size)).mono cp.out.size));clear bP;go_wp2_with (at_builtin; refine ZF rfl (.tmp 94) (.tmp 98) 9 rfl W0.heap.size _ bs rfl bV.out _ rfl (le4 (p * 4096)) (Wd (XB _) 0 4) (by rw[ZP]; omega) lW.out ?_; intro A5 aG w5 ag aI aD)
         have wM:=Zg (show ∀ k,(Value.slice A5 (bs.length+(le4 (p * 4096)).length) aG).ownBlock=some k-> ∀ k',(Value.slice A3 row2.length qw).ownBlock=some k'->k≠k' from fun k hk k' gH=>by
          have h2:=fK.out.lt k' gH;rcases aD with h|h
          ·have h3:=eH.out.lt k (h ▸ hk);omega
          ·rw[h] at hk;injection hk with hk;omega)
         have ju:=Zg (fK.out.grown aI (fun k' gH h=>by
          have h2:=fK.out.lt k' gH;have h3:=eH.out.lt k' h;omega))
         have cx:=Zg ag;have gR:=Zg (bV.out.grew fY.out (Nat.le_refl _) lW.out aI);clear ag aI aD fK bV fY;go_wp2_with fail
         go_fit (Yp (8+(row2.length:Int)) 4 4 w5 (by omega) (by omega) (by decide))
         rintro e w6 ⟨rfl,cF⟩;have wN:=Zg (ju.out.below cF);have dk:=Zg (cx.out.below cF);have qv:=Zg (gR.out.trans (cF.mono gR.out.size));have jo:=Zg (qv.out.size);clear cF ju cx gR;go_wp2_with (first|(at_builtin; refine ZF rfl (.tmp 99) (.tmp 104) 9 rfl W0.heap.size _ (bs++le4 (p * 4096)) (by simp[Act.eval,Act.put]) dk.out _ rfl (le4 (8+(row2.length:Int))) (Wd (XB _) 0 4) (by rw[List.length_append,ZP,ZP]; omega) jo.out ?_; intro A7 wQ w7 dq iN mY)|(at_builtin; refine ZF rfl (.tmp 105) (.tmp 106) 25 rfl W0.heap.size _ (bs++le4 (p * 4096)++le4 (8+(row2.length:Int))) (by simp[Act.eval,Act.put]) dq _ rfl row2 (JK (wN.out.grown iN (fun k' gH h=>wM.out _ h k' gH rfl))) (by rw[List.length_append,List.length_append,ZP,ZP]; omega) (Nat.le_trans jo.out iN.size) ?_; intro A9 iO w9 dG nW jv))
         have q9:=Zg (dq.grew (dk.out.grew qv.out (Nat.le_refl _) jo.out iN) (Nat.le_refl _) (Nat.le_trans jo.out iN.size) nW);have di:=Zg dG;have HJ:=Zg hj;clear dq iN mY dG nW jv;try go_wp2_with fail
         go_roundw
         case rel=>exact⟨j,F,bs++le4 (p * 4096)++le4 (8+(row2.length:Int))++row2,A9,iO,HJ.out,by omega,by have:=mX.out; simp only[List.length_append,ZP] at this ⊢; omega,rfl,by simp only[List.length_append,ZP],by have:=di.out; simp only[List.length_append,ZP] at this ⊢; exact this,q9.out,by rw[<-js.out]; simp[QH,List.append_assoc]⟩
         case measure=>simp[intOf]; omega
      ·have qt:=Zg (Zee p (l.drop k) (j - k) (by simp; omega) (fun q h hq=>by have:=F1.out (k+q) (by simp at h; omega) (by omega) (by omega); simpa using this) (fun h=>by simp at h; omega));have F2:=Zg (show k<j by omega);have bG:=qt.out;have ku:=nQ.out;rw[bG,show k+(j - k)=j by omega,<-lJ.out] at ku;have js:=Zg ku;have tP:k<j:=F2.out;clear bG ku nQ qt;have wK:=Zg gv.out.size;have nH:=Zg cp.out.size;have qu:=nY.out;by_cases wR:row.length % 4=0
       ·have iK:pad row=row:=by unfold pad; rw[if_neg (by omega)]
        rw[iK] at js;have jE:((row.length:Int) % 4 != 0)=false:=by simp; omega
        have iL:=kf;have aM:=gv;have gp:row.length<=122:=by omega
        have iM:8+row.length<=12 * (j - k):=by omega
        have mX:=Zg iM;clear iK kf gv wR qu iM;go_wp2_with fail
        generalize wr=ws at *;go_wp2_with fail
        go_fit (Yp (p * 4096) 4 4 ws (by omega) (by omega) (by decide))
        rintro e w4 ⟨rfl,bP⟩;have fK:=Zg (iL.out.below bP);have wL:=Zg (aM.out.trans (bP.mono aM.out.size));have bV:=Zg (eH.out.below (aM.out.trans (bP.mono aM.out.size)));have lW:=Zg (show W0.heap.size<=w4.heap.size from Nat.le_trans cp.out.size (aM.out.trans (bP.mono aM.out.size)).size);have fY:=Zg (cp.out.trans ((aM.out.trans (bP.mono aM.out.size)).mono cp.out.size));clear bP;go_wp2_with (at_builtin; refine ZF rfl (.tmp 94) (.tmp 98) 9 rfl W0.heap.size _ bs rfl bV.out _ rfl (le4 (p * 4096)) (Wd (XB _) 0 4) (by rw[ZP]; omega) lW.out ?_; intro A5 aG w5 ag aI aD)
        have wM:=Zg (show ∀ k,(Value.slice A5 (bs.length+(le4 (p * 4096)).length) aG).ownBlock=some k-> ∀ k',(Value.slice A' row.length aA).ownBlock=some k'->k≠k' from fun k hk k' gH=>by
         have h2:=fK.out.lt k' gH;rcases aD with h|h
         ·have h3:=eH.out.lt k (h ▸ hk);omega
         ·rw[h] at hk;injection hk with hk;omega)
        have ju:=Zg (fK.out.grown aI (fun k' gH h=>by
         have h2:=fK.out.lt k' gH;have h3:=eH.out.lt k' h;omega))
        have cx:=Zg ag;have gR:=Zg (bV.out.grew fY.out (Nat.le_refl _) lW.out aI);clear ag aI aD fK bV fY;go_wp2_with fail
        go_fit (Yp (8+(row.length:Int)) 4 4 w5 (by omega) (by omega) (by decide))
        rintro e w6 ⟨rfl,cF⟩;have wN:=Zg (ju.out.below cF);have dk:=Zg (cx.out.below cF);have qv:=Zg (gR.out.trans (cF.mono gR.out.size));have jo:=Zg (qv.out.size);clear cF ju cx gR;go_wp2_with (first|(at_builtin; refine ZF rfl (.tmp 99) (.tmp 104) 9 rfl W0.heap.size _ (bs++le4 (p * 4096)) (by simp[Act.eval,Act.put]) dk.out _ rfl (le4 (8+(row.length:Int))) (Wd (XB _) 0 4) (by rw[List.length_append,ZP,ZP]; omega) jo.out ?_; intro A7 wQ w7 dq iN mY)|(at_builtin; refine ZF rfl (.tmp 105) (.tmp 106) 25 rfl W0.heap.size _ (bs++le4 (p * 4096)++le4 (8+(row.length:Int))) (by simp[Act.eval,Act.put]) dq _ rfl row (JK (wN.out.grown iN (fun k' gH h=>wM.out _ h k' gH rfl))) (by rw[List.length_append,List.length_append,ZP,ZP]; omega) (Nat.le_trans jo.out iN.size) ?_; intro A9 iO w9 dG nW jv))
        have q9:=Zg (dq.grew (dk.out.grew qv.out (Nat.le_refl _) jo.out iN) (Nat.le_refl _) (Nat.le_trans jo.out iN.size) nW);have di:=Zg dG;have HJ:=Zg hj;clear dq iN mY dG nW jv;try go_wp2_with fail
        go_roundw
        case rel=>exact⟨j,F,bs++le4 (p * 4096)++le4 (8+(row.length:Int))++row,A9,iO,HJ.out,by omega,by have:=mX.out; simp only[List.length_append,ZP] at this ⊢; omega,rfl,by simp only[List.length_append,ZP],by have:=di.out; simp only[List.length_append,ZP] at this ⊢; exact this,q9.out,by rw[<-js.out]; simp[QH,List.append_assoc]⟩
        case measure=>simp[intOf]; omega
       ·have iK:pad row=row++[0,0]:=by unfold pad; rw[if_pos wR]
        rw[iK] at js;have jE:((row.length:Int) % 4 != 0)=true:=by simp; omega
        have iM:8+(row++[0,0]).length<=12 * (j - k):=by rw[List.length_append]; simp; omega
        have mX:=Zg iM;have dB:=Zg (kf.out.alloc (.cells (([0,0]:List Int).map (Value.int .u8)).toArray 5));have gp:(row++[0,0]).length<=122:=by rw[List.length_append]; simp; omega
        have iq:row.length+([0,0]:List Int).length=(row++[0,0]).length:=by rw[List.length_append]
        clear iK wR qu iM;go_wp2_with (at_builtin; refine ZF rfl (.tmp 91) (.tmp 92) 25 rfl wo.heap.size _ row rfl dB.out _ rfl [0,0] (Zd4 wr [0,0] 2) (by simp; omega) (by have:=wK.out; simp; omega) ?_; intro A3 qw w3 aS eU fE; simp only[iq] at aS ⊢; clear iq; generalize row++[0,0]=row2 at *)
        have iL:=Zg aS;have aM:=Zg (dB.out.grew (gv.out.alloc wK.out (.cells (([0,0]:List Int).map (Value.int .u8)).toArray 5)) (Nat.le_refl _) (by have:=wK.out; simp; omega) eU);clear aS eU fE dB kf gv;generalize w3=ws at *;go_wp2_with fail
        go_fit (Yp (p * 4096) 4 4 ws (by omega) (by omega) (by decide))
        rintro e w4 ⟨rfl,bP⟩;have fK:=Zg (iL.out.below bP);have wL:=Zg (aM.out.trans (bP.mono aM.out.size));have bV:=Zg (eH.out.below (aM.out.trans (bP.mono aM.out.size)));have lW:=Zg (show W0.heap.size<=w4.heap.size from Nat.le_trans cp.out.size (aM.out.trans (bP.mono aM.out.size)).size);have fY:=Zg (cp.out.trans ((aM.out.trans (bP.mono aM.out.size)).mono cp.out.size));clear bP;go_wp2_with (at_builtin; refine ZF rfl (.tmp 94) (.tmp 98) 9 rfl W0.heap.size _ bs rfl bV.out _ rfl (le4 (p * 4096)) (Wd (XB _) 0 4) (by rw[ZP]; omega) lW.out ?_; intro A5 aG w5 ag aI aD)
        have wM:=Zg (show ∀ k,(Value.slice A5 (bs.length+(le4 (p * 4096)).length) aG).ownBlock=some k-> ∀ k',(Value.slice A3 row2.length qw).ownBlock=some k'->k≠k' from fun k hk k' gH=>by
         have h2:=fK.out.lt k' gH;rcases aD with h|h
         ·have h3:=eH.out.lt k (h ▸ hk);omega
         ·rw[h] at hk;injection hk with hk;omega)
        have ju:=Zg (fK.out.grown aI (fun k' gH h=>by
         have h2:=fK.out.lt k' gH;have h3:=eH.out.lt k' h;omega))
        have cx:=Zg ag;have gR:=Zg (bV.out.grew fY.out (Nat.le_refl _) lW.out aI);clear ag aI aD fK bV fY;go_wp2_with fail
        go_fit (Yp (8+(row2.length:Int)) 4 4 w5 (by omega) (by omega) (by decide))
        rintro e w6 ⟨rfl,cF⟩;have wN:=Zg (ju.out.below cF);have dk:=Zg (cx.out.below cF);have qv:=Zg (gR.out.trans (cF.mono gR.out.size));have jo:=Zg (qv.out.size);clear cF ju cx gR;go_wp2_with (first|(at_builtin; refine ZF rfl (.tmp 99) (.tmp 104) 9 rfl W0.heap.size _ (bs++le4 (p * 4096)) (by simp[Act.eval,Act.put]) dk.out _ rfl (le4 (8+(row2.length:Int))) (Wd (XB _) 0 4) (by rw[List.length_append,ZP,ZP]; omega) jo.out ?_; intro A7 wQ w7 dq iN mY)|(at_builtin; refine ZF rfl (.tmp 105) (.tmp 106) 25 rfl W0.heap.size _ (bs++le4 (p * 4096)++le4 (8+(row2.length:Int))) (by simp[Act.eval,Act.put]) dq _ rfl row2 (JK (wN.out.grown iN (fun k' gH h=>wM.out _ h k' gH rfl))) (by rw[List.length_append,List.length_append,ZP,ZP]; omega) (Nat.le_trans jo.out iN.size) ?_; intro A9 iO w9 dG nW jv))
        have q9:=Zg (dq.grew (dk.out.grew qv.out (Nat.le_refl _) jo.out iN) (Nat.le_refl _) (Nat.le_trans jo.out iN.size) nW);have di:=Zg dG;have HJ:=Zg hj;clear dq iN mY dG nW jv;try go_wp2_with fail
        go_roundw
        case rel=>exact⟨j,F,bs++le4 (p * 4096)++le4 (8+(row2.length:Int))++row2,A9,iO,HJ.out,by omega,by have:=mX.out; simp only[List.length_append,ZP] at this ⊢; omega,rfl,by simp only[List.length_append,ZP],by have:=di.out; simp only[List.length_append,ZP] at this ⊢; exact this,q9.out,by rw[<-js.out]; simp[QH,List.append_assoc]⟩
        case measure=>simp[intOf]; omega
    ·obtain rfl:k=l.length:=by omega
     have aW:=fX.out;unfold Ug at aW;rw[List.getElem?_eq_none (Nat.le_refl _)] at aW;simp only[List.append_nil] at aW;have js:=Zg aW;have NU:=Zg (HW.out.below cp.out);have fp:=Zg (show w.heap.size+1+1<=wo.heap.size by have:=cp.out.size; have:=F0.out; omega);have gY:=Zg (HT.out.below cp.out (by have:=F0.out; omega));have NV:=Zg (HB.out.trans (cp.out.mono (by have:=F0.out; omega)));have iT:(UO i).length+bs.length=i+bs.length:=by rw[QI]
     clear aW fX af;go_wp2_with (at_builtin; refine ZF rfl (.tmp 109) (.tmp 110) 25 rfl w.heap.size (.slice (some ⟨w.heap.size+1,0,none⟩) i i) (UO i) rfl NU.out _ rfl bs (JK eH.out) (by rw[QI]; omega) (by have:=fp.out; omega) ?_; intro A9 iO w9 dG nW jv; simp only[iT] at dG jv ⊢; clear iT; have ya:=gY.out.grown nW (by simp[Value.ownBlock]); have o0:=ya.cell (i:=0) (by omega); have o1:=ya.cell (i:=1) (by omega); have z0:=ya.frozen (i:=0) (by omega); have z1:=ya.frozen (i:=1) (by omega); simp only[if_pos,if_neg,Nat.one_ne_zero] at o0 o1; have NW:=Zg ya; clear ya)
     have bK: ∀ k,(Value.slice A9 (i+bs.length) iO).ownBlock=some k->w.heap.size≠k:=fun k hk=>by
      rcases jv with h|h
      ·rw[h] at hk; injection hk with hk; rw[<-hk]; simp
      ·rw[h] at hk; injection hk with hk; have:=fp.out; omega
     have hX:=((NW.out.set (i:=0) (by omega) (.int .i64 i)).set (i:=1) (by omega) (.int .i64 bs.length));have c0:=hX.cell (i:=0) (by omega);have c1:=hX.cell (i:=1) (by omega);simp only[if_pos,if_neg,Nat.one_ne_zero,Nat.zero_ne_one,if_true,if_false] at c0 c1;have pV:=Zg (NV.out.grown nW (by have:=fp.out; omega) (fun k hk=>by injection hk with hk; subst hk; simp));have wP:=(dG.of_block (w':=(w9.setCell ⟨w.heap.size,0,none⟩ (.int .i64 i)).setCell ⟨w.heap.size,1,none⟩ (.int .i64 bs.length)) (fun k hk=>by
      rw[Below.heap_setCell _ _ _ _ (Ne.symm (bK k hk)),Below.heap_setCell _ _ _ _ (Ne.symm (bK k hk))]))
     try go_wp2
     exact bodyPost_ret (v:= .tuple #[.slice A9 (i+bs.length) iO,.agg #[.int .i64 i,.int .i64 bs.length]]) (by simp[results,Tryz.results29,go_sem,c0,c1]) rfl ⟨A9,iO,by rw[vv.out,<-js.out],by rw[vv.out,<-js.out]; exact wP,(pV.out.setCell (by simp) _).setCell (by simp) _⟩
def Far (l:List YQ):Prop:=l.Pairwise fun x y=>x.2+ZK x.1<=y.2\/y.2+ZK y.1<=x.2
def Kinds (n:Nat) (l:List YQ):Prop:= ∀ x∈l,(x.1=3\/x.1=10)/\0<=x.2/\x.2+ZK x.1<=n
def numOf (x:YQ):Int:=x.1 % 16 * 4096+x.2 % 4096
def enc (v:Int):List Int:=[v % 256,v / 256]
theorem Zeg: ∀(vs:List Int),(vs.flatMap enc).length=2 * vs.length
 | []=>rfl
 | v::vs=>by rw[List.flatMap_cons,List.length_append,Zeg vs,List.length_cons]; simp[enc]; omega
theorem Zka (xs:List YQ):xs.flatMap ent=(xs.map numOf).flatMap enc:=by
 rw[List.flatMap_map];rfl
def vsOf (xs:List YQ):List Int:=xs.map numOf++(if xs.length % 2=1 then[0] else[])
theorem Zop (xs:List YQ):pad (xs.flatMap ent)=(vsOf xs).flatMap enc:=by
 have hl:(xs.flatMap ent).length=2 * xs.length:=by rw[Zka,Zeg,List.length_map]
 unfold pad vsOf;rw[List.flatMap_append,hl,Zka];by_cases h:xs.length % 2=1
 ·rw[if_pos (by omega),if_pos h]; rfl
 ·rw[if_neg (by omega),if_neg h]; simp
theorem Zmi (xs:List YQ):2 * (vsOf xs).length % 4=0/\(vsOf xs).length<=xs.length+1:=by
 unfold vsOf;rw[List.length_append,List.length_map];split <;> simp <;> omega
theorem Zcv (p:Int): ∀(l:List YQ),Zf3 p l<=l.length/\ ∀ x∈l.take (Zf3 p l),x.2 / 4096=p
 | []=>⟨Nat.le_refl _,fun x h=>by simp[Zf3] at h⟩
 | y::l=>by
   have ih:=Zcv p l;unfold Zf3;by_cases h:y.2 / 4096=p
   ·rw[if_pos h];refine⟨by simp; omega,fun x hx=> ?_⟩;rw[List.take_succ_cons,List.mem_cons] at hx;rcases hx with rfl|hx
    ·exact h
    ·exact ih.2 x hx
   ·rw[if_neg h];exact⟨by omega,fun x hx=>by simp at hx⟩
theorem Zmj {p:Int} {x:YQ} {l:List YQ} (h:x.2 / 4096=p):1<=Zf3 p (x::l):=by
 unfold Zf3;rw[if_pos h];omega
end Go.Proofs.YtplgdpjbkdagfaaGreat
