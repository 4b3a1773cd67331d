import Derived.Test.YtplgdpjbkdagfaaGreatZFold
import Derived.Test.YtplgdpjbkdagfaaGreatZFoldSplit
import Derived.Lib.ItoaNum
import Derived.BigRegion
import Derived.ChangeAlike
namespace Go.Proofs.YtplgdpjbkdagfaaGreat
set_option maxHeartbeats 8000000
open Lib renaming hid→Zg
set_option maxRecDepth 100000
open Go.ChangeShapes Go.WideShapes Go.ChangeAt Go.RowKit
set_option linter.unusedVariables false
set_option linter.unusedSimpArgs false
def YW (f:Nat->Int):Nat->Int
 | 0=>0
 | i+1=>YW f i * 10+(f i - 48)
theorem WX {f g:Nat->Int}: ∀(k:Nat),(∀ i,i<k->f i=g i)->YW f k=YW g k
 | 0,_=>rfl
 | k+1,h=>by unfold YW; rw[WX k (fun i hi=>h i (by omega)),h k (by omega)]
theorem Zhx {f:Nat->Int} {k:Nat} (h: ∀ i,i<k->48<=f i/\f i<=57) (hk:k<=5):0<=YW f k/\YW f k<100000:=by
 have h':=fun i (hi:i<k)=>h i hi;have a0:=fun hi=>h' 0 hi;have a1:=fun hi=>h' 1 hi;have a2:=fun hi=>h' 2 hi;have a3:=fun hi=>h' 3 hi;have a4:=fun hi=>h' 4 hi;rcases(by omega:k=0\/k=1\/k=2\/k=3\/k=4\/k=5) with rfl|rfl|rfl|rfl|rfl|rfl <;> simp only[YW] <;> omega
def Qh (n:Nat):ByteArray:=⟨(Lib.decDigits n).toArray⟩
def Zhy (k:Nat):ByteArray:=⟨#[UInt8.ofNat (48+k)]⟩
theorem Znp {k:Nat} (h:k<10):PlainAid.bt (Zhy k) 0=48+k:=by
 have: ∀ k:Fin 10,PlainAid.bt (Zhy k.val) 0=48+k.val:=by decide
 exact this ⟨k,h⟩
theorem Zk2 {k:Nat} (h:k<10):(⟨#[48,49,50,51,52,53,54,55,56,57]⟩:ByteArray).extract k (k+1)=Zhy k:=by
 have: ∀ k:Fin 10,(⟨#[48,49,50,51,52,53,54,55,56,57]⟩:ByteArray).extract k.val (k.val+1)=Zhy k.val:=by decide
 exact this ⟨k,h⟩
theorem WY {n:Nat} (h:n<10):Qh n=Zhy n:=by unfold Qh Zhy; rw[Lib.decDigits_one h]
theorem Zaa {n:Nat} (h: ¬ n<10):Qh n=Qh (n / 10)++Zhy (n % 10):=by
 unfold Qh Zhy;conv=>lhs; rw[Lib.decDigits,dif_neg h]
 apply ByteArray.ext;rw[cat_data];simp
theorem Jp (n:Nat):(Qh n).size=Lib.nDigits n:=by
 show(Lib.decDigits n).toArray.size=_
 rw[List.size_toArray,Lib.decDigits_length]
theorem Zk3 (n:Nat):1<=(Qh n).size:=by rw[Jp]; exact Lib.nDigits_pos n
theorem Zhz {n:Nat} (h:1<=n):PlainAid.bt (Qh n) 0≠48:=by
 induction n using Nat.strongRecOn with
 | _ n ih =>
   by_cases c:n<10
   ·rw[WY c,Znp c]; omega
   ·rw[Zaa c,bt_cat,if_pos (show 0<(Qh (n / 10)).size from Zk3 _)];exact ih (n / 10) (by omega) (by omega)
theorem Zbk {n:Nat} (h:n<100000):(Qh n).size<=5:=by
 rw[Jp];rcases(by omega:n<10\/(10<=n/\n<100)\/(100<=n/\n<1000)\/(1000<=n/\n<10000)\/(10000<=n/\n<100000)) with h|⟨a,b⟩|⟨a,b⟩|⟨a,b⟩|⟨a,b⟩
 ·rw[Lib.nDigits_small h]; omega
 ·rw[Lib.nDigits_unique 1 n (by omega) (by omega)]; omega
 ·rw[Lib.nDigits_unique 2 n (by omega) (by omega)]; omega
 ·rw[Lib.nDigits_unique 3 n (by omega) (by omega)]; omega
 ·rw[Lib.nDigits_unique 4 n (by omega) (by omega)]; omega
theorem Zk4 {n:Nat} (h:100000<=n) (h2:n<1000000):(Qh n).size=6:=by
 rw[Jp,Lib.nDigits_unique 5 n (by omega) (by omega)]
theorem Zk5 {n:Nat} (h:n<1000000):(Qh n).size<=6:=by
 by_cases c:n<100000
 ·have:=Zbk c; omega
 ·rw[Zk4 (by omega) h]; omega
theorem Zgb (n:Nat) (w:World) (hn:n<1000000) :
 Calls Tryz.prog 128 #[.int .i64 n] w fun e w'=>e= .returned (.string (Qh n))/\Below w.heap.size w w':=by
 go_enter Tryz.func128,Tryz.ntmps128;go_wp2_with fail
 go_loopw [0,3] (fun v0 v3 wr=> ∃(m:Nat) (T:ByteArray),v0= .int .i64 m/\v3= .string T/\m<=n/\Qh n=Qh m++T/\T.size<=6/\Below w.heap.size w wr) (fun v0 _ _=>(intOf v0).toNat)
 case atStart=>exact⟨n,ByteArray.empty,rfl,rfl,Nat.le_refl _,by apply ByteArray.ext; simp[cat_data],by simp,Below.refl _ _⟩
 case round =>
  obtain⟨m,T,rfl,rfl,hm,hT,hz,hb⟩:=hrel;have HT:=Zg hT;have HB:=Zg hb;clear hT hb;have hr:(m:Int).tmod 10=((m % 10:Nat):Int):=by rw[Int.tmod_eq_emod_of_nonneg (by omega)]; omega
  have hd:(m:Int).tdiv 10=((m / 10:Nat):Int):=by rw[Int.tdiv_eq_ediv_of_nonneg (by omega)]; omega
  have HN:=Zg (fun(c: ¬ m<10)=>Zaa c);have HS:=Zg (fun(c:m<10)=>WY c);have KS:m / 10<=m:=by omega
  obtain⟨k,hk⟩: ∃ k,m % 10=k:=⟨_,rfl⟩;have KT:k<10:=by omega
  have KU:=Zg (fun(c:m<10)=>show m=k by omega);rw[hk] at hr HN;have HC:=Zg (Zk2 KT);have k0:(0:Int)<=(k:Int):=by omega
  have k1:(k:Int)<=(k:Int)+1:=by omega
  have k2:(k:Int)+1<=10:=by omega
  have k3:IntKind.i64.wrap ((k:Int)+1)=(k:Int)+1:=IntWalk.i64_in _ ⟨by omega,by omega⟩;have k4:(k:Int).toNat=k:=by omega
  have k5:((k:Int)+1).toNat=k+1:=by omega
  have aT:(ByteArray.mk #[48,49,50,51,52,53,54,55,56,57]).size=10:=rfl;clear hk;have HW:=Zg hm;have BA:(m:Int)<1000000:=by omega
  clear hm;by_cases h:9<(m:Int)
  ·go_wp2_with fail
   go_roundw
   case rel =>
    have e:=HN.out (by omega);refine⟨m / 10,Zhy k++T,by go_num,by rw[HC.out],Nat.le_trans KS HW.out,?_,?_,HB.out⟩
    ·rw[HT.out,e,ByteArray.append_assoc]
    ·have h1:(Qh n).size<=6:=Zk5 hn;rw[HT.out,e,ByteArray.size_append,ByteArray.size_append] at h1;rw[ByteArray.size_append]; omega
   case measure=>simp[intOf]; omega
  ·go_wp2_with fail
   go_ret;refine⟨?_,HB.out⟩;have c:m<10:=by omega
   show Ending.returned (.string (ByteArray.extract ⟨#[48,49,50,51,52,53,54,55,56,57]⟩ k (k+1)++T))=_
   rw[HC.out,HT.out,HS.out c,KU.out c]
structure Zde (D:ByteArray):Prop where
 pos:1<=D.size
 five:D.size<=5
 lead:PlainAid.bt D 0=48->D.size=1
 dig: ∀ i,i<D.size->48<=PlainAid.bt D i/\PlainAid.bt D i<=57
 num:YW (PlainAid.bt D) D.size<=65535
theorem Zdf (D:ByteArray) (w:World) (h:Zde D) :
 Calls Tryz.prog 127 #[.string D] w fun e w'=>e= .returned (.tuple #[.int .i64 (YW (PlainAid.bt D) D.size),.bool true])/\w=w':=by
 obtain⟨h1,h2,h3,h4,h5⟩:=h;have gb:=PlainAid.get_bt D;have HV:=Zg (fun k (hk:k<=D.size)=>Zhx (f:=PlainAid.bt D) (k:=k) (fun i hi=>h4 i (by omega)) (by omega));have H4:=Zg h4;have H5:=Zg h5;have d1: ¬ (D.size:Int)<1:=by omega
 have d2: ¬ (5:Int)<D.size:=by omega
 have hp:(0:Nat)<D.size:=by omega
 have hc:(PlainAid.bt D 0=48/\ ¬ (1:Int)<D.size)\/ ¬ PlainAid.bt D 0=48:=by
  by_cases c:PlainAid.bt D 0=48
  ·have:=h3 c; exact .inl ⟨c,by omega⟩
  ·exact .inr c
 clear h3 h4 h5;go_enter Tryz.func127,Tryz.ntmps127;rcases hc with⟨fF,ij⟩|fF;all_goals
  go_wp2_with fail
  go_loop [4,26] (fun v4 v26=> ∃ k:Nat,k<=D.size/\v26= .int .i64 k/\v4= .int .i64 (YW (PlainAid.bt D) k)) (fun _ v26=>D.size - (intOf v26).toNat)
  case atStart=>exact⟨0,by omega,rfl,rfl⟩
  case round =>
   obtain⟨k,hk,rfl,rfl⟩:=hrel;have hb:=HV.out k hk;by_cases af:k<D.size
   ·have hf:=H4.out k af;have hn:YW (PlainAid.bt D) (k+1)=YW (PlainAid.bt D) k * 10+(PlainAid.bt D k - 48):=rfl;have HN:=Zg hn;clear hn;generalize YW (PlainAid.bt D) k=V at *;obtain⟨bO,az⟩:=hb;obtain⟨ik,il⟩:=hf;go_wp2_with (go_at_call 140; refine(Wu _ _).mono ?_; rintro e w' ⟨rfl,rfl⟩)
    all_goals
     go_round
     case rel=>exact⟨k+1,by omega,by go_num,by rw[HN.out]⟩
     case measure=>simp[intOf]; omega
   ·obtain rfl:k=D.size:=by omega
    have h5:=H5.out;obtain⟨V,hV⟩: ∃ V,YW (PlainAid.bt D) D.size=V:=⟨_,rfl⟩;rw[hV] at h5 hb ⊢;have KV:=Zg hV;clear hV;obtain⟨bO,az⟩:=hb;go_wp2
    go_ret2;refine⟨?_,rfl⟩;rw[KV.out];rfl
theorem Zgc (D:ByteArray) (w:World) (hs:D.size<=140737488355400) (h: ¬ Zde D) :
 Calls Tryz.prog 127 #[.string D] w fun e w'=>e= .returned (.tuple #[.int .i64 0,.bool false])/\w=w':=by
 have gb:=PlainAid.get_bt D;by_cases h1:D.size<1
 ·have d1:(D.size:Int)<1:=by omega
  go_enter Tryz.func127,Tryz.ntmps127;clear h;go_wp2
  go_ret2;exact⟨rfl,rfl⟩
 have d1: ¬ (D.size:Int)<1:=by omega
 by_cases h2:5<D.size
 ·have d2:(5:Int)<D.size:=by omega
  go_enter Tryz.func127,Tryz.ntmps127;clear h h1 h2;go_wp2
  go_ret2;exact⟨rfl,rfl⟩
 have d2: ¬ (5:Int)<D.size:=by omega
 have hp:(0:Nat)<D.size:=by omega
 by_cases h3:PlainAid.bt D 0=48/\1<D.size
 ·obtain⟨h3,h4⟩:=h3;have d3:(1:Int)<D.size:=by omega
  go_enter Tryz.func127,Tryz.ntmps127;clear h h1 h2;go_wp2
  go_ret2;exact⟨rfl,rfl⟩
 have hc:(PlainAid.bt D 0=48/\ ¬ (1:Int)<D.size)\/ ¬ PlainAid.bt D 0=48:=by
  by_cases c:PlainAid.bt D 0=48
  ·exact .inl ⟨c,fun k=>h3 ⟨c,by omega⟩⟩
  ·exact .inr c
 have H:=Zg (show(∀ i,i<D.size->48<=PlainAid.bt D i/\PlainAid.bt D i<=57)->65535<YW (PlainAid.bt D) D.size from fun hd=>by
  apply Classical.byContradiction;intro hn;exact h ⟨by omega,by omega,fun c=>Classical.byContradiction fun k=>h3 ⟨c,by omega⟩,hd,by omega⟩)
 have OT:D.size<=5:=by omega
 clear h h1 h2 h3;go_enter Tryz.func127,Tryz.ntmps127;rcases hc with⟨fF,ij⟩|fF;all_goals
  go_wp2_with fail
  go_loop [4,26] (fun v4 v26=> ∃ k:Nat,k<=D.size/\v26= .int .i64 k/\v4= .int .i64 (YW (PlainAid.bt D) k)/\ ∀ i,i<k->48<=PlainAid.bt D i/\PlainAid.bt D i<=57) (fun _ v26=>D.size - (intOf v26).toNat)
  case atStart=>exact⟨0,by omega,rfl,rfl,fun i hi=>by omega⟩
  case round =>
   obtain⟨k,hk,rfl,rfl,hd⟩:=hrel;have hb:=Zhx (f:=PlainAid.bt D) (k:=k) hd (by omega);have HD:=Zg hd;clear hd;by_cases af:k<D.size
   ·by_cases hf:48<=PlainAid.bt D k/\PlainAid.bt D k<=57
    ·have kz:=Zg (show ∀ i,i<k+1->48<=PlainAid.bt D i/\PlainAid.bt D i<=57 from fun i hi=>by
      by_cases e:i=k
      ·subst e; exact hf
      ·exact HD.out i (by omega))
     have hn:YW (PlainAid.bt D) (k+1)=YW (PlainAid.bt D) k * 10+(PlainAid.bt D k - 48):=rfl;have HN:=Zg hn;clear hn;generalize YW (PlainAid.bt D) k=V at *;obtain⟨bO,az⟩:=hb;obtain⟨ik,il⟩:=hf;go_wp2_with (go_at_call 140; refine(Wu _ _).mono ?_; rintro e w' ⟨rfl,rfl⟩)
     all_goals
      go_round
      case rel=>exact⟨k+1,by omega,by go_num,by rw[HN.out],kz.out⟩
      case measure=>simp[intOf]; omega
    ·have xq:decide (48<=PlainAid.bt D k/\PlainAid.bt D k<=57)=false:=decide_eq_false hf;clear hf;go_wp2_with (go_at_call 140; refine(Wu _ _).mono ?_; rintro e w' ⟨rfl,rfl⟩; rw[xq]; clear xq)
     all_goals
      go_ret2;exact⟨rfl,rfl⟩
   ·obtain rfl:k=D.size:=by omega
    have h5:=H.out HD.out;obtain⟨V,hV⟩: ∃ V,YW (PlainAid.bt D) D.size=V:=⟨_,rfl⟩;rw[hV] at h5 hb ⊢;clear hV;obtain⟨bO,az⟩:=hb;go_wp2
    go_ret2;exact⟨rfl,rfl⟩
def Wx:ByteArray:=⟨#[35]⟩
theorem Zh0 (D:ByteArray):PlainAid.bt (Wx++D) 0=35:=by
 rw[bt_cat,if_pos (show 0<Wx.size by decide)]; decide
theorem Jq (D:ByteArray):(Wx++D).size=D.size+1:=by
 rw[ByteArray.size_append,show Wx.size=1 from rfl]; omega
theorem Zh1 (D:ByteArray) (w:World):Calls Tryz.prog 126 #[.string (Wx++D),.string ⟨#[35]⟩] w fun e w'=>e= .returned (.tuple #[.string D,.bool true])/\w=w':=by
 have hl:(Wx++D).data.toList=35::D.data.toList:=by rw[cat_data]; simp[Wx]
 refine(Tryz.strings_CutPrefix (Wx++D) ⟨#[35]⟩ w).mono fun e w' ⟨h1,h2⟩=>⟨?_,h2.symm⟩;rw[h1];show Ending.returned (.tuple #[.string ⟨(Lib.trimPrefix (Wx++D).data.toList [35]).toArray⟩,.bool (Lib.hasPrefix (Wx++D).data.toList [35])])=_
 rw[hl];have hp:Lib.hasPrefix (35::D.data.toList) [35]=true:=by simp[Lib.hasPrefix,List.isPrefixOf]
 unfold Lib.trimPrefix;rw[hp];simp
theorem Zgd (D:ByteArray) (w:World) (h:Zde D) :
 Calls Tryz.prog 89 #[.string (Wx++D)] w fun e w'=>e= .returned (.tuple #[.agg #[.string ByteArray.empty,.int .i64 (YW (PlainAid.bt D) D.size),.bool true],.bool true])/\Below w.heap.size w w':=by
 have hs:(Wx++D).size<=9223372036854775807:=by have:=h.five; rw[Jq]; omega
 have hn: ¬ Um (Wx++D):=fun k=>k.2.2.1 (Zh0 D);have H:=Zg h;clear h;go_enter Tryz.func89,Tryz.ntmps89;go_wp2_with fail
 refine(UZ _ _ hs hn).mono ?_;rintro e w' ⟨rfl,rfl⟩;go_wp2_with fail
 refine(Zh1 D _).mono ?_;rintro e w' ⟨rfl,rfl⟩;go_wp2_with fail
 refine(Zdf D _ H.out).mono ?_;rintro e w' ⟨rfl,rfl⟩;go_wp2
 exact bodyPost_ret (v:= .tuple #[.agg #[.string ByteArray.empty,.int .i64 (YW (PlainAid.bt D) D.size),.bool true],.bool true]) (by simp[results,Tryz.results89,go_sem]; rfl) rfl ⟨rfl,by go_grown⟩
theorem Zbl (D:ByteArray) (w:World) (hz:D.size<=140737488355300) (h: ¬ Zde D) :
 Calls Tryz.prog 89 #[.string (Wx++D)] w fun e w'=>e= .returned (.tuple #[.agg #[.string ByteArray.empty,.int .i64 0,.bool false],.bool false])/\Below w.heap.size w w':=by
 have hs:(Wx++D).size<=9223372036854775807:=by rw[Jq]; omega
 have hn: ¬ Um (Wx++D):=fun k=>k.2.2.1 (Zh0 D);have H:=Zg h;clear h;go_enter Tryz.func89,Tryz.ntmps89;go_wp2_with fail
 refine(UZ _ _ hs hn).mono ?_;rintro e w' ⟨rfl,rfl⟩;go_wp2_with fail
 refine(Zh1 D _).mono ?_;rintro e w' ⟨rfl,rfl⟩;go_wp2_with fail
 refine(Zgc D _ (by omega) H.out).mono ?_;rintro e w' ⟨rfl,rfl⟩;go_wp2
 exact bodyPost_ret (v:= .tuple #[.agg #[.string ByteArray.empty,.int .i64 0,.bool false],.bool false]) (by simp[results,Tryz.results89,go_sem]; rfl) rfl ⟨rfl,by go_grown⟩
theorem Zbm (T D R:ByteArray) (p:Nat) (w:World) (hs:T.size<=140737488355400) (h:UB T D (Wx++R) p) (hD:WD D) (hR:Zde R) :
 Calls Tryz.prog 35 #[.string T] w fun e w'=>e= .returned (.tuple #[.string D,.agg #[.string ByteArray.empty,.int .i64 (YW (PlainAid.bt R) R.size),.bool true],.bool true])/\Below w.heap.size w w':=by
 obtain⟨hp,h1,h2,rfl,hx⟩:=h;have ck:=Wt T p hp h1 h2;have d0:(0:Int)<=p:=by omega
 have d1: ¬ (p:Int)<0:=by omega
 have d2:(p:Int)<=T.size:=by omega
 have d3:(p:Int)+1<=T.size:=by omega
 have HX:=Zg hx;clear h1 h2 hx;go_enter Tryz.func35,Tryz.ntmps35;go_wp2_with fail
 refine(Vi T _ hs).mono ?_;rintro e w' ⟨rfl,rfl⟩;rw[ck];clear ck;go_wp2_with fail
 refine(Zbf _ _ hD).mono ?_;rintro e w' ⟨rfl,rfl⟩;go_wp2_with fail
 rw[HX.out];refine(Zgd _ _ hR).mono ?_;obtain⟨V,hV⟩: ∃ V,YW (PlainAid.bt R) R.size=V:=⟨_,rfl⟩;rw[hV];have HV:=Zg hV;clear hV HX;rintro e w1 ⟨rfl,az⟩;have HB:=Zg az;have ig:=az.cell (p:=⟨w.heap.size,0,none⟩) (by simp);have fF:=az.cell (p:=⟨w.heap.size,1,none⟩) (by simp);have ij:=az.cell (p:=⟨w.heap.size,2,none⟩) (by simp);have ik:=az.frozen (p:=⟨w.heap.size,0,none⟩) (by simp);have il:=az.frozen (p:=⟨w.heap.size,1,none⟩) (by simp);have kH:=az.frozen (p:=⟨w.heap.size,2,none⟩) (by simp);simp at ig fF ij ik il kH;clear az;go_wp2_with fail
 obtain⟨W,hW⟩: ∃ W,W=((w1.setCell ⟨w.heap.size,0,none⟩ (.string ByteArray.empty)).setCell ⟨w.heap.size,1,none⟩ (.int .i64 V)).setCell ⟨w.heap.size,2,none⟩ (.bool true):=⟨_,rfl⟩;rw[<-hW];have bJ:Below w.heap.size w W:=by
  rw[hW];exact(((((Below.refl w.heap.size w).alloc (Nat.le_refl _) _).trans (HB.out.mono (by simp))).setCell (p:=⟨w.heap.size,0,none⟩) (Nat.le_refl _) _).setCell (p:=⟨w.heap.size,1,none⟩) (Nat.le_refl _) _).setCell (p:=⟨w.heap.size,2,none⟩) (Nat.le_refl _) _
 have k0:W.cell? ⟨w.heap.size,0,none⟩=some (.string ByteArray.empty):=by rw[hW]; simp[ig,go_sem]
 have k1:W.cell? ⟨w.heap.size,1,none⟩=some (.int .i64 V):=by rw[hW]; simp[fF,go_sem]
 have k2:W.cell? ⟨w.heap.size,2,none⟩=some (.bool true):=by rw[hW]; simp[ij,go_sem]
 have g0:W.frozen? ⟨w.heap.size,0,none⟩=false:=by rw[hW]; simp[ik,go_sem]
 have g1:W.frozen? ⟨w.heap.size,1,none⟩=false:=by rw[hW]; simp[il,go_sem]
 have g2:W.frozen? ⟨w.heap.size,2,none⟩=false:=by rw[hW]; simp[kH,go_sem]
 clear ig fF ij ik il kH HB hW;go_region
 go_wp2
 exact bodyPost_ret (v:= .tuple #[.string (T.extract 0 p),.agg #[.string ByteArray.empty,.int .i64 V,.bool true],.bool true]) (by simp[results,Tryz.results35,go_sem,k0,k1,k2]) rfl ⟨by rw[HV.out],by go_grown⟩
theorem Zdg (T D R:ByteArray) (p:Nat) (w:World) (hs:T.size<=140737488355300) (h:UB T D (Wx++R) p) (hD:WD D) (hR: ¬ Zde R) :
 Calls Tryz.prog 35 #[.string T] w fun e w'=>e= .returned (.tuple #[.string ByteArray.empty,.agg #[.string ByteArray.empty,.int .i64 0,.bool false],.bool false])/\Below w.heap.size w w':=by
 obtain⟨hp,h1,h2,rfl,hx⟩:=h;have ck:=Wt T p hp h1 h2;have d0:(0:Int)<=p:=by omega
 have d1: ¬ (p:Int)<0:=by omega
 have d2:(p:Int)<=T.size:=by omega
 have d3:(p:Int)+1<=T.size:=by omega
 have hz:R.size<=140737488355300:=by
  have e:(T.extract (p+1) T.size).size=R.size+1:=by rw[hx,Jq]
  rw[ByteArray.size_extract] at e; omega
 have HX:=Zg hx;clear h1 h2 hx;go_enter Tryz.func35,Tryz.ntmps35;go_wp2_with fail
 refine(Vi T _ (by omega)).mono ?_;rintro e w' ⟨rfl,rfl⟩;rw[ck];clear ck;go_wp2_with fail
 refine(Zbf _ _ hD).mono ?_;rintro e w' ⟨rfl,rfl⟩;go_wp2_with fail
 rw[HX.out];refine(Zbl _ _ hz hR).mono ?_;clear HX;rintro e w1 ⟨rfl,az⟩;have HB:=Zg az;have ig:=az.cell (p:=⟨w.heap.size,0,none⟩) (by simp);have fF:=az.cell (p:=⟨w.heap.size,1,none⟩) (by simp);have ij:=az.cell (p:=⟨w.heap.size,2,none⟩) (by simp);have ik:=az.frozen (p:=⟨w.heap.size,0,none⟩) (by simp);have il:=az.frozen (p:=⟨w.heap.size,1,none⟩) (by simp);have kH:=az.frozen (p:=⟨w.heap.size,2,none⟩) (by simp);simp at ig fF ij ik il kH;clear az;go_upto_region 6 with(fail)
 obtain⟨W,hW⟩: ∃ W,W=((w1.setCell ⟨w.heap.size,0,none⟩ (.string ByteArray.empty)).setCell ⟨w.heap.size,1,none⟩ (.int .i64 0)).setCell ⟨w.heap.size,2,none⟩ (.bool false):=⟨_,rfl⟩;rw[<-hW];have bJ:Below w.heap.size w W:=by
  rw[hW];exact(((((Below.refl w.heap.size w).alloc (Nat.le_refl _) _).trans (HB.out.mono (by simp))).setCell (p:=⟨w.heap.size,0,none⟩) (Nat.le_refl _) _).setCell (p:=⟨w.heap.size,1,none⟩) (Nat.le_refl _) _).setCell (p:=⟨w.heap.size,2,none⟩) (Nat.le_refl _) _
 have k0:W.cell? ⟨w.heap.size,0,none⟩=some (.string ByteArray.empty):=by rw[hW]; simp[ig,go_sem]
 have k1:W.cell? ⟨w.heap.size,1,none⟩=some (.int .i64 0):=by rw[hW]; simp[fF,go_sem]
 have k2:W.cell? ⟨w.heap.size,2,none⟩=some (.bool false):=by rw[hW]; simp[ij,go_sem]
 have g0:W.frozen? ⟨w.heap.size,0,none⟩=false:=by rw[hW]; simp[ik,go_sem]
 have g1:W.frozen? ⟨w.heap.size,1,none⟩=false:=by rw[hW]; simp[il,go_sem]
 have g2:W.frozen? ⟨w.heap.size,2,none⟩=false:=by rw[hW]; simp[kH,go_sem]
 clear ig fF ij ik il kH HB hW;go_wp2
 exact bodyPost_ret (v:= .tuple #[.string ByteArray.empty,.agg #[.string ByteArray.empty,.int .i64 0,.bool false],.bool false]) (by simp[results,Tryz.results35,go_sem,k0,k1,k2]; rfl) rfl ⟨rfl,by go_grown⟩
end Go.Proofs.YtplgdpjbkdagfaaGreat
