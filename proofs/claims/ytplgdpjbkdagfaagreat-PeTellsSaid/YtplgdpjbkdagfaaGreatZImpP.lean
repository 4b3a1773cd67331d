import Derived.Test.YtplgdpjbkdagfaaGreatZImpH
import Derived.Test.YtplgdpjbkdagfaaGreatZRPeX
import Derived.Test.YtplgdpjbkdagfaaGreatZPeN
namespace Go.Proofs.YtplgdpjbkdagfaaGreat
set_option maxHeartbeats 8000000
open List renaming set_cons_zero→Ze, set_cons_succ→Zf
open Lib renaming hid→Zg
open Go.ChangeShapes Go.WideShapes Go.ChangeAt Go.RowKit
set_option linter.unusedVariables false
set_option linter.unusedSimpArgs false
set_option maxRecDepth 100000
theorem Zml (start D n bl dM ll lc g c:Nat) (delay:Bool) (l:List PIm) (b B2:List Nat) (w x0:World) (hD:D=Zfx delay) (hn:n<=18) (jz:n<=l.length) (iY:n<=ll) (gd:b.length<=200000) (aQ:start+D * (n+1)<=b.length)
 (bg:Hid (∀ i x,l[i]? =some x-> ∃ A sc,∀ W,Below w.heap.size w W->W.cell? ⟨bl,dM+i * 2,none⟩=some (.string (txt x.dll))/\W.cell? ⟨bl,dM+i * 2+1,none⟩=some (.slice A x.syms.length sc)/\SymW W A x.syms))
 (l8:Hid (∀ x∈l,(Lb x.dll/\x.dll.length<=100)/\(∀ s∈x.syms,Lb s.1/\s.1.length<=100)/\x.syms.length<=100000))
 (HO:Hid (YG x0 w.heap.size g c b)) (HB:Hid (Below w.heap.size w x0)) (aj:Hid (Zj3 delay start (l.take n) 0 b=B2)) (Q:Exit->Act->World->Prop) (a:Act)
 (ha:Has 175 [0,1,2,7,8,9] [.int .i64 start,.slice (some ⟨bl,dM,none⟩) ll lc,.bool delay,.int .i64 D,.int .i64 n,.slice (some ⟨g,0,none⟩) b.length c] a) (hK: ∀ a' w' g' c',Has 175 [0,1,2,7,8,9] [.int .i64 start,.slice (some ⟨bl,dM,none⟩) ll lc,.bool delay,.int .i64 D,.int .i64 n,.slice (some ⟨g',0,none⟩) B2.length c'] a'->YG w' w.heap.size g' c' B2->Below w.heap.size w w'->Q .normal a' w'):(YF (Yc 5 Xo)).wp Tryz.prog Q a x0:=by
 obtain⟨u,rfl⟩:=Yt ha;simp only[YH,Xi,Zf,Ze];clear ha;have HK:=Zg hK;clear hK;have js:=Zg (fun i g c A sc ss dll b' B' x1 mJ hi gd aQ bg l8 tR dE HO HB aj Q a ha hK=>Zj6 start D bl dM ll lc i g c delay A sc ss dll b' B' (.int .i64 n) w x1 hD mJ hi gd aQ bg l8 tR dE HO HB aj Q a ha hK);rw[Zj7,Zj8];generalize XA=S8 at *;conv=>arg 2; arg 1; whnf
 conv=>arg 2; arg 2; arg 2; arg 1; arg 1; whnf
 conv=>arg 2; arg 2; arg 2; arg 1; arg 2; arg 2; whnf
 have HD:=Zg hD;have AV:D=20\/D=32:=by rw[hD]; unfold Zfx; split <;> omega
 clear hD;go_wp2_with fail
 refine Ji 175 [0,1,2,7,8] (fun k s wr=> ∃(q g c:Nat) (b':List Nat),k=n - q/\q<=n/\s 10= .int .i64 q/\s 9= .slice (some ⟨g,0,none⟩) b'.length c/\YG wr w.heap.size g c b'/\b.length<=b'.length/\b'.length<=b.length+8500 * q/\Below w.heap.size w wr/\Zj3 delay start ((l.take n).drop q) q b'=B2) n ⟨rfl,rfl,rfl⟩ ⟨0,g,c,b,rfl,Nat.zero_le _,rfl,rfl,HO.out,Nat.le_refl _,by omega,HB.out,aj.out⟩ ?_;intro gk a' wr hS hR J1 K3 kQ Oe;have oQ:=Zg kQ;clear kQ;obtain⟨u3,rfl⟩:=Yt (N:=175) (is:=[0,1,2,7,8]) (vs:=[.int .i64 start,.slice (some ⟨bl,dM,none⟩) ll lc,.bool delay,.int .i64 D,.int .i64 n]) ⟨hS.size,hS.dfr,hS.low.trans rfl⟩;simp only[YH,Xi,Zf,Ze];clear hS;obtain⟨q,g,c,b',pU,hq,oT,h9,ho,az,aC,aq,bU⟩:=hR;have qz:u3 10= .int .i64 q:=oT;have Bc:u3 9= .slice (some ⟨g,0,none⟩) b'.length c:=h9;rw[qz,Bc];subst pU;clear oT h9 qz Bc
 ·replace HO:=Zg ho;replace HB:=Zg aq;replace aj:=Zg bU;clear ho aq bU;by_cases af:q<n
  ·obtain⟨x,hx⟩: ∃ x,l[q]? =some x:=⟨l[q]'(by omega),List.getElem?_eq_getElem (by omega)⟩;obtain⟨A,sc,bj⟩:=bg.out q x hx;have Bd:=l8.out x (List.mem_of_getElem? hx);obtain⟨B',Ga⟩: ∃ z,Wi delay (start+D * q) q b' ⟨x.dll,x.syms⟩=z:=⟨_,rfl⟩;have Ru:D * q+D<=D * n:=by have:=Nat.mul_le_mul_left D af; rw[Nat.mul_succ] at this; exact this
   rw[Nat.mul_succ] at aQ;have hlen:=JP delay (start+D * q) q b' ⟨x.dll,x.syms⟩ (by omega) (fun s hs=>(Bd.2.1 s hs).2) Bd.1.2;rw[Ga] at hlen;have bU:=aj.out;have mD:(l.take n).drop q=x::(l.take n).drop (q+1):=by
    have pv:(l.take n)[q]? =some x:=by rw[List.getElem?_take_of_lt af]; exact hx
    obtain⟨ej,Of⟩:=List.getElem?_eq_some_iff.mp pv;rw[List.drop_eq_getElem_cons ej,Of]
   rw[mD] at bU;have iJ:Zj3 delay start ((l.take n).drop (q+1)) (q+1) (Wi delay (start+D * q) q b' ⟨x.dll,x.syms⟩)=B2:=by rw[HD.out]; exact bU
   rw[Ga] at iJ;have lC:=Zg iJ;clear bU iJ;go_wp2_with fail
   refine js.out q g c A sc x.syms x.dll b' B' _ (by omega) (by omega) (by omega) (by omega) (Zg bj) (Zg Bd.2.1) (Zg Bd.1) Bd.2.2 HO HB (Zg Ga) _ _ ⟨rfl,rfl,rfl⟩ ?_;intro a2 x2 g2 c2 jg dJ oD;obtain⟨u4,rfl⟩:=Yt jg;simp only[YH,Xi,Zf,Ze];clear jg;have cx:=Zg dJ;have bp:=Zg oD;clear dJ oD;cases delay;all_goals
    go_wp2_with fail
    refine Handed.intro (n - (q+1)) (by omega) ?_;refine oQ.out _ _ _ ⟨⟨rfl,rfl,rfl⟩,q+1,g2,c2,B',rfl,by omega,rfl,rfl,cx.out,by omega,by omega,bp.out,lC.out⟩
  ·obtain rfl:q=n:=by omega
   have bU:=aj.out;rw[List.drop_eq_nil_of_le (by rw[List.length_take]; omega)] at bU;have iJ:b'=B2:=bU;subst iJ;go_wp2_with fail
   refine HK.out _ _ g c ⟨rfl,rfl,rfl⟩ HO.out HB.out
theorem Zkb:Xo=(YF Xo).seq ((YF (Yc 1 Xo)).seq ((YF (Yc 2 Xo)).seq ((YF (Yc 3 Xo)).seq ((YF (Yc 4 Xo)).seq ((YF (Yc 5 Xo)).seq (Yc 6 Xo)))))):=by kernel_rfl
theorem Zg9 (start bl dM lc n:Nat) (delay:Bool) (l:List PIm) (w:World) (hn:min l.length 18=n) (hs:start<=190000) (iY:l.length<=100000)
 (bg:Hid (∀ i x,l[i]? =some x-> ∃ A sc,∀ W,Below w.heap.size w W->W.cell? ⟨bl,dM+i * 2,none⟩=some (.string (txt x.dll))/\W.cell? ⟨bl,dM+i * 2+1,none⟩=some (.slice A x.syms.length sc)/\SymW W A x.syms))
 (l8:Hid (∀ x∈l,(Lb x.dll/\x.dll.length<=100)/\(∀ s∈x.syms,Lb s.1/\s.1.length<=100)/\x.syms.length<=100000)) :
 Calls Tryz.prog 28 #[.int .i64 start,.slice (some ⟨bl,dM,none⟩) l.length lc,.bool delay] w fun e w'=> ∃ g c,e= .returned (.slice (some ⟨g,0,none⟩) (at8 start l delay).length c)/\YG w' w.heap.size g c (at8 start l delay)/\Below w.heap.size w w':=by
 have en:min (l.length:Int) 18=(n:Int):=by omega
 obtain⟨D,hD⟩: ∃ q,Zfx delay=q:=⟨_,rfl⟩;have AV:D=20\/D=32:=by rw[<-hD]; unfold Zfx; split <;> omega
 obtain⟨m,hm⟩: ∃ q,D * (n+1)=q:=⟨_,rfl⟩;have em:(D:Int) * ((n:Int)+1)=(m:Int):=by rw[<-hm]; push_cast; rfl
 have uI:m<=32 * 19:=by rw[<-hm]; exact Nat.mul_le_mul (by omega) (by omega)
 obtain⟨n1,Hd⟩: ∃ q,n+1=q:=⟨_,rfl⟩;have Oc:(n:Int)+1=(n1:Int):=by omega
 rw[Oc] at em;obtain⟨z,hz⟩: ∃ q,start+m=q:=⟨_,rfl⟩;have ez:(start:Int)+(m:Int)=(z:Int):=by omega
 have Rv:IntKind.i64.wrap (n1:Int)=(n1:Int):=by rw[IntKind.wrap_i64]; omega
 have wm:IntKind.i64.wrap (m:Int)=(m:Int):=by rw[IntKind.wrap_i64]; omega
 have wz:IntKind.i64.wrap (z:Int)=(z:Int):=by rw[IntKind.wrap_i64]; omega
 have nX:=Zg (fun g c b B2 x0 gd aQ HO HB aj Q a ha hK=>Zml start D n bl dM l.length lc g c delay l b B2 w x0 hD.symm (by omega) (by omega) (by omega) gd aQ bg l8 HO HB aj Q a ha hK);have qA:Zj3 delay start (l.take n) 0 (List.replicate z 0)=at8 start l delay:=by
  unfold at8;rw[hn,hD,hm,hz,show l.take 18=l.take n by rw[List.take_eq_take_iff]; omega]
 have nJ:=Zg qA;have Be:start+D * (n+1)<=(List.replicate z 0).length:=by rw[List.length_replicate,hm]; omega
 have F9:=Zg Be;have ue:D=if delay=true then 32 else 20:=hD.symm;clear hD qA Be hm hz Hd;go_enter Tryz.func28,Tryz.ntmps28;conv=>arg 2; change Xo
 rw[Zkb];generalize YF (Yc 5 Xo)=S8 at *;conv=>arg 2; arg 1; whnf
 conv=>arg 2; arg 2; arg 1; whnf
 conv=>arg 2; arg 2; arg 2; arg 1; whnf
 conv=>arg 2; arg 2; arg 2; arg 2; arg 1; whnf
 conv=>arg 2; arg 2; arg 2; arg 2; arg 2; arg 1; whnf
 conv=>arg 2; arg 2; arg 2; arg 2; arg 2; arg 2; arg 2; whnf
 cases delay;all_goals
  simp only[if_true,if_false,Bool.false_eq_true] at ue;have Bf:(D:Int) * (n1:Int)=(m:Int):=em;rw[ue] at Bf;have Od:(m:Int)=_:=Bf.symm;first
   | (have EJ:(32:Int) * (n1:Int)=(m:Int):=Bf; skip)
   | (have Rx:(20:Int) * (n1:Int)=(m:Int):=Bf; skip)
  clear em Bf Od;subst ue;go_wp2_with (first
   | (at_make; refine Yk _ rfl (.tmp 27) (.tmp 27) 25 rfl 5 (.int .u8 0) 1 (by kernel_rfl) (by kernel_rfl) rfl .i64 .i64 z (by simp[Act.eval,Act.put]) (by simp[Act.eval,Act.put]) (by omega) (by omega) ?_; intro w1 ao cG; have fg:=Zg ao; have cW:=Zg (YG.noughts (base:=w.heap.size) cG (Nat.le_refl _) (by omega)); clear ao cG)
   | fail)
  have lQ:(List.replicate z 0).length=z:=List.length_replicate;refine nX.out w.heap.size z (List.replicate z 0) _ w1 (by omega) F9.out cW fg nJ _ _ ⟨rfl,rfl,by rw[lQ]; rfl⟩ ?_;intro a2 w2 g2 c2 jg dJ aC;have bQ:=Zg dJ;have aj:=Zg aC;clear dJ aC;obtain⟨u,rfl⟩:=Yt jg;simp only[YH,Xi,Zf,Ze];clear jg;go_wp2_with fail
  refine⟨rfl,.slice (some ⟨g2,0,none⟩) _ c2,?_,g2,c2,rfl,bQ.out,aj.out⟩;first|(go_simp; done)|rfl|(simp[results,Tryz.func28]; done)|kernel_rfl
theorem Zha (L:Option Addr) (lc:Nat) (start D g c:Nat) (delay:Bool) (b:List Nat) (w x0:World)
 (HO:Hid (YG x0 w.heap.size g c b)) (HB:Hid (Below w.heap.size w x0)) (Q:Exit->Act->World->Prop) (a:Act)
 (ha:Has 175 [0,1,2,7,8,9] [.int .i64 start,.slice L 0 lc,.bool delay,.int .i64 D,.int .i64 (0:Nat),.slice (some ⟨g,0,none⟩) b.length c] a) (hK: ∀ a' w' g' c',Has 175 [0,1,2,7,8,9] [.int .i64 start,.slice L 0 lc,.bool delay,.int .i64 D,.int .i64 (0:Nat),.slice (some ⟨g',0,none⟩) b.length c'] a'->YG w' w.heap.size g' c' b->Below w.heap.size w w'->Q .normal a' w'):(YF (Yc 5 Xo)).wp Tryz.prog Q a x0:=by
 obtain⟨u,rfl⟩:=Yt ha;simp only[YH,Xi,Zf,Ze];clear ha;have HK:=Zg hK;clear hK;rw[Zj7,Zj8];generalize XA=S8 at *;conv=>arg 2; arg 1; whnf
 conv=>arg 2; arg 2; arg 2; arg 1; arg 1; whnf
 conv=>arg 2; arg 2; arg 2; arg 1; arg 2; arg 2; whnf
 go_wp2_with fail
 refine Ji 175 [0,1,2,7,8] (fun k s wr=>s 10= .int .i64 (0:Nat)/\s 9= .slice (some ⟨g,0,none⟩) b.length c/\wr=x0) 0 ⟨rfl,rfl,rfl⟩ ⟨rfl,rfl,rfl⟩ ?_;intro gk a' wr hS hR J1 K3 kQ Oe;have oQ:=Zg kQ;clear kQ;obtain⟨u3,rfl⟩:=Yt (N:=175) (is:=[0,1,2,7,8]) (vs:=[.int .i64 start,.slice L 0 lc,.bool delay,.int .i64 D,.int .i64 (0:Nat)]) ⟨hS.size,hS.dfr,hS.low.trans rfl⟩;simp only[YH,Xi,Zf,Ze];clear hS;obtain⟨oT,h9,rfl⟩:=hR;have qz:u3 10= .int .i64 (0:Nat):=oT;have Bc:u3 9= .slice (some ⟨g,0,none⟩) b.length c:=h9;rw[qz,Bc];clear oT h9 qz Bc;go_wp2_with fail
 refine HK.out _ _ g c ⟨rfl,rfl,rfl⟩ HO.out HB.out
theorem Zkc (st:Nat) (aQ:st<=400000) (delay:Bool) (L:Option Addr) (lc:Nat) (w:World) :
 Calls Tryz.prog 28 #[.int .i64 st,.slice L 0 lc,.bool delay] w fun e w'=> ∃ g c,e= .returned (.slice (some ⟨g,0,none⟩) (at8 st [] delay).length c)/\YG w' w.heap.size g c (at8 st [] delay)/\Below w.heap.size w w':=by
 obtain⟨D,hD⟩: ∃ q,Zfx delay=q:=⟨_,rfl⟩;have AV:D=20\/D=32:=by rw[<-hD]; unfold Zfx; split <;> omega
 obtain⟨z,hz⟩: ∃ q,st+D=q:=⟨_,rfl⟩;have ez:(st:Int)+(D:Int)=(z:Int):=by omega
 have wz:IntKind.i64.wrap (z:Int)=(z:Int):=by rw[IntKind.wrap_i64]; omega
 have nX:=Zg (fun g c b x0 HO HB Q a ha hK=>Zha L lc st D g c delay b w x0 HO HB Q a ha hK);have qA:List.replicate z 0=at8 st [] delay:=by
  unfold at8;simp only[List.take_nil,Zj3,List.length_nil,Nat.zero_min,Nat.zero_add,Nat.mul_one,hD,hz]
 rw[<-qA];have n7:=Zg (show z<=500000 by omega);clear qA hz;have ue:D=if delay=true then 32 else 20:=hD.symm;clear hD;go_enter Tryz.func28,Tryz.ntmps28;conv=>arg 2; change Xo
 rw[Zkb];generalize YF (Yc 5 Xo)=S8 at *;conv=>arg 2; arg 1; whnf
 conv=>arg 2; arg 2; arg 1; whnf
 conv=>arg 2; arg 2; arg 2; arg 1; whnf
 conv=>arg 2; arg 2; arg 2; arg 2; arg 1; whnf
 conv=>arg 2; arg 2; arg 2; arg 2; arg 2; arg 1; whnf
 conv=>arg 2; arg 2; arg 2; arg 2; arg 2; arg 2; arg 2; whnf
 cases delay
 ·simp only[if_true,if_false,Bool.false_eq_true] at ue;subst ue;simp only[Int.cast_ofNat_Int] at ez;go_wp2_with (first
   | (at_make; refine Yk _ rfl (.tmp 27) (.tmp 27) 25 rfl 5 (.int .u8 0) 1 (by kernel_rfl) (by kernel_rfl) rfl .i64 .i64 z (by simp[Act.eval,Act.put] <;> omega) (by simp[Act.eval,Act.put] <;> omega) (by have:=n7.out; omega) (by have:=n7.out; omega) ?_; intro w1 ao cG; have fg:=Zg ao; have cW:=Zg (YG.noughts (base:=w.heap.size) cG (Nat.le_refl _) (by have:=n7.out; omega)); clear ao cG)
   | fail)
  refine nX.out w.heap.size _ (List.replicate z 0) w1 cW fg _ _ ⟨rfl,rfl,by rw[List.length_replicate]; rfl⟩ ?_;intro a2 w2 g2 c2 jg dJ aC;have bQ:=Zg dJ;have aj:=Zg aC;clear dJ aC;obtain⟨u,rfl⟩:=Yt jg;simp only[YH,Xi,Zf,Ze];clear jg;go_wp2_with fail
  refine⟨rfl,.slice (some ⟨g2,0,none⟩) _ c2,?_,g2,c2,rfl,bQ.out,aj.out⟩;first|(go_simp; done)|rfl|(simp[results,Tryz.func28]; done)|kernel_rfl
 ·simp only[if_true,if_false,Bool.false_eq_true] at ue;subst ue;simp only[Int.cast_ofNat_Int] at ez;go_wp2_with (first
   | (at_make; refine Yk _ rfl (.tmp 27) (.tmp 27) 25 rfl 5 (.int .u8 0) 1 (by kernel_rfl) (by kernel_rfl) rfl .i64 .i64 z (by simp[Act.eval,Act.put] <;> omega) (by simp[Act.eval,Act.put] <;> omega) (by have:=n7.out; omega) (by have:=n7.out; omega) ?_; intro w1 ao cG; have fg:=Zg ao; have cW:=Zg (YG.noughts (base:=w.heap.size) cG (Nat.le_refl _) (by have:=n7.out; omega)); clear ao cG)
   | fail)
  refine nX.out w.heap.size _ (List.replicate z 0) w1 cW fg _ _ ⟨rfl,rfl,by rw[List.length_replicate]; rfl⟩ ?_;intro a2 w2 g2 c2 jg dJ aC;have bQ:=Zg dJ;have aj:=Zg aC;clear dJ aC;obtain⟨u,rfl⟩:=Yt jg;simp only[YH,Xi,Zf,Ze];clear jg;go_wp2_with fail
  refine⟨rfl,.slice (some ⟨g2,0,none⟩) _ c2,?_,g2,c2,rfl,bQ.out,aj.out⟩;first|(go_simp; done)|rfl|(simp[results,Tryz.func28]; done)|kernel_rfl
def WG (X:VA) (n:Nat):List PIm:=(List.range n).map fun i=>⟨byt (X.D i),(List.range (X.M i)).map fun j=>(byt (X.T i j),(X.O i j % 65536).toNat,X.Y i j)⟩
theorem Zmm {X:VA} {n i:Nat} (hi:i<n):(WG X n)[i]? =some ⟨byt (X.D i),(List.range (X.M i)).map fun j=>(byt (X.T i j),(X.O i j % 65536).toNat,X.Y i j)⟩:=by simp[WG,hi]
theorem Zor {w:World} {X:VA} {i:Nat} (h:Zcg w X i):SymW w (X.SA i) ((List.range (X.M i)).map fun j=>(byt (X.T i j),(X.O i j % 65536).toNat,X.Y i j)):=by
 rcases h with h|⟨b,off,hA,af,hc⟩
 ·exact .inl (by simp[h])
 ·refine .inr ⟨b,off,hA,af,fun j hj=> ?_⟩;have r7:j<X.M i:=by simpa using hj
  obtain⟨c0,c1,c2,_⟩:=hc j r7;refine⟨X.O i j,?_,?_,c1,?_⟩
  ·simp only[List.getElem_map,List.getElem_range];omega
  ·simp only[List.getElem_map,List.getElem_range,Zal];exact c0
  ·simp only[List.getElem_map,List.getElem_range];exact c2
theorem at8w (st:Nat) (aQ:st<=190000) (delay:Bool) (A:Option Addr) (n cap:Nat) (X:VA) (w:World) (h:Zna w A n X) (hn:n<=20) (hf: ∀ i,i<n->FewI X i) :
 Calls Tryz.prog 28 #[.int .i64 st,.slice A n cap,.bool delay] w fun e u=> ∃ g c,e= .returned (.slice (some ⟨g,0,none⟩) (at8 st (WG X n) delay).length c)/\YG u w.heap.size g c (at8 st (WG X n) delay)/\Below w.heap.size w u:=by
 have hlen:(WG X n).length=n:=by simp[WG]
 rcases Nat.eq_zero_or_pos n with rfl|xu
 ·exact Zkc st (by omega) delay A cap w
 ·obtain⟨b,off,rfl,_⟩: ∃ b off,A=some ⟨b,off,none⟩/\True:=by
   rcases h with h|⟨b,off,h1,_⟩
   ·omega
   ·exact⟨b,off,h1,trivial⟩
  have k:=Zg9 st b off cap (min n 18) delay (WG X n) w (by rw[hlen]) aQ (by rw[hlen]; omega) (Zg fun i x hx=>by
   have hi:i<n:=by
    rcases Nat.lt_or_ge i n with hi|hi
    ·exact hi
    ·rw[List.getElem?_eq_none (by rw[hlen]; exact hi)] at hx; cases hx
   rw[Zmm hi] at hx;have hx:=Option.some.inj hx;subst hx;refine⟨X.SA i,X.SC i,fun W hW=> ?_⟩;rcases h.below hW with h0|⟨b',mw,hA,af,hc⟩
   ·omega
   ·injection hA with hA;injection hA with h1 h2;subst h1 h2;obtain⟨c0,c1,_,_,c4⟩:=hc i hi;refine⟨by simp only[Zal]; exact c0,by simp only[List.length_map,List.length_range]; exact c1,Zor c4⟩) (Zg fun x hx=>by
   simp only[WG,List.mem_map,List.mem_range] at hx;obtain⟨i,hi,rfl⟩:=hx;obtain⟨h1,h2,h3⟩:=hf i hi;refine⟨⟨Qs _,by rw[Wy]; omega⟩,fun s hs=> ?_,by simp; omega⟩;simp only[List.mem_map,List.mem_range] at hs;obtain⟨j,hj,rfl⟩:=hs;exact⟨Qs _,by rw[Wy]; have:=h3 j hj; omega⟩)
  rw[hlen] at k;exact k
end Go.Proofs.YtplgdpjbkdagfaaGreat
