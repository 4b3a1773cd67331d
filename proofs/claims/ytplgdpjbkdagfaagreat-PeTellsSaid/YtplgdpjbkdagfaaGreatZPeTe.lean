import Derived.Test.YtplgdpjbkdagfaaGreatZPeN
import Derived.Test.YtplgdpjbkdagfaaGreatZPeFw
import Derived.Test.YtplgdpjbkdagfaaGreatPeFx
import Derived.Test.YtplgdpjbkdagfaaGreatZPeH
import Derived.Test.YtplgdpjbkdagfaaGreatRows
import Derived.Lib.SmallJoins
import Derived.Test.YtplgdpjbkdagfaaGreatZOwnT
import Derived.Test.YtplgdpjbkdagfaaGreatZRNou
namespace Go.Proofs.YtplgdpjbkdagfaaGreat
set_option maxHeartbeats 8000000
open List renaming getElem?_toArray→Za, getElem?_cons_succ→Zb, getElem?_cons_zero→Zc, setIfInBounds_toArray→Zd, set_cons_zero→Ze, set_cons_succ→Zf
open Lib renaming hid→Zg
open Go.ChangeShapes Go.WideShapes Go.ChangeAt Go.RowKit
set_option linter.unusedVariables false
set_option linter.unusedSimpArgs false
set_option maxRecDepth 100000
def Zc9 (w:World) (A:Option Addr) (n cap:Nat) (S:ByteArray):Prop:=S.size=n/\(n=0\/ ∃ b off,A=some ⟨b,off,none⟩/\Wj w b off n cap (PlainAid.bt S))
theorem Zc9.below {w w':World} {A:Option Addr} {n cap:Nat} {S:ByteArray} (h:Zc9 w A n cap S) (hb:Below w.heap.size w w'):Zc9 w' A n cap S:=by
 refine⟨h.1,?_⟩;rcases h.2 with h|⟨b,off,h1,h2⟩
 ·exact .inl h
 ·exact .inr ⟨b,off,h1,h2.below hb⟩
theorem Zc9.of_row {w:World} {b off n cap:Nat} {f:Nat->Int} (h:Wj w b off n cap f):Zc9 w (some ⟨b,off,none⟩) n cap (ZB f 0 n) :=
 ⟨Zr _ _ _,.inr ⟨b,off,rfl,fun i hi=>by rw[XO h.by255 hi,Nat.zero_add]; exact h.row i hi,Xx _,h.lt,h.len,h.most⟩⟩
theorem Zc9.of_sl {w:World} {A:Option Addr} {n cap:Nat} {f:Nat->Int} (h:SlB w A n f) (hb:Zm f) (h1:n<=cap) (h2:cap<=9223372036854775807):Zc9 w A n cap (ZB f 0 n):=by
 rcases h with h|⟨b,off,rfl,af,hr⟩
 ·exact⟨Zr _ _ _,.inl h⟩
 ·exact Zc9.of_row ⟨hr,hb,af,h1,h2⟩
theorem Zc9.str {w:World} {A:Option Addr} {n cap:Nat} {S:ByteArray} (h:Zc9 w A n cap S):(convert 25 9 (.slice A n cap)).run Tryz.prog w= .ok (.string S) w:=by
 obtain⟨h1,h|⟨b,off,rfl,h2⟩⟩:=h
 ·subst h;rw[Zlh];congr 2
  exact(ByteArray.ext (Array.eq_empty_of_size_eq_zero h1)).symm
 ·rw[YL h2.row,<-h1,Ju]
theorem Wj.part {w:World} {b off n cap:Nat} {f:Nat->Int} (h:Wj w b off n cap f) (m:Nat) (hm:m<=n):Wj w b off m cap f :=
 ⟨fun j hj=>h.row j (by omega),h.by255,h.lt,by have:=h.len; omega,h.most⟩
theorem Zh4 {d:PeD} (h:Qn d):(Vq d).length<=2000:=by
 have h1:=VR d.ims (fun v hv=>(h.ims v hv).1) [] (by simp);have h2:=Zak d.fs (fun f hf=>(h.fs f hf).1) _ h1.1;have:=h1.2;have:=h2.2;have:=h.li;have:=h.lf;unfold Vq;simp only[List.length_nil] at *;omega
theorem Zk8 (A:Option Addr) (cap:Nat) (w:World):Calls Tryz.prog 61 #[.slice A 0 cap] w fun e w'=>e= .returned (.tuple #[.int .i64 0,.int .i64 2])/\w=w':=by
 go_enter Tryz.func61,Tryz.ntmps61;go_wp2_with fail
 go_ret2;exact⟨rfl,rfl⟩
theorem Zh5 (A:Option Addr) (cap:Nat) (w:World) :
 Calls Tryz.prog 23 #[.slice A 0 cap] w fun e w'=>(∃ cs,e= .returned (.tuple #[.agg cs,.int .i64 2])/\YR cs Ul (.slice none 0 0))/\Below w.heap.size w w':=by
 have hZ:=heap_alloc_new w (.cells (Zl 0 0 0 0 0 0) 41);have au:=Zg ((Below.refl w.heap.size w).alloc (Nat.le_refl _) (.cells (Zl 0 0 0 0 0 0) 41));go_enter Tryz.func23,Tryz.ntmps23;go_wp2_with fail
 rw[Yh];generalize w.alloc (.cells (Zl 0 0 0 0 0 0) 41)=w1 at hZ au ⊢;refine(Zk8 A cap w1).mono ?_;rintro e w' ⟨rfl,rfl⟩;go_wp2_with (refine wpList_store_row rfl 41 _ _ rfl w.heap.size (Zl 0 0 0 0 0 0) rfl rfl 41 _ hZ rfl rfl (ZC _ _ _ _ _ _) ?_)
 refine bodyPost_ret (v:= .tuple #[.agg (Zl 0 0 0 0 0 0),.int .i64 2]) (Zj rfl _ _ w.heap.size 41 _ (0,0) _ _ rfl rfl (setRow_heap _ _ _ _ _ _ hZ) rfl rfl rfl) rfl ⟨⟨_,rfl,ZD⟩,below_setRow au.out (Nat.le_refl _) _⟩
theorem Zgg (A:Option Addr) (n cap:Nat) (S:ByteArray) (w:World) (h:Zc9 w A n cap S):Calls Tryz.prog 11 #[.slice A n cap] w fun x u=>Wb S.size (PlainAid.bt S) x u/\Below w.heap.size w u:=by
 obtain⟨h1,h|⟨b,off,rfl,h2⟩⟩:=h
 ·subst h;refine(VC (.slice A 0 cap) 2 (by decide) w (fun W _=>Zh5 A cap W)).mono ?_;rintro x u ⟨rfl,hb⟩;rw[h1];exact⟨Wb.zero (by rw[Vf (by rw[Zcf]; decide),Zcf]),hb⟩
 ·rw[h1];exact Zgy b off n cap _ w h2
theorem UR.one {W:World} {y:PeV} {d:PeD} (h:UR W y d):(peC y).all (·.oneCell')=true:=by
 obtain⟨sv,hv,A0,c0,yq,_⟩:=h.hv;obtain⟨A,N,C,hi,_⟩:=h.img;obtain⟨A1,c1,qO,_⟩:=h.fs;obtain⟨A2,c2,BK,_⟩:=h.ns;obtain⟨A3,c3,L3,qP,_⟩:=h.ims;obtain⟨A4,c4,L4,BL,_⟩:=h.des;obtain⟨A5,c5,BM,_⟩:=h.bos;obtain⟨A6,c6,iU,_⟩:=h.rls;obtain⟨A7,c7,BN,_⟩:=h.tl;have ho:=hv.one (by rw[yq]; rfl);refine Zau y (fun j hj=> ?_) (by rw[hi]; rfl) ⟨⟨by rw[h.e0]; rfl,by rw[qO]; rfl,by rw[BK]; rfl⟩,by rw[qP]; rfl,by rw[iU]; rfl,⟨by rw[h.t0]; rfl,by rw[h.t1]; rfl,by rw[BN]; rfl⟩,by rw[BM]; rfl,by rw[BL]; rfl⟩;exact Array.all_eq_true_iff_forall_mem.1 ho (y.hd j) (by simp; exact⟨j,hj,rfl⟩)
theorem Zgh {a b:Int} (ha:0<=a) (dt:a<=255) (hb:0<=b) (dD:b<=255):0<=bits .xor .u8 a b/\bits .xor .u8 a b<=255:=by
 obtain⟨x,rfl⟩:=Int.eq_ofNat_of_zero_le ha;obtain⟨y,rfl⟩:=Int.eq_ofNat_of_zero_le hb;have h1:x<2 ^ 8:=by omega
 have h2:y<2 ^ 8:=by omega
 have h3:=Nat.xor_lt_two_pow h1 h2;have e:=u8_xor (x:Int) (y:Int) (by omega) (by omega) (by omega) (by omega);rw[e,Int.toNat_natCast,Int.toNat_natCast];omega
theorem petells_any (A0:Option Addr) (n0 c0:Nat) (z:Nat->Int) (p:PIn) (bad ak y' cut:Int) (w:World) (hs:SlB w A0 n0 z) (dF:Zm z) (xu:n0<=c0) (ig:c0<=9223372036854775807) (hp:p.Is w) (hl:p.Lens) (aX: -9223372036854775808<=bad/\bad<=9223372036854775807) (hy:0<=y'/\y'<=255) :
 Calls Tryz.prog 5 #[.slice A0 n0 c0,.agg p.cells,.int .i64 bad,.int .i64 ak,.int .u8 y',.int .i64 cut] w fun e u=>e= .returned (.bool true)/\Below w.heap.size w u:=by
 have bO:Below w.heap.size w (w.alloc (.cells p.cells 32)):=(Below.refl w.heap.size w).alloc (Nat.le_refl _) _;have hz:=heap_alloc_new w (.cells p.cells 32);obtain⟨w1,ao⟩: ∃ q,w.alloc (.cells p.cells 32)=q:=⟨_,rfl⟩;rw[ao] at bO hz;have au:=Zg bO;have HZ:=Zg hz;have HW:=Zg ao;have BE:=Zg (fun W (hW:Below w.heap.size w W)=>hp.below hW);have hU:=Zg hl;have Dj:=Zg (fun W=>Zd1 W);have oa:=Zg (Zc9.of_sl hs dF xu ig);have gV:=Zg (And.intro aX hy);generalize ZB z 0 n0=S0 at oa;have Le:=Zg (show w1.rangeAt w.heap.size 0 p.cells.toList from fun j v hj=>by
  rw[Nat.zero_add,Zh hz];simpa using hj)
 clear hp hl bO hz ao hs dF xu ig aX hy;go_enter Tryz.func5,Tryz.ntmps5;go_upto_region 1 with(fail)
 refine(congrArg _ HW.out).mpr ?_;by_cases lQ:400<n0
 ·have hI:(400:Int)<n0:=by omega
  go_wp2_with fail
  refine(Dj.out w1).mono ?_;rintro e w2 ⟨rfl,hb⟩;have aj:=Zg (au.out.trans (hb.mono au.out.size));clear hb;go_wp2_with fail
  go_ret;exact⟨rfl,aj.out⟩
 have hI: ¬ (400:Int)<n0:=by omega
 have Dk:=Zg (show n0<=400 from by omega);go_wp2_with (first|(refine ZO (by rfl) 32 (.tmp 7) rfl w.heap.size 0 rfl p.cells.toList _ Le.out Tryz.underlying32 rfl (by kernel_rfl) ?_; rw[Array.toArray_toList])|fail)
 refine(Zob p w1 (BE.out _ au.out) hU.out).mono ?_;rintro e w2 ⟨rfl|⟨rfl,hf⟩,hb⟩
 ·have aj:=Zg (au.out.trans (hb.mono au.out.size));clear hb;go_wp2_with fail
  refine(Dj.out w2).mono ?_;rintro e w3 ⟨rfl,hb⟩;have aN:=Zg (aj.out.trans (hb.mono aj.out.size));clear hb;go_wp2_with fail
  go_ret;exact⟨rfl,aN.out⟩
 have aj:=Zg (au.out.trans (hb.mono au.out.size));have jA:=Zg ((hb.block _ (Zi HZ.out)).trans HZ.out);have oO:=Zg hf;clear hb hf hI lQ;go_wp2_with (refine wpList_load_row rfl 32 _ rfl w.heap.size rfl 32 p.cells (0,0) _ jA.out rfl rfl (by kernel_rfl) ?_)
 refine(Zn2 p bad gV.out.1 w2 (BE.out _ aj.out) hU.out oO.out).mono ?_;rintro e w3 ⟨g,c,F,f,rfl,ho,_,_,hb⟩;have aN:=Zg (aj.out.trans (hb.mono aj.out.size));have cW:=Zg (YA.empty w3);have px:=Zg (show Wj (w3.alloc (.cells #[] 5)) g 0 8704 c f from ho.rowB.below ((Below.refl _ _).alloc (Nat.le_refl _) _));have fG:=Zg (show Below w3.heap.size w3 (w3.alloc (.cells #[] 5)) from(Below.refl _ _).alloc (Nat.le_refl _) _);have rG:=Zg ho.rowB;clear ho hb;go_upto_region 7 with(first
  | (at_builtin; refine VE rfl (.tmp 36) (.tmp 37) rfl cW.out (.inr ⟨g,0,rfl,px.out.lt,px.out.row⟩) px.out.by255 (by omega) fG.out.size rfl rfl ?_; intro g4 Dr w4 dj bP
     have eO:=Zg (fG.out.trans bP);rw[Nat.zero_add] at dj;have bV:=Zg (dj.congr px.out.by255 (f':=f) (fun i hi=>by unfold VQ; rw[if_neg (by omega)]; rfl));clear dj bP;try simp only[Nat.zero_add])
  | fail)
 obtain⟨x,hx⟩: ∃ x:Nat,bits .and .i64 ak 65535=(x:Int):=⟨(bits .and .i64 ak 65535).toNat,by rw[Dt]; omega⟩;obtain⟨k,hk⟩: ∃ k,x % 8704=k:=⟨_,rfl⟩;have jy:k<8704:=by rw[<-hk]; exact Nat.mod_lt _ (by omega)
 have rH:Int.tmod (x:Int) 8704=(k:Int):=by rw[<-hk]; rfl
 have Lf:(k:Int)<8704:=by omega
 have bj:=bV.out.row k jy;rw[Nat.zero_add] at bj;have Lg:=(bV.out.wr k (by have:=bV.out.len; omega)).2;have nv:=bV.out.by255 k;obtain⟨q,hq⟩: ∃ q,f k=q:=⟨_,rfl⟩;rw[hq] at bj nv;have rI:=Zgh nv.1 nv.2 gV.out.2.1 gV.out.2.2;obtain⟨v,hv⟩: ∃ v:Int,bits .xor .u8 q y'=v:=⟨_,rfl⟩;rw[hv] at rI;obtain⟨w5,pB⟩: ∃ r,w4.setCell ⟨g4,k,none⟩ (.int .u8 v)=r:=⟨_,rfl⟩;have iu:=bV.out.set k v jy rI.1 rI.2;have py:=eO.out.setCell (p:=⟨g4,k,none⟩) bV.out.le (.int .u8 v);rw[pB] at iu py;have HC:=Zg (Zc9.of_row iu.rowB);have jQ:=Zg pB;have bp:=Zg (aN.out.trans (py.mono aN.out.size));have kL:=Zg (Zc9.of_row (rG.out.below py));have BF:=Zg (rG.out.below py);have jw:=Zg (oa.out.below bp.out);generalize ZB (Zbb f k v) 0 8704=SC at HC;generalize ZB f 0 8704=SB at kL;clear iu py pB hk nv rI gV hq;go_upto_region 8 with(fail)
 refine(congrArg _ jQ.out).mpr ?_;clear bj Lg hx rH Lf jy hv jQ bV eO fG cW px;go_wp2_with fail
 go_loopw [15] (fun v15 wr=> ∃ k:Nat,k<=4/\v15= .int .i64 k/\Below w5.heap.size w5 wr) (fun v15 _=>4 - (intOf v15).toNat)
 case atStart=>exact⟨0,by omega,rfl,Below.refl _ _⟩
 case round =>
  obtain⟨i,hi,rfl,bZ⟩:=hrel;have aw:=Zg bZ;clear bZ;by_cases af:i<4
  ·have Lh:(i:Int)<4:=by omega
   have cM:=Zg af;go_upto_region 11 with(fail)
   go_cut [16] from 54 to 68 (fun Li wx=> ∃ A n C S,Li= .slice A n C/\Zc9 wx A n C S/\n<=1000000/\Below wr.heap.size wr wx)
   case first =>
    obtain⟨x,hx⟩: ∃ x:Nat,bits .and .i64 cut 65535=(x:Int):=⟨(bits .and .i64 cut 65535).toNat,by rw[Dt]; omega⟩;obtain⟨m,hm⟩: ∃ k,x % 8705=k:=⟨_,rfl⟩;have td:m<=8704:=by have:=Nat.mod_lt x (show 0<8705 by omega); omega
    have rH:Int.tmod (x:Int) 8705=(m:Int):=by rw[<-hm]; rfl
    have BC:(m:Int)<=(c:Int):=by have:=BF.out.len; omega
    have lP:(0:Int)<=(m:Int):=by omega
    have GH:=Zg td;have te:Below wr.heap.size wr (wr.alloc (.cells #[.slice A0 n0 c0,.slice (some ⟨g,0,none⟩) 8704 c,.slice (some ⟨g4,0,none⟩) 8704 Dr,.slice (some ⟨g,0,none⟩) m c] 25)):=(Below.refl _ _).alloc (Nat.le_refl _) _;have ff:=Zg te;have eL:=Zg (aw.out.trans (te.mono aw.out.size));clear hm td te af hi;rcases(by have:=cM.out; omega:i=0\/i=1\/i=2\/i=3) with rfl|rfl|rfl|rfl
    ·go_wp2_with fail
     go_meet
     case rel=>exact⟨_,_,_,_,rfl,jw.out.below eL.out,by have:=Dk.out; omega,ff.out⟩
    ·go_wp2_with fail
     go_meet
     case rel=>exact⟨_,_,_,_,rfl,kL.out.below eL.out,by omega,ff.out⟩
    ·go_wp2_with fail
     go_meet
     case rel=>exact⟨_,_,_,_,rfl,HC.out.below eL.out,by omega,ff.out⟩
    ·go_wp2_with fail
     go_meet
     case rel=>exact⟨_,_,_,_,rfl,Zc9.of_row ((BF.out.below eL.out).part m GH.out),by have:=GH.out; omega,ff.out⟩
   case rest =>
    obtain⟨A,n,C,S,rfl,cE,jz,yt⟩:=hcut;have pA:=Zg (aw.out.trans (yt.mono aw.out.size));have BG:=Zg cE;have Lj:=Zg jz;clear cE jz yt;have cO:=Zg (fun W (hW:Below wc.heap.size wc W)=>Zgg A n C S W (BG.out.below hW));go_upto_region 12 with(fail)
    go_wp2_with fail
    refine(cO.out wc (Below.refl _ _)).mono ?_;rintro e w6 ⟨⟨y,rfl,hy⟩,hb⟩;obtain⟨er,Dl⟩: ∃ q,(Ux S.size (PlainAid.bt S)).1=q:=⟨_,rfl⟩;obtain⟨d,hd⟩: ∃ q,(Ux S.size (PlainAid.bt S)).2=q:=⟨_,rfl⟩;have uC:=Zg (And.intro Dl hd);have Dm:=Zg (show Qn d from by rw[<-hd]; exact Zln (Xx S));rw[Dl];rw[hd] at hy;clear Dl hd;have aZ:=hy.one;have HY:=Zg hy;have cU:=Zg hb;clear hy hb;go_upto_region 13 with(refine wpList_store_row rfl 50 _ _ rfl w6.heap.size (peC y) rfl rfl 50 _ (heap_alloc_new _ _) (by rw[Zu]; kernel_rfl) (by rw[Zu]; rfl) aZ ?_)
    rw[Xs];have GI:=setRow_heap (w6.alloc (.cells (peC peZ) 50)) w6.heap.size _ (peC y) _ _ (heap_alloc_new _ _);have jB:Below w6.heap.size w6 ((w6.alloc (.cells (peC peZ) 50)).setRow w6.heap.size (peC y)):=below_setRow ((Below.refl _ w6).alloc (Nat.le_refl _) _) (Nat.le_refl _) _;generalize (w6.alloc (.cells (peC peZ) 50)).setRow w6.heap.size (peC y)=w7 at *;have dS:=Zg (cU.out.trans (jB.mono cU.out.size));have GJ:=Zg (HY.out.below jB);have BH:=Zg GI;clear GI jB aZ HY cU;obtain⟨P1,qQ⟩: ∃ q,w6.heap.size=q:=⟨_,rfl⟩;rw[qQ] at BH ⊢;clear qQ;have dI:=(BG.out.below dS.out).str;go_wp2_with fail
    refine(Zn9 S w7 (by rw[BG.out.1]; exact Lj.out)).mono ?_;rintro e w8 ⟨⟨y2,rfl,jR⟩,hb⟩;rw[uC.out.1];rw[uC.out.2] at jR;have tf:=jR.one;have GK:=Zg jR;have aV:=Zg hb;clear jR hb dI;go_upto_region 14 with(refine wpList_store_row rfl 50 _ _ rfl w8.heap.size (peC y2) rfl rfl 50 _ (heap_alloc_new _ _) (by rw[Zu]; kernel_rfl) (by rw[Zu]; rfl) tf ?_)
    rw[Xs];have Dn:=setRow_heap (w8.alloc (.cells (peC peZ) 50)) w8.heap.size _ (peC y2) _ _ (heap_alloc_new _ _);have xr:Below w8.heap.size w8 ((w8.alloc (.cells (peC peZ) 50)).setRow w8.heap.size (peC y2)):=below_setRow ((Below.refl _ w8).alloc (Nat.le_refl _) _) (Nat.le_refl _) _;generalize (w8.alloc (.cells (peC peZ) 50)).setRow w8.heap.size (peC y2)=w9 at *;have rJ:=Zg (aV.out.trans (xr.mono aV.out.size));have GL:=Zg (And.intro (GJ.out.below rJ.out) (GK.out.below xr));have yn:=Zg (pA.out.trans ((dS.out.trans (rJ.out.mono dS.out.size)).mono pA.out.size));have uD:=(rJ.out.block _ (Zi BH.out)).trans BH.out;have yo:=Zg (fun W (hW:Below w9.heap.size w9 W)=>WV W P1 y fun j hj=>(hW.cell (p:=⟨P1,j,none⟩) (Zi uD)).trans ((Zh uD).trans (Yv y hj)));have cZ:=Zg (fun W (hW:Below w9.heap.size w9 W)=>WV W w8.heap.size y2 fun j hj=>(hW.cell (p:=⟨w8.heap.size,j,none⟩) (Zi Dn)).trans ((Zh Dn).trans (Yv y2 hj)));clear Dn xr tf GJ GK aV rJ uD BH dS uC cO BG;generalize w8.heap.size=P2 at *;have OX:(er != er)=false:=by simp
    have Lk:=Zg (fun W (hW:Below w9.heap.size w9 W)=>GL.out.1.below hW);have Dp:=Zg (fun W (hW:Below w9.heap.size w9 W)=>GL.out.2.below hW);have yp:=Zg (Zh4 Dm.out);have HS:=Zg (show Below w9.heap.size w9 w9.drew from(Below.refl _ _).drew);refine wp_region_noPanic ?_;refine Zt (fun W=>Below w9.heap.size w9 W) (fun _=>True) 99 (by kernel_rfl) ?_;refine wU (i:=0) HS.out ?_;refine wU (i:=1) HS.out ?_;refine wU (i:=2) HS.out ?_;refine wU (i:=3) HS.out ?_;refine wT (i:=4) (oi:= ?_) (v:= ?_) ?_ ?_ HS.out ?_;rotate_left 2
    ·(simp only[Za,Zb,Zc]; rfl)
    ·refine yieldsIf_load_mid ?_ 50 (.tmp 17) ?_ P1 0 ?_ ((List.range 50).map (peF y)) _ ?_ Tryz.underlying50 ?_ ?_
     ·rfl
     ·rfl
     ·first|rfl|simp[Act.eval]
     ·exact fun W hW=>yo.out W hW
     ·rfl
     ·rw[List.length_map,List.length_range]; kernel_rfl
    try simp only[Act.put,Zd,Ze,Zf]
    refine wT (i:=5) (oi:= ?_) (v:= ?_) ?_ ?_ HS.out ?_;rotate_left 2
    ·(simp only[Za,Zb,Zc]; rfl)
    ·refine yieldsIf_load_mid ?_ 50 (.tmp 19) ?_ P2 0 ?_ ((List.range 50).map (peF y2)) _ ?_ Tryz.underlying50 ?_ ?_
     ·rfl
     ·rfl
     ·first|rfl|simp[Act.eval]
     ·exact fun W hW=>cZ.out W hW
     ·rfl
     ·rw[List.length_map,List.length_range]; kernel_rfl
    try simp only[Act.put,Zd,Ze,Zf]
    refine wO (i:=6) (fun K hK=> ?_);go_simp;go_at_call 20;refine(Zl1 y y2 d d w9.drew (Lk.out _ HS.out) (Dp.out _ HS.out)).mono ?_;rintro e x1 ⟨⟨b,rfl,hq⟩,hb⟩;have rK:=Zg (show Below w9.heap.size w9 x1 from HS.out.trans (hb.mono HS.out.size));rcases b with _|_
    ·exact absurd (hq.2 (PeEq.refl d)) (by simp)
    clear hb hq;refine hK.out _ _ rK.out (fun _=>trivial) ?_;clear hK K;try simp only[Act.put,Zd,Ze,Zf]
    refine wU (i:=7) rK.out ?_;refine wU (i:=8) rK.out ?_;refine wU (i:=9) rK.out ?_;refine wT (i:=10) (oi:= ?_) (v:= ?_) ?_ ?_ rK.out ?_;rotate_left 2
    ·(simp only[Za,Zb,Zc]; rfl)
    ·refine yieldsIf_load_mid ?_ 50 (.tmp 19) ?_ P2 0 ?_ ((List.range 50).map (peF y2)) _ ?_ Tryz.underlying50 ?_ ?_
     ·rfl
     ·rfl
     ·first|rfl|simp[Act.eval]
     ·exact fun W hW=>cZ.out W hW
     ·rfl
     ·rw[List.length_map,List.length_range]; kernel_rfl
    try simp only[Act.put,Zd,Ze,Zf]
    refine wT (i:=12) (oi:= ?_) (v:= ?_) ?_ ?_ rK.out ?_;rotate_left 2
    ·(simp only[Za,Zb,Zc]; rfl)
    ·refine yieldsIf_load_mid ?_ 50 (.tmp 19) ?_ P2 0 ?_ ((List.range 50).map (peF y2)) _ ?_ Tryz.underlying50 ?_ ?_
     ·rfl
     ·rfl
     ·first|rfl|simp[Act.eval]
     ·exact fun W hW=>cZ.out W hW
     ·rfl
     ·rw[List.length_map,List.length_range]; kernel_rfl
    try simp only[Act.put,Zd,Ze,Zf]
    refine wO (i:=11) (fun K hK=> ?_);go_simp;go_at_call 17;refine(Zgo y2 d x1 (Dp.out _ rK.out) Dm.out).mono ?_;rintro e x2 ⟨v1,rfl,ho,hb⟩;obtain⟨A1,k1,rfl,_,_,_⟩:=ho.form;have BI:=Zg (show Below w9.heap.size w9 x2 from rK.out.trans (hb.mono rK.out.size));have aO:=Zg (ho.sl Qt);clear hb ho;refine hK.out _ _ BI.out (fun _=>trivial) ?_;clear hK K;try simp only[Act.put,Zd,Ze,Zf]
    refine wO (i:=13) (fun K hK=> ?_);go_simp;go_at_call 21;refine(Zgp y2 d x2 (Dp.out _ BI.out) Dm.out).mono ?_;rintro e x3 ⟨v2,rfl,ho,hb⟩;obtain⟨A2,k2,rfl,_,_,_⟩:=ho.form;have Dq:=Zg (show Below w9.heap.size w9 x3 from BI.out.trans (hb.mono BI.out.size));have bM:=Zg (And.intro (aO.out.below hb) (ho.sl Qt));clear hb ho;refine hK.out _ _ Dq.out (fun _=>trivial) ?_;clear hK K;try simp only[Act.put,Zd,Ze,Zf]
    refine wO (i:=14) (fun K hK=> ?_);go_simp;go_at_call 16;refine(Zim sC (fun t=>txt t) (fun _=>rfl) A1 A2 (Vq d) (Vq d) k1 k2 x3 bM.out.1 bM.out.2 (by have:=yp.out; omega) (by have:=yp.out; omega) true (by simp)).mono ?_;rintro e x4 ⟨rfl,hb⟩;have BJ:=Zg (show Below w9.heap.size w9 x4 from Dq.out.trans (hb.mono Dq.out.size));clear hb;refine hK.out _ _ BJ.out (fun _=>trivial) ?_;clear hK K;try simp only[Act.put,Zd,Ze,Zf]
    refine wU (i:=15) BJ.out ?_;refine wU (i:=16) BJ.out ?_;refine Zo (by kernel_rfl) ?_ _;refine NoPanic.normal ?_;go_wp2_with fail
    go_roundw
    case rel=>exact⟨i+1,by have:=cM.out; omega,by go_num,yn.out.trans (BJ.out.mono yn.out.size)⟩
    case measure=>have:=cM.out; simp[intOf]; omega
  ·obtain rfl:i=4:=by omega
   go_wp2_with fail
   refine(Dj.out _).mono ?_;rintro e w6 ⟨rfl,hb⟩;have cU:=Zg (bp.out.trans ((aw.out.trans (hb.mono aw.out.size)).mono bp.out.size));clear hb;go_wp2_with fail
   go_ret;exact⟨rfl,cU.out⟩
end Go.Proofs.YtplgdpjbkdagfaaGreat
namespace Go.Proofs.YtplgdpjbkdagfaaGreat
open List renaming getElem?_toArray→Za, getElem?_cons_succ→Zb, getElem?_cons_zero→Zc, setIfInBounds_toArray→Zd, set_cons_zero→Ze, set_cons_succ→Zf
open Lib renaming hid→Zg
set_option maxRecDepth 100000
open Go Go.Joins Go.WideElems Go.Maps Go.ChangeShapes Go.WideShapes Go.ChangeAt Go.RowKit Go.Deep
set_option linter.unusedVariables false
section
variable {H:Type} {enc:TypeId × Value->H} {P:Program} {w:World} {base:Nat} {spare:Nat->Bool} {held:Bool}
theorem Zh6 {α :Type} {cs:Array α} (h:cs.size=9): ∃ c0 c1 c2 c3 c4 c5 c6 c7 c8,cs= #[c0,c1,c2,c3,c4,c5,c6,c7,c8]:=by
 obtain⟨l⟩:=cs;match l,h with
 | [c0,c1,c2,c3,c4,c5,c6,c7,c8],_=>exact⟨c0,c1,c2,c3,c4,c5,c6,c7,c8,rfl⟩
theorem JV {t:TypeId} {f0 f1 f2 f3 f4 f5 f6 f7 f8:Field} {fuel:Nat} {cs:List Value} {x:DataW H × List MemPlace} (ht:P.underlying t=some (.struct #[f0,f1,f2,f3,f4,f5,f6,f7,f8])) (h:DataW.trod enc P w base spare held fuel t cs=some x) :
 ∃ y0 y1 y2 y3 y4 y5 y6 y7 y8 n,x=(.agg [y0.1,y1.1,y2.1,y3.1,y4.1,y5.1,y6.1,y7.1,y8.1],y0.2++(y1.2++(y2.2++(y3.2++(y4.2++(y5.2++(y6.2++(y7.2++(y8.2)))))))))/\cs.length=P.cellsOf t/\DataW.trod enc P w base spare held n f0.type ((cs.drop f0.offset).take (P.cellsOf f0.type))=some y0/\DataW.trod enc P w base spare held n f1.type ((cs.drop f1.offset).take (P.cellsOf f1.type))=some y1/\DataW.trod enc P w base spare held n f2.type ((cs.drop f2.offset).take (P.cellsOf f2.type))=some y2/\DataW.trod enc P w base spare held n f3.type ((cs.drop f3.offset).take (P.cellsOf f3.type))=some y3/\DataW.trod enc P w base spare held n f4.type ((cs.drop f4.offset).take (P.cellsOf f4.type))=some y4/\DataW.trod enc P w base spare held n f5.type ((cs.drop f5.offset).take (P.cellsOf f5.type))=some y5/\DataW.trod enc P w base spare held n f6.type ((cs.drop f6.offset).take (P.cellsOf f6.type))=some y6/\DataW.trod enc P w base spare held n f7.type ((cs.drop f7.offset).take (P.cellsOf f7.type))=some y7/\DataW.trod enc P w base spare held n f8.type ((cs.drop f8.offset).take (P.cellsOf f8.type))=some y8:=by
 obtain⟨xs,n,_,rfl,hl,hlen,hf⟩:=DataW.trod_struct ht h;match xs,hlen with
 | [y0,y1,y2,y3,y4,y5,y6,y7,y8],_=>exact⟨y0,y1,y2,y3,y4,y5,y6,y7,y8,n,by simp,hl,by simpa using hf 0 f0 rfl,by simpa using hf 1 f1 rfl,by simpa using hf 2 f2 rfl,by simpa using hf 3 f3 rfl,by simpa using hf 4 f4 rfl,by simpa using hf 5 f5 rfl,by simpa using hf 6 f6 rfl,by simpa using hf 7 f7 rfl,by simpa using hf 8 f8 rfl⟩
theorem Zh7 {r:Reach} {b0:Nat} {t:TypeId} {f0 f1 f2 f3 f4 f5 f6 f7 f8:Field} {v:Value} {d:DataW H} {p:List MemPlace} (hs:P.underlying t=some (.struct #[f0,f1,f2,f3,f4,f5,f6,f7,f8])) (aZ:oneCellFields P #[f0,f1,f2,f3,f4,f5,f6,f7,f8]=true) (hC:P.cellsOf t=9)
 (hv:Value.okWide P w r b0 t v) (h:DataW.Trod enc P w base spare held t v d p) :
 ∃(v0 v1 v2 v3 v4 v5 v6 v7 v8:Value) (y0 y1 y2 y3 y4 y5 y6 y7 y8:DataW H × List MemPlace) (n:Nat),v= .agg #[v0,v1,v2,v3,v4,v5,v6,v7,v8]/\d= .agg [y0.1,y1.1,y2.1,y3.1,y4.1,y5.1,y6.1,y7.1,y8.1]/\p=y0.2++(y1.2++(y2.2++(y3.2++(y4.2++(y5.2++(y6.2++(y7.2++(y8.2))))))))/\DataW.trod enc P w base spare held n f0.type [v0]=some y0/\DataW.trod enc P w base spare held n f1.type [v1]=some y1/\DataW.trod enc P w base spare held n f2.type [v2]=some y2/\DataW.trod enc P w base spare held n f3.type [v3]=some y3/\DataW.trod enc P w base spare held n f4.type [v4]=some y4/\DataW.trod enc P w base spare held n f5.type [v5]=some y5/\DataW.trod enc P w base spare held n f6.type [v6]=some y6/\DataW.trod enc P w base spare held n f7.type [v7]=some y7/\DataW.trod enc P w base spare held n f8.type [v8]=some y8:=by
 obtain⟨cs,rfl,aT⟩:=okWide_struct hs hv;obtain⟨c0,c1,c2,c3,c4,c5,c6,c7,c8,rfl⟩:=Zh6 (aT.trans hC);obtain⟨fuel,hf⟩:=h;obtain⟨y0,y1,y2,y3,y4,y5,y6,y7,y8,n,hx,_,h0,h1,h2,h3,h4,h5,h6,h7,h8⟩:=JV hs hf;obtain⟨o0,k0⟩:=hone_of aZ 0 f0 rfl;obtain⟨o1,k1⟩:=hone_of aZ 1 f1 rfl;obtain⟨o2,k2⟩:=hone_of aZ 2 f2 rfl;obtain⟨o3,k3⟩:=hone_of aZ 3 f3 rfl;obtain⟨o4,k4⟩:=hone_of aZ 4 f4 rfl;obtain⟨o5,k5⟩:=hone_of aZ 5 f5 rfl;obtain⟨o6,k6⟩:=hone_of aZ 6 f6 rfl;obtain⟨o7,k7⟩:=hone_of aZ 7 f7 rfl;obtain⟨o8,k8⟩:=hone_of aZ 8 f8 rfl;simp only[Prod.mk.injEq] at hx;exact⟨c0,c1,c2,c3,c4,c5,c6,c7,c8,y0,y1,y2,y3,y4,y5,y6,y7,y8,n,rfl,hx.1,hx.2,by simpa [Value.cells,o0,k0] using h0,by simpa [Value.cells,o1,k1] using h1,by simpa [Value.cells,o2,k2] using h2,by simpa [Value.cells,o3,k3] using h3,by simpa [Value.cells,o4,k4] using h4,by simpa [Value.cells,o5,k5] using h5,by simpa [Value.cells,o6,k6] using h6,by simpa [Value.cells,o7,k7] using h7,by simpa [Value.cells,o8,k8] using h8⟩
end
end Go.Proofs.YtplgdpjbkdagfaaGreat
namespace Go.Proofs.YtplgdpjbkdagfaaGreat
open List renaming getElem?_toArray→Za, getElem?_cons_succ→Zb, getElem?_cons_zero→Zc, setIfInBounds_toArray→Zd, set_cons_zero→Ze, set_cons_succ→Zf
open Lib renaming hid→Zg
set_option maxRecDepth 100000
open Go.ChangeShapes Go.WideShapes Go.ChangeAt Go.RowKit
set_option linter.unusedVariables false
set_option linter.unusedSimpArgs false
theorem Zh8 {C:Int × Int->List Value} {k0 k1:IntKind} (hC: ∀ x,C x=[.int k0 x.1,.int k1 x.2]) {w:World} {a:Option Addr} {len cap:Nat} {zs:List (Int × Int)}
 (h:(a=none/\len=0/\cap=0/\zs=[])\/ ∃ x,a=some x/\len<=cap/\cap<=maxLen/\zs.length=cap/\ ∀ i (h:i<zs.length),w.cell? (x.add (i * 2))=some (.int k0 zs[i].1)/\w.cell? (x.add (i * 2+1))=some (.int k1 zs[i].2)/\(Lit.int k0 zs[i].1).wf=true/\(Lit.int k1 zs[i].2).wf=true) :
 (zs.take len).length=len/\len<=9223372036854775807/\SlT C 2 w a (zs.take len)/\ ∀ x∈zs.take len,(Lit.int k0 x.1).wf=true/\(Lit.int k1 x.2).wf=true:=by
 rcases h with⟨rfl,rfl,rfl,rfl⟩|⟨x,rfl,hl,hm,hz,hc⟩
 ·exact⟨rfl,by omega,.inl rfl,fun x hx=>by simp at hx⟩
 ·have hlen:(zs.take len).length=len:=by rw[List.length_take]; omega
  refine⟨hlen,by unfold maxLen at hm; omega,?_,fun y hy=> ?_⟩
  ·rcases Nat.eq_zero_or_pos len with h0|h0
   ·left; rw[h0]; rfl
   ·obtain⟨b,off,spot⟩:=x;have fR:spot=none:=by simpa [Addr.add] using World.cell?_spot (hc 0 (by omega)).1
    subst fR;have cJ: ∀ i,(⟨b,off,none⟩:Addr).add i=⟨b,off+i,none⟩:=fun i=>by unfold Addr.add; split <;> simp_all
    refine .inr ⟨b,off,rfl,?_,fun i hi j v hv=> ?_⟩
    ·have h1:=(hc 0 (by omega)).1;rw[cJ] at h1;rcases Nat.lt_or_ge b w.heap.size with af|gK
     ·exact af
     ·simp[World.cell?,Array.getElem?_eq_none gK] at h1
    ·obtain⟨c0,c1,_,_⟩:=hc i (by omega);rw[cJ] at c0 c1;rw[hC] at hv;simp only[List.getElem_take] at hv;rcases j with _|_|j
     ·simp at hv; subst hv; simpa using c0
     ·simp at hv; subst hv; rw[<-c1]
     ·simp at hv
  ·obtain⟨i,hi,rfl⟩:=List.mem_iff_getElem.1 hy;rw[List.getElem_take];exact(hc i (by omega)).2.2
theorem Zk9 {w:World} {a:Option Addr} {len cap:Nat} {zs:List Int}
 (h:(a=none/\len=0/\cap=0/\zs=[])\/ ∃ x,a=some x/\len<=cap/\cap<=maxLen/\zs.length=cap/\(∀ i,i<zs.length->w.cell? (x.add i)=some (.int .i64 (zs.getD i 0)))/\ ∀ n∈zs,(Lit.int .i64 n).wf=true) :
 (zs.take len).length=len/\len<=9223372036854775807/\SlT WH 1 w a (zs.take len):=by
 rcases h with⟨rfl,rfl,rfl,rfl⟩|⟨x,rfl,hl,hm,hz,hc,_⟩
 ·exact⟨rfl,by omega,.inl rfl⟩
 ·have hlen:(zs.take len).length=len:=by rw[List.length_take]; omega
  refine⟨hlen,by unfold maxLen at hm; omega,?_⟩;rcases Nat.eq_zero_or_pos len with h0|h0
  ·left; rw[h0]; rfl
  ·obtain⟨b,off,spot⟩:=x;have fR:spot=none:=by simpa [Addr.add] using World.cell?_spot (hc 0 (by omega))
   subst fR;have cJ: ∀ i,(⟨b,off,none⟩:Addr).add i=⟨b,off+i,none⟩:=fun i=>by unfold Addr.add; split <;> simp_all
   refine .inr ⟨b,off,rfl,?_,fun i hi j v hv=> ?_⟩
   ·have h1:=hc 0 (by omega);rw[cJ] at h1;rcases Nat.lt_or_ge b w.heap.size with af|gK
    ·exact af
    ·simp[World.cell?,Array.getElem?_eq_none gK] at h1
   ·have ef:i<zs.length:=by rw[List.length_take] at hi; omega
    have c0:=hc i ef;rw[cJ,List.getD_eq_getElem?_getD,List.getElem?_eq_getElem ef] at c0;simp only[List.getElem_take] at hv;rcases j with _|j
    ·simp[WH] at hv; subst hv; simpa using c0
    ·simp[WH] at hv
end Go.Proofs.YtplgdpjbkdagfaaGreat
