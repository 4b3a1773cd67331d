import Derived.Test.YtplgdpjbkdagfaaGreatZExpD
namespace Go.Proofs.YtplgdpjbkdagfaaGreat
set_option maxHeartbeats 8000000
open List renaming getElem?_toArray→Za, getElem?_cons_succ→Zb, getElem?_cons_zero→Zc, setIfInBounds_toArray→Zd, set_cons_zero→Ze, set_cons_succ→Zf
open Lib renaming hid→Zg
set_option maxRecDepth 100000
open Go.ChangeShapes Go.WideShapes Go.ChangeAt Go.RowKit
set_option linter.unusedVariables false
set_option linter.unusedSimpArgs false
structure Jf where
 dll:List Nat
 iat:Nat
 stamp:Nat
 handle:Nat
 syms:List XV
def Zda (b:List Nat) (x:Ds):Option Jf :=
 match YO b x.dll 40 with
 | none=>none
 | some t=>if Un t=true then
    (if x.delay=true/\(x.attrs≠1\/ ¬ x.handle+8<=b.length) then none
     else match Zdi b x with
      | none=>none
      | some l=>some ⟨t,x.iat,x.stamp,x.handle,l⟩)
   else none
def OneQ (base:Nat) (w':World) (r:Option Jf) (e:Ending):Prop:= ∃(T:ByteArray) (i s h:Nat) (A:Option Addr) (n c:Nat) (ok:Bool),e= .returned (.tuple #[.agg #[.string T,.int .i64 i,.int .i64 s,.int .i64 h,.slice A n c],.bool ok]) /\
 (r=none->ok=false)/\(∀ v,r=some v->ok=true/\T=txt v.dll/\i=v.iat/\s=v.stamp/\h=v.handle/\n=v.syms.length/\SlT YX 3 w' A v.syms/\ ∀ b,A.map (·.block)=some b->base<=b)
theorem Zbt {T:ByteArray} {a b c:Int} {A:Option Addr} {n m:Nat}:(#[.string T,.int .i64 a,.int .i64 b,.int .i64 c,.slice A n m]:Array Value).all (·.oneCell')=true:=by simp[Value.oneCell']
theorem UG {a b c d e:Value}:(Tryz.prog.info? 78).map (·.size)=some (#[a,b,c,d,e]:Array Value).size:=by kernel_rfl
theorem Zie (A:Option Addr) (cap:Nat) (bs:List Nat) (x:Ds) (w:World) (hl:bs.length<=cap) (hc:cap<=9223372036854775807) (hlen:bs.length<=1000000) (hb:Lb bs) (hs:SlB w A bs.length (lF bs)) (ht:x.thunks<4294967296) (hi:x.iat<4294967296) (hd:x.dll<4294967296) (hh:x.handle<4294967296) :
 Calls Tryz.prog 136 #[.slice A bs.length cap,.agg x.cells] w fun e w'=>OneQ w.heap.size w' (Zda bs x) e/\Below w.heap.size w w':=by
 obtain⟨R,hR⟩: ∃ R,Zda bs x=R:=⟨_,rfl⟩;rw[hR];unfold Zda at hR;obtain⟨SD,Eg⟩: ∃ q,Zdi bs x=q:=⟨_,rfl⟩;rw[Eg] at hR;have HY:=Zg (fun W (hW:Below w.heap.size w W)=>Zdj A cap bs x W hl hc hlen hb (SlB.below hs hW) ht hi);rw[Eg] at HY;clear Eg;obtain⟨xt,xd,xi,xs,xy,xa,xh⟩:=x;simp only[Ds.cells] at HY ⊢;simp only at hR hd hh;obtain⟨w1,ao⟩: ∃ w1,(w.alloc (.cells #[.int .i64 xt,.int .i64 xd,.int .i64 xi,.int .i64 xs,.bool xy,.int .i64 xa,.int .i64 xh] 219)).alloc (.cells #[.string ⟨#[]⟩,.int .i64 0,.int .i64 0,.int .i64 0,.slice none 0 0] 78)=w1:=⟨_,rfl⟩;have cY:(w.alloc (.cells #[.int .i64 xt,.int .i64 xd,.int .i64 xi,.int .i64 xs,.bool xy,.int .i64 xa,.int .i64 xh] 219)).heap.size=w.heap.size+1:=by simp
 have az:Below w.heap.size w w1:=by rw[<-ao]; exact((Below.refl w.heap.size w).alloc (Nat.le_refl _) _).alloc (by rw[cY]; omega) _
 have HB:=Zg az;have H0:=Zg (show w1.heap[w.heap.size]? =some (.cells #[.int .i64 xt,.int .i64 xd,.int .i64 xi,.int .i64 xs,.bool xy,.int .i64 xa,.int .i64 xh] 219 (0,0)) from by
  rw[<-ao];exact(Below.heap_alloc _ _ w.heap.size (by rw[cY]; omega)).trans (heap_alloc_new w _))
 have H1:=Zg (show w1.heap[w.heap.size+1]? =some (.cells #[.string ⟨#[]⟩,.int .i64 0,.int .i64 0,.int .i64 0,.slice none 0 0] 78 (0,0)) from by
  rw[<-ao];have h:=heap_alloc_new (w.alloc (.cells #[.int .i64 xt,.int .i64 xd,.int .i64 xi,.int .i64 xs,.bool xy,.int .i64 xa,.int .i64 xh] 219)) (.cells #[.string ⟨#[]⟩,.int .i64 0,.int .i64 0,.int .i64 0,.slice none 0 0] 78);rwa [cY] at h)
 have cu:=Zg ao;have bW:=Zg (WK A cap bs xd 40 w1 hc hl (SlB.below hs az));have ax:=Zg (fun W=>ZV A bs.length cap xh 8 (decide (xh+8<=bs.length)) W (by omega) (by omega) (by omega) (by rw[decide_eq_true_iff]; omega));have q0:w1.cell? ⟨w.heap.size,0,none⟩=some (.int .i64 xt):=by rw[Zh H0.out]; rfl
 have q1:w1.cell? ⟨w.heap.size,1,none⟩=some (.int .i64 xd):=by rw[Zh H0.out]; rfl
 have q2:w1.cell? ⟨w.heap.size,2,none⟩=some (.int .i64 xi):=by rw[Zh H0.out]; rfl
 have q3:w1.cell? ⟨w.heap.size,3,none⟩=some (.int .i64 xs):=by rw[Zh H0.out]; rfl
 have q4:w1.cell? ⟨w.heap.size,4,none⟩=some (.bool xy):=by rw[Zh H0.out]; rfl
 have q5:w1.cell? ⟨w.heap.size,5,none⟩=some (.int .i64 xa):=by rw[Zh H0.out]; rfl
 have q6:w1.cell? ⟨w.heap.size,6,none⟩=some (.int .i64 xh):=by rw[Zh H0.out]; rfl
 clear ao cY az hs ht hi hd hh;rcases hte:YO bs xd 40 with _|t
 ·rw[hte] at bW hR;simp only at bW hR;have HR:=Zg hR;clear hR hte;go_enter Tryz.func136,Tryz.ntmps136;go_upto_region 1 with(fail)
  refine(congrArg _ cu.out).mpr ?_;go_wp2_with fail
  refine bW.out.mono ?_;rintro e w' ⟨rfl,rfl⟩;obtain⟨w9,ah⟩: ∃ w9,w1.setRow (w.heap.size+1) #[.string ⟨#[]⟩,.int .i64 0,.int .i64 0,.int .i64 0,.slice none 0 0]=w9:=⟨_,rfl⟩;have aP:=Zg ah;have ai:=Zg (show w9.heap[w.heap.size+1]? =some (.cells #[.string ⟨#[]⟩,.int .i64 0,.int .i64 0,.int .i64 0,.slice none 0 0] 78 (0,0)) from by rw[<-ah]; exact setRow_heap _ _ _ _ _ _ H1.out);have ay:=Zg (show Below w.heap.size w w9 from by rw[<-ah]; exact below_setRow HB.out (Nat.le_succ _) _);have k0:w9.cell? ⟨w.heap.size+1,0,none⟩=some (.string ⟨#[]⟩):=by rw[Zh ai.out]; rfl
  have k1:w9.cell? ⟨w.heap.size+1,1,none⟩=some (.int .i64 0):=by rw[Zh ai.out]; rfl
  have k2:w9.cell? ⟨w.heap.size+1,2,none⟩=some (.int .i64 0):=by rw[Zh ai.out]; rfl
  have k3:w9.cell? ⟨w.heap.size+1,3,none⟩=some (.int .i64 0):=by rw[Zh ai.out]; rfl
  have k4:w9.cell? ⟨w.heap.size+1,4,none⟩=some (.slice none 0 0):=by rw[Zh ai.out]; rfl
  clear ah;go_upto_region 3 with(fail)
  go_wp2_with (first|(refine wpList_store_row rfl 78 _ _ rfl (w.heap.size+1) #[.string ⟨#[]⟩,.int .i64 0,.int .i64 0,.int .i64 0,.slice none 0 0] rfl rfl 78 #[.string ⟨#[]⟩,.int .i64 0,.int .i64 0,.int .i64 0,.slice none 0 0] H1.out UG rfl Zbt ?_; refine(congrArg _ aP.out).mpr ?_)|fail)
  refine bodyPost_ret (v:= .tuple #[.agg #[.string ⟨#[]⟩,.int .i64 0,.int .i64 0,.int .i64 0,.slice none 0 0],.bool false]) (by simp[results,Tryz.results136,go_sem,k0,k1,k2,k3,k4]) rfl ⟨⟨_,0,0,0,_,_,_,_,rfl,fun _=>rfl,fun v hv=>absurd (HR.out.trans hv) (by simp)⟩,ay.out⟩
 ·have af:=YC hb hte;have fq:=Zg (fun W=>Zew t W af.1 (by have:=af.2; omega));rw[hte] at bW hR;simp only at bW hR;clear hte af;by_cases ba:Un t=true
  ·rw[if_pos ba] at hR;rw[ba] at fq;clear ba;by_cases aX:xy=true/\(xa≠1\/ ¬ xh+8<=bs.length)
   ·rw[if_pos aX] at hR;have HR:=Zg hR;clear hR;obtain⟨rfl,aX⟩:=aX;by_cases xH:xa=1
    ·have y9: ¬ xh+8<=bs.length:=by omega
     rw[decide_eq_false y9] at ax;have DV:=Zg xH;clear aX y9 xH;go_enter Tryz.func136,Tryz.ntmps136;go_upto_region 1 with(fail)
     refine(congrArg _ cu.out).mpr ?_;go_wp2_with fail
     refine bW.out.mono ?_;rintro e w' ⟨rfl,rfl⟩;have da:(xa:Int)=1:=by have:=DV.out; omega
     go_wp2_with fail
     refine(fq.out _).mono ?_;rintro e w' ⟨rfl,rfl⟩;go_wp2_with fail
     clear da;refine(ax.out _).mono ?_;rintro e w' ⟨rfl,rfl⟩;obtain⟨w9,ah⟩: ∃ w9,w1.setRow (w.heap.size+1) #[.string ⟨#[]⟩,.int .i64 0,.int .i64 0,.int .i64 0,.slice none 0 0]=w9:=⟨_,rfl⟩;have aP:=Zg ah;have ai:=Zg (show w9.heap[w.heap.size+1]? =some (.cells #[.string ⟨#[]⟩,.int .i64 0,.int .i64 0,.int .i64 0,.slice none 0 0] 78 (0,0)) from by rw[<-ah]; exact setRow_heap _ _ _ _ _ _ H1.out);have ay:=Zg (show Below w.heap.size w w9 from by rw[<-ah]; exact below_setRow HB.out (Nat.le_succ _) _);have k0:w9.cell? ⟨w.heap.size+1,0,none⟩=some (.string ⟨#[]⟩):=by rw[Zh ai.out]; rfl
     have k1:w9.cell? ⟨w.heap.size+1,1,none⟩=some (.int .i64 0):=by rw[Zh ai.out]; rfl
     have k2:w9.cell? ⟨w.heap.size+1,2,none⟩=some (.int .i64 0):=by rw[Zh ai.out]; rfl
     have k3:w9.cell? ⟨w.heap.size+1,3,none⟩=some (.int .i64 0):=by rw[Zh ai.out]; rfl
     have k4:w9.cell? ⟨w.heap.size+1,4,none⟩=some (.slice none 0 0):=by rw[Zh ai.out]; rfl
     clear ah;go_upto_region 5 with(fail)
     go_wp2_with (first|(refine wpList_store_row rfl 78 _ _ rfl (w.heap.size+1) #[.string ⟨#[]⟩,.int .i64 0,.int .i64 0,.int .i64 0,.slice none 0 0] rfl rfl 78 #[.string ⟨#[]⟩,.int .i64 0,.int .i64 0,.int .i64 0,.slice none 0 0] H1.out UG rfl Zbt ?_; refine(congrArg _ aP.out).mpr ?_)|fail)
     refine bodyPost_ret (v:= .tuple #[.agg #[.string ⟨#[]⟩,.int .i64 0,.int .i64 0,.int .i64 0,.slice none 0 0],.bool false]) (by simp[results,Tryz.results136,go_sem,k0,k1,k2,k3,k4]) rfl ⟨⟨_,0,0,0,_,_,_,_,rfl,fun _=>rfl,fun v hv=>absurd (HR.out.trans hv) (by simp)⟩,ay.out⟩
    ·have da:((xa:Int) == 1)=false:=beq_eq_false_iff_ne.mpr (by omega);have db: ¬ (xa:Int)=1:=by omega
     clear aX xH;go_enter Tryz.func136,Tryz.ntmps136;go_upto_region 1 with(fail)
     refine(congrArg _ cu.out).mpr ?_;go_wp2_with fail
     refine bW.out.mono ?_;rintro e w' ⟨rfl,rfl⟩;go_wp2_with fail
     refine(fq.out _).mono ?_;rintro e w' ⟨rfl,rfl⟩;obtain⟨w9,ah⟩: ∃ w9,w1.setRow (w.heap.size+1) #[.string ⟨#[]⟩,.int .i64 0,.int .i64 0,.int .i64 0,.slice none 0 0]=w9:=⟨_,rfl⟩;have aP:=Zg ah;have ai:=Zg (show w9.heap[w.heap.size+1]? =some (.cells #[.string ⟨#[]⟩,.int .i64 0,.int .i64 0,.int .i64 0,.slice none 0 0] 78 (0,0)) from by rw[<-ah]; exact setRow_heap _ _ _ _ _ _ H1.out);have ay:=Zg (show Below w.heap.size w w9 from by rw[<-ah]; exact below_setRow HB.out (Nat.le_succ _) _);have k0:w9.cell? ⟨w.heap.size+1,0,none⟩=some (.string ⟨#[]⟩):=by rw[Zh ai.out]; rfl
     have k1:w9.cell? ⟨w.heap.size+1,1,none⟩=some (.int .i64 0):=by rw[Zh ai.out]; rfl
     have k2:w9.cell? ⟨w.heap.size+1,2,none⟩=some (.int .i64 0):=by rw[Zh ai.out]; rfl
     have k3:w9.cell? ⟨w.heap.size+1,3,none⟩=some (.int .i64 0):=by rw[Zh ai.out]; rfl
     have k4:w9.cell? ⟨w.heap.size+1,4,none⟩=some (.slice none 0 0):=by rw[Zh ai.out]; rfl
     clear ah;go_upto_region 5 with(fail)
     go_wp2_with (first|(refine wpList_store_row rfl 78 _ _ rfl (w.heap.size+1) #[.string ⟨#[]⟩,.int .i64 0,.int .i64 0,.int .i64 0,.slice none 0 0] rfl rfl 78 #[.string ⟨#[]⟩,.int .i64 0,.int .i64 0,.int .i64 0,.slice none 0 0] H1.out UG rfl Zbt ?_; refine(congrArg _ aP.out).mpr ?_)|fail)
     refine bodyPost_ret (v:= .tuple #[.agg #[.string ⟨#[]⟩,.int .i64 0,.int .i64 0,.int .i64 0,.slice none 0 0],.bool false]) (by simp[results,Tryz.results136,go_sem,k0,k1,k2,k3,k4]) rfl ⟨⟨_,0,0,0,_,_,_,_,rfl,fun _=>rfl,fun v hv=>absurd (HR.out.trans hv) (by simp)⟩,ay.out⟩
   ·rw[if_neg aX] at hR;have bk:=Zg hR;clear hR;rcases xy with _|_
    ·clear aX;go_enter Tryz.func136,Tryz.ntmps136;go_upto_region 1 with(fail)
     refine(congrArg _ cu.out).mpr ?_;go_wp2_with fail
     refine bW.out.mono ?_;rintro e w' ⟨rfl,rfl⟩;go_wp2_with fail
     refine(fq.out _).mono ?_;rintro e w' ⟨rfl,rfl⟩;go_wp2_with fail
     refine(HY.out w1 HB.out).mono ?_;rintro e w2 ⟨hq,aR⟩;have aj:=Zg (HB.out.trans (aR.mono HB.out.size));have mG:=Zg ((aR.block _ (Zi H0.out)).trans H0.out);have rQ:=Zg ((aR.block _ (Zi H1.out)).trans H1.out);clear aR q0 q1 q2 q3 q4 q5 q6;rcases SD with _|l
     ·have fl:e= .returned (.tuple #[.slice none 0 0,.bool false]):=hq;subst fl;have HR:=bk;simp only at HR;clear hq;obtain⟨w9,ah⟩: ∃ w9,w2.setRow (w.heap.size+1) #[.string ⟨#[]⟩,.int .i64 0,.int .i64 0,.int .i64 0,.slice none 0 0]=w9:=⟨_,rfl⟩;have aP:=Zg ah;have ai:=Zg (show w9.heap[w.heap.size+1]? =some (.cells #[.string ⟨#[]⟩,.int .i64 0,.int .i64 0,.int .i64 0,.slice none 0 0] 78 (0,0)) from by rw[<-ah]; exact setRow_heap _ _ _ _ _ _ rQ.out);have ay:=Zg (show Below w.heap.size w w9 from by rw[<-ah]; exact below_setRow aj.out (Nat.le_succ _) _);have k0:w9.cell? ⟨w.heap.size+1,0,none⟩=some (.string ⟨#[]⟩):=by rw[Zh ai.out]; rfl
      have k1:w9.cell? ⟨w.heap.size+1,1,none⟩=some (.int .i64 0):=by rw[Zh ai.out]; rfl
      have k2:w9.cell? ⟨w.heap.size+1,2,none⟩=some (.int .i64 0):=by rw[Zh ai.out]; rfl
      have k3:w9.cell? ⟨w.heap.size+1,3,none⟩=some (.int .i64 0):=by rw[Zh ai.out]; rfl
      have k4:w9.cell? ⟨w.heap.size+1,4,none⟩=some (.slice none 0 0):=by rw[Zh ai.out]; rfl
      clear ah;go_upto_region 8 with(fail)
      go_wp2_with (first|(refine wpList_store_row rfl 78 _ _ rfl (w.heap.size+1) #[.string ⟨#[]⟩,.int .i64 0,.int .i64 0,.int .i64 0,.slice none 0 0] rfl rfl 78 #[.string ⟨#[]⟩,.int .i64 0,.int .i64 0,.int .i64 0,.slice none 0 0] rQ.out UG rfl Zbt ?_; refine(congrArg _ aP.out).mpr ?_)|fail)
      refine bodyPost_ret (v:= .tuple #[.agg #[.string ⟨#[]⟩,.int .i64 0,.int .i64 0,.int .i64 0,.slice none 0 0],.bool false]) (by simp[results,Tryz.results136,go_sem,k0,k1,k2,k3,k4]) rfl ⟨⟨_,0,0,0,_,_,_,_,rfl,fun _=>rfl,fun v hv=>absurd (HR.out.trans hv) (by simp)⟩,ay.out⟩
     ·obtain⟨A2,c2,rfl,ae⟩:=hq;have HO:=Zg ae;have ma:=Zg (show ∀ b,A2.map (·.block)=some b->w.heap.size<=b from fun b hb=>by
       have h1:=(ae.lt b (by cases A2 with
        | none=>simp at hb
        | some y=>simpa [Value.ownBlock] using hb)).1
       exact Nat.le_trans HB.out.size h1)
      have HR:=bk;simp only at HR;clear ae;have q0:w2.cell? ⟨w.heap.size,0,none⟩=some (.int .i64 xt):=by rw[Zh mG.out]; rfl
      have q1:w2.cell? ⟨w.heap.size,1,none⟩=some (.int .i64 xd):=by rw[Zh mG.out]; rfl
      have q2:w2.cell? ⟨w.heap.size,2,none⟩=some (.int .i64 xi):=by rw[Zh mG.out]; rfl
      have q3:w2.cell? ⟨w.heap.size,3,none⟩=some (.int .i64 xs):=by rw[Zh mG.out]; rfl
      have q4:w2.cell? ⟨w.heap.size,4,none⟩=some (.bool false):=by rw[Zh mG.out]; rfl
      have q5:w2.cell? ⟨w.heap.size,5,none⟩=some (.int .i64 xa):=by rw[Zh mG.out]; rfl
      have q6:w2.cell? ⟨w.heap.size,6,none⟩=some (.int .i64 xh):=by rw[Zh mG.out]; rfl
      obtain⟨w9,ah⟩: ∃ w9,w2.setRow (w.heap.size+1) #[.string (txt t),.int .i64 xi,.int .i64 xs,.int .i64 xh,.slice A2 l.length c2]=w9:=⟨_,rfl⟩;have aP:=Zg ah;have ai:=Zg (show w9.heap[w.heap.size+1]? =some (.cells #[.string (txt t),.int .i64 xi,.int .i64 xs,.int .i64 xh,.slice A2 l.length c2] 78 (0,0)) from by rw[<-ah]; exact setRow_heap _ _ _ _ _ _ rQ.out);have ay:=Zg (show Below w.heap.size w w9 from by rw[<-ah]; exact below_setRow aj.out (Nat.le_succ _) _);have k0:w9.cell? ⟨w.heap.size+1,0,none⟩=some (.string (txt t)):=by rw[Zh ai.out]; rfl
      have k1:w9.cell? ⟨w.heap.size+1,1,none⟩=some (.int .i64 xi):=by rw[Zh ai.out]; rfl
      have k2:w9.cell? ⟨w.heap.size+1,2,none⟩=some (.int .i64 xs):=by rw[Zh ai.out]; rfl
      have k3:w9.cell? ⟨w.heap.size+1,3,none⟩=some (.int .i64 xh):=by rw[Zh ai.out]; rfl
      have k4:w9.cell? ⟨w.heap.size+1,4,none⟩=some (.slice A2 l.length c2):=by rw[Zh ai.out]; rfl
      have mj:=Zg (show SlT YX 3 w9 A2 l from by rw[<-ah]; exact(Yz HO.out (Zi H1.out) _).sl Xv);clear ah;go_upto_region 9 with(fail)
      go_wp2_with (first|(refine wpList_store_row rfl 78 _ _ rfl (w.heap.size+1) #[.string (txt t),.int .i64 xi,.int .i64 xs,.int .i64 xh,.slice A2 l.length c2] rfl rfl 78 #[.string ⟨#[]⟩,.int .i64 0,.int .i64 0,.int .i64 0,.slice none 0 0] rQ.out UG rfl Zbt ?_; refine(congrArg _ aP.out).mpr ?_)|fail)
      have di:=mj;refine bodyPost_ret (v:= .tuple #[.agg #[.string (txt t),.int .i64 xi,.int .i64 xs,.int .i64 xh,.slice A2 l.length c2],.bool true]) (by simp[results,Tryz.results136,go_sem,k0,k1,k2,k3,k4]) rfl ⟨⟨_,xi,xs,xh,_,_,_,_,rfl,fun h=>absurd (HR.out.trans h) (by simp),fun v hv=>by have:=HR.out.trans hv; injection this with this; subst this; exact⟨rfl,rfl,rfl,rfl,rfl,rfl,di.out,ma.out⟩⟩,ay.out⟩
    ·have xH:xa=1:=by
      rcases Nat.decEq xa 1 with h|h
      ·exact absurd ⟨rfl,.inl h⟩ aX
      ·exact h
     have aU:xh+8<=bs.length:=by
      rcases Nat.lt_or_ge bs.length (xh+8) with h|h
      ·exact absurd ⟨rfl,.inr (by omega)⟩ aX
      ·exact h
     rw[decide_eq_true aU] at ax;have DV:=Zg xH;clear aX aU xH;go_enter Tryz.func136,Tryz.ntmps136;go_upto_region 1 with(fail)
     refine(congrArg _ cu.out).mpr ?_;go_wp2_with fail
     refine bW.out.mono ?_;rintro e w' ⟨rfl,rfl⟩;have da:(xa:Int)=1:=by have:=DV.out; omega
     go_wp2_with fail
     refine(fq.out _).mono ?_;rintro e w' ⟨rfl,rfl⟩;go_wp2_with fail
     clear da;refine(ax.out _).mono ?_;rintro e w' ⟨rfl,rfl⟩;go_wp2_with fail
     refine(HY.out w1 HB.out).mono ?_;rintro e w2 ⟨hq,aR⟩;have aj:=Zg (HB.out.trans (aR.mono HB.out.size));have mG:=Zg ((aR.block _ (Zi H0.out)).trans H0.out);have rQ:=Zg ((aR.block _ (Zi H1.out)).trans H1.out);clear aR q0 q1 q2 q3 q4 q5 q6;rcases SD with _|l
     ·have fl:e= .returned (.tuple #[.slice none 0 0,.bool false]):=hq;subst fl;have HR:=bk;simp only at HR;clear hq;obtain⟨w9,ah⟩: ∃ w9,w2.setRow (w.heap.size+1) #[.string ⟨#[]⟩,.int .i64 0,.int .i64 0,.int .i64 0,.slice none 0 0]=w9:=⟨_,rfl⟩;have aP:=Zg ah;have ai:=Zg (show w9.heap[w.heap.size+1]? =some (.cells #[.string ⟨#[]⟩,.int .i64 0,.int .i64 0,.int .i64 0,.slice none 0 0] 78 (0,0)) from by rw[<-ah]; exact setRow_heap _ _ _ _ _ _ rQ.out);have ay:=Zg (show Below w.heap.size w w9 from by rw[<-ah]; exact below_setRow aj.out (Nat.le_succ _) _);have k0:w9.cell? ⟨w.heap.size+1,0,none⟩=some (.string ⟨#[]⟩):=by rw[Zh ai.out]; rfl
      have k1:w9.cell? ⟨w.heap.size+1,1,none⟩=some (.int .i64 0):=by rw[Zh ai.out]; rfl
      have k2:w9.cell? ⟨w.heap.size+1,2,none⟩=some (.int .i64 0):=by rw[Zh ai.out]; rfl
      have k3:w9.cell? ⟨w.heap.size+1,3,none⟩=some (.int .i64 0):=by rw[Zh ai.out]; rfl
      have k4:w9.cell? ⟨w.heap.size+1,4,none⟩=some (.slice none 0 0):=by rw[Zh ai.out]; rfl
      clear ah;go_upto_region 8 with(fail)
      go_wp2_with (first|(refine wpList_store_row rfl 78 _ _ rfl (w.heap.size+1) #[.string ⟨#[]⟩,.int .i64 0,.int .i64 0,.int .i64 0,.slice none 0 0] rfl rfl 78 #[.string ⟨#[]⟩,.int .i64 0,.int .i64 0,.int .i64 0,.slice none 0 0] rQ.out UG rfl Zbt ?_; refine(congrArg _ aP.out).mpr ?_)|fail)
      refine bodyPost_ret (v:= .tuple #[.agg #[.string ⟨#[]⟩,.int .i64 0,.int .i64 0,.int .i64 0,.slice none 0 0],.bool false]) (by simp[results,Tryz.results136,go_sem,k0,k1,k2,k3,k4]) rfl ⟨⟨_,0,0,0,_,_,_,_,rfl,fun _=>rfl,fun v hv=>absurd (HR.out.trans hv) (by simp)⟩,ay.out⟩
     ·obtain⟨A2,c2,rfl,ae⟩:=hq;have HO:=Zg ae;have ma:=Zg (show ∀ b,A2.map (·.block)=some b->w.heap.size<=b from fun b hb=>by
       have h1:=(ae.lt b (by cases A2 with
        | none=>simp at hb
        | some y=>simpa [Value.ownBlock] using hb)).1
       exact Nat.le_trans HB.out.size h1)
      have HR:=bk;simp only at HR;clear ae;have q0:w2.cell? ⟨w.heap.size,0,none⟩=some (.int .i64 xt):=by rw[Zh mG.out]; rfl
      have q1:w2.cell? ⟨w.heap.size,1,none⟩=some (.int .i64 xd):=by rw[Zh mG.out]; rfl
      have q2:w2.cell? ⟨w.heap.size,2,none⟩=some (.int .i64 xi):=by rw[Zh mG.out]; rfl
      have q3:w2.cell? ⟨w.heap.size,3,none⟩=some (.int .i64 xs):=by rw[Zh mG.out]; rfl
      have q4:w2.cell? ⟨w.heap.size,4,none⟩=some (.bool true):=by rw[Zh mG.out]; rfl
      have q5:w2.cell? ⟨w.heap.size,5,none⟩=some (.int .i64 xa):=by rw[Zh mG.out]; rfl
      have q6:w2.cell? ⟨w.heap.size,6,none⟩=some (.int .i64 xh):=by rw[Zh mG.out]; rfl
      obtain⟨w9,ah⟩: ∃ w9,w2.setRow (w.heap.size+1) #[.string (txt t),.int .i64 xi,.int .i64 xs,.int .i64 xh,.slice A2 l.length c2]=w9:=⟨_,rfl⟩;have aP:=Zg ah;have ai:=Zg (show w9.heap[w.heap.size+1]? =some (.cells #[.string (txt t),.int .i64 xi,.int .i64 xs,.int .i64 xh,.slice A2 l.length c2] 78 (0,0)) from by rw[<-ah]; exact setRow_heap _ _ _ _ _ _ rQ.out);have ay:=Zg (show Below w.heap.size w w9 from by rw[<-ah]; exact below_setRow aj.out (Nat.le_succ _) _);have k0:w9.cell? ⟨w.heap.size+1,0,none⟩=some (.string (txt t)):=by rw[Zh ai.out]; rfl
      have k1:w9.cell? ⟨w.heap.size+1,1,none⟩=some (.int .i64 xi):=by rw[Zh ai.out]; rfl
      have k2:w9.cell? ⟨w.heap.size+1,2,none⟩=some (.int .i64 xs):=by rw[Zh ai.out]; rfl
      have k3:w9.cell? ⟨w.heap.size+1,3,none⟩=some (.int .i64 xh):=by rw[Zh ai.out]; rfl
      have k4:w9.cell? ⟨w.heap.size+1,4,none⟩=some (.slice A2 l.length c2):=by rw[Zh ai.out]; rfl
      have mj:=Zg (show SlT YX 3 w9 A2 l from by rw[<-ah]; exact(Yz HO.out (Zi H1.out) _).sl Xv);clear ah;go_upto_region 9 with(fail)
      go_wp2_with (first|(refine wpList_store_row rfl 78 _ _ rfl (w.heap.size+1) #[.string (txt t),.int .i64 xi,.int .i64 xs,.int .i64 xh,.slice A2 l.length c2] rfl rfl 78 #[.string ⟨#[]⟩,.int .i64 0,.int .i64 0,.int .i64 0,.slice none 0 0] rQ.out UG rfl Zbt ?_; refine(congrArg _ aP.out).mpr ?_)|fail)
      have di:=mj;refine bodyPost_ret (v:= .tuple #[.agg #[.string (txt t),.int .i64 xi,.int .i64 xs,.int .i64 xh,.slice A2 l.length c2],.bool true]) (by simp[results,Tryz.results136,go_sem,k0,k1,k2,k3,k4]) rfl ⟨⟨_,xi,xs,xh,_,_,_,_,rfl,fun h=>absurd (HR.out.trans h) (by simp),fun v hv=>by have:=HR.out.trans hv; injection this with this; subst this; exact⟨rfl,rfl,rfl,rfl,rfl,rfl,di.out,ma.out⟩⟩,ay.out⟩
  ·rw[if_neg ba] at hR;rw[show Un t=false by simpa using ba] at fq;have HR:=Zg hR;clear hR ba;go_enter Tryz.func136,Tryz.ntmps136;go_upto_region 1 with(fail)
   refine(congrArg _ cu.out).mpr ?_;go_wp2_with fail
   refine bW.out.mono ?_;rintro e w' ⟨rfl,rfl⟩;go_wp2_with fail
   refine(fq.out _).mono ?_;rintro e w' ⟨rfl,rfl⟩;obtain⟨w9,ah⟩: ∃ w9,w1.setRow (w.heap.size+1) #[.string ⟨#[]⟩,.int .i64 0,.int .i64 0,.int .i64 0,.slice none 0 0]=w9:=⟨_,rfl⟩;have aP:=Zg ah;have ai:=Zg (show w9.heap[w.heap.size+1]? =some (.cells #[.string ⟨#[]⟩,.int .i64 0,.int .i64 0,.int .i64 0,.slice none 0 0] 78 (0,0)) from by rw[<-ah]; exact setRow_heap _ _ _ _ _ _ H1.out);have ay:=Zg (show Below w.heap.size w w9 from by rw[<-ah]; exact below_setRow HB.out (Nat.le_succ _) _);have k0:w9.cell? ⟨w.heap.size+1,0,none⟩=some (.string ⟨#[]⟩):=by rw[Zh ai.out]; rfl
   have k1:w9.cell? ⟨w.heap.size+1,1,none⟩=some (.int .i64 0):=by rw[Zh ai.out]; rfl
   have k2:w9.cell? ⟨w.heap.size+1,2,none⟩=some (.int .i64 0):=by rw[Zh ai.out]; rfl
   have k3:w9.cell? ⟨w.heap.size+1,3,none⟩=some (.int .i64 0):=by rw[Zh ai.out]; rfl
   have k4:w9.cell? ⟨w.heap.size+1,4,none⟩=some (.slice none 0 0):=by rw[Zh ai.out]; rfl
   clear ah;go_upto_region 3 with(fail)
   go_wp2_with (first|(refine wpList_store_row rfl 78 _ _ rfl (w.heap.size+1) #[.string ⟨#[]⟩,.int .i64 0,.int .i64 0,.int .i64 0,.slice none 0 0] rfl rfl 78 #[.string ⟨#[]⟩,.int .i64 0,.int .i64 0,.int .i64 0,.slice none 0 0] H1.out UG rfl Zbt ?_; refine(congrArg _ aP.out).mpr ?_)|fail)
   refine bodyPost_ret (v:= .tuple #[.agg #[.string ⟨#[]⟩,.int .i64 0,.int .i64 0,.int .i64 0,.slice none 0 0],.bool false]) (by simp[results,Tryz.results136,go_sem,k0,k1,k2,k3,k4]) rfl ⟨⟨_,0,0,0,_,_,_,_,rfl,fun _=>rfl,fun v hv=>absurd (HR.out.trans hv) (by simp)⟩,ay.out⟩
structure WN where
 v:Jf
 A:Option Addr
 c:Nat
def YS (y:WN):List Value:=[.string (txt y.v.dll),.int .i64 y.v.iat,.int .i64 y.v.stamp,.int .i64 y.v.handle,.slice y.A y.v.syms.length y.c]
theorem Vb (y:WN):(YS y).length=5:=rfl
theorem Jg (y:WN): ∀ u∈YS y,u.oneCell'=true:=by
 intro u hu;simp[YS] at hu;rcases hu with rfl|rfl|rfl|rfl|rfl <;> rfl
theorem Zai:(Tryz.prog.info? 78).map (fun i=>(i.zero,i.size,i.bytes))=some (some (.agg #[.string ByteArray.empty,.int .i64 0,.int .i64 0,.int .i64 0,.slice none 0 0]),5,64):=by kernel_rfl
theorem Jh (y:WN) (w:World): ∀ j u,(YS y)[j]? =some u->(w.alloc (.cells #[.string (txt y.v.dll),.int .i64 y.v.iat,.int .i64 y.v.stamp,.int .i64 y.v.handle,.slice y.A y.v.syms.length y.c] 78)).cell? ⟨w.heap.size,j,none⟩=some u:=by
 intro j u hu;rcases j with _|_|_|_|_|j
 ·simp[YS] at hu; subst hu; simp[go_sem]
 ·simp[YS] at hu; subst hu; simp[go_sem]
 ·simp[YS] at hu; subst hu; simp[go_sem]
 ·simp[YS] at hu; subst hu; simp[go_sem]
 ·simp[YS] at hu; subst hu; simp[go_sem]
 ·simp[YS] at hu
def WE (b:List Nat) (n:Nat) (rd:List Nat->Nat->Ds):Nat->Nat->List Jf->Option (List Jf)
 | 0,_,_=>none
 | k+1,o,acc =>
   if Yn b o n=true then some acc
   else if o+n<=b.length/\acc.length≠16 then
    match Zda b (rd b o) with
    | none=>none
    | some v=>WE b n rd k (o+n) (acc++[v])
   else none
def ZU (b:List Nat) (rva n:Nat) (rd:List Nat->Nat->Ds):Option (List Jf):=if rva=0 then some [] else WE b n rd 18 rva []
def Ut (w:World) (base:Nat) (A:Option Addr) (c:Nat) (l:List WN):Prop :=
 ZJ YS 5 w base 78 (.slice A l.length c) l/\ ∀ y∈l,SlT YX 3 w y.A y.v.syms/\ ∀ b,y.A.map (·.block)=some b->base<=b
def ImpQ (w w':World) (r:Option (List Jf)) (e:Ending):Prop:=match r with
 | none=>e= .returned (.tuple #[.slice none 0 0,.int .i64 10])
 | some vs=> ∃ A c l,e= .returned (.tuple #[.slice A l.length c,.int .i64 0])/\Ut w' w.heap.size A c l/\l.map (·.v)=vs
theorem Zdo (A:Option Addr) (cap:Nat) (bs:List Nat) (rva:Nat) (sz:Int) (w:World) (hl:bs.length<=cap) (hc:cap<=9223372036854775807) (hlen:bs.length<=1000000) (hb:Lb bs) (hs:SlB w A bs.length (lF bs)) (mq:rva<=1000000) :
 Calls Tryz.prog 111 #[.slice A bs.length cap,.agg #[.int .i64 rva,.int .i64 sz],.int .i64 20,.func (.func 112) #[] #[]] w fun e w'=>ImpQ w w' (ZU bs rva 20 ZT) e/\Below w.heap.size w w':=by
 obtain⟨R,hR⟩: ∃ R,ZU bs rva 20 ZT=R:=⟨_,rfl⟩;rw[hR];unfold ZU at hR;have du: ∀ o W,Below w.heap.size w W->o+20<=bs.length->Calls Tryz.prog 112 #[.slice A bs.length cap,.int .i64 o] W fun e w'=>e= .returned (.agg (ZT bs o).cells)/\Below W.heap.size W w':=fun o W hW h=>Zbq A cap bs o W hlen hb h (SlB.below hs hW);have qS: ∀ o,(ZT bs o).thunks<4294967296/\(ZT bs o).iat<4294967296/\(ZT bs o).dll<4294967296/\(ZT bs o).handle<4294967296:=fun o=>by
  have e4:(256:Nat) ^ 4=4294967296:=rfl;have h:=fun k=>ZG (hb.drop k) 4;rw[e4] at h;exact⟨by first|exact h _|(simp[ZT]; done),by first|exact h _|(simp[ZT]; done),by first|exact h _|(simp[ZT]; done),by first|exact h _|(simp[ZT]; done)⟩
 have eg: ∀ args w,(callFunc 112 args).run Tryz.prog w= .ok (.enter 112 args) w:=enters_of Tryz.func112 (by kernel_rfl) rfl;obtain⟨w1,ao⟩: ∃ w1,w.alloc (.cells #[.int .i64 rva,.int .i64 sz] 37)=w1:=⟨_,rfl⟩;have cu:=Zg ao;have av:=Zg (show Below w.heap.size w w1 from by rw[<-ao]; exact(Below.refl _ _).alloc (Nat.le_refl _) _);have dw:=Zg (show w1.heap[w.heap.size]? =some (.cells #[.int .i64 rva,.int .i64 sz] 37 (0,0)) from by rw[<-ao]; exact heap_alloc_new w _);have eK:=Zg (show w1.heap.size=w.heap.size+1 from by rw[<-ao]; simp);clear ao;have q0:w1.cell? ⟨w.heap.size,0,none⟩=some (.int .i64 rva):=by rw[Zh dw.out]; rfl
 by_cases c0:rva=0
 ·rw[if_pos c0] at hR;subst hR;have d0:((rva:Int) == 0)=true:=by rw[beq_iff_eq]; omega
  have LG:=Zg c0;clear c0 hs du qS;go_enter Tryz.func111,Tryz.ntmps111;go_upto_region 1 with(fail)
  refine(congrArg _ cu.out).mpr ?_;go_wp2_with fail
  go_ret2;exact⟨⟨none,0,[],rfl,⟨ZJ.nil _ _ _,fun y hy=>by simp at hy⟩,rfl⟩,av.out⟩
 rw[if_neg c0] at hR;have d0:((rva:Int) == 0)=false:=beq_eq_false_iff_ne.mpr (by omega);have HR:=Zg hR;have aJ:=Zg hb;have HS:=Zg (fun W (hW:Below w.heap.size w W)=>SlB.below hs hW);have eF:=Zg (And.intro hl hc);have cZ:=Zg du;have rG:=Zg qS;clear hR hs hl hc hb du qS c0;go_enter Tryz.func111,Tryz.ntmps111;go_upto_region 1 with(fail)
 refine(congrArg _ cu.out).mpr ?_;have DW:w.heap.size<w1.heap.size:=by rw[eK.out]; omega
 go_wp2_with fail
 have pE:=Zg (ZJ.made (C:=YS) (sz:=5) w1 (w.heap.size+1) (by rw[eK.out]; omega) 78);have pF:=Zg (av.out.alloc av.out.size (.cells #[] 78));go_loopw [10,11] (fun v10 v11 wr=> ∃(k o:Nat) (l:List WN) (A':Option Addr) (c':Nat),l.length+k=18/\l.length<=16/\o=rva+20 * l.length/\v10= .slice A' l.length c'/\v11= .int .i64 o/\ZJ YS 5 wr (w.heap.size+1) 78 (.slice A' l.length c') l/\(∀ y∈l,SlT YX 3 wr y.A y.v.syms)/\(∀ y∈l,y.v.syms.length≠0-> ∀ b,y.A.map (·.block)=some b->(Value.slice A' l.length c').ownBlock≠some b)/\(∀ y∈l,∀ b,y.A.map (·.block)=some b->w.heap.size<=b)/\w.heap.size+1<=wr.heap.size/\Below w.heap.size w wr/\WE bs 20 ZT k o (l.map (·.v))=R) (fun v10 _ _=>18 - lenV v10)
 case atStart=>exact⟨18,rva,[],_,_,rfl,by simp,by simp,rfl,rfl,pE.out,fun y hy=>by simp at hy,fun y hy=>by simp at hy,fun y hy=>by simp at hy,by have h1:=eK.out; simp; omega,pF.out,HR.out⟩
 case round =>
  obtain⟨k,o,l,A',c',hk,gJ,zg,rfl,rfl,ae,dE,lN,oL,fk,aq,ie⟩:=hrel;have pg:=Zg oL;clear oL;have eL:=Zg fk;clear fk;have HO:=Zg ae;have df:=Zg dE;have jO:=Zg lN;have HB:=Zg aq;clear ae dE lN aq pE pF;obtain⟨k,rfl⟩: ∃ q,k=q+1:=⟨k - 1,by omega⟩;have aa:=ie;simp only[WE] at aa;rw[List.length_map] at aa;have iv:o<=1002000:=by
   omega
  have dN:=Zg (show o+20=rva+20 * (l.length+1) from by omega);have HK:=Zg hk;clear ie zg hk;obtain⟨L,hL⟩: ∃ L,l.length=L:=⟨_,rfl⟩;have fh:=Zg (Vw A cap bs o 20 wr eF.out.1 eF.out.2 (HS.out wr HB.out) (by omega) (by omega) (by omega));have ax:=Zg (ZV A bs.length cap o 20 (decide (o+20<=bs.length)) wr (by omega) (by omega) (by omega) (by rw[decide_eq_true_iff]; omega));obtain⟨NO,nk⟩: ∃ q,Yn bs o 20=q:=⟨_,rfl⟩;rw[nk] at fh aa;rw[hL] at aa gJ HO jO ⊢;have HL:=Zg hL;clear nk hL;rcases NO with _|_
  ·rw[if_neg (by simp)] at aa;by_cases c1:o+20<=bs.length
   ·rw[decide_eq_true c1] at ax;by_cases c2:L=16
    ·rw[if_neg (by omega)] at aa;subst aa;have d2:((L:Int) == 16)=true:=by rw[beq_iff_eq]; omega
     have B0:=Zg c2;clear c1 c2;go_wp2_with fail
     refine fh.out.mono ?_;rintro e w' ⟨rfl,rfl⟩;go_wp2_with fail
     refine ax.out.mono ?_;rintro e w' ⟨rfl,rfl⟩;go_wp2_with fail
     go_ret2;exact⟨rfl,HB.out⟩
    ·rw[if_pos ⟨c1,c2⟩] at aa;have d2:((L:Int) == 16)=false:=beq_eq_false_iff_ne.mpr (by omega);have vj:L<16:=by omega
     have bk:=Zg aa;have xp:=Zg c1;clear c1 c2 aa;go_wp2_with fail
     refine fh.out.mono ?_;rintro e w' ⟨rfl,rfl⟩;go_wp2_with fail
     refine ax.out.mono ?_;rintro e w' ⟨rfl,rfl⟩;have mH:=Zg (cZ.out o wr HB.out xp.out);obtain⟨X,hX⟩: ∃ X,ZT bs o=X:=⟨_,rfl⟩;have hx:=rG.out o;have aa:=bk.out;rw[hX] at mH aa hx;obtain⟨ON,zh⟩: ∃ q,Zda bs X=q:=⟨_,rfl⟩;have mI:=Zg (fun W (hW:Below w.heap.size w W)=>Zie A cap bs X W eF.out.1 eF.out.2 hlen aJ.out (HS.out W hW) hx.1 hx.2.1 hx.2.2.1 hx.2.2.2);rw[zh] at mI aa;have ar:=Zg aa;obtain⟨XC,zi⟩: ∃ q,X.cells=q:=⟨_,rfl⟩;rw[zi] at mH mI;obtain⟨o',pY⟩: ∃ q,o+20=q:=⟨_,rfl⟩;have B4:(o:Int)+20=(o':Int):=by omega
     have LH:IntKind.i64.wrap (o':Int)=(o':Int):=by rw[IntKind.wrap_i64]; omega
     have za:=Zg pY;clear hX zh hx aa bk zi pY;go_wp2_with (go_at_fn 112; refine mH.out.mono ?_; rintro e w2 ⟨rfl,aR⟩)
     have aj:=Zg (HB.out.trans (aR.mono HB.out.size));have aj:=Zg (HB.out.trans (aR.mono HB.out.size));refine(mI.out w2 aj.out).mono ?_;rintro e w3 ⟨⟨T,i1,i2,i3,A3,n3,c3,ok,rfl,dO,ej⟩,dn⟩;obtain⟨w4,cX⟩: ∃ w4,w3.alloc (.cells #[.string T,.int .i64 i1,.int .i64 i2,.int .i64 i3,.slice A3 n3 c3] 78)=w4:=⟨_,rfl⟩;have gW:=Zg cX;have oq:Below w3.heap.size w3 w4:=by rw[<-cX]; exact(Below.refl _ _).alloc (Nat.le_refl _) _
     have l9:Below wr.heap.size wr w4:=aR.trans ((dn.trans (oq.mono dn.size)).mono aR.size);have bH:=Zg (HB.out.trans (l9.mono HB.out.size));have bV:=Zg (HO.out.below l9);have mh:=Zg (show ∀ y∈l,SlT YX 3 w4 y.A y.v.syms from fun y hy=>(df.out y hy).below l9);have eO:=Zg (show w4.heap[w3.heap.size]? =some (.cells #[.string T,.int .i64 i1,.int .i64 i2,.int .i64 i3,.slice A3 n3 c3] 78 (0,0)) from by rw[<-cX]; exact heap_alloc_new w3 _);have DX:=Zg oq;have vk:=Zg l9.size;have cM:=Zg (show ∀ k,(Value.slice A' L c').ownBlock=some k->k<w2.heap.size from fun k hk=>Nat.lt_of_lt_of_le (HO.out.lt k hk).2 aR.size);clear aR dn cX oq l9;go_upto_region 10 with(fail)
     refine(congrArg _ gW.out).mpr ?_;rcases ON with _|v
     ·obtain rfl:=dO rfl;have aa:=ar.out;simp only at aa;subst aa;clear dO ej;go_wp2_with fail
      go_ret2;exact⟨rfl,bH.out⟩
     ·obtain⟨rfl,rfl,rfl,rfl,rfl,rfl,d',bJ⟩:=ej v rfl;have aa:=ar.out;simp only at aa;have bS:=Zg aa;have bY:=Zg (d'.below DX.out);have aN:=Zg bJ;have mi:=Zg (show ∀ y∈l++[(⟨v,A3,c3⟩:WN)],∀ b,y.A.map (·.block)=some b->w.heap.size<=b from fun y hy b hb=>by
       rcases List.mem_append.mp hy with h|h
       ·exact pg.out y h b hb
       ·simp at h;subst h;exact Nat.le_trans aj.out.size (bJ b hb))
      clear dO ej aa d' bJ;have t0:w4.cell? ⟨w3.heap.size,0,none⟩=some (.string (txt v.dll)):=by rw[Zh eO.out]; rfl
      have t1:w4.cell? ⟨w3.heap.size,1,none⟩=some (.int .i64 v.iat):=by rw[Zh eO.out]; rfl
      have t2:w4.cell? ⟨w3.heap.size,2,none⟩=some (.int .i64 v.stamp):=by rw[Zh eO.out]; rfl
      have t3:w4.cell? ⟨w3.heap.size,3,none⟩=some (.int .i64 v.handle):=by rw[Zh eO.out]; rfl
      have t4:w4.cell? ⟨w3.heap.size,4,none⟩=some (.slice A3 v.syms.length c3):=by rw[Zh eO.out]; rfl
      have aK:=Zg (bV.out.alloc (.cells #[.string (txt v.dll),.int .i64 v.iat,.int .i64 v.stamp,.int .i64 v.handle,.slice A3 v.syms.length c3] 78));have cK:=Zg (Jh ⟨v,A3,c3⟩ w4);have aV:=Zg (bH.out.alloc bH.out.size (.cells #[.string (txt v.dll),.int .i64 v.iat,.int .i64 v.stamp,.int .i64 v.handle,.slice A3 v.syms.length c3] 78));have vl:=Zg (show w4.heap.size<=(w4.alloc (.cells #[.string (txt v.dll),.int .i64 v.iat,.int .i64 v.stamp,.int .i64 v.handle,.slice A3 v.syms.length c3] 78)).heap.size from by simp);have fZ:=Zg (show ∀ y∈l++[(⟨v,A3,c3⟩:WN)],SlT YX 3 (w4.alloc (.cells #[.string (txt v.dll),.int .i64 v.iat,.int .i64 v.stamp,.int .i64 v.handle,.slice A3 v.syms.length c3] 78)) y.A y.v.syms from fun y hy=>by
       have iT:Below w4.heap.size w4 (w4.alloc (.cells #[.string (txt v.dll),.int .i64 v.iat,.int .i64 v.stamp,.int .i64 v.handle,.slice A3 v.syms.length c3] 78)):=(Below.refl _ _).alloc (Nat.le_refl _) _;rcases List.mem_append.mp hy with h|h
       ·exact(mh.out y h).below iT
       ·simp at h; subst h; exact bY.out.below iT)
      have fz:=Zg (show ∀ y∈l++[(⟨v,A3,c3⟩:WN)],y.v.syms.length≠0-> ∀ b,y.A.map (·.block)=some b->(Value.slice A' L c').ownBlock≠some b from fun y hy bK b hb=>by
       rcases List.mem_append.mp hy with h|h
       ·exact jO.out y h bK b hb
       ·simp at h;subst h;intro hk;have h1:=aN.out b hb;have h2:=cM.out b hk;omega)
      rw[<-HL.out] at aK vj ⊢;have cj:=Zg (show w.heap.size+1<=(w4.alloc (.cells #[.string (txt v.dll),.int .i64 v.iat,.int .i64 v.stamp,.int .i64 v.handle,.slice A3 v.syms.length c3] 78)).heap.size from Nat.le_trans (Nat.le_trans eL.out vk.out) vl.out);have dH:=Zg (show l.length+1<=maxLen from by unfold maxLen; omega);have dX:=Zg (show(l.length+1) * 64<=140737488355328 from by omega);go_wp2_with (first
       | (at_builtin; refine Zq rfl (.tmp 49) (.tmp 51) 46 rfl (w.heap.size+1) 78 _ 64 rfl Zai rfl (by omega) Vb Jg _ l rfl aK.out w4.heap.size 1 rfl ⟨v,A3,c3⟩ cK.out dH.out dX.out cj.out ?_; intro g5 aG w8 ag aI aD
          have hG:=Zg (show(Value.slice A' l.length c').ownBlock=some g5\/g5=(w4.alloc (.cells #[.string (txt v.dll),.int .i64 v.iat,.int .i64 v.stamp,.int .i64 v.handle,.slice A3 v.syms.length c3] 78)).heap.size from aD);have cH:=Zg (show(w4.alloc (.cells #[.string (txt v.dll),.int .i64 v.iat,.int .i64 v.stamp,.int .i64 v.handle,.slice A3 v.syms.length c3] 78)).grownBy w8 (Value.slice A' l.length c').ownBlock from aI);have jf:=Zg ag;clear aD aI ag)
       | fail)
      have ay:=Zg (aK.out.grew aV.out (by omega) aV.out.size cH.out);rw[<-HL.out] at fz;have ml:=Zg (show ∀ y∈l++[(⟨v,A3,c3⟩:WN)],SlT YX 3 w8 y.A y.v.syms from fun y hy=>by
       rcases fZ.out y hy with h0|⟨b,off,hA,af,hc⟩
       ·exact .inl h0
       ·by_cases h0:y.v.syms=[]
        ·exact .inl h0
        ·refine SlT.keep (.inr ⟨b,off,hA,af,hc⟩) cH.out.size fun b' dD=> ?_;have eM:b=b':=by rw[hA] at dD; simpa using dD
         exact cH.out.block b' (by omega) (fun e=>fz.out y hy (fun q=>h0 (List.eq_nil_of_length_eq_zero q)) b' dD e.symm))
      have mm:=Zg (show ∀ y∈l++[(⟨v,A3,c3⟩:WN)],y.v.syms.length≠0-> ∀ b,y.A.map (·.block)=some b->(Value.slice (some ⟨g5,0,none⟩) (l.length+1) aG).ownBlock≠some b from fun y hy bK b hb hk=>by
       have kg:g5=b:=by simpa [Value.ownBlock] using hk
       rcases hG.out with h|h
       ·exact fz.out y hy bK b hb (by rw[h,kg])
       ·rcases fZ.out y hy with h0|⟨b',off,hA,af,hc⟩
        ·exact bK (by rw[h0]; rfl)
        ·have eM:b'=b:=by rw[hA] at hb; simpa using hb
         omega)
      go_roundw
      case rel=>exact⟨k,o',l++[⟨v,A3,c3⟩],some ⟨g5,0,none⟩,aG,by have:=HK.out; simp; omega,by simp; omega,by rw[<-za.out]; have:=dN.out; simp; omega,by simp,rfl,by simpa using jf.out,ml.out,by simpa using mm.out,mi.out,Nat.le_trans cj.out cH.out.size,ay.out,by rw[List.map_append,<-za.out]; exact bS.out⟩
      case measure =>
       show 18 - (l.length+1)<18 - L
       have:=HL.out;omega
   ·rw[decide_eq_false c1] at ax;rw[if_neg (fun h=>c1 h.1)] at aa;subst aa;clear c1;go_wp2_with fail
    refine fh.out.mono ?_;rintro e w' ⟨rfl,rfl⟩;go_wp2_with fail
    refine ax.out.mono ?_;rintro e w' ⟨rfl,rfl⟩;go_wp2_with fail
    go_ret2;exact⟨rfl,HB.out⟩
  ·rw[if_pos rfl] at aa;subst aa;go_wp2_with fail
   refine fh.out.mono ?_;rintro e w' ⟨rfl,rfl⟩;go_wp2_with fail
   go_ret2;exact⟨⟨A',c',l,by rw[HL.out]; rfl,⟨by rw[HL.out]; exact Joins.ownsRow_le HO.out (by omega),fun y hy=>⟨df.out y hy,pg.out y hy⟩⟩,rfl⟩,HB.out⟩
theorem Zdp (A:Option Addr) (cap:Nat) (bs:List Nat) (rva:Nat) (sz:Int) (w:World) (hl:bs.length<=cap) (hc:cap<=9223372036854775807) (hlen:bs.length<=1000000) (hb:Lb bs) (hs:SlB w A bs.length (lF bs)) (mq:rva<=1000000) :
 Calls Tryz.prog 111 #[.slice A bs.length cap,.agg #[.int .i64 rva,.int .i64 sz],.int .i64 32,.func (.func 120) #[] #[]] w fun e w'=>ImpQ w w' (ZU bs rva 32 Yl) e/\Below w.heap.size w w':=by
 obtain⟨R,hR⟩: ∃ R,ZU bs rva 32 Yl=R:=⟨_,rfl⟩;rw[hR];unfold ZU at hR;have du: ∀ o W,Below w.heap.size w W->o+32<=bs.length->Calls Tryz.prog 120 #[.slice A bs.length cap,.int .i64 o] W fun e w'=>e= .returned (.agg (Yl bs o).cells)/\Below W.heap.size W w':=fun o W hW h=>Zdh A cap bs o W hlen hb h (SlB.below hs hW);have qS: ∀ o,(Yl bs o).thunks<4294967296/\(Yl bs o).iat<4294967296/\(Yl bs o).dll<4294967296/\(Yl bs o).handle<4294967296:=fun o=>by
  have e4:(256:Nat) ^ 4=4294967296:=rfl;have h:=fun k=>ZG (hb.drop k) 4;rw[e4] at h;exact⟨by first|exact h _|(simp[Yl]; done),by first|exact h _|(simp[Yl]; done),by first|exact h _|(simp[Yl]; done),by first|exact h _|(simp[Yl]; done)⟩
 have eg: ∀ args w,(callFunc 120 args).run Tryz.prog w= .ok (.enter 120 args) w:=enters_of Tryz.func120 (by kernel_rfl) rfl;obtain⟨w1,ao⟩: ∃ w1,w.alloc (.cells #[.int .i64 rva,.int .i64 sz] 37)=w1:=⟨_,rfl⟩;have cu:=Zg ao;have av:=Zg (show Below w.heap.size w w1 from by rw[<-ao]; exact(Below.refl _ _).alloc (Nat.le_refl _) _);have dw:=Zg (show w1.heap[w.heap.size]? =some (.cells #[.int .i64 rva,.int .i64 sz] 37 (0,0)) from by rw[<-ao]; exact heap_alloc_new w _);have eK:=Zg (show w1.heap.size=w.heap.size+1 from by rw[<-ao]; simp);clear ao;have q0:w1.cell? ⟨w.heap.size,0,none⟩=some (.int .i64 rva):=by rw[Zh dw.out]; rfl
 by_cases c0:rva=0
 ·rw[if_pos c0] at hR;subst hR;have d0:((rva:Int) == 0)=true:=by rw[beq_iff_eq]; omega
  have LG:=Zg c0;clear c0 hs du qS;go_enter Tryz.func111,Tryz.ntmps111;go_upto_region 1 with(fail)
  refine(congrArg _ cu.out).mpr ?_;go_wp2_with fail
  go_ret2;exact⟨⟨none,0,[],rfl,⟨ZJ.nil _ _ _,fun y hy=>by simp at hy⟩,rfl⟩,av.out⟩
 rw[if_neg c0] at hR;have d0:((rva:Int) == 0)=false:=beq_eq_false_iff_ne.mpr (by omega);have HR:=Zg hR;have aJ:=Zg hb;have HS:=Zg (fun W (hW:Below w.heap.size w W)=>SlB.below hs hW);have eF:=Zg (And.intro hl hc);have cZ:=Zg du;have rG:=Zg qS;clear hR hs hl hc hb du qS c0;go_enter Tryz.func111,Tryz.ntmps111;go_upto_region 1 with(fail)
 refine(congrArg _ cu.out).mpr ?_;have DW:w.heap.size<w1.heap.size:=by rw[eK.out]; omega
 go_wp2_with fail
 have pE:=Zg (ZJ.made (C:=YS) (sz:=5) w1 (w.heap.size+1) (by rw[eK.out]; omega) 78);have pF:=Zg (av.out.alloc av.out.size (.cells #[] 78));go_loopw [10,11] (fun v10 v11 wr=> ∃(k o:Nat) (l:List WN) (A':Option Addr) (c':Nat),l.length+k=18/\l.length<=16/\o=rva+32 * l.length/\v10= .slice A' l.length c'/\v11= .int .i64 o/\ZJ YS 5 wr (w.heap.size+1) 78 (.slice A' l.length c') l/\(∀ y∈l,SlT YX 3 wr y.A y.v.syms)/\(∀ y∈l,y.v.syms.length≠0-> ∀ b,y.A.map (·.block)=some b->(Value.slice A' l.length c').ownBlock≠some b)/\(∀ y∈l,∀ b,y.A.map (·.block)=some b->w.heap.size<=b)/\w.heap.size+1<=wr.heap.size/\Below w.heap.size w wr/\WE bs 32 Yl k o (l.map (·.v))=R) (fun v10 _ _=>18 - lenV v10)
 case atStart=>exact⟨18,rva,[],_,_,rfl,by simp,by simp,rfl,rfl,pE.out,fun y hy=>by simp at hy,fun y hy=>by simp at hy,fun y hy=>by simp at hy,by have h1:=eK.out; simp; omega,pF.out,HR.out⟩
 case round =>
  obtain⟨k,o,l,A',c',hk,gJ,zg,rfl,rfl,ae,dE,lN,oL,fk,aq,ie⟩:=hrel;have pg:=Zg oL;clear oL;have eL:=Zg fk;clear fk;have HO:=Zg ae;have df:=Zg dE;have jO:=Zg lN;have HB:=Zg aq;clear ae dE lN aq pE pF;obtain⟨k,rfl⟩: ∃ q,k=q+1:=⟨k - 1,by omega⟩;have aa:=ie;simp only[WE] at aa;rw[List.length_map] at aa;have iv:o<=1002000:=by
   omega
  have dN:=Zg (show o+32=rva+32 * (l.length+1) from by omega);have HK:=Zg hk;clear ie zg hk;obtain⟨L,hL⟩: ∃ L,l.length=L:=⟨_,rfl⟩;have fh:=Zg (Vw A cap bs o 32 wr eF.out.1 eF.out.2 (HS.out wr HB.out) (by omega) (by omega) (by omega));have ax:=Zg (ZV A bs.length cap o 32 (decide (o+32<=bs.length)) wr (by omega) (by omega) (by omega) (by rw[decide_eq_true_iff]; omega));obtain⟨NO,nk⟩: ∃ q,Yn bs o 32=q:=⟨_,rfl⟩;rw[nk] at fh aa;rw[hL] at aa gJ HO jO ⊢;have HL:=Zg hL;clear nk hL;rcases NO with _|_
  ·rw[if_neg (by simp)] at aa;by_cases c1:o+32<=bs.length
   ·rw[decide_eq_true c1] at ax;by_cases c2:L=16
    ·rw[if_neg (by omega)] at aa;subst aa;have d2:((L:Int) == 16)=true:=by rw[beq_iff_eq]; omega
     have B0:=Zg c2;clear c1 c2;go_wp2_with fail
     refine fh.out.mono ?_;rintro e w' ⟨rfl,rfl⟩;go_wp2_with fail
     refine ax.out.mono ?_;rintro e w' ⟨rfl,rfl⟩;go_wp2_with fail
     go_ret2;exact⟨rfl,HB.out⟩
    ·rw[if_pos ⟨c1,c2⟩] at aa;have d2:((L:Int) == 16)=false:=beq_eq_false_iff_ne.mpr (by omega);have vj:L<16:=by omega
     have bk:=Zg aa;have xp:=Zg c1;clear c1 c2 aa;go_wp2_with fail
     refine fh.out.mono ?_;rintro e w' ⟨rfl,rfl⟩;go_wp2_with fail
     refine ax.out.mono ?_;rintro e w' ⟨rfl,rfl⟩;have mH:=Zg (cZ.out o wr HB.out xp.out);obtain⟨X,hX⟩: ∃ X,Yl bs o=X:=⟨_,rfl⟩;have hx:=rG.out o;have aa:=bk.out;rw[hX] at mH aa hx;obtain⟨ON,zh⟩: ∃ q,Zda bs X=q:=⟨_,rfl⟩;have mI:=Zg (fun W (hW:Below w.heap.size w W)=>Zie A cap bs X W eF.out.1 eF.out.2 hlen aJ.out (HS.out W hW) hx.1 hx.2.1 hx.2.2.1 hx.2.2.2);rw[zh] at mI aa;have ar:=Zg aa;obtain⟨XC,zi⟩: ∃ q,X.cells=q:=⟨_,rfl⟩;rw[zi] at mH mI;obtain⟨o',pY⟩: ∃ q,o+32=q:=⟨_,rfl⟩;have B4:(o:Int)+32=(o':Int):=by omega
     have LH:IntKind.i64.wrap (o':Int)=(o':Int):=by rw[IntKind.wrap_i64]; omega
     have za:=Zg pY;clear hX zh hx aa bk zi pY;go_wp2_with (go_at_fn 120; refine mH.out.mono ?_; rintro e w2 ⟨rfl,aR⟩)
     have aj:=Zg (HB.out.trans (aR.mono HB.out.size));have aj:=Zg (HB.out.trans (aR.mono HB.out.size));refine(mI.out w2 aj.out).mono ?_;rintro e w3 ⟨⟨T,i1,i2,i3,A3,n3,c3,ok,rfl,dO,ej⟩,dn⟩;obtain⟨w4,cX⟩: ∃ w4,w3.alloc (.cells #[.string T,.int .i64 i1,.int .i64 i2,.int .i64 i3,.slice A3 n3 c3] 78)=w4:=⟨_,rfl⟩;have gW:=Zg cX;have oq:Below w3.heap.size w3 w4:=by rw[<-cX]; exact(Below.refl _ _).alloc (Nat.le_refl _) _
     have l9:Below wr.heap.size wr w4:=aR.trans ((dn.trans (oq.mono dn.size)).mono aR.size);have bH:=Zg (HB.out.trans (l9.mono HB.out.size));have bV:=Zg (HO.out.below l9);have mh:=Zg (show ∀ y∈l,SlT YX 3 w4 y.A y.v.syms from fun y hy=>(df.out y hy).below l9);have eO:=Zg (show w4.heap[w3.heap.size]? =some (.cells #[.string T,.int .i64 i1,.int .i64 i2,.int .i64 i3,.slice A3 n3 c3] 78 (0,0)) from by rw[<-cX]; exact heap_alloc_new w3 _);have DX:=Zg oq;have vk:=Zg l9.size;have cM:=Zg (show ∀ k,(Value.slice A' L c').ownBlock=some k->k<w2.heap.size from fun k hk=>Nat.lt_of_lt_of_le (HO.out.lt k hk).2 aR.size);clear aR dn cX oq l9;go_upto_region 10 with(fail)
     refine(congrArg _ gW.out).mpr ?_;rcases ON with _|v
     ·obtain rfl:=dO rfl;have aa:=ar.out;simp only at aa;subst aa;clear dO ej;go_wp2_with fail
      go_ret2;exact⟨rfl,bH.out⟩
     ·obtain⟨rfl,rfl,rfl,rfl,rfl,rfl,d',bJ⟩:=ej v rfl;have aa:=ar.out;simp only at aa;have bS:=Zg aa;have bY:=Zg (d'.below DX.out);have aN:=Zg bJ;have mi:=Zg (show ∀ y∈l++[(⟨v,A3,c3⟩:WN)],∀ b,y.A.map (·.block)=some b->w.heap.size<=b from fun y hy b hb=>by
       rcases List.mem_append.mp hy with h|h
       ·exact pg.out y h b hb
       ·simp at h;subst h;exact Nat.le_trans aj.out.size (bJ b hb))
      clear dO ej aa d' bJ;have t0:w4.cell? ⟨w3.heap.size,0,none⟩=some (.string (txt v.dll)):=by rw[Zh eO.out]; rfl
      have t1:w4.cell? ⟨w3.heap.size,1,none⟩=some (.int .i64 v.iat):=by rw[Zh eO.out]; rfl
      have t2:w4.cell? ⟨w3.heap.size,2,none⟩=some (.int .i64 v.stamp):=by rw[Zh eO.out]; rfl
      have t3:w4.cell? ⟨w3.heap.size,3,none⟩=some (.int .i64 v.handle):=by rw[Zh eO.out]; rfl
      have t4:w4.cell? ⟨w3.heap.size,4,none⟩=some (.slice A3 v.syms.length c3):=by rw[Zh eO.out]; rfl
      have aK:=Zg (bV.out.alloc (.cells #[.string (txt v.dll),.int .i64 v.iat,.int .i64 v.stamp,.int .i64 v.handle,.slice A3 v.syms.length c3] 78));have cK:=Zg (Jh ⟨v,A3,c3⟩ w4);have aV:=Zg (bH.out.alloc bH.out.size (.cells #[.string (txt v.dll),.int .i64 v.iat,.int .i64 v.stamp,.int .i64 v.handle,.slice A3 v.syms.length c3] 78));have vl:=Zg (show w4.heap.size<=(w4.alloc (.cells #[.string (txt v.dll),.int .i64 v.iat,.int .i64 v.stamp,.int .i64 v.handle,.slice A3 v.syms.length c3] 78)).heap.size from by simp);have fZ:=Zg (show ∀ y∈l++[(⟨v,A3,c3⟩:WN)],SlT YX 3 (w4.alloc (.cells #[.string (txt v.dll),.int .i64 v.iat,.int .i64 v.stamp,.int .i64 v.handle,.slice A3 v.syms.length c3] 78)) y.A y.v.syms from fun y hy=>by
       have iT:Below w4.heap.size w4 (w4.alloc (.cells #[.string (txt v.dll),.int .i64 v.iat,.int .i64 v.stamp,.int .i64 v.handle,.slice A3 v.syms.length c3] 78)):=(Below.refl _ _).alloc (Nat.le_refl _) _;rcases List.mem_append.mp hy with h|h
       ·exact(mh.out y h).below iT
       ·simp at h; subst h; exact bY.out.below iT)
      have fz:=Zg (show ∀ y∈l++[(⟨v,A3,c3⟩:WN)],y.v.syms.length≠0-> ∀ b,y.A.map (·.block)=some b->(Value.slice A' L c').ownBlock≠some b from fun y hy bK b hb=>by
       rcases List.mem_append.mp hy with h|h
       ·exact jO.out y h bK b hb
       ·simp at h;subst h;intro hk;have h1:=aN.out b hb;have h2:=cM.out b hk;omega)
      rw[<-HL.out] at aK vj ⊢;have cj:=Zg (show w.heap.size+1<=(w4.alloc (.cells #[.string (txt v.dll),.int .i64 v.iat,.int .i64 v.stamp,.int .i64 v.handle,.slice A3 v.syms.length c3] 78)).heap.size from Nat.le_trans (Nat.le_trans eL.out vk.out) vl.out);have dH:=Zg (show l.length+1<=maxLen from by unfold maxLen; omega);have dX:=Zg (show(l.length+1) * 64<=140737488355328 from by omega);go_wp2_with (first
       | (at_builtin; refine Zq rfl (.tmp 49) (.tmp 51) 46 rfl (w.heap.size+1) 78 _ 64 rfl Zai rfl (by omega) Vb Jg _ l rfl aK.out w4.heap.size 1 rfl ⟨v,A3,c3⟩ cK.out dH.out dX.out cj.out ?_; intro g5 aG w8 ag aI aD
          have hG:=Zg (show(Value.slice A' l.length c').ownBlock=some g5\/g5=(w4.alloc (.cells #[.string (txt v.dll),.int .i64 v.iat,.int .i64 v.stamp,.int .i64 v.handle,.slice A3 v.syms.length c3] 78)).heap.size from aD);have cH:=Zg (show(w4.alloc (.cells #[.string (txt v.dll),.int .i64 v.iat,.int .i64 v.stamp,.int .i64 v.handle,.slice A3 v.syms.length c3] 78)).grownBy w8 (Value.slice A' l.length c').ownBlock from aI);have jf:=Zg ag;clear aD aI ag)
       | fail)
      have ay:=Zg (aK.out.grew aV.out (by omega) aV.out.size cH.out);rw[<-HL.out] at fz;have ml:=Zg (show ∀ y∈l++[(⟨v,A3,c3⟩:WN)],SlT YX 3 w8 y.A y.v.syms from fun y hy=>by
       rcases fZ.out y hy with h0|⟨b,off,hA,af,hc⟩
       ·exact .inl h0
       ·by_cases h0:y.v.syms=[]
        ·exact .inl h0
        ·refine SlT.keep (.inr ⟨b,off,hA,af,hc⟩) cH.out.size fun b' dD=> ?_;have eM:b=b':=by rw[hA] at dD; simpa using dD
         exact cH.out.block b' (by omega) (fun e=>fz.out y hy (fun q=>h0 (List.eq_nil_of_length_eq_zero q)) b' dD e.symm))
      have mm:=Zg (show ∀ y∈l++[(⟨v,A3,c3⟩:WN)],y.v.syms.length≠0-> ∀ b,y.A.map (·.block)=some b->(Value.slice (some ⟨g5,0,none⟩) (l.length+1) aG).ownBlock≠some b from fun y hy bK b hb hk=>by
       have kg:g5=b:=by simpa [Value.ownBlock] using hk
       rcases hG.out with h|h
       ·exact fz.out y hy bK b hb (by rw[h,kg])
       ·rcases fZ.out y hy with h0|⟨b',off,hA,af,hc⟩
        ·exact bK (by rw[h0]; rfl)
        ·have eM:b'=b:=by rw[hA] at hb; simpa using hb
         omega)
      go_roundw
      case rel=>exact⟨k,o',l++[⟨v,A3,c3⟩],some ⟨g5,0,none⟩,aG,by have:=HK.out; simp; omega,by simp; omega,by rw[<-za.out]; have:=dN.out; simp; omega,by simp,rfl,by simpa using jf.out,ml.out,by simpa using mm.out,mi.out,Nat.le_trans cj.out cH.out.size,ay.out,by rw[List.map_append,<-za.out]; exact bS.out⟩
      case measure =>
       show 18 - (l.length+1)<18 - L
       have:=HL.out;omega
   ·rw[decide_eq_false c1] at ax;rw[if_neg (fun h=>c1 h.1)] at aa;subst aa;clear c1;go_wp2_with fail
    refine fh.out.mono ?_;rintro e w' ⟨rfl,rfl⟩;go_wp2_with fail
    refine ax.out.mono ?_;rintro e w' ⟨rfl,rfl⟩;go_wp2_with fail
    go_ret2;exact⟨rfl,HB.out⟩
  ·rw[if_pos rfl] at aa;subst aa;go_wp2_with fail
   refine fh.out.mono ?_;rintro e w' ⟨rfl,rfl⟩;go_wp2_with fail
   go_ret2;exact⟨⟨A',c',l,by rw[HL.out]; rfl,⟨by rw[HL.out]; exact Joins.ownsRow_le HO.out (by omega),fun y hy=>⟨df.out y hy,pg.out y hy⟩⟩,rfl⟩,HB.out⟩
theorem Zdq (A:Option Addr) (cap:Nat) (bs:List Nat) (rva:Nat) (sz:Int) (w:World) (hl:bs.length<=cap) (hc:cap<=9223372036854775807) (hlen:bs.length<=1000000) (hb:Lb bs) (hs:SlB w A bs.length (lF bs)) (mq:rva<=1000000) :
 Calls Tryz.prog 80 #[.slice A bs.length cap,.agg #[.int .i64 rva,.int .i64 sz]] w fun e w'=>ImpQ w w' (ZU bs rva 20 ZT) e/\Below w.heap.size w w':=by
 obtain⟨w1,ao⟩: ∃ w1,w.alloc (.cells #[.int .i64 rva,.int .i64 sz] 37)=w1:=⟨_,rfl⟩;have cu:=Zg ao;have az:Below w.heap.size w w1:=by rw[<-ao]; exact(Below.refl _ _).alloc (Nat.le_refl _) _
 have av:=Zg az;have dw:=Zg (show w1.heap[w.heap.size]? =some (.cells #[.int .i64 rva,.int .i64 sz] 37 (0,0)) from by rw[<-ao]; exact heap_alloc_new w _);have HP:=Zg (Zdo A cap bs rva sz w1 hl hc hlen hb (SlB.below hs az) mq);obtain⟨R,hR⟩: ∃ R,ZU bs rva 20 ZT=R:=⟨_,rfl⟩;rw[hR] at HP ⊢;clear ao az hs hb hR;have q0:w1.cell? ⟨w.heap.size,0,none⟩=some (.int .i64 rva):=by rw[Zh dw.out]; rfl
 have q1:w1.cell? ⟨w.heap.size,1,none⟩=some (.int .i64 sz):=by rw[Zh dw.out]; rfl
 go_enter Tryz.func80,Tryz.ntmps80;go_upto_region 1 with(fail)
 refine(congrArg _ cu.out).mpr ?_;go_wp2_with fail
 refine HP.out.mono ?_;rintro e w2 ⟨hq,aR⟩;have aj:=Zg (av.out.trans (aR.mono av.out.size));clear aR q0 q1;rcases R with _|vs
 ·have fl:e= .returned (.tuple #[.slice none 0 0,.int .i64 10]):=hq;subst fl;clear hq;go_wp2_with fail
  go_ret2;exact⟨rfl,aj.out⟩
 ·obtain⟨A',c',l,rfl,⟨ho,dE⟩,hv⟩:=hq;have HQ:=Zg (show Ut w2 w.heap.size A' c' l/\l.map (·.v)=vs from⟨⟨Joins.ownsRow_le ho av.out.size,fun y hy=>⟨(dE y hy).1,fun b hb=>Nat.le_trans av.out.size ((dE y hy).2 b hb)⟩⟩,hv⟩);clear ho dE hv;go_wp2_with fail
  go_ret2;exact⟨⟨A',c',l,rfl,HQ.out.1,HQ.out.2⟩,aj.out⟩
theorem Zbu (A:Option Addr) (cap:Nat) (bs:List Nat) (rva:Nat) (sz:Int) (w:World) (hl:bs.length<=cap) (hc:cap<=9223372036854775807) (hlen:bs.length<=1000000) (hb:Lb bs) (hs:SlB w A bs.length (lF bs)) (mq:rva<=1000000) :
 Calls Tryz.prog 84 #[.slice A bs.length cap,.agg #[.int .i64 rva,.int .i64 sz]] w fun e w'=>ImpQ w w' (ZU bs rva 32 Yl) e/\Below w.heap.size w w':=by
 obtain⟨w1,ao⟩: ∃ w1,w.alloc (.cells #[.int .i64 rva,.int .i64 sz] 37)=w1:=⟨_,rfl⟩;have cu:=Zg ao;have az:Below w.heap.size w w1:=by rw[<-ao]; exact(Below.refl _ _).alloc (Nat.le_refl _) _
 have av:=Zg az;have dw:=Zg (show w1.heap[w.heap.size]? =some (.cells #[.int .i64 rva,.int .i64 sz] 37 (0,0)) from by rw[<-ao]; exact heap_alloc_new w _);have HP:=Zg (Zdp A cap bs rva sz w1 hl hc hlen hb (SlB.below hs az) mq);obtain⟨R,hR⟩: ∃ R,ZU bs rva 32 Yl=R:=⟨_,rfl⟩;rw[hR] at HP ⊢;clear ao az hs hb hR;have q0:w1.cell? ⟨w.heap.size,0,none⟩=some (.int .i64 rva):=by rw[Zh dw.out]; rfl
 have q1:w1.cell? ⟨w.heap.size,1,none⟩=some (.int .i64 sz):=by rw[Zh dw.out]; rfl
 go_enter Tryz.func84,Tryz.ntmps84;go_upto_region 1 with(fail)
 refine(congrArg _ cu.out).mpr ?_;go_wp2_with fail
 refine HP.out.mono ?_;rintro e w2 ⟨hq,aR⟩;have aj:=Zg (av.out.trans (aR.mono av.out.size));clear aR q0 q1;rcases R with _|vs
 ·have fl:e= .returned (.tuple #[.slice none 0 0,.int .i64 10]):=hq;subst fl;clear hq;go_wp2_with fail
  go_ret2;exact⟨rfl,aj.out⟩
 ·obtain⟨A',c',l,rfl,⟨ho,dE⟩,hv⟩:=hq;have HQ:=Zg (show Ut w2 w.heap.size A' c' l/\l.map (·.v)=vs from⟨⟨Joins.ownsRow_le ho av.out.size,fun y hy=>⟨(dE y hy).1,fun b hb=>Nat.le_trans av.out.size ((dE y hy).2 b hb)⟩⟩,hv⟩);clear ho dE hv;go_wp2_with fail
  go_ret2;exact⟨⟨A',c',l,rfl,HQ.out.1,HQ.out.2⟩,aj.out⟩
theorem Zif (bs:List Nat) (b0 b1 b2 b4 b5:Nat) (w wr:World) (fs:List FnV) (F:Option Addr) (fc:Nat) (R:Option (List NmV)) (RR:Option Zib)
 (aJ:Hid (Lb bs)) (hlen:bs.length<=1000000) (hn:b2<=256) (ax:Hid (b2=0\/(b4+4 * b2<=bs.length/\b5+2 * b2<=bs.length)))
 (HR:Hid (Xw bs b4 b5 b1 b2 0 [] []=R)) (cd:Hid (RR=R.map fun n=>(b0,fs,n)))
 (HB:Hid (Below w.heap.size w wr)) (H1:Hid (wr.heap[w.heap.size+1]? =some (.cells #[.int .i64 0,.slice none 0 0,.slice none 0 0] 45 (0,0)))) (H2:Hid (wr.heap[w.heap.size+2]? =some (.cells #[.int .i64 0,.slice none 0 0,.slice none 0 0] 45 (0,0))))
 (H3:Hid (wr.heap[w.heap.size+3]? =some (.cells #[.int .i64 b0,.slice F fs.length fc,.slice none 0 0] 45 (0,0))))
 (HO:Hid (ZJ gC 2 wr (w.heap.size+4) 74 (.slice F fs.length fc) fs)) (a:Act)
 (ha:Has 244 [0,4,6,7,8,9,11,12] [.string (txt bs),.pointer (some ⟨w.heap.size+1,0,none⟩),.pointer (some ⟨w.heap.size+2,0,none⟩),.pointer (some ⟨w.heap.size+3,0,none⟩),.int .i64 b1,.int .i64 b2,.int .i64 b4,.int .i64 b5] a):(Yc 9 Znu).wp Tryz.prog (QX w RR) a wr:=by
 obtain⟨u,rfl⟩:=Yt ha;simp only[Zae,Xi,Zf,Ze];clear ha;conv=>arg 2; whnf
 go_wp2_with fail
 go_loopw [19] (fun DY wr=> ∃(i k:Nat) (l:List NmV) (last:List Nat) (A':Option Addr) (c':Nat),i+k=b2/\l.length=i/\Lb last/\last.length<=64/\((i=0/\last=[])\/(1<=i/\(l.getD (i - 1) ([],0)).1=last))/\DY= .int .i64 i/\ZJ nC 2 wr (w.heap.size+4) 76 (.slice A' l.length c') l/\ZJ gC 2 wr (w.heap.size+4) 74 (.slice F fs.length fc) fs/\(∀ k,(Value.slice A' l.length c').ownBlock=some k->(Value.slice F fs.length fc).ownBlock≠some k)/\Below w.heap.size w wr/\wr.heap[w.heap.size+1]? =some (.cells #[.int .i64 0,.slice none 0 0,.slice none 0 0] 45 (0,0))/\wr.heap[w.heap.size+2]? =some (.cells #[.int .i64 0,.slice none 0 0,.slice none 0 0] 45 (0,0))/\wr.heap[w.heap.size+3]? =some (.cells #[.int .i64 b0,.slice F fs.length fc,.slice A' l.length c'] 45 (0,0))/\Xw bs b4 b5 b1 k i last l=R) (fun DY _=>b2 - (intOf DY).toNat)
 case atStart=>exact⟨0,b2,[],[],none,0,by omega,rfl,by intro v hv; simp at hv,by simp,.inl ⟨rfl,rfl⟩,rfl,ZJ.nil _ _ _,HO.out,by intro k hk; simp[Value.ownBlock] at hk,HB.out,H1.out,H2.out,H3.out,HR.out⟩
 case round =>
  obtain⟨i,k,l,last,A',c',jD,lV,fM,mr,ck,rfl,ae,tr,bK,aq,h1,h2,h3,hR⟩:=hrel;replace HO:=Zg tr;have HN:=Zg ae;have ko:=Zg bK;replace HB:=Zg aq;replace H1:=Zg h1;replace H2:=Zg h2;replace H3:=Zg h3;replace HR:=Zg hR;have bg:=Zg lV;have Du:=Zg fM;have vm:=Zg ck;clear ae tr bK aq h1 h2 h3 hR lV fM ck;by_cases af:i<b2
  ·obtain⟨k,rfl⟩: ∃ q,k=q+1:=⟨k - 1,by omega⟩;obtain⟨m4,jE⟩: ∃ m,4 * i=m:=⟨_,rfl⟩;obtain⟨m2,uI⟩: ∃ m,2 * i=m:=⟨_,rfl⟩;obtain⟨o,ho⟩: ∃ o,b4+m4=o:=⟨_,rfl⟩;obtain⟨q,hq⟩: ∃ q,b5+m2=q:=⟨_,rfl⟩;have iv:o+4<=bs.length:=by have:=ax.out; omega
   have yw:q+2<=bs.length:=by have:=ax.out; omega
   have em:(4:Int) * (i:Int)=(m4:Int):=by omega
   have wm:IntKind.i64.wrap (m4:Int)=(m4:Int):=by rw[IntKind.wrap_i64]; omega
   have eo:(b4:Int)+(m4:Int)=(o:Int):=by omega
   have wo:IntKind.i64.wrap (o:Int)=(o:Int):=by rw[IntKind.wrap_i64]; omega
   have GM:(2:Int) * (i:Int)=(m2:Int):=by omega
   have Ll:IntKind.i64.wrap (m2:Int)=(m2:Int):=by rw[IntKind.wrap_i64]; omega
   have GN:(b5:Int)+(m2:Int)=(q:Int):=by omega
   have GO:IntKind.i64.wrap (q:Int)=(q:Int):=by rw[IntKind.wrap_i64]; omega
   have HU:=Zg (fun W=>ZQ bs o 4 W aJ.out (by omega) (by omega) iv);have iV:=Zg (fun W=>ZQ bs q 2 W aJ.out (by omega) (by omega) yw);have aa:=HR.out;simp only[Xw] at aa;rw[jE,ho,uI,hq] at aa;obtain⟨v,fj⟩: ∃ v,Yg (bs.drop o) 4=v:=⟨_,rfl⟩;obtain⟨ix,yA⟩: ∃ v,Yg (bs.drop q) 2=v:=⟨_,rfl⟩;rw[fj] at HU aa;rw[yA] at iV aa;have bW:=Zg (fun W=>Xr bs v 64 W aJ.out (by omega));have ar:=Zg aa;have DZ:=(show YO bs v 64=YO bs v 64 from rfl);clear aa fj yA jE uI ho hq iv yw DZ;go_wp2_with fail
   refine(HU.out _).mono ?_;rintro e w' ⟨rfl,rfl⟩;go_wp2_with fail
   refine(bW.out _).mono ?_;rintro e w' ⟨rfl,rfl⟩;rcases htx:YO bs v 64 with _|t
   ·have aa:=ar.out;rw[htx] at aa;simp only at aa ⊢;subst aa;have aY:=cd.out;simp only[Option.map_none] at aY;subst aY;have z0:wr.cell? ⟨w.heap.size+2,0,none⟩=some (.int .i64 0):=by rw[Zh H2.out]; rfl
    have z1:wr.cell? ⟨w.heap.size+2,1,none⟩=some (.slice none 0 0):=by rw[Zh H2.out]; rfl
    have z2:wr.cell? ⟨w.heap.size+2,2,none⟩=some (.slice none 0 0):=by rw[Zh H2.out]; rfl
    obtain⟨w9,ah⟩: ∃ w9,wr.setRow (w.heap.size+1) #[.int .i64 0,.slice none 0 0,.slice none 0 0]=w9:=⟨_,rfl⟩;have aP:=Zg ah;have ai:=Zg (show w9.heap[w.heap.size+1]? =some (.cells #[.int .i64 0,.slice none 0 0,.slice none 0 0] 45 (0,0)) from by rw[<-ah]; exact setRow_heap _ _ _ _ _ _ H1.out);have ay:=Zg (show Below w.heap.size w w9 from by rw[<-ah]; exact below_setRow HB.out (Nat.le_succ _) _);have k0:w9.cell? ⟨w.heap.size+1,0,none⟩=some (.int .i64 0):=by rw[Zh ai.out]; rfl
    have k1:w9.cell? ⟨w.heap.size+1,1,none⟩=some (.slice none 0 0):=by rw[Zh ai.out]; rfl
    have k2:w9.cell? ⟨w.heap.size+1,2,none⟩=some (.slice none 0 0):=by rw[Zh ai.out]; rfl
    clear ah;go_wp2_with (first|(refine wpList_store_row rfl 45 _ _ rfl (w.heap.size+1) #[.int .i64 0,.slice none 0 0,.slice none 0 0] rfl rfl 45 #[.int .i64 0,.slice none 0 0,.slice none 0 0] H1.out ZY rfl Ym ?_; refine(congrArg _ aP.out).mpr ?_)|fail)
    refine bodyPost_ret (v:= .tuple #[.agg #[.int .i64 0,.slice none 0 0,.slice none 0 0],.int .i64 11]) (by simp[results,Tryz.results38,go_sem,k0,k1,k2]) rfl ⟨?_,ay.out⟩;exact rfl
   ·have aE:=YC aJ.out htx;have aa:=ar.out;rw[htx] at aa;simp only at aa ⊢;have cO:=Zg (fun W=>VU t W aE.1 (by have:=aE.2; omega));have ob:=Zla aE.1 Du.out;have cM:=Zg aE;clear aE htx ar bW;by_cases ba:Yu t=true
    ·rw[if_pos ba] at aa;rw[ba] at cO;rcases vm.out with⟨He,rfl⟩|⟨Hf,Hg⟩
     ·have zb:Zkw t []=false:=by
       cases t with
       | nil=>simp[Yu] at ba
       | cons c r=>rfl
      rw[if_neg (by rw[zb]; simp)] at aa;have D6: ¬ (0:Int)<(i:Int):=by omega
      clear He zb ob;have Hc:wr.cell? ⟨w.heap.size+3,2,none⟩=some (.slice A' l.length c'):=by rw[Zh H3.out]; rfl
      by_cases pG:ix<b1
      ·rw[if_pos pG] at aa;have bS:=Zg aa;have pD: ¬ (b1:Int)<=(ix:Int):=by omega
       clear aa pG;have aK:=Zg (HN.out.alloc (.cells #[.string (txt t),.int .i64 ix] 76));have pV:=Zg (HO.out.alloc (.cells #[.string (txt t),.int .i64 ix] 76));have cK:=Zg (Up ix t wr);have aV:=Zg (HB.out.alloc HB.out.size (.cells #[.string (txt t),.int .i64 ix] 76));have jI:=Zg (show(wr.alloc (.cells #[.string (txt t),.int .i64 ix] 76)).heap[w.heap.size+1]? =_ from(Below.heap_alloc _ _ _ (Zi H1.out)).trans H1.out);have jJ:=Zg (show(wr.alloc (.cells #[.string (txt t),.int .i64 ix] 76)).heap[w.heap.size+2]? =_ from(Below.heap_alloc _ _ _ (Zi H2.out)).trans H2.out);have fm:=Zg (show(wr.alloc (.cells #[.string (txt t),.int .i64 ix] 76)).heap[w.heap.size+3]? =_ from(Below.heap_alloc _ _ _ (Zi H3.out)).trans H3.out);have cj:=Zg (show w.heap.size+4<=(wr.alloc (.cells #[.string (txt t),.int .i64 ix] 76)).heap.size from Zi fm.out);have dH:=Zg (show l.length+1<=maxLen from by rw[bg.out]; unfold maxLen; omega);have dX:=Zg (show(l.length+1) * 24<=140737488355328 from by rw[bg.out]; omega);have iY:l.length<256:=by have:=bg.out; omega
       have mz:l.length+1<=b2:=by have:=bg.out; omega
       go_wp2_with fail
       refine(cO.out _).mono ?_;rintro e w' ⟨rfl,rfl⟩;go_wp2_with fail
       refine(iV.out _).mono ?_;rintro e w' ⟨rfl,rfl⟩;go_wp2_with (first
        | (at_builtin; refine Zq rfl (.tmp 236) (.tmp 240) 43 rfl (w.heap.size+4) 76 _ 24 rfl VO rfl (by omega) Zbp Zia _ l rfl aK.out wr.heap.size 1 rfl (t,ix) cK.out dH.out dX.out cj.out ?_; intro g5 aG w8 ag aI aD
           have hG:=Zg (show(Value.slice A' l.length c').ownBlock=some g5\/g5=(wr.alloc (.cells #[.string (txt t),.int .i64 ix] 76)).heap.size from aD);have cH:=Zg aI;have jf:=Zg ag;have fv:=Zg ((aI.block (w.heap.size+3) (Zi fm.out) (fun h=>by have:=(aK.out.lt _ h.symm).1; omega)).trans fm.out);have xJ:w8.cell? ⟨w.heap.size+3,2,none⟩=some (.slice A' l.length c'):=by rw[Zh fv.out]; rfl
           have xK:w8.frozen? ⟨w.heap.size+3,2,none⟩=false:=frozen_of_row _ _ _ _ _ fv.out;clear aD aI ag)
        | fail)
       have ay:=Zg (aK.out.grew aV.out (by omega) aV.out.size cH.out);have ot:=Zg ((cH.out.block (w.heap.size+1) (Zi jI.out) (fun h=>by have:=(aK.out.lt _ h.symm).1; omega)).trans jI.out);have ou:=Zg ((cH.out.block (w.heap.size+2) (Zi jJ.out) (fun h=>by have:=(aK.out.lt _ h.symm).1; omega)).trans jJ.out);have D7:=Zg (pV.out.grown cH.out (fun k hk h=>ko.out k h hk));have vn:=Zg (show ∀ k,(Value.slice (some ⟨g5,0,none⟩) (l++[(t,ix)]).length aG).ownBlock=some k->(Value.slice F fs.length fc).ownBlock≠some k from by
        intro k hk ei;have pU:g5=k:=by simpa [Value.ownBlock] using hk
        rcases hG.out with h|h
        ·exact ko.out k (by rw[h,pU]) ei
        ·have:=(pV.out.lt k ei).2;omega)
       go_roundw
       case rel=>exact⟨l.length+1,k,l++[(t,ix)],t,_,aG,by have:=bg.out; omega,by simp,cM.out.1,cM.out.2,.inr ⟨by omega,by simp⟩,by first|go_num|(have:=bg.out; congr 1; omega),by simpa using Yi jf.out (by simp) _,Yi D7.out (by simp) _,by simpa using vn.out,ay.out.setCell (p:=⟨w.heap.size+3,2,none⟩) (Nat.le_add_right _ _) _,(heap_setCell_other w8 _ _ _ (by simp)).trans ot.out,(heap_setCell_other w8 _ _ _ (by simp)).trans ou.out,(by simpa using heap_setCell_same w8 (w.heap.size+3) 2 _ _ _ fv.out),by rw[bg.out]; exact bS.out⟩
       case measure=>simp[intOf]; have:=bg.out; omega
      ·rw[if_neg pG] at aa;subst aa;have aY:=cd.out;simp only[Option.map_none] at aY;subst aY;have pD:(b1:Int)<=(ix:Int):=by omega
       go_wp2_with fail
       refine(cO.out _).mono ?_;rintro e w' ⟨rfl,rfl⟩;go_wp2_with fail
       refine(iV.out _).mono ?_;rintro e w' ⟨rfl,rfl⟩;have z0:wr.cell? ⟨w.heap.size+2,0,none⟩=some (.int .i64 0):=by rw[Zh H2.out]; rfl
       have z1:wr.cell? ⟨w.heap.size+2,1,none⟩=some (.slice none 0 0):=by rw[Zh H2.out]; rfl
       have z2:wr.cell? ⟨w.heap.size+2,2,none⟩=some (.slice none 0 0):=by rw[Zh H2.out]; rfl
       obtain⟨w9,ah⟩: ∃ w9,wr.setRow (w.heap.size+1) #[.int .i64 0,.slice none 0 0,.slice none 0 0]=w9:=⟨_,rfl⟩;have aP:=Zg ah;have ai:=Zg (show w9.heap[w.heap.size+1]? =some (.cells #[.int .i64 0,.slice none 0 0,.slice none 0 0] 45 (0,0)) from by rw[<-ah]; exact setRow_heap _ _ _ _ _ _ H1.out);have ay:=Zg (show Below w.heap.size w w9 from by rw[<-ah]; exact below_setRow HB.out (Nat.le_succ _) _);have k0:w9.cell? ⟨w.heap.size+1,0,none⟩=some (.int .i64 0):=by rw[Zh ai.out]; rfl
       have k1:w9.cell? ⟨w.heap.size+1,1,none⟩=some (.slice none 0 0):=by rw[Zh ai.out]; rfl
       have k2:w9.cell? ⟨w.heap.size+1,2,none⟩=some (.slice none 0 0):=by rw[Zh ai.out]; rfl
       clear ah;go_wp2_with (first|(refine wpList_store_row rfl 45 _ _ rfl (w.heap.size+1) #[.int .i64 0,.slice none 0 0,.slice none 0 0] rfl rfl 45 #[.int .i64 0,.slice none 0 0,.slice none 0 0] H1.out ZY rfl Ym ?_; refine(congrArg _ aP.out).mpr ?_)|fail)
       refine bodyPost_ret (v:= .tuple #[.agg #[.int .i64 0,.slice none 0 0,.slice none 0 0],.int .i64 11]) (by simp[results,Tryz.results38,go_sem,k0,k1,k2]) rfl ⟨?_,ay.out⟩;exact rfl
     ·have mJ:i - 1<l.length:=by have:=bg.out; omega
      obtain⟨bn,off,B6,gd,q0,q1⟩:=(HN.out.sl Zbp).nm mJ;have xL:(l[i - 1]).1=last:=by
       rw[<-Hg,List.getD_eq_getElem?_getD,List.getElem?_eq_getElem mJ,Option.getD_some]
      rw[xL] at q0;obtain⟨j,hj⟩: ∃ j,i - 1=j:=⟨_,rfl⟩;clear q1;rw[hj] at q0 mJ;have D6:(0:Int)<(i:Int):=by omega
      have O7:(i:Int) - 1=(j:Int):=by omega
      have ze:(j:Int)<(l.length:Int):=by omega
      subst B6;clear Hg xL hj Hf;by_cases hle:Zkw t last=true
      ·rw[if_pos hle] at aa;subst aa;have aY:=cd.out;simp only[Option.map_none] at aY;subst aY;rw[hle] at ob;have Hc:wr.cell? ⟨w.heap.size+3,2,none⟩=some (.slice (some ⟨bn,off,none⟩) l.length c'):=by rw[Zh H3.out]; rfl
       go_wp2_with fail
       refine(cO.out _).mono ?_;rintro e w' ⟨rfl,rfl⟩;have z0:wr.cell? ⟨w.heap.size+2,0,none⟩=some (.int .i64 0):=by rw[Zh H2.out]; rfl
       have z1:wr.cell? ⟨w.heap.size+2,1,none⟩=some (.slice none 0 0):=by rw[Zh H2.out]; rfl
       have z2:wr.cell? ⟨w.heap.size+2,2,none⟩=some (.slice none 0 0):=by rw[Zh H2.out]; rfl
       obtain⟨w9,ah⟩: ∃ w9,wr.setRow (w.heap.size+1) #[.int .i64 0,.slice none 0 0,.slice none 0 0]=w9:=⟨_,rfl⟩;have aP:=Zg ah;have ai:=Zg (show w9.heap[w.heap.size+1]? =some (.cells #[.int .i64 0,.slice none 0 0,.slice none 0 0] 45 (0,0)) from by rw[<-ah]; exact setRow_heap _ _ _ _ _ _ H1.out);have ay:=Zg (show Below w.heap.size w w9 from by rw[<-ah]; exact below_setRow HB.out (Nat.le_succ _) _);have k0:w9.cell? ⟨w.heap.size+1,0,none⟩=some (.int .i64 0):=by rw[Zh ai.out]; rfl
       have k1:w9.cell? ⟨w.heap.size+1,1,none⟩=some (.slice none 0 0):=by rw[Zh ai.out]; rfl
       have k2:w9.cell? ⟨w.heap.size+1,2,none⟩=some (.slice none 0 0):=by rw[Zh ai.out]; rfl
       clear ah;go_wp2_with (first|(refine wpList_store_row rfl 45 _ _ rfl (w.heap.size+1) #[.int .i64 0,.slice none 0 0,.slice none 0 0] rfl rfl 45 #[.int .i64 0,.slice none 0 0,.slice none 0 0] H1.out ZY rfl Ym ?_; refine(congrArg _ aP.out).mpr ?_)|fail)
       refine bodyPost_ret (v:= .tuple #[.agg #[.int .i64 0,.slice none 0 0,.slice none 0 0],.int .i64 11]) (by simp[results,Tryz.results38,go_sem,k0,k1,k2]) rfl ⟨?_,ay.out⟩;exact rfl
      ·rw[if_neg hle] at aa;rw[show Zkw t last=false by simpa using hle] at ob;clear hle;have Hc:wr.cell? ⟨w.heap.size+3,2,none⟩=some (.slice (some ⟨bn,off,none⟩) l.length c'):=by rw[Zh H3.out]; rfl
       by_cases pG:ix<b1
       ·rw[if_pos pG] at aa;have bS:=Zg aa;have pD: ¬ (b1:Int)<=(ix:Int):=by omega
        clear aa pG;have aK:=Zg (HN.out.alloc (.cells #[.string (txt t),.int .i64 ix] 76));have pV:=Zg (HO.out.alloc (.cells #[.string (txt t),.int .i64 ix] 76));have cK:=Zg (Up ix t wr);have aV:=Zg (HB.out.alloc HB.out.size (.cells #[.string (txt t),.int .i64 ix] 76));have jI:=Zg (show(wr.alloc (.cells #[.string (txt t),.int .i64 ix] 76)).heap[w.heap.size+1]? =_ from(Below.heap_alloc _ _ _ (Zi H1.out)).trans H1.out);have jJ:=Zg (show(wr.alloc (.cells #[.string (txt t),.int .i64 ix] 76)).heap[w.heap.size+2]? =_ from(Below.heap_alloc _ _ _ (Zi H2.out)).trans H2.out);have fm:=Zg (show(wr.alloc (.cells #[.string (txt t),.int .i64 ix] 76)).heap[w.heap.size+3]? =_ from(Below.heap_alloc _ _ _ (Zi H3.out)).trans H3.out);have cj:=Zg (show w.heap.size+4<=(wr.alloc (.cells #[.string (txt t),.int .i64 ix] 76)).heap.size from Zi fm.out);have dH:=Zg (show l.length+1<=maxLen from by rw[bg.out]; unfold maxLen; omega);have dX:=Zg (show(l.length+1) * 24<=140737488355328 from by rw[bg.out]; omega);have iY:l.length<256:=by have:=bg.out; omega
        have mz:l.length+1<=b2:=by have:=bg.out; omega
        go_wp2_with fail
        refine(cO.out _).mono ?_;rintro e w' ⟨rfl,rfl⟩;go_wp2_with fail
        refine(iV.out _).mono ?_;rintro e w' ⟨rfl,rfl⟩;go_wp2_with (first
         | (at_builtin; refine Zq rfl (.tmp 236) (.tmp 240) 43 rfl (w.heap.size+4) 76 _ 24 rfl VO rfl (by omega) Zbp Zia _ l rfl aK.out wr.heap.size 1 rfl (t,ix) cK.out dH.out dX.out cj.out ?_; intro g5 aG w8 ag aI aD
            have hG:=Zg (show(Value.slice (some ⟨bn,off,none⟩) l.length c').ownBlock=some g5\/g5=(wr.alloc (.cells #[.string (txt t),.int .i64 ix] 76)).heap.size from aD);have cH:=Zg aI;have jf:=Zg ag;have fv:=Zg ((aI.block (w.heap.size+3) (Zi fm.out) (fun h=>by have:=(aK.out.lt _ h.symm).1; omega)).trans fm.out);have xJ:w8.cell? ⟨w.heap.size+3,2,none⟩=some (.slice (some ⟨bn,off,none⟩) l.length c'):=by rw[Zh fv.out]; rfl
            have xK:w8.frozen? ⟨w.heap.size+3,2,none⟩=false:=frozen_of_row _ _ _ _ _ fv.out;clear aD aI ag)
         | fail)
        have ay:=Zg (aK.out.grew aV.out (by omega) aV.out.size cH.out);have ot:=Zg ((cH.out.block (w.heap.size+1) (Zi jI.out) (fun h=>by have:=(aK.out.lt _ h.symm).1; omega)).trans jI.out);have ou:=Zg ((cH.out.block (w.heap.size+2) (Zi jJ.out) (fun h=>by have:=(aK.out.lt _ h.symm).1; omega)).trans jJ.out);have D7:=Zg (pV.out.grown cH.out (fun k hk h=>ko.out k h hk));have vn:=Zg (show ∀ k,(Value.slice (some ⟨g5,0,none⟩) (l++[(t,ix)]).length aG).ownBlock=some k->(Value.slice F fs.length fc).ownBlock≠some k from by
         intro k hk ei;have pU:g5=k:=by simpa [Value.ownBlock] using hk
         rcases hG.out with h|h
         ·exact ko.out k (by rw[h,pU]) ei
         ·have:=(pV.out.lt k ei).2;omega)
        go_roundw
        case rel=>exact⟨l.length+1,k,l++[(t,ix)],t,_,aG,by have:=bg.out; omega,by simp,cM.out.1,cM.out.2,.inr ⟨by omega,by simp⟩,by first|go_num|(have:=bg.out; congr 1; omega),by simpa using Yi jf.out (by simp) _,Yi D7.out (by simp) _,by simpa using vn.out,ay.out.setCell (p:=⟨w.heap.size+3,2,none⟩) (Nat.le_add_right _ _) _,(heap_setCell_other w8 _ _ _ (by simp)).trans ot.out,(heap_setCell_other w8 _ _ _ (by simp)).trans ou.out,(by simpa using heap_setCell_same w8 (w.heap.size+3) 2 _ _ _ fv.out),by rw[bg.out]; exact bS.out⟩
        case measure=>simp[intOf]; have:=bg.out; omega
       ·rw[if_neg pG] at aa;subst aa;have aY:=cd.out;simp only[Option.map_none] at aY;subst aY;have pD:(b1:Int)<=(ix:Int):=by omega
        go_wp2_with fail
        refine(cO.out _).mono ?_;rintro e w' ⟨rfl,rfl⟩;go_wp2_with fail
        refine(iV.out _).mono ?_;rintro e w' ⟨rfl,rfl⟩;have z0:wr.cell? ⟨w.heap.size+2,0,none⟩=some (.int .i64 0):=by rw[Zh H2.out]; rfl
        have z1:wr.cell? ⟨w.heap.size+2,1,none⟩=some (.slice none 0 0):=by rw[Zh H2.out]; rfl
        have z2:wr.cell? ⟨w.heap.size+2,2,none⟩=some (.slice none 0 0):=by rw[Zh H2.out]; rfl
        obtain⟨w9,ah⟩: ∃ w9,wr.setRow (w.heap.size+1) #[.int .i64 0,.slice none 0 0,.slice none 0 0]=w9:=⟨_,rfl⟩;have aP:=Zg ah;have ai:=Zg (show w9.heap[w.heap.size+1]? =some (.cells #[.int .i64 0,.slice none 0 0,.slice none 0 0] 45 (0,0)) from by rw[<-ah]; exact setRow_heap _ _ _ _ _ _ H1.out);have ay:=Zg (show Below w.heap.size w w9 from by rw[<-ah]; exact below_setRow HB.out (Nat.le_succ _) _);have k0:w9.cell? ⟨w.heap.size+1,0,none⟩=some (.int .i64 0):=by rw[Zh ai.out]; rfl
        have k1:w9.cell? ⟨w.heap.size+1,1,none⟩=some (.slice none 0 0):=by rw[Zh ai.out]; rfl
        have k2:w9.cell? ⟨w.heap.size+1,2,none⟩=some (.slice none 0 0):=by rw[Zh ai.out]; rfl
        clear ah;go_wp2_with (first|(refine wpList_store_row rfl 45 _ _ rfl (w.heap.size+1) #[.int .i64 0,.slice none 0 0,.slice none 0 0] rfl rfl 45 #[.int .i64 0,.slice none 0 0,.slice none 0 0] H1.out ZY rfl Ym ?_; refine(congrArg _ aP.out).mpr ?_)|fail)
        refine bodyPost_ret (v:= .tuple #[.agg #[.int .i64 0,.slice none 0 0,.slice none 0 0],.int .i64 11]) (by simp[results,Tryz.results38,go_sem,k0,k1,k2]) rfl ⟨?_,ay.out⟩;exact rfl
    ·rw[if_neg ba] at aa;subst aa;have aY:=cd.out;simp only[Option.map_none] at aY;subst aY;rw[show Yu t=false by simpa using ba] at cO;go_wp2_with fail
     refine(cO.out _).mono ?_;rintro e w' ⟨rfl,rfl⟩;have z0:wr.cell? ⟨w.heap.size+2,0,none⟩=some (.int .i64 0):=by rw[Zh H2.out]; rfl
     have z1:wr.cell? ⟨w.heap.size+2,1,none⟩=some (.slice none 0 0):=by rw[Zh H2.out]; rfl
     have z2:wr.cell? ⟨w.heap.size+2,2,none⟩=some (.slice none 0 0):=by rw[Zh H2.out]; rfl
     obtain⟨w9,ah⟩: ∃ w9,wr.setRow (w.heap.size+1) #[.int .i64 0,.slice none 0 0,.slice none 0 0]=w9:=⟨_,rfl⟩;have aP:=Zg ah;have ai:=Zg (show w9.heap[w.heap.size+1]? =some (.cells #[.int .i64 0,.slice none 0 0,.slice none 0 0] 45 (0,0)) from by rw[<-ah]; exact setRow_heap _ _ _ _ _ _ H1.out);have ay:=Zg (show Below w.heap.size w w9 from by rw[<-ah]; exact below_setRow HB.out (Nat.le_succ _) _);have k0:w9.cell? ⟨w.heap.size+1,0,none⟩=some (.int .i64 0):=by rw[Zh ai.out]; rfl
     have k1:w9.cell? ⟨w.heap.size+1,1,none⟩=some (.slice none 0 0):=by rw[Zh ai.out]; rfl
     have k2:w9.cell? ⟨w.heap.size+1,2,none⟩=some (.slice none 0 0):=by rw[Zh ai.out]; rfl
     clear ah;go_wp2_with (first|(refine wpList_store_row rfl 45 _ _ rfl (w.heap.size+1) #[.int .i64 0,.slice none 0 0,.slice none 0 0] rfl rfl 45 #[.int .i64 0,.slice none 0 0,.slice none 0 0] H1.out ZY rfl Ym ?_; refine(congrArg _ aP.out).mpr ?_)|fail)
     refine bodyPost_ret (v:= .tuple #[.agg #[.int .i64 0,.slice none 0 0,.slice none 0 0],.int .i64 11]) (by simp[results,Tryz.results38,go_sem,k0,k1,k2]) rfl ⟨?_,ay.out⟩;exact rfl
  ·obtain rfl:k=0:=by omega
   have aa:=HR.out;simp only[Xw] at aa;subst aa;have aY:=cd.out;simp only[Option.map_some] at aY;subst aY;have z0:wr.cell? ⟨w.heap.size+3,0,none⟩=some (.int .i64 b0):=by rw[Zh H3.out]; rfl
   have z1:wr.cell? ⟨w.heap.size+3,1,none⟩=some (.slice F fs.length fc):=by rw[Zh H3.out]; rfl
   have z2:wr.cell? ⟨w.heap.size+3,2,none⟩=some (.slice A' l.length c'):=by rw[Zh H3.out]; rfl
   obtain⟨w9,ah⟩: ∃ w9,wr.setRow (w.heap.size+1) #[.int .i64 b0,.slice F fs.length fc,.slice A' l.length c']=w9:=⟨_,rfl⟩;have aP:=Zg ah;have ai:=Zg (show w9.heap[w.heap.size+1]? =some (.cells #[.int .i64 b0,.slice F fs.length fc,.slice A' l.length c'] 45 (0,0)) from by rw[<-ah]; exact setRow_heap _ _ _ _ _ _ H1.out);have ay:=Zg (show Below w.heap.size w w9 from by rw[<-ah]; exact below_setRow HB.out (Nat.le_succ _) _);have k0:w9.cell? ⟨w.heap.size+1,0,none⟩=some (.int .i64 b0):=by rw[Zh ai.out]; rfl
   have k1:w9.cell? ⟨w.heap.size+1,1,none⟩=some (.slice F fs.length fc):=by rw[Zh ai.out]; rfl
   have k2:w9.cell? ⟨w.heap.size+1,2,none⟩=some (.slice A' l.length c'):=by rw[Zh ai.out]; rfl
   clear ah;go_wp2_with (first|(refine wpList_store_row rfl 45 _ _ rfl (w.heap.size+1) #[.int .i64 b0,.slice F fs.length fc,.slice A' l.length c'] rfl rfl 45 #[.int .i64 0,.slice none 0 0,.slice none 0 0] H1.out ZY rfl Ym ?_; refine(congrArg _ aP.out).mpr ?_)|fail)
   refine bodyPost_ret (v:= .tuple #[.agg #[.int .i64 b0,.slice F fs.length fc,.slice A' l.length c'],.int .i64 0]) (by simp[results,Tryz.results38,go_sem,k0,k1,k2]) rfl ⟨?_,ay.out⟩;exact⟨F,fc,A',c',rfl,by rw[<-aP.out]; exact Joins.ownsRow_le (Yz HO.out (by omega) _) (by omega),by rw[<-aP.out]; exact Joins.ownsRow_le (Yz HN.out (by omega) _) (by omega)⟩
def Zm4 (bs:List Nat) (b0 b1 b2 b4 b5:Nat) (f:Option (List FnV)):Option Zib:=match f with
 | none=>none
 | some f=>match Xw bs b4 b5 b1 b2 0 [] [] with
   | none=>none
   | some n=>some (b0,f,n)
theorem Vc (bs:List Nat) (rva size b0 b1 b2 b3 b4 b5:Nat) (w wr:World) (R:Option (List FnV)) (RR:Option Zib)
 (aJ:Hid (Lb bs)) (hlen:bs.length<=1000000) (hr:rva<=9223372036854775807) (hz:size<=9223372036854775807) (Hd:b1<=256) (xN:b2<=256) (Ef:Hid (b1=0\/b3+4 * b1<=bs.length)) (ax:Hid (b2=0\/(b4+4 * b2<=bs.length/\b5+2 * b2<=bs.length)))
 (HR:Hid (YV bs rva size b3 b1 0 []=R)) (cd:Hid (RR=Zm4 bs b0 b1 b2 b4 b5 R))
 (HB:Hid (Below w.heap.size w wr)) (H0:Hid (wr.heap[w.heap.size]? =some (.cells #[.int .i64 rva,.int .i64 size] 37 (0,0)))) (H1:Hid (wr.heap[w.heap.size+1]? =some (.cells #[.int .i64 0,.slice none 0 0,.slice none 0 0] 45 (0,0)))) (H2:Hid (wr.heap[w.heap.size+2]? =some (.cells #[.int .i64 0,.slice none 0 0,.slice none 0 0] 45 (0,0))))
 (H3:Hid (wr.heap[w.heap.size+3]? =some (.cells #[.int .i64 b0,.slice none 0 0,.slice none 0 0] 45 (0,0)))) (a:Act)
 (ha:Has 244 [0,3,4,6,7,8,9,10,11,12] [.string (txt bs),.pointer (some ⟨w.heap.size,0,none⟩),.pointer (some ⟨w.heap.size+1,0,none⟩),.pointer (some ⟨w.heap.size+2,0,none⟩),.pointer (some ⟨w.heap.size+3,0,none⟩),.int .i64 b1,.int .i64 b2,.int .i64 b3,.int .i64 b4,.int .i64 b5] a):(Yc 8 Znu).wp Tryz.prog (QX w RR) a wr:=by
 obtain⟨u,rfl⟩:=Yt ha;simp only[Zae,Xi,Zf,Ze];clear ha;conv=>arg 2; whnf
 have aT:(txt bs).size=bs.length:=Zk bs;go_upto_region 11 with(fail)
 rename_i K2 qV K1 jG;have pW:=Zg qV;clear qV;go_wp2_with fail
 go_loopw [13] (fun v13 wr=> ∃(i k:Nat) (l:List FnV) (A':Option Addr) (c':Nat),i+k=b1/\l.length=i/\v13= .int .i64 i/\ZJ gC 2 wr (w.heap.size+4) 74 (.slice A' l.length c') l/\Below w.heap.size w wr/\wr.heap[w.heap.size]? =some (.cells #[.int .i64 rva,.int .i64 size] 37 (0,0))/\wr.heap[w.heap.size+1]? =some (.cells #[.int .i64 0,.slice none 0 0,.slice none 0 0] 45 (0,0))/\wr.heap[w.heap.size+2]? =some (.cells #[.int .i64 0,.slice none 0 0,.slice none 0 0] 45 (0,0))/\wr.heap[w.heap.size+3]? =some (.cells #[.int .i64 b0,.slice A' l.length c',.slice none 0 0] 45 (0,0))/\YV bs rva size b3 k i l=R) (fun v13 _=>b1 - (intOf v13).toNat)
 case atStart=>exact⟨0,b1,[],none,0,by omega,rfl,rfl,ZJ.nil _ _ _,HB.out,H0.out,H1.out,H2.out,H3.out,HR.out⟩
 case round =>
  obtain⟨i,k,l,A',c',jD,lV,rfl,ae,aq,h0,h1,h2,h3,hR⟩:=hrel;have HO:=Zg ae;replace HB:=Zg aq;replace H0:=Zg h0;replace H1:=Zg h1;replace H2:=Zg h2;replace H3:=Zg h3;replace HR:=Zg hR;have bg:=Zg lV;clear ae aq h0 h1 h2 h3 hR lV;by_cases af:i<b1
  ·obtain⟨k,rfl⟩: ∃ q,k=q+1:=⟨k - 1,by omega⟩;obtain⟨m4,jE⟩: ∃ m,4 * i=m:=⟨_,rfl⟩;obtain⟨o,ho⟩: ∃ o,b3+m4=o:=⟨_,rfl⟩;have iv:o+4<=bs.length:=by have:=Ef.out; omega
   have em:(4:Int) * (i:Int)=(m4:Int):=by omega
   have wm:IntKind.i64.wrap (m4:Int)=(m4:Int):=by rw[IntKind.wrap_i64]; omega
   have eo:(b3:Int)+(m4:Int)=(o:Int):=by omega
   have wo:IntKind.i64.wrap (o:Int)=(o:Int):=by rw[IntKind.wrap_i64]; omega
   have HU:=Zg (fun W=>ZQ bs o 4 W aJ.out (by omega) (by omega) iv);have aa:=HR.out;simp only[YV] at aa;rw[jE,ho] at aa;have hv:=ZG (aJ.out.drop o) 4;obtain⟨v,fj⟩: ∃ v,Yg (bs.drop o) 4=v:=⟨_,rfl⟩;rw[fj] at HU aa hv;rw[show(256:Nat) ^ 4=4294967296 from rfl] at hv;have bW:=Zg (fun W=>Xr bs v 64 W aJ.out (by omega));have ar:=Zg aa;clear aa fj jE ho iv;obtain⟨w1,ao⟩: ∃ w1,wr.alloc (.cells #[.int .i64 v,.string ⟨#[]⟩] 74)=w1:=⟨_,rfl⟩;have cu:=Zg ao;have HA:=Zg (show Below wr.heap.size wr w1 from by rw[<-ao]; exact(Below.refl wr.heap.size wr).alloc (Nat.le_refl _) _);have HT:=Zg (show w1.heap[wr.heap.size]? =some (.cells #[.int .i64 v,.string (txt [])] 74 (0,0)) from by rw[<-ao]; exact heap_alloc_new wr _);clear ao;have t0:w1.cell? ⟨wr.heap.size,0,none⟩=some (.int .i64 v):=by rw[Zh HT.out]; rfl
   have r0:w1.cell? ⟨w.heap.size,0,none⟩=some (.int .i64 rva):=by rw[Zh ((HA.out.block _ (Zi H0.out)).trans H0.out)]; rfl
   have r1:w1.cell? ⟨w.heap.size,1,none⟩=some (.int .i64 size):=by rw[Zh ((HA.out.block _ (Zi H0.out)).trans H0.out)]; rfl
   have LI:(v:Int)<4294967296:=by omega
   go_wp2_with fail
   refine(HU.out _).mono ?_;rintro e w' ⟨rfl,rfl⟩;clear em wm eo wo;go_upto_region 15 with(fail)
   refine(congrArg _ cu.out).mpr ?_;have dV:=ar.out;unfold UJ at dV;by_cases jn:v<rva\/size<=v - rva
   ·rw[if_pos jn] at dV;by_cases B5:v<bs.length
    ·rw[if_pos B5] at dV;have bS:=Zg dV;have dv: ¬ (bs.length:Int)<=(v:Int):=by omega
     clear dV B5;rcases jn with cG|cG
     ·have d1: ¬ (rva:Int)<=(v:Int):=by omega
      clear cG;clear t0;have D8:w1.cell? ⟨w.heap.size+3,1,none⟩=some (.slice A' l.length c'):=by rw[Zh ((HA.out.block _ (Zi H3.out)).trans H3.out)]; rfl
      have t0:w1.cell? ⟨wr.heap.size,0,none⟩=some (.int .i64 v):=by rw[Zh HT.out]; rfl
      have t1:w1.cell? ⟨wr.heap.size,1,none⟩=some (.string (txt [])):=by rw[Zh HT.out]; rfl
      have aK:=Zg ((HO.out.below HA.out).alloc (.cells #[.int .i64 v,.string (txt [])] 74));have cK:=Zg (WU v [] w1);have dS:=Zg (HB.out.trans (HA.out.mono HB.out.size));have aV:=Zg (dS.out.alloc dS.out.size (.cells #[.int .i64 v,.string (txt [])] 74));have iE:Below wr.heap.size wr (w1.alloc (.cells #[.int .i64 v,.string (txt [])] 74)):=HA.out.alloc HA.out.size _;have pX:=Zg ((iE.block w.heap.size (Zi H0.out)).trans H0.out);have jI:=Zg ((iE.block (w.heap.size+1) (Zi H1.out)).trans H1.out);have jJ:=Zg ((iE.block (w.heap.size+2) (Zi H2.out)).trans H2.out);have fm:=Zg ((iE.block (w.heap.size+3) (Zi H3.out)).trans H3.out);have cj:=Zg (show w.heap.size+4<=(w1.alloc (.cells #[.int .i64 v,.string (txt [])] 74)).heap.size from Zi fm.out);have dH:=Zg (show l.length+1<=maxLen from by rw[bg.out]; unfold maxLen; omega);have dX:=Zg (show(l.length+1) * 24<=140737488355328 from by rw[bg.out]; omega);have iY:l.length<256:=by have:=bg.out; omega
      have mz:l.length+1<=b1:=by have:=bg.out; omega
      clear iE;go_wp2_with (first
       | (at_builtin; refine Zq rfl (.tmp 181) (.tmp 183) 42 rfl (w.heap.size+4) 74 _ 24 rfl Vk rfl (by omega) QJ Zcw _ l rfl aK.out w1.heap.size 1 rfl (v,[]) cK.out dH.out dX.out cj.out ?_; intro g5 aG w8 ag aI aD
          have cH:=Zg aI;have jf:=Zg ag;have fv:=Zg ((aI.block (w.heap.size+3) (Zi fm.out) (fun h=>by have:=(aK.out.lt _ h.symm).1; omega)).trans fm.out);have xJ:w8.cell? ⟨w.heap.size+3,1,none⟩=some (.slice A' l.length c'):=by rw[Zh fv.out]; rfl
          have xK:w8.frozen? ⟨w.heap.size+3,1,none⟩=false:=frozen_of_row _ _ _ _ _ fv.out;clear aD aI ag)
       | fail)
      have ay:=Zg (aK.out.grew aV.out (by omega) aV.out.size cH.out);have vo:=Zg ((cH.out.block w.heap.size (Zi pX.out) (fun h=>by have:=(aK.out.lt _ h.symm).1; omega)).trans pX.out);have ot:=Zg ((cH.out.block (w.heap.size+1) (Zi jI.out) (fun h=>by have:=(aK.out.lt _ h.symm).1; omega)).trans jI.out);have ou:=Zg ((cH.out.block (w.heap.size+2) (Zi jJ.out) (fun h=>by have:=(aK.out.lt _ h.symm).1; omega)).trans jJ.out);go_roundw
      case rel=>exact⟨l.length+1,k,l++[(v,[])],_,aG,by have:=bg.out; omega,by simp,by first|go_num|(have:=bg.out; congr 1; omega),by simpa using Yi jf.out (by simp) _,ay.out.setCell (p:=⟨w.heap.size+3,1,none⟩) (Nat.le_add_right _ _) _,(heap_setCell_other w8 _ _ _ (by simp)).trans vo.out,(heap_setCell_other w8 _ _ _ (by simp)).trans ot.out,(heap_setCell_other w8 _ _ _ (by simp)).trans ou.out,(by simpa using heap_setCell_same w8 (w.heap.size+3) 1 _ _ _ fv.out),by rw[bg.out]; exact bS.out⟩
      case measure=>simp[intOf]; have:=bg.out; omega
     ·by_cases gK:v<rva
      ·have d1: ¬ (rva:Int)<=(v:Int):=by omega
       clear cG gK;clear t0;have D8:w1.cell? ⟨w.heap.size+3,1,none⟩=some (.slice A' l.length c'):=by rw[Zh ((HA.out.block _ (Zi H3.out)).trans H3.out)]; rfl
       have t0:w1.cell? ⟨wr.heap.size,0,none⟩=some (.int .i64 v):=by rw[Zh HT.out]; rfl
       have t1:w1.cell? ⟨wr.heap.size,1,none⟩=some (.string (txt [])):=by rw[Zh HT.out]; rfl
       have aK:=Zg ((HO.out.below HA.out).alloc (.cells #[.int .i64 v,.string (txt [])] 74));have cK:=Zg (WU v [] w1);have dS:=Zg (HB.out.trans (HA.out.mono HB.out.size));have aV:=Zg (dS.out.alloc dS.out.size (.cells #[.int .i64 v,.string (txt [])] 74));have iE:Below wr.heap.size wr (w1.alloc (.cells #[.int .i64 v,.string (txt [])] 74)):=HA.out.alloc HA.out.size _;have pX:=Zg ((iE.block w.heap.size (Zi H0.out)).trans H0.out);have jI:=Zg ((iE.block (w.heap.size+1) (Zi H1.out)).trans H1.out);have jJ:=Zg ((iE.block (w.heap.size+2) (Zi H2.out)).trans H2.out);have fm:=Zg ((iE.block (w.heap.size+3) (Zi H3.out)).trans H3.out);have cj:=Zg (show w.heap.size+4<=(w1.alloc (.cells #[.int .i64 v,.string (txt [])] 74)).heap.size from Zi fm.out);have dH:=Zg (show l.length+1<=maxLen from by rw[bg.out]; unfold maxLen; omega);have dX:=Zg (show(l.length+1) * 24<=140737488355328 from by rw[bg.out]; omega);have iY:l.length<256:=by have:=bg.out; omega
       have mz:l.length+1<=b1:=by have:=bg.out; omega
       clear iE;go_wp2_with (first
        | (at_builtin; refine Zq rfl (.tmp 181) (.tmp 183) 42 rfl (w.heap.size+4) 74 _ 24 rfl Vk rfl (by omega) QJ Zcw _ l rfl aK.out w1.heap.size 1 rfl (v,[]) cK.out dH.out dX.out cj.out ?_; intro g5 aG w8 ag aI aD
           have cH:=Zg aI;have jf:=Zg ag;have fv:=Zg ((aI.block (w.heap.size+3) (Zi fm.out) (fun h=>by have:=(aK.out.lt _ h.symm).1; omega)).trans fm.out);have xJ:w8.cell? ⟨w.heap.size+3,1,none⟩=some (.slice A' l.length c'):=by rw[Zh fv.out]; rfl
           have xK:w8.frozen? ⟨w.heap.size+3,1,none⟩=false:=frozen_of_row _ _ _ _ _ fv.out;clear aD aI ag)
        | fail)
       have ay:=Zg (aK.out.grew aV.out (by omega) aV.out.size cH.out);have vo:=Zg ((cH.out.block w.heap.size (Zi pX.out) (fun h=>by have:=(aK.out.lt _ h.symm).1; omega)).trans pX.out);have ot:=Zg ((cH.out.block (w.heap.size+1) (Zi jI.out) (fun h=>by have:=(aK.out.lt _ h.symm).1; omega)).trans jI.out);have ou:=Zg ((cH.out.block (w.heap.size+2) (Zi jJ.out) (fun h=>by have:=(aK.out.lt _ h.symm).1; omega)).trans jJ.out);go_roundw
       case rel=>exact⟨l.length+1,k,l++[(v,[])],_,aG,by have:=bg.out; omega,by simp,by first|go_num|(have:=bg.out; congr 1; omega),by simpa using Yi jf.out (by simp) _,ay.out.setCell (p:=⟨w.heap.size+3,1,none⟩) (Nat.le_add_right _ _) _,(heap_setCell_other w8 _ _ _ (by simp)).trans vo.out,(heap_setCell_other w8 _ _ _ (by simp)).trans ot.out,(heap_setCell_other w8 _ _ _ (by simp)).trans ou.out,(by simpa using heap_setCell_same w8 (w.heap.size+3) 1 _ _ _ fv.out),by rw[bg.out]; exact bS.out⟩
       case measure=>simp[intOf]; have:=bg.out; omega
      ·have d1:(rva:Int)<=(v:Int):=by omega
       have d2: ¬ (v:Int) - (rva:Int)<(size:Int):=by omega
       clear cG gK;clear t0;have D8:w1.cell? ⟨w.heap.size+3,1,none⟩=some (.slice A' l.length c'):=by rw[Zh ((HA.out.block _ (Zi H3.out)).trans H3.out)]; rfl
       have t0:w1.cell? ⟨wr.heap.size,0,none⟩=some (.int .i64 v):=by rw[Zh HT.out]; rfl
       have t1:w1.cell? ⟨wr.heap.size,1,none⟩=some (.string (txt [])):=by rw[Zh HT.out]; rfl
       have aK:=Zg ((HO.out.below HA.out).alloc (.cells #[.int .i64 v,.string (txt [])] 74));have cK:=Zg (WU v [] w1);have dS:=Zg (HB.out.trans (HA.out.mono HB.out.size));have aV:=Zg (dS.out.alloc dS.out.size (.cells #[.int .i64 v,.string (txt [])] 74));have iE:Below wr.heap.size wr (w1.alloc (.cells #[.int .i64 v,.string (txt [])] 74)):=HA.out.alloc HA.out.size _;have pX:=Zg ((iE.block w.heap.size (Zi H0.out)).trans H0.out);have jI:=Zg ((iE.block (w.heap.size+1) (Zi H1.out)).trans H1.out);have jJ:=Zg ((iE.block (w.heap.size+2) (Zi H2.out)).trans H2.out);have fm:=Zg ((iE.block (w.heap.size+3) (Zi H3.out)).trans H3.out);have cj:=Zg (show w.heap.size+4<=(w1.alloc (.cells #[.int .i64 v,.string (txt [])] 74)).heap.size from Zi fm.out);have dH:=Zg (show l.length+1<=maxLen from by rw[bg.out]; unfold maxLen; omega);have dX:=Zg (show(l.length+1) * 24<=140737488355328 from by rw[bg.out]; omega);have iY:l.length<256:=by have:=bg.out; omega
       have mz:l.length+1<=b1:=by have:=bg.out; omega
       clear iE;go_wp2_with (first
        | (at_builtin; refine Zq rfl (.tmp 181) (.tmp 183) 42 rfl (w.heap.size+4) 74 _ 24 rfl Vk rfl (by omega) QJ Zcw _ l rfl aK.out w1.heap.size 1 rfl (v,[]) cK.out dH.out dX.out cj.out ?_; intro g5 aG w8 ag aI aD
           have cH:=Zg aI;have jf:=Zg ag;have fv:=Zg ((aI.block (w.heap.size+3) (Zi fm.out) (fun h=>by have:=(aK.out.lt _ h.symm).1; omega)).trans fm.out);have xJ:w8.cell? ⟨w.heap.size+3,1,none⟩=some (.slice A' l.length c'):=by rw[Zh fv.out]; rfl
           have xK:w8.frozen? ⟨w.heap.size+3,1,none⟩=false:=frozen_of_row _ _ _ _ _ fv.out;clear aD aI ag)
        | fail)
       have ay:=Zg (aK.out.grew aV.out (by omega) aV.out.size cH.out);have vo:=Zg ((cH.out.block w.heap.size (Zi pX.out) (fun h=>by have:=(aK.out.lt _ h.symm).1; omega)).trans pX.out);have ot:=Zg ((cH.out.block (w.heap.size+1) (Zi jI.out) (fun h=>by have:=(aK.out.lt _ h.symm).1; omega)).trans jI.out);have ou:=Zg ((cH.out.block (w.heap.size+2) (Zi jJ.out) (fun h=>by have:=(aK.out.lt _ h.symm).1; omega)).trans jJ.out);go_roundw
       case rel=>exact⟨l.length+1,k,l++[(v,[])],_,aG,by have:=bg.out; omega,by simp,by first|go_num|(have:=bg.out; congr 1; omega),by simpa using Yi jf.out (by simp) _,ay.out.setCell (p:=⟨w.heap.size+3,1,none⟩) (Nat.le_add_right _ _) _,(heap_setCell_other w8 _ _ _ (by simp)).trans vo.out,(heap_setCell_other w8 _ _ _ (by simp)).trans ot.out,(heap_setCell_other w8 _ _ _ (by simp)).trans ou.out,(by simpa using heap_setCell_same w8 (w.heap.size+3) 1 _ _ _ fv.out),by rw[bg.out]; exact bS.out⟩
       case measure=>simp[intOf]; have:=bg.out; omega
    ·rw[if_neg B5] at dV;simp only at dV;subst dV;have aY:=cd.out;simp only[Zm4] at aY;subst aY;have dv:(bs.length:Int)<=(v:Int):=by omega
     clear B5;rcases jn with cG|cG
     ·have d1: ¬ (rva:Int)<=(v:Int):=by omega
      clear cG;have ia:=Zg ((HA.out.block (w.heap.size+1) (Zi H1.out)).trans H1.out);have fH:=Zg ((HA.out.block (w.heap.size+2) (Zi H2.out)).trans H2.out);have jO:=Zg (HB.out.trans (HA.out.mono HB.out.size));have z0:w1.cell? ⟨w.heap.size+2,0,none⟩=some (.int .i64 0):=by rw[Zh fH.out]; rfl
      have z1:w1.cell? ⟨w.heap.size+2,1,none⟩=some (.slice none 0 0):=by rw[Zh fH.out]; rfl
      have z2:w1.cell? ⟨w.heap.size+2,2,none⟩=some (.slice none 0 0):=by rw[Zh fH.out]; rfl
      obtain⟨w9,ah⟩: ∃ w9,w1.setRow (w.heap.size+1) #[.int .i64 0,.slice none 0 0,.slice none 0 0]=w9:=⟨_,rfl⟩;have aP:=Zg ah;have ai:=Zg (show w9.heap[w.heap.size+1]? =some (.cells #[.int .i64 0,.slice none 0 0,.slice none 0 0] 45 (0,0)) from by rw[<-ah]; exact setRow_heap _ _ _ _ _ _ ia.out);have ay:=Zg (show Below w.heap.size w w9 from by rw[<-ah]; exact below_setRow jO.out (Nat.le_succ _) _);have k0:w9.cell? ⟨w.heap.size+1,0,none⟩=some (.int .i64 0):=by rw[Zh ai.out]; rfl
      have k1:w9.cell? ⟨w.heap.size+1,1,none⟩=some (.slice none 0 0):=by rw[Zh ai.out]; rfl
      have k2:w9.cell? ⟨w.heap.size+1,2,none⟩=some (.slice none 0 0):=by rw[Zh ai.out]; rfl
      clear ah;go_upto_region 24 with(fail)
      go_wp2_with (first|(refine wpList_store_row rfl 45 _ _ rfl (w.heap.size+1) #[.int .i64 0,.slice none 0 0,.slice none 0 0] rfl rfl 45 #[.int .i64 0,.slice none 0 0,.slice none 0 0] ia.out ZY rfl Ym ?_; refine(congrArg _ aP.out).mpr ?_)|fail)
      refine bodyPost_ret (v:= .tuple #[.agg #[.int .i64 0,.slice none 0 0,.slice none 0 0],.int .i64 11]) (by simp[results,Tryz.results38,go_sem,k0,k1,k2]) rfl ⟨?_,ay.out⟩;exact rfl
     ·by_cases gK:v<rva
      ·have d1: ¬ (rva:Int)<=(v:Int):=by omega
       clear cG gK;have ia:=Zg ((HA.out.block (w.heap.size+1) (Zi H1.out)).trans H1.out);have fH:=Zg ((HA.out.block (w.heap.size+2) (Zi H2.out)).trans H2.out);have jO:=Zg (HB.out.trans (HA.out.mono HB.out.size));have z0:w1.cell? ⟨w.heap.size+2,0,none⟩=some (.int .i64 0):=by rw[Zh fH.out]; rfl
       have z1:w1.cell? ⟨w.heap.size+2,1,none⟩=some (.slice none 0 0):=by rw[Zh fH.out]; rfl
       have z2:w1.cell? ⟨w.heap.size+2,2,none⟩=some (.slice none 0 0):=by rw[Zh fH.out]; rfl
       obtain⟨w9,ah⟩: ∃ w9,w1.setRow (w.heap.size+1) #[.int .i64 0,.slice none 0 0,.slice none 0 0]=w9:=⟨_,rfl⟩;have aP:=Zg ah;have ai:=Zg (show w9.heap[w.heap.size+1]? =some (.cells #[.int .i64 0,.slice none 0 0,.slice none 0 0] 45 (0,0)) from by rw[<-ah]; exact setRow_heap _ _ _ _ _ _ ia.out);have ay:=Zg (show Below w.heap.size w w9 from by rw[<-ah]; exact below_setRow jO.out (Nat.le_succ _) _);have k0:w9.cell? ⟨w.heap.size+1,0,none⟩=some (.int .i64 0):=by rw[Zh ai.out]; rfl
       have k1:w9.cell? ⟨w.heap.size+1,1,none⟩=some (.slice none 0 0):=by rw[Zh ai.out]; rfl
       have k2:w9.cell? ⟨w.heap.size+1,2,none⟩=some (.slice none 0 0):=by rw[Zh ai.out]; rfl
       clear ah;go_upto_region 24 with(fail)
       go_wp2_with (first|(refine wpList_store_row rfl 45 _ _ rfl (w.heap.size+1) #[.int .i64 0,.slice none 0 0,.slice none 0 0] rfl rfl 45 #[.int .i64 0,.slice none 0 0,.slice none 0 0] ia.out ZY rfl Ym ?_; refine(congrArg _ aP.out).mpr ?_)|fail)
       refine bodyPost_ret (v:= .tuple #[.agg #[.int .i64 0,.slice none 0 0,.slice none 0 0],.int .i64 11]) (by simp[results,Tryz.results38,go_sem,k0,k1,k2]) rfl ⟨?_,ay.out⟩;exact rfl
      ·have d1:(rva:Int)<=(v:Int):=by omega
       have d2: ¬ (v:Int) - (rva:Int)<(size:Int):=by omega
       clear cG gK;have ia:=Zg ((HA.out.block (w.heap.size+1) (Zi H1.out)).trans H1.out);have fH:=Zg ((HA.out.block (w.heap.size+2) (Zi H2.out)).trans H2.out);have jO:=Zg (HB.out.trans (HA.out.mono HB.out.size));have z0:w1.cell? ⟨w.heap.size+2,0,none⟩=some (.int .i64 0):=by rw[Zh fH.out]; rfl
       have z1:w1.cell? ⟨w.heap.size+2,1,none⟩=some (.slice none 0 0):=by rw[Zh fH.out]; rfl
       have z2:w1.cell? ⟨w.heap.size+2,2,none⟩=some (.slice none 0 0):=by rw[Zh fH.out]; rfl
       obtain⟨w9,ah⟩: ∃ w9,w1.setRow (w.heap.size+1) #[.int .i64 0,.slice none 0 0,.slice none 0 0]=w9:=⟨_,rfl⟩;have aP:=Zg ah;have ai:=Zg (show w9.heap[w.heap.size+1]? =some (.cells #[.int .i64 0,.slice none 0 0,.slice none 0 0] 45 (0,0)) from by rw[<-ah]; exact setRow_heap _ _ _ _ _ _ ia.out);have ay:=Zg (show Below w.heap.size w w9 from by rw[<-ah]; exact below_setRow jO.out (Nat.le_succ _) _);have k0:w9.cell? ⟨w.heap.size+1,0,none⟩=some (.int .i64 0):=by rw[Zh ai.out]; rfl
       have k1:w9.cell? ⟨w.heap.size+1,1,none⟩=some (.slice none 0 0):=by rw[Zh ai.out]; rfl
       have k2:w9.cell? ⟨w.heap.size+1,2,none⟩=some (.slice none 0 0):=by rw[Zh ai.out]; rfl
       clear ah;go_upto_region 24 with(fail)
       go_wp2_with (first|(refine wpList_store_row rfl 45 _ _ rfl (w.heap.size+1) #[.int .i64 0,.slice none 0 0,.slice none 0 0] rfl rfl 45 #[.int .i64 0,.slice none 0 0,.slice none 0 0] ia.out ZY rfl Ym ?_; refine(congrArg _ aP.out).mpr ?_)|fail)
       refine bodyPost_ret (v:= .tuple #[.agg #[.int .i64 0,.slice none 0 0,.slice none 0 0],.int .i64 11]) (by simp[results,Tryz.results38,go_sem,k0,k1,k2]) rfl ⟨?_,ay.out⟩;exact rfl
   ·rw[if_neg jn] at dV;have d1:(rva:Int)<=(v:Int):=by omega
    have d2:(v:Int) - (rva:Int)<(size:Int):=by omega
    clear jn;go_wp2_with (first
     | fail)
    refine(bW.out _).mono ?_;rintro e w' ⟨rfl,rfl⟩;rcases htx:YO bs v 64 with _|t
    ·rw[htx] at dV;simp only at dV ⊢;subst dV;have aY:=cd.out;simp only[Zm4] at aY;subst aY;have ia:=Zg ((HA.out.block (w.heap.size+1) (Zi H1.out)).trans H1.out);have fH:=Zg ((HA.out.block (w.heap.size+2) (Zi H2.out)).trans H2.out);have jO:=Zg (HB.out.trans (HA.out.mono HB.out.size));have z0:w1.cell? ⟨w.heap.size+2,0,none⟩=some (.int .i64 0):=by rw[Zh fH.out]; rfl
     have z1:w1.cell? ⟨w.heap.size+2,1,none⟩=some (.slice none 0 0):=by rw[Zh fH.out]; rfl
     have z2:w1.cell? ⟨w.heap.size+2,2,none⟩=some (.slice none 0 0):=by rw[Zh fH.out]; rfl
     obtain⟨w9,ah⟩: ∃ w9,w1.setRow (w.heap.size+1) #[.int .i64 0,.slice none 0 0,.slice none 0 0]=w9:=⟨_,rfl⟩;have aP:=Zg ah;have ai:=Zg (show w9.heap[w.heap.size+1]? =some (.cells #[.int .i64 0,.slice none 0 0,.slice none 0 0] 45 (0,0)) from by rw[<-ah]; exact setRow_heap _ _ _ _ _ _ ia.out);have ay:=Zg (show Below w.heap.size w w9 from by rw[<-ah]; exact below_setRow jO.out (Nat.le_succ _) _);have k0:w9.cell? ⟨w.heap.size+1,0,none⟩=some (.int .i64 0):=by rw[Zh ai.out]; rfl
     have k1:w9.cell? ⟨w.heap.size+1,1,none⟩=some (.slice none 0 0):=by rw[Zh ai.out]; rfl
     have k2:w9.cell? ⟨w.heap.size+1,2,none⟩=some (.slice none 0 0):=by rw[Zh ai.out]; rfl
     clear ah;go_wp2_with (first|(refine wpList_store_row rfl 45 _ _ rfl (w.heap.size+1) #[.int .i64 0,.slice none 0 0,.slice none 0 0] rfl rfl 45 #[.int .i64 0,.slice none 0 0,.slice none 0 0] ia.out ZY rfl Ym ?_; refine(congrArg _ aP.out).mpr ?_)|fail)
     refine bodyPost_ret (v:= .tuple #[.agg #[.int .i64 0,.slice none 0 0,.slice none 0 0],.int .i64 11]) (by simp[results,Tryz.results38,go_sem,k0,k1,k2]) rfl ⟨?_,ay.out⟩;exact rfl
    ·rw[htx] at dV;have aE:=YC aJ.out htx;have fX:=Zg (fun W=>Zg8 t W aE.1 (by have:=aE.2; omega));simp only at dV ⊢;clear aE htx bW;go_wp2_with fail
     refine(fX.out _).mono ?_;rintro e w2 ⟨⟨D,SS,OO,BB,rfl⟩,aR⟩;obtain⟨w3,dn⟩: ∃ w3,w2.alloc (.cells #[.string D,.string SS,.int .i64 OO,.bool BB] 125)=w3:=⟨_,rfl⟩;have jC:=Zg dn;have D9:Below wr.heap.size wr w2:=HA.out.trans (aR.mono HA.out.size);have qW:=Zg (show Below wr.heap.size wr w3 from by rw[<-dn]; exact D9.alloc D9.size _);have zf:Below w1.heap.size w1 w3:=by rw[<-dn]; exact aR.alloc aR.size _
     have fL:=Zg ((zf.block wr.heap.size (Zi HT.out)).trans HT.out);clear dn D9 zf aR t0 r0 r1;go_upto_region 20 with(fail)
     refine(congrArg _ jC.out).mpr ?_;by_cases xM:ZH t=true
     ·rw[if_pos xM] at dV;rw[xM];have bS:=Zg dV;obtain⟨w4,cX⟩: ∃ w4,w3.setRow wr.heap.size #[.int .i64 0,.string (txt t)]=w4:=⟨_,rfl⟩;have gW:=Zg cX;have qX:=Zg (show Below wr.heap.size wr w4 from by rw[<-cX]; exact below_setRow qW.out (Nat.le_refl _) _);have eO:=Zg (show w4.heap[wr.heap.size]? =some (.cells #[.int .i64 0,.string (txt t)] 74 (0,0)) from by rw[<-cX]; exact setRow_heap _ _ _ _ _ _ fL.out);clear cX dV xM;have D8:w4.cell? ⟨w.heap.size+3,1,none⟩=some (.slice A' l.length c'):=by rw[Zh ((qX.out.block _ (Zi H3.out)).trans H3.out)]; rfl
      have t0:w4.cell? ⟨wr.heap.size,0,none⟩=some (.int .i64 0):=by rw[Zh eO.out]; rfl
      have t1:w4.cell? ⟨wr.heap.size,1,none⟩=some (.string (txt t)):=by rw[Zh eO.out]; rfl
      have aK:=Zg ((HO.out.below qX.out).alloc (.cells #[.int .i64 0,.string (txt t)] 74));have cK:=Zg (WU 0 t w4);have dS:=Zg (HB.out.trans (qX.out.mono HB.out.size));have aV:=Zg (dS.out.alloc dS.out.size (.cells #[.int .i64 0,.string (txt t)] 74));have iE:Below wr.heap.size wr (w4.alloc (.cells #[.int .i64 0,.string (txt t)] 74)):=qX.out.alloc qX.out.size _;have pX:=Zg ((iE.block w.heap.size (Zi H0.out)).trans H0.out);have jI:=Zg ((iE.block (w.heap.size+1) (Zi H1.out)).trans H1.out);have jJ:=Zg ((iE.block (w.heap.size+2) (Zi H2.out)).trans H2.out);have fm:=Zg ((iE.block (w.heap.size+3) (Zi H3.out)).trans H3.out);have cj:=Zg (show w.heap.size+4<=(w4.alloc (.cells #[.int .i64 0,.string (txt t)] 74)).heap.size from Zi fm.out);have dH:=Zg (show l.length+1<=maxLen from by rw[bg.out]; unfold maxLen; omega);have dX:=Zg (show(l.length+1) * 24<=140737488355328 from by rw[bg.out]; omega);have iY:l.length<256:=by have:=bg.out; omega
      have mz:l.length+1<=b1:=by have:=bg.out; omega
      clear iE;go_wp2_with (first
       | (refine wpList_store_row rfl 74 _ _ rfl wr.heap.size #[.int .i64 0,.string (txt t)] rfl rfl 74 #[.int .i64 v,.string (txt [])] fL.out fnInfo rfl fnOne ?_; refine(congrArg _ gW.out).mpr ?_)
       | (at_builtin; refine Zq rfl (.tmp 181) (.tmp 183) 42 rfl (w.heap.size+4) 74 _ 24 rfl Vk rfl (by omega) QJ Zcw _ l rfl aK.out w4.heap.size 1 rfl (0,t) cK.out dH.out dX.out cj.out ?_; intro g5 aG w8 ag aI aD
          have cH:=Zg aI;have jf:=Zg ag;have fv:=Zg ((aI.block (w.heap.size+3) (Zi fm.out) (fun h=>by have:=(aK.out.lt _ h.symm).1; omega)).trans fm.out);have xJ:w8.cell? ⟨w.heap.size+3,1,none⟩=some (.slice A' l.length c'):=by rw[Zh fv.out]; rfl
          have xK:w8.frozen? ⟨w.heap.size+3,1,none⟩=false:=frozen_of_row _ _ _ _ _ fv.out;clear aD aI ag)
       | fail)
      have ay:=Zg (aK.out.grew aV.out (by omega) aV.out.size cH.out);have vo:=Zg ((cH.out.block w.heap.size (Zi pX.out) (fun h=>by have:=(aK.out.lt _ h.symm).1; omega)).trans pX.out);have ot:=Zg ((cH.out.block (w.heap.size+1) (Zi jI.out) (fun h=>by have:=(aK.out.lt _ h.symm).1; omega)).trans jI.out);have ou:=Zg ((cH.out.block (w.heap.size+2) (Zi jJ.out) (fun h=>by have:=(aK.out.lt _ h.symm).1; omega)).trans jJ.out);go_roundw
      case rel=>exact⟨l.length+1,k,l++[(0,t)],_,aG,by have:=bg.out; omega,by simp,by first|go_num|(have:=bg.out; congr 1; omega),by simpa using Yi jf.out (by simp) _,ay.out.setCell (p:=⟨w.heap.size+3,1,none⟩) (Nat.le_add_right _ _) _,(heap_setCell_other w8 _ _ _ (by simp)).trans vo.out,(heap_setCell_other w8 _ _ _ (by simp)).trans ot.out,(heap_setCell_other w8 _ _ _ (by simp)).trans ou.out,(by simpa using heap_setCell_same w8 (w.heap.size+3) 1 _ _ _ fv.out),by rw[bg.out]; exact bS.out⟩
      case measure=>simp[intOf]; have:=bg.out; omega
     ·rw[if_neg xM] at dV;rw[show ZH t=false by simpa using xM];simp only at dV;subst dV;have aY:=cd.out;simp only[Zm4] at aY;subst aY;clear xM;have ia:=Zg ((qW.out.block (w.heap.size+1) (Zi H1.out)).trans H1.out);have fH:=Zg ((qW.out.block (w.heap.size+2) (Zi H2.out)).trans H2.out);have jO:=Zg (HB.out.trans (qW.out.mono HB.out.size));have z0:w3.cell? ⟨w.heap.size+2,0,none⟩=some (.int .i64 0):=by rw[Zh fH.out]; rfl
      have z1:w3.cell? ⟨w.heap.size+2,1,none⟩=some (.slice none 0 0):=by rw[Zh fH.out]; rfl
      have z2:w3.cell? ⟨w.heap.size+2,2,none⟩=some (.slice none 0 0):=by rw[Zh fH.out]; rfl
      obtain⟨w9,ah⟩: ∃ w9,w3.setRow (w.heap.size+1) #[.int .i64 0,.slice none 0 0,.slice none 0 0]=w9:=⟨_,rfl⟩;have aP:=Zg ah;have ai:=Zg (show w9.heap[w.heap.size+1]? =some (.cells #[.int .i64 0,.slice none 0 0,.slice none 0 0] 45 (0,0)) from by rw[<-ah]; exact setRow_heap _ _ _ _ _ _ ia.out);have ay:=Zg (show Below w.heap.size w w9 from by rw[<-ah]; exact below_setRow jO.out (Nat.le_succ _) _);have k0:w9.cell? ⟨w.heap.size+1,0,none⟩=some (.int .i64 0):=by rw[Zh ai.out]; rfl
      have k1:w9.cell? ⟨w.heap.size+1,1,none⟩=some (.slice none 0 0):=by rw[Zh ai.out]; rfl
      have k2:w9.cell? ⟨w.heap.size+1,2,none⟩=some (.slice none 0 0):=by rw[Zh ai.out]; rfl
      clear ah;go_upto_region 21 with(fail)
      go_wp2_with (first|(refine wpList_store_row rfl 45 _ _ rfl (w.heap.size+1) #[.int .i64 0,.slice none 0 0,.slice none 0 0] rfl rfl 45 #[.int .i64 0,.slice none 0 0,.slice none 0 0] ia.out ZY rfl Ym ?_; refine(congrArg _ aP.out).mpr ?_)|fail)
      refine bodyPost_ret (v:= .tuple #[.agg #[.int .i64 0,.slice none 0 0,.slice none 0 0],.int .i64 11]) (by simp[results,Tryz.results38,go_sem,k0,k1,k2]) rfl ⟨?_,ay.out⟩;exact rfl
  ·obtain rfl:k=0:=by omega
   have aa:=HR.out;simp only[YV] at aa;subst aa;go_wp2_with fail
   refine pW.out _ _ ?_;exact Zif bs b0 b1 b2 b4 b5 w wr l A' c' _ RR aJ hlen xN ax (Zg rfl) (Zg (by rw[cd.out]; unfold Zm4; cases Xw bs b4 b5 b1 b2 0 [] [] <;> rfl)) HB H1 H2 H3 HO _ ⟨rfl,rfl,rfl⟩
theorem Znv (long ak n:Nat) (w:World) (hl:long<=9223372036854775807) :
 Calls Tryz.prog 73 #[.int .i64 long,.int .i64 ak,.int .i64 n] w fun e w'=>e= .returned (.bool (decide (ak+n<=long)))/\w=w':=by
 by_cases c:ak+n<=long
 ·rw[decide_eq_true c]; exact Vp long ak n w (by omega) (by omega) (by omega) (by omega)
 ·rw[decide_eq_false c]; exact Zby long ak n w (by omega) (by omega) (by omega)
theorem Zlf (bs:List Nat) (rva size b0 b1 b2 b3 b4 b5:Nat) (w wr:World) (RR:Option Zib)
 (aJ:Hid (Lb bs)) (hlen:bs.length<=1000000) (hr:rva<=9223372036854775807) (hz:size<=9223372036854775807) (g0:b0<4294967296) (g1:b1<4294967296) (g2:b2<4294967296) (g3:b3<4294967296) (g4:b4<4294967296) (g5:b5<4294967296)
 (cd:Hid (RR=if(Rw.mk b0 b1 b2 b3 b4 b5).ok bs.length=true then Zm4 bs b0 b1 b2 b4 b5 (YV bs rva size b3 b1 0 []) else none))
 (HB:Hid (Below w.heap.size w wr)) (H0:Hid (wr.heap[w.heap.size]? =some (.cells #[.int .i64 rva,.int .i64 size] 37 (0,0)))) (H1:Hid (wr.heap[w.heap.size+1]? =some (.cells #[.int .i64 0,.slice none 0 0,.slice none 0 0] 45 (0,0)))) (H2:Hid (wr.heap[w.heap.size+2]? =some (.cells #[.int .i64 0,.slice none 0 0,.slice none 0 0] 45 (0,0))))
 (H3:Hid (wr.heap[w.heap.size+3]? =some (.cells #[.int .i64 b0,.slice none 0 0,.slice none 0 0] 45 (0,0)))) (a:Act)
 (ha:Has 244 [0,3,4,6,7,8,9,10,11,12] [.string (txt bs),.pointer (some ⟨w.heap.size,0,none⟩),.pointer (some ⟨w.heap.size+1,0,none⟩),.pointer (some ⟨w.heap.size+2,0,none⟩),.pointer (some ⟨w.heap.size+3,0,none⟩),.int .i64 b1,.int .i64 b2,.int .i64 b3,.int .i64 b4,.int .i64 b5] a):(Yc 7 Znu).wp Tryz.prog (QX w RR) a wr:=by
 obtain⟨u,rfl⟩:=Yt ha;simp only[Zae,Xi,Zf,Ze];clear ha;conv=>arg 2; whnf
 have aT:(txt bs).size=bs.length:=Zk bs;have e0:wr.cell? ⟨w.heap.size+3,0,none⟩=some (.int .i64 b0):=by rw[Zh H3.out]; rfl
 go_upto_region 9 with(fail)
 rename_i K2 qV K1 jG;have pW:=Zg qV;clear qV;have nw:=Zg (And.intro hr hz);clear hr hz;by_cases c0:65535<b0
 ·have aX:(Rw.mk b0 b1 b2 b3 b4 b5).ok bs.length=false:=by
   rw[Bool.eq_false_iff];intro q;simp only[Rw.ok,inL,Bool.and_eq_true,Bool.or_eq_true,decide_eq_true_eq] at q;omega
  have aY:=cd.out;rw[aX,if_neg (by simp)] at aY;subst aY;clear aX;have d0:(65535:Int)<(b0:Int):=by omega
  have z0:wr.cell? ⟨w.heap.size+2,0,none⟩=some (.int .i64 0):=by rw[Zh H2.out]; rfl
  have z1:wr.cell? ⟨w.heap.size+2,1,none⟩=some (.slice none 0 0):=by rw[Zh H2.out]; rfl
  have z2:wr.cell? ⟨w.heap.size+2,2,none⟩=some (.slice none 0 0):=by rw[Zh H2.out]; rfl
  obtain⟨w9,ah⟩: ∃ w9,wr.setRow (w.heap.size+1) #[.int .i64 0,.slice none 0 0,.slice none 0 0]=w9:=⟨_,rfl⟩;have aP:=Zg ah;have ai:=Zg (show w9.heap[w.heap.size+1]? =some (.cells #[.int .i64 0,.slice none 0 0,.slice none 0 0] 45 (0,0)) from by rw[<-ah]; exact setRow_heap _ _ _ _ _ _ H1.out);have ay:=Zg (show Below w.heap.size w w9 from by rw[<-ah]; exact below_setRow HB.out (Nat.le_succ _) _);have k0:w9.cell? ⟨w.heap.size+1,0,none⟩=some (.int .i64 0):=by rw[Zh ai.out]; rfl
  have k1:w9.cell? ⟨w.heap.size+1,1,none⟩=some (.slice none 0 0):=by rw[Zh ai.out]; rfl
  have k2:w9.cell? ⟨w.heap.size+1,2,none⟩=some (.slice none 0 0):=by rw[Zh ai.out]; rfl
  clear ah;go_upto_region 10 with(fail)
  go_wp2_with (first|(refine wpList_store_row rfl 45 _ _ rfl (w.heap.size+1) #[.int .i64 0,.slice none 0 0,.slice none 0 0] rfl rfl 45 #[.int .i64 0,.slice none 0 0,.slice none 0 0] H1.out ZY rfl Ym ?_; refine(congrArg _ aP.out).mpr ?_)|fail)
  refine bodyPost_ret (v:= .tuple #[.agg #[.int .i64 0,.slice none 0 0,.slice none 0 0],.int .i64 11]) (by simp[results,Tryz.results38,go_sem,k0,k1,k2]) rfl ⟨?_,ay.out⟩;exact rfl
 have d0: ¬ (65535:Int)<(b0:Int):=by omega
 by_cases c1:256<b1
 ·have aX:(Rw.mk b0 b1 b2 b3 b4 b5).ok bs.length=false:=by
   rw[Bool.eq_false_iff];intro q;simp only[Rw.ok,inL,Bool.and_eq_true,Bool.or_eq_true,decide_eq_true_eq] at q;omega
  have aY:=cd.out;rw[aX,if_neg (by simp)] at aY;subst aY;clear aX;have d1:(256:Int)<(b1:Int):=by omega
  have z0:wr.cell? ⟨w.heap.size+2,0,none⟩=some (.int .i64 0):=by rw[Zh H2.out]; rfl
  have z1:wr.cell? ⟨w.heap.size+2,1,none⟩=some (.slice none 0 0):=by rw[Zh H2.out]; rfl
  have z2:wr.cell? ⟨w.heap.size+2,2,none⟩=some (.slice none 0 0):=by rw[Zh H2.out]; rfl
  obtain⟨w9,ah⟩: ∃ w9,wr.setRow (w.heap.size+1) #[.int .i64 0,.slice none 0 0,.slice none 0 0]=w9:=⟨_,rfl⟩;have aP:=Zg ah;have ai:=Zg (show w9.heap[w.heap.size+1]? =some (.cells #[.int .i64 0,.slice none 0 0,.slice none 0 0] 45 (0,0)) from by rw[<-ah]; exact setRow_heap _ _ _ _ _ _ H1.out);have ay:=Zg (show Below w.heap.size w w9 from by rw[<-ah]; exact below_setRow HB.out (Nat.le_succ _) _);have k0:w9.cell? ⟨w.heap.size+1,0,none⟩=some (.int .i64 0):=by rw[Zh ai.out]; rfl
  have k1:w9.cell? ⟨w.heap.size+1,1,none⟩=some (.slice none 0 0):=by rw[Zh ai.out]; rfl
  have k2:w9.cell? ⟨w.heap.size+1,2,none⟩=some (.slice none 0 0):=by rw[Zh ai.out]; rfl
  clear ah;go_upto_region 10 with(fail)
  go_wp2_with (first|(refine wpList_store_row rfl 45 _ _ rfl (w.heap.size+1) #[.int .i64 0,.slice none 0 0,.slice none 0 0] rfl rfl 45 #[.int .i64 0,.slice none 0 0,.slice none 0 0] H1.out ZY rfl Ym ?_; refine(congrArg _ aP.out).mpr ?_)|fail)
  refine bodyPost_ret (v:= .tuple #[.agg #[.int .i64 0,.slice none 0 0,.slice none 0 0],.int .i64 11]) (by simp[results,Tryz.results38,go_sem,k0,k1,k2]) rfl ⟨?_,ay.out⟩;exact rfl
 have d1: ¬ (256:Int)<(b1:Int):=by omega
 by_cases c2:256<b2
 ·have aX:(Rw.mk b0 b1 b2 b3 b4 b5).ok bs.length=false:=by
   rw[Bool.eq_false_iff];intro q;simp only[Rw.ok,inL,Bool.and_eq_true,Bool.or_eq_true,decide_eq_true_eq] at q;omega
  have aY:=cd.out;rw[aX,if_neg (by simp)] at aY;subst aY;clear aX;have d2:(256:Int)<(b2:Int):=by omega
  have z0:wr.cell? ⟨w.heap.size+2,0,none⟩=some (.int .i64 0):=by rw[Zh H2.out]; rfl
  have z1:wr.cell? ⟨w.heap.size+2,1,none⟩=some (.slice none 0 0):=by rw[Zh H2.out]; rfl
  have z2:wr.cell? ⟨w.heap.size+2,2,none⟩=some (.slice none 0 0):=by rw[Zh H2.out]; rfl
  obtain⟨w9,ah⟩: ∃ w9,wr.setRow (w.heap.size+1) #[.int .i64 0,.slice none 0 0,.slice none 0 0]=w9:=⟨_,rfl⟩;have aP:=Zg ah;have ai:=Zg (show w9.heap[w.heap.size+1]? =some (.cells #[.int .i64 0,.slice none 0 0,.slice none 0 0] 45 (0,0)) from by rw[<-ah]; exact setRow_heap _ _ _ _ _ _ H1.out);have ay:=Zg (show Below w.heap.size w w9 from by rw[<-ah]; exact below_setRow HB.out (Nat.le_succ _) _);have k0:w9.cell? ⟨w.heap.size+1,0,none⟩=some (.int .i64 0):=by rw[Zh ai.out]; rfl
  have k1:w9.cell? ⟨w.heap.size+1,1,none⟩=some (.slice none 0 0):=by rw[Zh ai.out]; rfl
  have k2:w9.cell? ⟨w.heap.size+1,2,none⟩=some (.slice none 0 0):=by rw[Zh ai.out]; rfl
  clear ah;go_upto_region 10 with(fail)
  go_wp2_with (first|(refine wpList_store_row rfl 45 _ _ rfl (w.heap.size+1) #[.int .i64 0,.slice none 0 0,.slice none 0 0] rfl rfl 45 #[.int .i64 0,.slice none 0 0,.slice none 0 0] H1.out ZY rfl Ym ?_; refine(congrArg _ aP.out).mpr ?_)|fail)
  refine bodyPost_ret (v:= .tuple #[.agg #[.int .i64 0,.slice none 0 0,.slice none 0 0],.int .i64 11]) (by simp[results,Tryz.results38,go_sem,k0,k1,k2]) rfl ⟨?_,ay.out⟩;exact rfl
 have d2: ¬ (256:Int)<(b2:Int):=by omega
 by_cases c3:65536<b0+b1
 ·have aX:(Rw.mk b0 b1 b2 b3 b4 b5).ok bs.length=false:=by
   rw[Bool.eq_false_iff];intro q;simp only[Rw.ok,inL,Bool.and_eq_true,Bool.or_eq_true,decide_eq_true_eq] at q;omega
  have aY:=cd.out;rw[aX,if_neg (by simp)] at aY;subst aY;clear aX;have d3:(65536:Int)<(b0:Int)+(b1:Int):=by omega
  have z0:wr.cell? ⟨w.heap.size+2,0,none⟩=some (.int .i64 0):=by rw[Zh H2.out]; rfl
  have z1:wr.cell? ⟨w.heap.size+2,1,none⟩=some (.slice none 0 0):=by rw[Zh H2.out]; rfl
  have z2:wr.cell? ⟨w.heap.size+2,2,none⟩=some (.slice none 0 0):=by rw[Zh H2.out]; rfl
  obtain⟨w9,ah⟩: ∃ w9,wr.setRow (w.heap.size+1) #[.int .i64 0,.slice none 0 0,.slice none 0 0]=w9:=⟨_,rfl⟩;have aP:=Zg ah;have ai:=Zg (show w9.heap[w.heap.size+1]? =some (.cells #[.int .i64 0,.slice none 0 0,.slice none 0 0] 45 (0,0)) from by rw[<-ah]; exact setRow_heap _ _ _ _ _ _ H1.out);have ay:=Zg (show Below w.heap.size w w9 from by rw[<-ah]; exact below_setRow HB.out (Nat.le_succ _) _);have k0:w9.cell? ⟨w.heap.size+1,0,none⟩=some (.int .i64 0):=by rw[Zh ai.out]; rfl
  have k1:w9.cell? ⟨w.heap.size+1,1,none⟩=some (.slice none 0 0):=by rw[Zh ai.out]; rfl
  have k2:w9.cell? ⟨w.heap.size+1,2,none⟩=some (.slice none 0 0):=by rw[Zh ai.out]; rfl
  clear ah;go_upto_region 10 with(fail)
  go_wp2_with (first|(refine wpList_store_row rfl 45 _ _ rfl (w.heap.size+1) #[.int .i64 0,.slice none 0 0,.slice none 0 0] rfl rfl 45 #[.int .i64 0,.slice none 0 0,.slice none 0 0] H1.out ZY rfl Ym ?_; refine(congrArg _ aP.out).mpr ?_)|fail)
  refine bodyPost_ret (v:= .tuple #[.agg #[.int .i64 0,.slice none 0 0,.slice none 0 0],.int .i64 11]) (by simp[results,Tryz.results38,go_sem,k0,k1,k2]) rfl ⟨?_,ay.out⟩;exact rfl
 have d3: ¬ (65536:Int)<(b0:Int)+(b1:Int):=by omega
 have HI:=Zg (fun(x y:Nat) W=>Znv bs.length x y W (by omega));obtain⟨f4,Pd⟩: ∃ q,4 * b1=q:=⟨_,rfl⟩;obtain⟨n4,zj⟩: ∃ q,4 * b2=q:=⟨_,rfl⟩;obtain⟨n2,xN⟩: ∃ q,2 * b2=q:=⟨_,rfl⟩;have O8:(4:Int) * (b1:Int)=(f4:Int):=by omega
 have Ea:(4:Int) * (b2:Int)=(n4:Int):=by omega
 have O9:(2:Int) * (b2:Int)=(n2:Int):=by omega
 have O':IntKind.i64.wrap (f4:Int)=(f4:Int):=by rw[IntKind.wrap_i64]; omega
 have Pb:IntKind.i64.wrap (n4:Int)=(n4:Int):=by rw[IntKind.wrap_i64]; omega
 have Pc:IntKind.i64.wrap (n2:Int)=(n2:Int):=by rw[IntKind.wrap_i64]; omega
 by_cases k1:b1=0
 ·have q1: ¬ (0:Int)<(b1:Int):=by omega
  have fT:=Zg k1;clear k1;by_cases k2:b2=0
  ·have q2: ¬ (0:Int)<(b2:Int):=by omega
   have fN:=Zg k2;clear k2;have e9:(Rw.mk b0 b1 b2 b3 b4 b5).ok bs.length=true:=by
    have:=fT.out;have:=fN.out;simp only[Rw.ok,inL,Bool.and_eq_true,Bool.or_eq_true,decide_eq_true_eq];omega
   have aY:=cd.out;rw[e9,if_pos rfl] at aY;have mK:=Zg aY;have mL:=Zg (show b1=0\/b3+4 * b1<=bs.length from by have:=fT.out; omega);have mM:=Zg (show b2=0\/(b4+4 * b2<=bs.length/\b5+2 * b2<=bs.length) from by have:=fN.out; omega);clear e9 aY;go_wp2_with fail
   refine pW.out _ _ ?_;exact Vc bs rva size b0 b1 b2 b3 b4 b5 w wr _ RR aJ hlen nw.out.1 nw.out.2 (by omega) (by omega) mL mM (Zg rfl) mK HB H0 H1 H2 H3 _ ⟨rfl,rfl,rfl⟩
  ·have q2:(0:Int)<(b2:Int):=by omega
   have fN:=Zg k2;clear k2;go_wp2_with fail
   refine(HI.out b4 n4 _).mono ?_;rintro e w' ⟨rfl,rfl⟩;by_cases c4:b4+n4<=bs.length
   ·rw[decide_eq_true c4];go_wp2_with fail
    refine(HI.out b5 n2 _).mono ?_;rintro e w' ⟨rfl,rfl⟩;by_cases c5:b5+n2<=bs.length
    ·rw[decide_eq_true c5];have e9:(Rw.mk b0 b1 b2 b3 b4 b5).ok bs.length=true:=by
      have:=fT.out;have:=fN.out;simp only[Rw.ok,inL,Bool.and_eq_true,Bool.or_eq_true,decide_eq_true_eq];omega
     have aY:=cd.out;rw[e9,if_pos rfl] at aY;have mK:=Zg aY;have mL:=Zg (show b1=0\/b3+4 * b1<=bs.length from by have:=fT.out; omega);have mM:=Zg (show b2=0\/(b4+4 * b2<=bs.length/\b5+2 * b2<=bs.length) from by have:=fN.out; omega);clear e9 aY;go_wp2_with fail
     refine pW.out _ _ ?_;exact Vc bs rva size b0 b1 b2 b3 b4 b5 w wr _ RR aJ hlen nw.out.1 nw.out.2 (by omega) (by omega) mL mM (Zg rfl) mK HB H0 H1 H2 H3 _ ⟨rfl,rfl,rfl⟩
    ·rw[decide_eq_false c5];have aX:(Rw.mk b0 b1 b2 b3 b4 b5).ok bs.length=false:=by
      rw[Bool.eq_false_iff];intro q;simp only[Rw.ok,inL,Bool.and_eq_true,Bool.or_eq_true,decide_eq_true_eq] at q;omega
     have aY:=cd.out;rw[aX,if_neg (by simp)] at aY;subst aY;clear aX;have z0:wr.cell? ⟨w.heap.size+2,0,none⟩=some (.int .i64 0):=by rw[Zh H2.out]; rfl
     have z1:wr.cell? ⟨w.heap.size+2,1,none⟩=some (.slice none 0 0):=by rw[Zh H2.out]; rfl
     have z2:wr.cell? ⟨w.heap.size+2,2,none⟩=some (.slice none 0 0):=by rw[Zh H2.out]; rfl
     obtain⟨w9,ah⟩: ∃ w9,wr.setRow (w.heap.size+1) #[.int .i64 0,.slice none 0 0,.slice none 0 0]=w9:=⟨_,rfl⟩;have aP:=Zg ah;have ai:=Zg (show w9.heap[w.heap.size+1]? =some (.cells #[.int .i64 0,.slice none 0 0,.slice none 0 0] 45 (0,0)) from by rw[<-ah]; exact setRow_heap _ _ _ _ _ _ H1.out);have ay:=Zg (show Below w.heap.size w w9 from by rw[<-ah]; exact below_setRow HB.out (Nat.le_succ _) _);have k0:w9.cell? ⟨w.heap.size+1,0,none⟩=some (.int .i64 0):=by rw[Zh ai.out]; rfl
     have k1:w9.cell? ⟨w.heap.size+1,1,none⟩=some (.slice none 0 0):=by rw[Zh ai.out]; rfl
     have k2:w9.cell? ⟨w.heap.size+1,2,none⟩=some (.slice none 0 0):=by rw[Zh ai.out]; rfl
     clear ah;go_upto_region 10 with(fail)
     go_wp2_with (first|(refine wpList_store_row rfl 45 _ _ rfl (w.heap.size+1) #[.int .i64 0,.slice none 0 0,.slice none 0 0] rfl rfl 45 #[.int .i64 0,.slice none 0 0,.slice none 0 0] H1.out ZY rfl Ym ?_; refine(congrArg _ aP.out).mpr ?_)|fail)
     refine bodyPost_ret (v:= .tuple #[.agg #[.int .i64 0,.slice none 0 0,.slice none 0 0],.int .i64 11]) (by simp[results,Tryz.results38,go_sem,k0,k1,k2]) rfl ⟨?_,ay.out⟩;exact rfl
   ·rw[decide_eq_false c4];have aX:(Rw.mk b0 b1 b2 b3 b4 b5).ok bs.length=false:=by
     rw[Bool.eq_false_iff];intro q;simp only[Rw.ok,inL,Bool.and_eq_true,Bool.or_eq_true,decide_eq_true_eq] at q;omega
    have aY:=cd.out;rw[aX,if_neg (by simp)] at aY;subst aY;clear aX;have z0:wr.cell? ⟨w.heap.size+2,0,none⟩=some (.int .i64 0):=by rw[Zh H2.out]; rfl
    have z1:wr.cell? ⟨w.heap.size+2,1,none⟩=some (.slice none 0 0):=by rw[Zh H2.out]; rfl
    have z2:wr.cell? ⟨w.heap.size+2,2,none⟩=some (.slice none 0 0):=by rw[Zh H2.out]; rfl
    obtain⟨w9,ah⟩: ∃ w9,wr.setRow (w.heap.size+1) #[.int .i64 0,.slice none 0 0,.slice none 0 0]=w9:=⟨_,rfl⟩;have aP:=Zg ah;have ai:=Zg (show w9.heap[w.heap.size+1]? =some (.cells #[.int .i64 0,.slice none 0 0,.slice none 0 0] 45 (0,0)) from by rw[<-ah]; exact setRow_heap _ _ _ _ _ _ H1.out);have ay:=Zg (show Below w.heap.size w w9 from by rw[<-ah]; exact below_setRow HB.out (Nat.le_succ _) _);have k0:w9.cell? ⟨w.heap.size+1,0,none⟩=some (.int .i64 0):=by rw[Zh ai.out]; rfl
    have k1:w9.cell? ⟨w.heap.size+1,1,none⟩=some (.slice none 0 0):=by rw[Zh ai.out]; rfl
    have k2:w9.cell? ⟨w.heap.size+1,2,none⟩=some (.slice none 0 0):=by rw[Zh ai.out]; rfl
    clear ah;go_upto_region 10 with(fail)
    go_wp2_with (first|(refine wpList_store_row rfl 45 _ _ rfl (w.heap.size+1) #[.int .i64 0,.slice none 0 0,.slice none 0 0] rfl rfl 45 #[.int .i64 0,.slice none 0 0,.slice none 0 0] H1.out ZY rfl Ym ?_; refine(congrArg _ aP.out).mpr ?_)|fail)
    refine bodyPost_ret (v:= .tuple #[.agg #[.int .i64 0,.slice none 0 0,.slice none 0 0],.int .i64 11]) (by simp[results,Tryz.results38,go_sem,k0,k1,k2]) rfl ⟨?_,ay.out⟩;exact rfl
 ·have q1:(0:Int)<(b1:Int):=by omega
  have fT:=Zg k1;clear k1;go_wp2_with fail
  refine(HI.out b3 f4 _).mono ?_;rintro e w' ⟨rfl,rfl⟩;by_cases c6:b3+f4<=bs.length
  ·rw[decide_eq_true c6];by_cases k2:b2=0
   ·have q2: ¬ (0:Int)<(b2:Int):=by omega
    have fN:=Zg k2;clear k2;have e9:(Rw.mk b0 b1 b2 b3 b4 b5).ok bs.length=true:=by
     have:=fT.out;have:=fN.out;simp only[Rw.ok,inL,Bool.and_eq_true,Bool.or_eq_true,decide_eq_true_eq];omega
    have aY:=cd.out;rw[e9,if_pos rfl] at aY;have mK:=Zg aY;have mL:=Zg (show b1=0\/b3+4 * b1<=bs.length from by have:=fT.out; omega);have mM:=Zg (show b2=0\/(b4+4 * b2<=bs.length/\b5+2 * b2<=bs.length) from by have:=fN.out; omega);clear e9 aY;go_wp2_with fail
    refine pW.out _ _ ?_;exact Vc bs rva size b0 b1 b2 b3 b4 b5 w wr _ RR aJ hlen nw.out.1 nw.out.2 (by omega) (by omega) mL mM (Zg rfl) mK HB H0 H1 H2 H3 _ ⟨rfl,rfl,rfl⟩
   ·have q2:(0:Int)<(b2:Int):=by omega
    have fN:=Zg k2;clear k2;go_wp2_with fail
    refine(HI.out b4 n4 _).mono ?_;rintro e w' ⟨rfl,rfl⟩;by_cases c4:b4+n4<=bs.length
    ·rw[decide_eq_true c4];go_wp2_with fail
     refine(HI.out b5 n2 _).mono ?_;rintro e w' ⟨rfl,rfl⟩;by_cases c5:b5+n2<=bs.length
     ·rw[decide_eq_true c5];have e9:(Rw.mk b0 b1 b2 b3 b4 b5).ok bs.length=true:=by
       have:=fT.out;have:=fN.out;simp only[Rw.ok,inL,Bool.and_eq_true,Bool.or_eq_true,decide_eq_true_eq];omega
      have aY:=cd.out;rw[e9,if_pos rfl] at aY;have mK:=Zg aY;have mL:=Zg (show b1=0\/b3+4 * b1<=bs.length from by have:=fT.out; omega);have mM:=Zg (show b2=0\/(b4+4 * b2<=bs.length/\b5+2 * b2<=bs.length) from by have:=fN.out; omega);clear e9 aY;go_wp2_with fail
      refine pW.out _ _ ?_;exact Vc bs rva size b0 b1 b2 b3 b4 b5 w wr _ RR aJ hlen nw.out.1 nw.out.2 (by omega) (by omega) mL mM (Zg rfl) mK HB H0 H1 H2 H3 _ ⟨rfl,rfl,rfl⟩
     ·rw[decide_eq_false c5];have aX:(Rw.mk b0 b1 b2 b3 b4 b5).ok bs.length=false:=by
       rw[Bool.eq_false_iff];intro q;simp only[Rw.ok,inL,Bool.and_eq_true,Bool.or_eq_true,decide_eq_true_eq] at q;omega
      have aY:=cd.out;rw[aX,if_neg (by simp)] at aY;subst aY;clear aX;have z0:wr.cell? ⟨w.heap.size+2,0,none⟩=some (.int .i64 0):=by rw[Zh H2.out]; rfl
      have z1:wr.cell? ⟨w.heap.size+2,1,none⟩=some (.slice none 0 0):=by rw[Zh H2.out]; rfl
      have z2:wr.cell? ⟨w.heap.size+2,2,none⟩=some (.slice none 0 0):=by rw[Zh H2.out]; rfl
      obtain⟨w9,ah⟩: ∃ w9,wr.setRow (w.heap.size+1) #[.int .i64 0,.slice none 0 0,.slice none 0 0]=w9:=⟨_,rfl⟩;have aP:=Zg ah;have ai:=Zg (show w9.heap[w.heap.size+1]? =some (.cells #[.int .i64 0,.slice none 0 0,.slice none 0 0] 45 (0,0)) from by rw[<-ah]; exact setRow_heap _ _ _ _ _ _ H1.out);have ay:=Zg (show Below w.heap.size w w9 from by rw[<-ah]; exact below_setRow HB.out (Nat.le_succ _) _);have k0:w9.cell? ⟨w.heap.size+1,0,none⟩=some (.int .i64 0):=by rw[Zh ai.out]; rfl
      have k1:w9.cell? ⟨w.heap.size+1,1,none⟩=some (.slice none 0 0):=by rw[Zh ai.out]; rfl
      have k2:w9.cell? ⟨w.heap.size+1,2,none⟩=some (.slice none 0 0):=by rw[Zh ai.out]; rfl
      clear ah;go_upto_region 10 with(fail)
      go_wp2_with (first|(refine wpList_store_row rfl 45 _ _ rfl (w.heap.size+1) #[.int .i64 0,.slice none 0 0,.slice none 0 0] rfl rfl 45 #[.int .i64 0,.slice none 0 0,.slice none 0 0] H1.out ZY rfl Ym ?_; refine(congrArg _ aP.out).mpr ?_)|fail)
      refine bodyPost_ret (v:= .tuple #[.agg #[.int .i64 0,.slice none 0 0,.slice none 0 0],.int .i64 11]) (by simp[results,Tryz.results38,go_sem,k0,k1,k2]) rfl ⟨?_,ay.out⟩;exact rfl
    ·rw[decide_eq_false c4];have aX:(Rw.mk b0 b1 b2 b3 b4 b5).ok bs.length=false:=by
      rw[Bool.eq_false_iff];intro q;simp only[Rw.ok,inL,Bool.and_eq_true,Bool.or_eq_true,decide_eq_true_eq] at q;omega
     have aY:=cd.out;rw[aX,if_neg (by simp)] at aY;subst aY;clear aX;have z0:wr.cell? ⟨w.heap.size+2,0,none⟩=some (.int .i64 0):=by rw[Zh H2.out]; rfl
     have z1:wr.cell? ⟨w.heap.size+2,1,none⟩=some (.slice none 0 0):=by rw[Zh H2.out]; rfl
     have z2:wr.cell? ⟨w.heap.size+2,2,none⟩=some (.slice none 0 0):=by rw[Zh H2.out]; rfl
     obtain⟨w9,ah⟩: ∃ w9,wr.setRow (w.heap.size+1) #[.int .i64 0,.slice none 0 0,.slice none 0 0]=w9:=⟨_,rfl⟩;have aP:=Zg ah;have ai:=Zg (show w9.heap[w.heap.size+1]? =some (.cells #[.int .i64 0,.slice none 0 0,.slice none 0 0] 45 (0,0)) from by rw[<-ah]; exact setRow_heap _ _ _ _ _ _ H1.out);have ay:=Zg (show Below w.heap.size w w9 from by rw[<-ah]; exact below_setRow HB.out (Nat.le_succ _) _);have k0:w9.cell? ⟨w.heap.size+1,0,none⟩=some (.int .i64 0):=by rw[Zh ai.out]; rfl
     have k1:w9.cell? ⟨w.heap.size+1,1,none⟩=some (.slice none 0 0):=by rw[Zh ai.out]; rfl
     have k2:w9.cell? ⟨w.heap.size+1,2,none⟩=some (.slice none 0 0):=by rw[Zh ai.out]; rfl
     clear ah;go_upto_region 10 with(fail)
     go_wp2_with (first|(refine wpList_store_row rfl 45 _ _ rfl (w.heap.size+1) #[.int .i64 0,.slice none 0 0,.slice none 0 0] rfl rfl 45 #[.int .i64 0,.slice none 0 0,.slice none 0 0] H1.out ZY rfl Ym ?_; refine(congrArg _ aP.out).mpr ?_)|fail)
     refine bodyPost_ret (v:= .tuple #[.agg #[.int .i64 0,.slice none 0 0,.slice none 0 0],.int .i64 11]) (by simp[results,Tryz.results38,go_sem,k0,k1,k2]) rfl ⟨?_,ay.out⟩;exact rfl
  ·rw[decide_eq_false c6];have aX:(Rw.mk b0 b1 b2 b3 b4 b5).ok bs.length=false:=by
    rw[Bool.eq_false_iff];intro q;simp only[Rw.ok,inL,Bool.and_eq_true,Bool.or_eq_true,decide_eq_true_eq] at q;omega
   have aY:=cd.out;rw[aX,if_neg (by simp)] at aY;subst aY;clear aX;have z0:wr.cell? ⟨w.heap.size+2,0,none⟩=some (.int .i64 0):=by rw[Zh H2.out]; rfl
   have z1:wr.cell? ⟨w.heap.size+2,1,none⟩=some (.slice none 0 0):=by rw[Zh H2.out]; rfl
   have z2:wr.cell? ⟨w.heap.size+2,2,none⟩=some (.slice none 0 0):=by rw[Zh H2.out]; rfl
   obtain⟨w9,ah⟩: ∃ w9,wr.setRow (w.heap.size+1) #[.int .i64 0,.slice none 0 0,.slice none 0 0]=w9:=⟨_,rfl⟩;have aP:=Zg ah;have ai:=Zg (show w9.heap[w.heap.size+1]? =some (.cells #[.int .i64 0,.slice none 0 0,.slice none 0 0] 45 (0,0)) from by rw[<-ah]; exact setRow_heap _ _ _ _ _ _ H1.out);have ay:=Zg (show Below w.heap.size w w9 from by rw[<-ah]; exact below_setRow HB.out (Nat.le_succ _) _);have k0:w9.cell? ⟨w.heap.size+1,0,none⟩=some (.int .i64 0):=by rw[Zh ai.out]; rfl
   have k1:w9.cell? ⟨w.heap.size+1,1,none⟩=some (.slice none 0 0):=by rw[Zh ai.out]; rfl
   have k2:w9.cell? ⟨w.heap.size+1,2,none⟩=some (.slice none 0 0):=by rw[Zh ai.out]; rfl
   clear ah;go_upto_region 10 with(fail)
   go_wp2_with (first|(refine wpList_store_row rfl 45 _ _ rfl (w.heap.size+1) #[.int .i64 0,.slice none 0 0,.slice none 0 0] rfl rfl 45 #[.int .i64 0,.slice none 0 0,.slice none 0 0] H1.out ZY rfl Ym ?_; refine(congrArg _ aP.out).mpr ?_)|fail)
   refine bodyPost_ret (v:= .tuple #[.agg #[.int .i64 0,.slice none 0 0,.slice none 0 0],.int .i64 11]) (by simp[results,Tryz.results38,go_sem,k0,k1,k2]) rfl ⟨?_,ay.out⟩;exact rfl
theorem Zbv (bs:List Nat) (rva size:Int) (w:World) (hb:Lb bs) (hlen:bs.length<=1000000) (hr: -9223372036854775808<=rva) (tj:rva<=9223372036854775807) (hz: -9223372036854775808<=size) (qM:size<=9223372036854775807) :
 Calls Tryz.prog 38 #[.string (txt bs),.agg #[.int .i64 rva,.int .i64 size]] w fun e w'=>Zic w w' (Xc bs rva size) e/\Below w.heap.size w w':=by
 obtain⟨RR,hR⟩: ∃ R,Xc bs rva size=R:=⟨_,rfl⟩;rw[hR];unfold Xc at hR;obtain⟨w1,ao⟩: ∃ w1,((w.alloc (.cells #[.int .i64 rva,.int .i64 size] 37)).alloc (.cells #[.int .i64 0,.slice none 0 0,.slice none 0 0] 45)).alloc (.cells #[.int .i64 0,.slice none 0 0,.slice none 0 0] 45)=w1:=⟨_,rfl⟩;have cY:(w.alloc (.cells #[.int .i64 rva,.int .i64 size] 37)).heap.size=w.heap.size+1:=by simp
 have jh:((w.alloc (.cells #[.int .i64 rva,.int .i64 size] 37)).alloc (.cells #[.int .i64 0,.slice none 0 0,.slice none 0 0] 45)).heap.size=w.heap.size+2:=by simp
 have HB:=Zg (show Below w.heap.size w w1 from by rw[<-ao]; exact((((Below.refl w.heap.size w).alloc (Nat.le_refl _) _).alloc (by rw[cY]; omega) _).alloc (by rw[jh]; omega) _));have H0:=Zg (show w1.heap[w.heap.size]? =some (.cells #[.int .i64 rva,.int .i64 size] 37 (0,0)) from by
  rw[<-ao];exact(Below.heap_alloc _ _ w.heap.size (by rw[jh]; omega)).trans ((Below.heap_alloc _ _ w.heap.size (by rw[cY]; omega)).trans (heap_alloc_new w _)))
 have H1:=Zg (show w1.heap[w.heap.size+1]? =some (.cells #[.int .i64 0,.slice none 0 0,.slice none 0 0] 45 (0,0)) from by
  rw[<-ao];refine(Below.heap_alloc _ _ (w.heap.size+1) (by rw[jh]; omega)).trans ?_;have h:=heap_alloc_new (w.alloc (.cells #[.int .i64 rva,.int .i64 size] 37)) (.cells #[.int .i64 0,.slice none 0 0,.slice none 0 0] 45);rwa [cY] at h)
 have H2:=Zg (show w1.heap[w.heap.size+2]? =some (.cells #[.int .i64 0,.slice none 0 0,.slice none 0 0] 45 (0,0)) from by
  rw[<-ao];have h:=heap_alloc_new ((w.alloc (.cells #[.int .i64 rva,.int .i64 size] 37)).alloc (.cells #[.int .i64 0,.slice none 0 0,.slice none 0 0] 45)) (.cells #[.int .i64 0,.slice none 0 0,.slice none 0 0] 45);rwa [jh] at h)
 have eK:=Zg (show w1.heap.size=w.heap.size+3 from by rw[<-ao]; simp);have cu:=Zg ao;have aJ:=Zg hb;have aT:(txt bs).size=bs.length:=Zk bs;have r0:w1.cell? ⟨w.heap.size,0,none⟩=some (.int .i64 rva):=by rw[Zh H0.out]; rfl
 have r1:w1.cell? ⟨w.heap.size,1,none⟩=some (.int .i64 size):=by rw[Zh H0.out]; rfl
 clear ao cY jh hb;by_cases c0:rva=0
 ·subst c0;rw[if_pos rfl] at hR;subst hR;go_enter Tryz.func38,Tryz.ntmps38;go_upto_region 2 with(fail)
  refine(congrArg _ cu.out).mpr ?_;have z0:w1.cell? ⟨w.heap.size+2,0,none⟩=some (.int .i64 0):=by rw[Zh H2.out]; rfl
  have z1:w1.cell? ⟨w.heap.size+2,1,none⟩=some (.slice none 0 0):=by rw[Zh H2.out]; rfl
  have z2:w1.cell? ⟨w.heap.size+2,2,none⟩=some (.slice none 0 0):=by rw[Zh H2.out]; rfl
  obtain⟨w9,ah⟩: ∃ w9,w1.setRow (w.heap.size+1) #[.int .i64 0,.slice none 0 0,.slice none 0 0]=w9:=⟨_,rfl⟩;have aP:=Zg ah;have ai:=Zg (show w9.heap[w.heap.size+1]? =some (.cells #[.int .i64 0,.slice none 0 0,.slice none 0 0] 45 (0,0)) from by rw[<-ah]; exact setRow_heap _ _ _ _ _ _ H1.out);have ay:=Zg (show Below w.heap.size w w9 from by rw[<-ah]; exact below_setRow HB.out (Nat.le_succ _) _);have k0:w9.cell? ⟨w.heap.size+1,0,none⟩=some (.int .i64 0):=by rw[Zh ai.out]; rfl
  have k1:w9.cell? ⟨w.heap.size+1,1,none⟩=some (.slice none 0 0):=by rw[Zh ai.out]; rfl
  have k2:w9.cell? ⟨w.heap.size+1,2,none⟩=some (.slice none 0 0):=by rw[Zh ai.out]; rfl
  clear ah;go_wp2_with (first|(refine wpList_store_row rfl 45 _ _ rfl (w.heap.size+1) #[.int .i64 0,.slice none 0 0,.slice none 0 0] rfl rfl 45 #[.int .i64 0,.slice none 0 0,.slice none 0 0] H1.out ZY rfl Ym ?_; refine(congrArg _ aP.out).mpr ?_)|fail)
  refine bodyPost_ret (v:= .tuple #[.agg #[.int .i64 0,.slice none 0 0,.slice none 0 0],.int .i64 0]) (by simp[results,Tryz.results38,go_sem,k0,k1,k2]) rfl ⟨?_,ay.out⟩;exact⟨none,0,none,0,rfl,ZJ.nil _ _ _,ZJ.nil _ _ _⟩
 rw[if_neg c0] at hR;have d0:(rva == 0)=false:=beq_eq_false_iff_ne.mpr c0;by_cases c1:0<=rva/\0<=size/\rva<=bs.length - size
 ·by_cases c2:40<=size
  ·obtain⟨o,rfl⟩: ∃ o:Nat,rva=(o:Int):=⟨rva.toNat,by omega⟩;obtain⟨z,rfl⟩: ∃ z:Nat,size=(z:Int):=⟨size.toNat,by omega⟩;have GW:o+z<=bs.length:=by omega
   have ax:=Zg (fun W=>Vp bs.length o z W (by omega) (by omega) (by omega) (by omega));have d1: ¬ (z:Int)<40:=by omega
   unfold Uv at hR;rw[if_pos (by omega),Int.toNat_natCast,Int.toNat_natCast] at hR;unfold Zgu at hR;obtain⟨cg,cq⟩: ∃ q,o+16=q:=⟨_,rfl⟩;have kx:(o:Int)+16=(cg:Int):=by omega
   have rq:IntKind.i64.wrap (cg:Int)=(cg:Int):=by rw[IntKind.wrap_i64]; omega
   have dA:=Zg (fun W=>ZQ bs cg 4 W aJ.out (by omega) (by omega) (by omega));have jS:=ZG (aJ.out.drop cg) 4;rw[show(256:Nat) ^ 4=4294967296 from rfl] at jS;rw[cq] at hR;obtain⟨ji,ts⟩: ∃ v,Yg (bs.drop cg) 4=v:=⟨_,rfl⟩;rw[ts] at dA jS hR;clear cq ts;obtain⟨kp,kU⟩: ∃ q,o+20=q:=⟨_,rfl⟩;have Eb:(o:Int)+20=(kp:Int):=by omega
   have LJ:IntKind.i64.wrap (kp:Int)=(kp:Int):=by rw[IntKind.wrap_i64]; omega
   have jV:=Zg (fun W=>ZQ bs kp 4 W aJ.out (by omega) (by omega) (by omega));have vp:=ZG (aJ.out.drop kp) 4;rw[show(256:Nat) ^ 4=4294967296 from rfl] at vp;rw[kU] at hR;obtain⟨vu,tt⟩: ∃ v,Yg (bs.drop kp) 4=v:=⟨_,rfl⟩;rw[tt] at jV vp hR;clear kU tt;obtain⟨kq,kV⟩: ∃ q,o+24=q:=⟨_,rfl⟩;have Ec:(o:Int)+24=(kq:Int):=by omega
   have LK:IntKind.i64.wrap (kq:Int)=(kq:Int):=by rw[IntKind.wrap_i64]; omega
   have jW:=Zg (fun W=>ZQ bs kq 4 W aJ.out (by omega) (by omega) (by omega));have vq:=ZG (aJ.out.drop kq) 4;rw[show(256:Nat) ^ 4=4294967296 from rfl] at vq;rw[kV] at hR;obtain⟨zk,tu⟩: ∃ v,Yg (bs.drop kq) 4=v:=⟨_,rfl⟩;rw[tu] at jW vq hR;clear kV tu;obtain⟨eG,eY⟩: ∃ q,o+28=q:=⟨_,rfl⟩;have ru:(o:Int)+28=(eG:Int):=by omega
   have yf:IntKind.i64.wrap (eG:Int)=(eG:Int):=by rw[IntKind.wrap_i64]; omega
   have fB:=Zg (fun W=>ZQ bs eG 4 W aJ.out (by omega) (by omega) (by omega));have oe:=ZG (aJ.out.drop eG) 4;rw[show(256:Nat) ^ 4=4294967296 from rfl] at oe;rw[eY] at hR;obtain⟨oP,tv⟩: ∃ v,Yg (bs.drop eG) 4=v:=⟨_,rfl⟩;rw[tv] at fB oe hR;clear eY tv;obtain⟨kr,kW⟩: ∃ q,o+32=q:=⟨_,rfl⟩;have Ed:(o:Int)+32=(kr:Int):=by omega
   have LL:IntKind.i64.wrap (kr:Int)=(kr:Int):=by rw[IntKind.wrap_i64]; omega
   have jX:=Zg (fun W=>ZQ bs kr 4 W aJ.out (by omega) (by omega) (by omega));have vr:=ZG (aJ.out.drop kr) 4;rw[show(256:Nat) ^ 4=4294967296 from rfl] at vr;rw[kW] at hR;obtain⟨zl,tw⟩: ∃ v,Yg (bs.drop kr) 4=v:=⟨_,rfl⟩;rw[tw] at jX vr hR;clear kW tw;obtain⟨jZ,kX⟩: ∃ q,o+36=q:=⟨_,rfl⟩;have Ee:(o:Int)+36=(jZ:Int):=by omega
   have LM:IntKind.i64.wrap (jZ:Int)=(jZ:Int):=by rw[IntKind.wrap_i64]; omega
   have jY:=Zg (fun W=>ZQ bs jZ 4 W aJ.out (by omega) (by omega) (by omega));have vt:=ZG (aJ.out.drop jZ) 4;rw[show(256:Nat) ^ 4=4294967296 from rfl] at vt;rw[kX] at hR;obtain⟨zm,tA⟩: ∃ v,Yg (bs.drop jZ) 4=v:=⟨_,rfl⟩;rw[tA] at jY vt hR;clear kX tA;have bk:=Zg (show RR=if(Rw.mk ji vu zk oP zl zm).ok bs.length=true then Zm4 bs ji vu zk zl zm (YV bs o z oP vu 0 []) else none from by
    rw[<-hR];unfold Zm4;by_cases hk:(Rw.mk ji vu zk oP zl zm).ok bs.length=true
    ·rw[if_pos hk,if_pos hk];simp only;cases YV bs o z oP vu 0 [] <;> rfl
    ·rw[if_neg hk,if_neg hk])
   clear hR c0 c1 c2 hr hz;go_enter Tryz.func38,Tryz.ntmps38;go_upto_region 2 with(fail)
   refine(congrArg _ cu.out).mpr ?_;go_wp2_with fail
   refine(ax.out _).mono ?_;rintro e w' ⟨rfl,rfl⟩;go_wp2_with fail
   refine(dA.out _).mono ?_;rintro e w' ⟨rfl,rfl⟩;obtain⟨w2,aR⟩: ∃ w2,w1.alloc (.cells #[.int .i64 ji,.slice none 0 0,.slice none 0 0] 45)=w2:=⟨_,rfl⟩;have eS:=Zg aR;have hA:Below w1.heap.size w1 w2:=by rw[<-aR]; exact(Below.refl w1.heap.size w1).alloc (Nat.le_refl _) _
   replace HB:=Zg (HB.out.trans (hA.mono HB.out.size));replace H0:=Zg ((hA.block _ (Zi H0.out)).trans H0.out);replace H1:=Zg ((hA.block _ (Zi H1.out)).trans H1.out);replace H2:=Zg ((hA.block _ (Zi H2.out)).trans H2.out);have H3:=Zg (show w2.heap[w.heap.size+3]? =some (.cells #[.int .i64 ji,.slice none 0 0,.slice none 0 0] 45 (0,0)) from by
    rw[<-aR];have h:=heap_alloc_new w1 (.cells #[.int .i64 ji,.slice none 0 0,.slice none 0 0] 45);rwa [eK.out] at h)
   clear aR hA r0 r1;have cY:=eK.out;go_upto_region 7 with(fail)
   refine(congrArg _ eS.out).mpr ?_;have HC:=Zg (fun W (hW:Below w2.heap.size w2 W)=>show W.cell? ⟨w.heap.size,0,none⟩=some (.int .i64 o) from by rw[Zh ((hW.block _ (Zi H0.out)).trans H0.out)]; rfl);have HS:=Zg (show Below w2.heap.size w2 w2.drew from(Below.refl _ _).drew);refine wp_region_noPanic ?_;refine Zt (fun W=>Below w2.heap.size w2 W) (fun _=>True) 99 (by kernel_rfl) ?_;refine wU (i:=0) HS.out ?_;refine wU (i:=1) HS.out ?_;refine wU (i:=2) HS.out ?_ (hy:=by refine Or.inl ⟨by rfl,?_⟩; intro W aL; have mb:=HC.out W aL; clear aL; go_simp; try with_reducible rfl);refine wU (i:=3) HS.out ?_;refine Zz (i:=4) (oi:= ?_) (v:= .int .i64 vu) ?_ (by kernel_rfl) (by kernel_rfl) (by kernel_rfl) (fun _ _ _ h=>h) (by decide) ?_ HS.out (fun _=>trivial) ?_;rotate_left 1
   ·(simp only[Za,Zb,Zc]; rfl)
   ·refine⟨by rfl,fun W hW=>⟨72,#[.string (txt bs),.int .i64 kp,.int .i64 4],?_,jV.out W⟩⟩;first|kernel_rfl|(go_simp; done)|rfl
   try simp only[Act.put,Zd,Ze,Zf]
   refine wU (i:=5) HS.out ?_;refine wU (i:=6) HS.out ?_;refine wU (i:=7) HS.out ?_ (hy:=by refine Or.inl ⟨by rfl,?_⟩; intro W aL; have mb:=HC.out W aL; clear aL; go_simp; try with_reducible rfl);refine wU (i:=8) HS.out ?_;refine Zz (i:=9) (oi:= ?_) (v:= .int .i64 zk) ?_ (by kernel_rfl) (by kernel_rfl) (by kernel_rfl) (fun _ _ _ h=>h) (by decide) ?_ HS.out (fun _=>trivial) ?_;rotate_left 1
   ·(simp only[Za,Zb,Zc]; rfl)
   ·refine⟨by rfl,fun W hW=>⟨72,#[.string (txt bs),.int .i64 kq,.int .i64 4],?_,jW.out W⟩⟩;first|kernel_rfl|(go_simp; done)|rfl
   try simp only[Act.put,Zd,Ze,Zf]
   refine wU (i:=10) HS.out ?_;refine wU (i:=11) HS.out ?_;refine Zo (by kernel_rfl) ?_ _;refine NoPanic.normal ?_;clear HC HS;obtain⟨w3,dn⟩: ∃ q,w2.drew=q:=⟨_,rfl⟩;have jC:=Zg dn;replace HB:=Zg (show Below w.heap.size w w3 from by rw[<-dn]; exact HB.out.drew);replace H0:=Zg (show w3.heap[w.heap.size]? =some (.cells #[.int .i64 o,.int .i64 z] 37 (0,0)) from by rw[<-dn]; exact H0.out);replace H1:=Zg (show w3.heap[w.heap.size+1]? =some (.cells #[.int .i64 0,.slice none 0 0,.slice none 0 0] 45 (0,0)) from by rw[<-dn]; exact H1.out);replace H2:=Zg (show w3.heap[w.heap.size+2]? =some (.cells #[.int .i64 0,.slice none 0 0,.slice none 0 0] 45 (0,0)) from by rw[<-dn]; exact H2.out);replace H3:=Zg (show w3.heap[w.heap.size+3]? =some (.cells #[.int .i64 ji,.slice none 0 0,.slice none 0 0] 45 (0,0)) from by rw[<-dn]; exact H3.out);clear dn;go_upto_region 8 with(fail)
   refine(congrArg _ jC.out).mpr ?_;have HC:=Zg (fun W (hW:Below w3.heap.size w3 W)=>show W.cell? ⟨w.heap.size,0,none⟩=some (.int .i64 o) from by rw[Zh ((hW.block _ (Zi H0.out)).trans H0.out)]; rfl);have HS:=Zg (show Below w3.heap.size w3 w3.drew from(Below.refl _ _).drew);refine wp_region_noPanic ?_;refine Zt (fun W=>Below w3.heap.size w3 W) (fun _=>True) 99 (by kernel_rfl) ?_;refine wU (i:=0) HS.out ?_;refine wU (i:=1) HS.out ?_;refine wU (i:=2) HS.out ?_ (hy:=by refine Or.inl ⟨by rfl,?_⟩; intro W aL; have mb:=HC.out W aL; clear aL; go_simp; try with_reducible rfl);refine wU (i:=3) HS.out ?_;refine Zz (i:=4) (oi:= ?_) (v:= .int .i64 oP) ?_ (by kernel_rfl) (by kernel_rfl) (by kernel_rfl) (fun _ _ _ h=>h) (by decide) ?_ HS.out (fun _=>trivial) ?_;rotate_left 1
   ·(simp only[Za,Zb,Zc]; rfl)
   ·refine⟨by rfl,fun W hW=>⟨72,#[.string (txt bs),.int .i64 eG,.int .i64 4],?_,fB.out W⟩⟩;first|kernel_rfl|(go_simp; done)|rfl
   try simp only[Act.put,Zd,Ze,Zf]
   refine wU (i:=5) HS.out ?_;refine wU (i:=6) HS.out ?_;refine wU (i:=7) HS.out ?_ (hy:=by refine Or.inl ⟨by rfl,?_⟩; intro W aL; have mb:=HC.out W aL; clear aL; go_simp; try with_reducible rfl);refine wU (i:=8) HS.out ?_;refine Zz (i:=9) (oi:= ?_) (v:= .int .i64 zl) ?_ (by kernel_rfl) (by kernel_rfl) (by kernel_rfl) (fun _ _ _ h=>h) (by decide) ?_ HS.out (fun _=>trivial) ?_;rotate_left 1
   ·(simp only[Za,Zb,Zc]; rfl)
   ·refine⟨by rfl,fun W hW=>⟨72,#[.string (txt bs),.int .i64 kr,.int .i64 4],?_,jX.out W⟩⟩;first|kernel_rfl|(go_simp; done)|rfl
   try simp only[Act.put,Zd,Ze,Zf]
   refine wU (i:=10) HS.out ?_;refine wU (i:=11) HS.out ?_;refine wU (i:=12) HS.out ?_ (hy:=by refine Or.inl ⟨by rfl,?_⟩; intro W aL; have mb:=HC.out W aL; clear aL; go_simp; try with_reducible rfl);refine wU (i:=13) HS.out ?_;refine Zz (i:=14) (oi:= ?_) (v:= .int .i64 zm) ?_ (by kernel_rfl) (by kernel_rfl) (by kernel_rfl) (fun _ _ _ h=>h) (by decide) ?_ HS.out (fun _=>trivial) ?_;rotate_left 1
   ·(simp only[Za,Zb,Zc]; rfl)
   ·refine⟨by rfl,fun W hW=>⟨72,#[.string (txt bs),.int .i64 jZ,.int .i64 4],?_,jY.out W⟩⟩;first|kernel_rfl|(go_simp; done)|rfl
   try simp only[Act.put,Zd,Ze,Zf]
   refine wU (i:=15) HS.out ?_;refine wU (i:=16) HS.out ?_;refine wU (i:=17) HS.out ?_;refine Zo (by kernel_rfl) ?_ _;refine NoPanic.normal ?_;clear HC HS;obtain⟨w4,cX⟩: ∃ q,w3.drew=q:=⟨_,rfl⟩;have gW:=Zg cX;replace HB:=Zg (show Below w.heap.size w w4 from by rw[<-cX]; exact HB.out.drew);replace H0:=Zg (show w4.heap[w.heap.size]? =some (.cells #[.int .i64 o,.int .i64 z] 37 (0,0)) from by rw[<-cX]; exact H0.out);replace H1:=Zg (show w4.heap[w.heap.size+1]? =some (.cells #[.int .i64 0,.slice none 0 0,.slice none 0 0] 45 (0,0)) from by rw[<-cX]; exact H1.out);replace H2:=Zg (show w4.heap[w.heap.size+2]? =some (.cells #[.int .i64 0,.slice none 0 0,.slice none 0 0] 45 (0,0)) from by rw[<-cX]; exact H2.out);replace H3:=Zg (show w4.heap[w.heap.size+3]? =some (.cells #[.int .i64 ji,.slice none 0 0,.slice none 0 0] 45 (0,0)) from by rw[<-cX]; exact H3.out);clear cX;refine(congrArg _ gW.out).mpr ?_;rename_i K9 LN;refine LN _ _ ?_;exact Zlf bs o z ji vu zk oP zl zm w w4 RR aJ hlen (by omega) (by omega) jS vp vq oe vr vt bk HB H0 H1 H2 H3 _ ⟨rfl,rfl,rfl⟩
  ·have d1:size<40:=by omega
   have ax:=Zg (fun W=>Vp bs.length rva size W (by omega) (by omega) (by omega) (by omega));unfold Uv at hR;rw[if_neg (by omega)] at hR;simp only at hR;subst hR;clear c1 c2 c0;go_enter Tryz.func38,Tryz.ntmps38;go_upto_region 2 with(fail)
   refine(congrArg _ cu.out).mpr ?_;go_wp2_with fail
   refine(ax.out _).mono ?_;rintro e w' ⟨rfl,rfl⟩;have z0:w1.cell? ⟨w.heap.size+2,0,none⟩=some (.int .i64 0):=by rw[Zh H2.out]; rfl
   have z1:w1.cell? ⟨w.heap.size+2,1,none⟩=some (.slice none 0 0):=by rw[Zh H2.out]; rfl
   have z2:w1.cell? ⟨w.heap.size+2,2,none⟩=some (.slice none 0 0):=by rw[Zh H2.out]; rfl
   obtain⟨w9,ah⟩: ∃ w9,w1.setRow (w.heap.size+1) #[.int .i64 0,.slice none 0 0,.slice none 0 0]=w9:=⟨_,rfl⟩;have aP:=Zg ah;have ai:=Zg (show w9.heap[w.heap.size+1]? =some (.cells #[.int .i64 0,.slice none 0 0,.slice none 0 0] 45 (0,0)) from by rw[<-ah]; exact setRow_heap _ _ _ _ _ _ H1.out);have ay:=Zg (show Below w.heap.size w w9 from by rw[<-ah]; exact below_setRow HB.out (Nat.le_succ _) _);have k0:w9.cell? ⟨w.heap.size+1,0,none⟩=some (.int .i64 0):=by rw[Zh ai.out]; rfl
   have k1:w9.cell? ⟨w.heap.size+1,1,none⟩=some (.slice none 0 0):=by rw[Zh ai.out]; rfl
   have k2:w9.cell? ⟨w.heap.size+1,2,none⟩=some (.slice none 0 0):=by rw[Zh ai.out]; rfl
   clear ah;go_upto_region 5 with(fail)
   go_wp2_with (first|(refine wpList_store_row rfl 45 _ _ rfl (w.heap.size+1) #[.int .i64 0,.slice none 0 0,.slice none 0 0] rfl rfl 45 #[.int .i64 0,.slice none 0 0,.slice none 0 0] H1.out ZY rfl Ym ?_; refine(congrArg _ aP.out).mpr ?_)|fail)
   refine bodyPost_ret (v:= .tuple #[.agg #[.int .i64 0,.slice none 0 0,.slice none 0 0],.int .i64 11]) (by simp[results,Tryz.results38,go_sem,k0,k1,k2]) rfl ⟨?_,ay.out⟩;exact rfl
 ·have ax:=Zg (fun W=>Zby bs.length rva size W (by omega) (by omega) (by omega));unfold Uv at hR;rw[if_neg (by omega)] at hR;simp only at hR;subst hR;clear c1 c0;go_enter Tryz.func38,Tryz.ntmps38;go_upto_region 2 with(fail)
  refine(congrArg _ cu.out).mpr ?_;go_wp2_with fail
  refine(ax.out _).mono ?_;rintro e w' ⟨rfl,rfl⟩;have z0:w1.cell? ⟨w.heap.size+2,0,none⟩=some (.int .i64 0):=by rw[Zh H2.out]; rfl
  have z1:w1.cell? ⟨w.heap.size+2,1,none⟩=some (.slice none 0 0):=by rw[Zh H2.out]; rfl
  have z2:w1.cell? ⟨w.heap.size+2,2,none⟩=some (.slice none 0 0):=by rw[Zh H2.out]; rfl
  obtain⟨w9,ah⟩: ∃ w9,w1.setRow (w.heap.size+1) #[.int .i64 0,.slice none 0 0,.slice none 0 0]=w9:=⟨_,rfl⟩;have aP:=Zg ah;have ai:=Zg (show w9.heap[w.heap.size+1]? =some (.cells #[.int .i64 0,.slice none 0 0,.slice none 0 0] 45 (0,0)) from by rw[<-ah]; exact setRow_heap _ _ _ _ _ _ H1.out);have ay:=Zg (show Below w.heap.size w w9 from by rw[<-ah]; exact below_setRow HB.out (Nat.le_succ _) _);have k0:w9.cell? ⟨w.heap.size+1,0,none⟩=some (.int .i64 0):=by rw[Zh ai.out]; rfl
  have k1:w9.cell? ⟨w.heap.size+1,1,none⟩=some (.slice none 0 0):=by rw[Zh ai.out]; rfl
  have k2:w9.cell? ⟨w.heap.size+1,2,none⟩=some (.slice none 0 0):=by rw[Zh ai.out]; rfl
  clear ah;go_upto_region 5 with(fail)
  go_wp2_with (first|(refine wpList_store_row rfl 45 _ _ rfl (w.heap.size+1) #[.int .i64 0,.slice none 0 0,.slice none 0 0] rfl rfl 45 #[.int .i64 0,.slice none 0 0,.slice none 0 0] H1.out ZY rfl Ym ?_; refine(congrArg _ aP.out).mpr ?_)|fail)
  refine bodyPost_ret (v:= .tuple #[.agg #[.int .i64 0,.slice none 0 0,.slice none 0 0],.int .i64 11]) (by simp[results,Tryz.results38,go_sem,k0,k1,k2]) rfl ⟨?_,ay.out⟩;exact rfl
end Go.Proofs.YtplgdpjbkdagfaaGreat
