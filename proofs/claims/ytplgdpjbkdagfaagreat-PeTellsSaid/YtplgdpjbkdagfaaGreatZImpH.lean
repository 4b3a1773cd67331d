import Derived.Test.YtplgdpjbkdagfaaGreatZRPeX
import Derived.Lib.AppendZeros
import Derived.Deep.Upon
import Derived.Test.YtplgdpjbkdagfaaGreatZExpM
import Derived.Test.YtplgdpjbkdagfaaGreatZOwnT
import Derived.Test.YtplgdpjbkdagfaaGreatZAwake1
namespace Go.Proofs.YtplgdpjbkdagfaaGreat
open List renaming getElem?_toArray→Za, getElem?_cons_succ→Zb, getElem?_cons_zero→Zc, setIfInBounds_toArray→Zd, set_cons_zero→Ze, set_cons_succ→Zf
open Lib renaming hid→Zg
set_option maxRecDepth 100000
open Go.ChangeShapes Go.WideShapes Go.ChangeAt Go.RowKit
set_option linter.unusedVariables false
set_option linter.unusedSimpArgs false
theorem Zfw {w:World} (ty tx:TypeId) {base g cap:Nat} {bs cs:List Nat} (X:Value) (ae:YG w base g cap bs) (cY:Src Tryz.prog 1 tx X cs.length (Zs cs.length (lF cs)) w) (bm:Lb cs) (oV:bs.length+cs.length<=1000000) (aH:base<=w.heap.size) :
 ∃ g' aA w',(Builtin.append_ #[25,tx] ty #[.slice (some ⟨g,0,none⟩) bs.length cap,X]).run Tryz.prog w= .ok (.slice (some ⟨g',0,none⟩) (bs.length+cs.length) aA) w'/\YG w' base g' aA (bs++cs)/\Below base w w'/\w.grownBy w' (some g)/\(g'=g\/g'=w.heap.size):=by
 obtain⟨i0,hi,dQ,bw,ed⟩:=info_parts Ws;have hs:Src Tryz.prog i0.size tx X cs.length (Zs cs.length (lF cs)) w:=by rw[bw]; exact cY
 by_cases cQ:bs.length+cs.length<=cap
 ·have aU: ∀ j,j<(Zs cs.length (lF cs)).length->(w.cell? ⟨g,bs.length+j,none⟩).isSome=true:=fun j hj=>(ae.wr (bs.length+j) (by rw[Zn] at hj; omega)).1;have hr:=run_append_room_src (P:=Tryz.prog) w 25 tx ty 5 i0 Tryz.underlying25 hi g 0 bs.length cap X cs.length _ hs cQ
   (fun j hj=>by rw[bw,Nat.mul_one,Nat.zero_add]; exact aU j hj) (fun j hj=>by rw[bw,Nat.mul_one,Nat.zero_add]; exact(ae.wr (bs.length+j) (by rw[Zn] at hj; omega)).2)
  rw[bw,Nat.mul_one,Nat.zero_add] at hr;refine⟨_,_,_,hr,⟨ae.le,by rw[XJ]; exact ae.lt,fun i hi=> ?_,ae.lb.append bm,by rw[List.length_append]; exact cQ,ae.most,fun j hj=>⟨World.isSome_setCells _ _ _ _ _ (ae.wr j hj).1,by rw[World.frozen?_setCells]; exact(ae.wr j hj).2⟩⟩,Ya ae.le _ _ _ (Below.refl base w),⟨(Xp g _ _ w).1,(Xp g _ _ w).2.1,(Xp g _ _ w).2.2.1,by rw[XJ]; exact Nat.le_refl _,fun k hk bK=>World.heap_setCells_other w g _ _ hk (fun e=>bK (by rw[e]))⟩,.inl rfl⟩;rw[UK];unfold VQ;rw[List.length_append] at hi;rw[Nat.zero_add];by_cases e:i<bs.length
  ·rw[if_pos e,World.cell?_setCells_out _ _ _ _ _ (fun _ _=> .inl e)];have:=ae.row i e;rwa [Nat.zero_add] at this
  ·rw[if_neg e];have:=World.cell?_setCells_in g (Zs cs.length (lF cs)) bs.length w aU (i - bs.length) (by rw[Zn]; omega);rw[show bs.length+(i - bs.length)=i by omega] at this;rw[this];simp[Zs]
 ·have hold:(Builtin.firstCells i0.size bs.length (.slice (some ⟨g,0,none⟩) bs.length cap)).run Tryz.prog w.drew= .ok (Zs bs.length (lF bs)).toArray w.drew:=by
   rw[bw];refine run_firstCells_some w.drew 1 bs.length ⟨g,0,none⟩ bs.length cap (Zs bs.length (lF bs)) (by rw[Zn,Nat.mul_one]) fun j u hu=> ?_;have hj:j<bs.length:=by
    rcases Nat.lt_or_ge j bs.length with hj|hj
    ·exact hj
    ·rw[List.getElem?_eq_none (by rw[Zn]; omega)] at hu; cases hu
   rw[ZN bs.length (lF bs) hj] at hu;obtain rfl:=Option.some.inj hu;have cJ:(⟨g,0,none⟩:Addr).add j=⟨g,0+j,none⟩:=by unfold Addr.add; split <;> simp_all
   rw[cJ];exact ae.row j hj
  have hr:=run_append_grow_src (P:=Tryz.prog) w 25 tx ty 5 i0 (.int .u8 0) Tryz.underlying25 hi dQ (some ⟨g,0,none⟩) bs.length cap (Zs bs.length (lF bs)) hold X cs.length _ hs (by omega) (by omega) (growslice_fits (by omega) (by rw[ed]; omega));have dK:=grownCap_ge w (bs.length+cs.length) cap 5;have gL:=grownCap_le_maxLen w (bs.length+cs.length) cap 5 (by simp only[maxLen]; omega);simp only[maxLen] at gL;have hz:(Value.int .u8 0).cells= #[.int .u8 0]:=rfl;have hh:=heap_alloc_new w.drew (.cells ((Zs bs.length (lF bs)++Zs cs.length (lF cs)).toArray++Builtin.zeroCells (Value.int .u8 0).cells (grownCap w (bs.length+cs.length) cap 5 - (bs.length+cs.length))) 5);have aT:((Zs bs.length (lF bs)++Zs cs.length (lF cs)).toArray++Builtin.zeroCells (Value.int .u8 0).cells (grownCap w (bs.length+cs.length) cap 5 - (bs.length+cs.length))).size=grownCap w (bs.length+cs.length) cap 5:=by
   rw[Array.size_append,size_zeroCells,hz];simp[Zn];omega
  refine⟨_,_,_,hr,⟨aH,by simp,fun i hi=> ?_,ae.lb.append bm,by rw[List.length_append]; exact dK,by omega,fun j hj=>⟨?_,frozen_of_row _ _ _ _ _ hh⟩⟩,((Below.refl base w).drew).alloc (by simpa using aH) _,⟨rfl,rfl,rfl,by simp,fun k hk _=>Below.heap_alloc w.drew _ k hk⟩,.inr rfl⟩
  ·rw[List.length_append] at hi;rw[Nat.zero_add,UK];have:=cell_of_row _ _ i _ _ _ hh;refine Eq.trans this ?_;rw[Wo,Array.getElem?_append_left (by simpa [Zn] using hi),Za,ZN _ _ hi]
  ·have:=cell_of_row _ _ j _ _ _ hh;refine Eq.trans (congrArg Option.isSome this) ?_;rw[Array.getElem?_eq_getElem (by omega)];rfl
theorem Zjz (n:Nat):((txt (List.replicate n 0)).extract 0 n).data.map (fun b=>Value.int .u8 (b.toNat:Int))=Builtin.zeroCells #[.int .u8 0] n:=by
 have hl:(List.replicate n 0).length=n:=List.length_replicate;have aT:(txt (List.replicate n 0)).size=n:=by rw[Zk,hl]
 have he:(txt (List.replicate n 0)).extract 0 n=txt (List.replicate n 0):=by
  have:=XZ (t:=List.replicate n 0) (fun v hv=>by simp at hv; omega) 0 n (by simp);rw[Nat.zero_add] at this;rw[this];simp
 rw[he];have ht:=XX (t:=List.replicate n 0) (fun v hv=>by simp at hv; omega);rw[ByteArray.toList_eq] at ht;apply Array.ext';rw[Array.toList_map,ht];apply List.ext_getElem
 ·simp[Builtin.zeroCells]
 ·intro i h1 h2;simp[Builtin.zeroCells,Nat.mod_one]
theorem QG (n:Nat):List.take n (List.map (fun b:UInt8=>Value.int .u8 (b.toNat:Int)) (txt (List.replicate n 0)).data.toList)=(Builtin.zeroCells #[.int .u8 0] n).toList:=by
 have h:=congrArg Array.toList (Zjz n);rw[Array.toList_map] at h;rw[<-h,<-List.map_take];congr 1
 simp[ByteArray.data_extract]
theorem Zj0 (n:Nat):(Array.map (fun b:UInt8=>Value.int .u8 (b.toNat:Int)) (txt (List.replicate n 0)).data).extract 0 n=Builtin.zeroCells #[.int .u8 0] n:=by
 apply Array.ext';rw[<-QG n];simp
theorem Zj1 (w:World) (ty:TypeId) (g iD cap n:Nat) (xu:0<n) (hn:n<=1000000) (jz:iD+n<=1000000) :
 (Builtin.append_ #[25,3] ty #[.slice (some ⟨g,0,none⟩) iD cap,.int .i64 n]).run Tryz.prog w=(Builtin.append_ #[25,9] ty #[.slice (some ⟨g,0,none⟩) iD cap,.string (txt (List.replicate n 0))]).run Tryz.prog w:=by
 obtain⟨i0,hi,dQ,bw,ed⟩:=info_parts Ws;have hw:IntKind.i64.wrap (n:Int)=n:=by rw[IntKind.wrap_i64]; omega
 have AK: ¬ ((n:Int)<0):=by omega
 have AL: ¬ (281474976710656<(n:Int) * (i0.bytes:Int)):=by rw[ed]; omega
 have aT:(txt (List.replicate n 0)).size=n:=by rw[Zk,List.length_replicate]
 have hz:=QG n;have oo:(Value.int .u8 0).cells= #[.int .u8 0]:=rfl;have AM: ¬ (281474976710656<(n:Int)):=by omega
 have h0:n≠0:=by omega
 by_cases cQ:iD+n<=cap
 ·simp[Builtin.append_,run_underlying Tryz.underlying25,run_underlying Tryz.underlying3,run_underlying Tryz.underlying9,sizeOf,typeInfo,zeroValue,hi,dQ,bw,ed,asInt,asIntOf,hw,AK,AL,AM,cQ,aT,hz,oo,h0,Builtin.lenOf,Builtin.firstCells]
 ·have FM: ¬ (9223372036854775807<((iD:Int)+(n:Int))):=by omega
  have vh:=growslice_fits (need:=iD+n) (old:=cap) (bytes:=1) (by omega) (by omega);have AN: ¬ (281474976710656<Builtin.nextslicecap (iD+n) cap):=by omega
  simp[Builtin.append_,run_underlying Tryz.underlying25,run_underlying Tryz.underlying3,run_underlying Tryz.underlying9,sizeOf,typeInfo,zeroValue,hi,dQ,bw,ed,asInt,asIntOf,hw,AK,AL,AM,cQ,aT,hz,oo,h0,FM,AN,Question.forced,Builtin.lenOf,Builtin.firstCells];rw[Zj0 n]
theorem Zeb {w:World} {ops:Array Oper} {rest:List Oper} {o:Oper} {a:Act} {Q:Exit->Act->World->Prop} (eu:o.guard=none) (s x:Operand)
 (ho:o.op= .call { callee:= .builtin .append,args:= #[s,x],argTypes:= #[25,3] })
 {base g n cap m:Nat} {bs:List Nat} (ae:YG w base g cap bs) (oW:n=bs.length) (h0:0<m) (oV:n+m<=1000000) (aH:base<=w.heap.size)
 (hv:a.eval s= .slice (some ⟨g,0,none⟩) n cap) (hx:a.eval x= .int .i64 m)
 (hK: ∀ g' aA w',YG w' base g' aA (bs++List.replicate m 0)->Below base w w'->wpList Tryz.prog ops Q rest (a.put o.dst (.slice (some ⟨g',0,none⟩) (n+m) aA)) w'):wpList Tryz.prog ops Q (o::rest) a w:=by
 subst oW;have fM:Lb (List.replicate m 0):=fun v hv=>by simp at hv; omega
 have td:(List.replicate m 0).length=m:=List.length_replicate;have cY:=Wz (w:=w) (List.replicate m 0) fM;obtain⟨g',aA,w',hr,h1,h2,_,_⟩:=Zfw (w:=w) o.type 9 (cs:=List.replicate m 0) (.string (txt (List.replicate m 0))) ae cY fM (by rw[td]; exact oV) aH;rw[td,<-Zj1 w o.type g bs.length cap m h0 (by omega) oV] at hr;exact Lib.wpList_append_run w eu s x 25 3 ho _ _ hv hx _ _ hr (hK g' aA w' h1 h2)
theorem YM {w:World} {ops:Array Oper} {o:Oper} {a:Act} {K:Act->World->Prop} {Q:Exit->Act->World->Prop} {E:Prop} (eu:o.guard=none) (s x:Operand) (tx:TypeId)
 (ho:o.op= .call { callee:= .builtin .append,args:= #[s,x],argTypes:= #[25,tx] })
 {base g n cap m:Nat} {bs cs:List Nat} (X:Value) (ae:YG w base g cap bs) (oW:n=bs.length) (gL:m=cs.length) (cY:Src Tryz.prog 1 tx X m (Zs m (lF cs)) w) (bm:Lb cs) (oV:n+m<=1000000) (aH:base<=w.heap.size)
 (hv:a.eval s= .slice (some ⟨g,0,none⟩) n cap) (hx:a.eval x=X)
 (hK: ∀ g' aA w',YG w' base g' aA (bs++cs)->Below base w w'->w.grownBy w' (some g)->(g'=g\/g'=w.heap.size)->K (a.put o.dst (.slice (some ⟨g',0,none⟩) (n+m) aA)) w'):if Region.wanted o (yielded ops a.tmps)=true then Oper.wp Tryz.prog o a w K Q else E:=by
 rw[if_pos (by simp[Region.wanted,eu])];subst oW gL;obtain⟨g',aA,w',bG,r1,r2,r3,r4⟩:=Zfw (w:=w) o.type tx X ae cY bm oV aH;unfold Oper.wp execOp;simp only[ho,resolve,invoke,builtin,Sem.run_bind,Sem.run_pure,Result.andThen_ok,List.map_toArray,List.map_cons,List.map_nil,hv,hx,bG];exact hK g' aA w' r1 r2 r3 r4
end Go.Proofs.YtplgdpjbkdagfaaGreat
namespace Go.Proofs.YtplgdpjbkdagfaaGreat
open List renaming getElem?_toArray→Za, getElem?_cons_succ→Zb, getElem?_cons_zero→Zc, setIfInBounds_toArray→Zd, set_cons_zero→Ze, set_cons_succ→Zf
open Lib renaming hid→Zg
set_option maxRecDepth 100000
open Go.ChangeShapes Go.WideShapes Go.ChangeAt Go.RowKit
set_option linter.unusedVariables false
set_option linter.unusedSimpArgs false
set_option synthInstance.maxSize 2000
set_option synthInstance.maxHeartbeats 200000
structure PIm where
 dll:List Nat
 syms:List XV
def WS (th q:Nat) (b:List Nat) (s:XV):List Nat :=
 if s.2.2=true then ZW b (th+8 * q) 8 (s.2.1 % 65536+9223372036854775808)
 else((ZW b (th+8 * q) 8 b.length++[0,0])++s.1)++[0]
def Zj2 (th:Nat):List XV->Nat->List Nat->List Nat
 | [],_,b=>b
 | s::r,q,b=>Zj2 th r (q+1) (WS th q b s)
def Wi (delay:Bool) (ak i:Nat) (b:List Nat) (x:PIm):List Nat :=
 let k:=min x.syms.length 70
 let th:=b.length
 let iat:=b.length+8 * k+8
 let b2:=Zj2 th (x.syms.take 70) 0 (b++List.replicate (16 * k+16) 0)
 let b3:=(b2++x.dll)++[0]
 if delay=true then ZW (ZW (ZW (ZW (ZW (ZW b3 ak 4 1) (ak+4) 4 b2.length) (ak+8) 4 8) (ak+12) 4 iat) (ak+16) 4 th) (ak+28) 4 (9+i)
 else
  let b4:=ZW (ZW (ZW (ZW b3 ak 4 th) (ak+4) 4 i) (ak+12) 4 b2.length) (ak+16) 4 iat
  if i % 2=1 then ZW (b4.take iat++(((b4.drop th).take (8 * k))++b4.drop (iat+8 * k))) ak 4 0 else b4
def Zfx (delay:Bool):Nat:=if delay=true then 32 else 20
def Zj3 (delay:Bool) (start:Nat):List PIm->Nat->List Nat->List Nat
 | [],_,b=>b
 | x::r,i,b=>Zj3 delay start r (i+1) (Wi delay (start+Zfx delay * i) i b x)
def at8 (start:Nat) (l:List PIm) (delay:Bool):List Nat:=Zj3 delay start (l.take 18) 0 (List.replicate (start+Zfx delay * (min l.length 18+1)) 0)
end Go.Proofs.YtplgdpjbkdagfaaGreat
namespace Go.Proofs.YtplgdpjbkdagfaaGreat
set_option maxHeartbeats 8000000
open List renaming getElem?_toArray→Za, getElem?_cons_succ→Zb, getElem?_cons_zero→Zc, setIfInBounds_toArray→Zd, set_cons_zero→Ze, set_cons_succ→Zf
open Lib renaming hid→Zg
open Go.ChangeShapes Go.WideShapes Go.ChangeAt Go.RowKit
set_option linter.unusedVariables false
set_option linter.unusedSimpArgs false
set_option maxRecDepth 100000
def SymW (w:World) (A:Option Addr) (ss:List XV):Prop:=ss=[]\/ ∃ b off,A=some ⟨b,off,none⟩/\b<w.heap.size/\ ∀(i:Nat) (hi:i<ss.length),∃ od:Int,od % 65536=((ss[i].2.1:Nat):Int) % 65536/\w.cell? ⟨b,off+i * 3,none⟩=some (.string (txt ss[i].1))/\w.cell? ⟨b,off+i * 3+1,none⟩=some (.int .i64 od)/\w.cell? ⟨b,off+i * 3+2,none⟩=some (.bool ss[i].2.2)
theorem YH {α :Type} (f:Nat-> α):(List.range 175).map f=(f 0::f 1::f 2::f 3::f 4::f 5::f 6::f 7::f 8::f 9::f 10::f 11::f 12::f 13::f 14::f 15::f 16::f 17::f 18::f 19::f 20::f 21::f 22::f 23::f 24::f 25::f 26::f 27::f 28::f 29::f 30::f 31::f 32::f 33::f 34::f 35::f 36::f 37::f 38::f 39::f 40::f 41::f 42::f 43::f 44::f 45::f 46::f 47::f 48::f 49::f 50::f 51::f 52::f 53::f 54::f 55::f 56::f 57::f 58::f 59::f 60::f 61::f 62::f 63::f 64::f 65::f 66::f 67::f 68::f 69::f 70::f 71::f 72::f 73::f 74::f 75::f 76::f 77::f 78::f 79::f 80::f 81::f 82::f 83::f 84::f 85::f 86::f 87::f 88::f 89::f 90::f 91::f 92::f 93::f 94::f 95::f 96::f 97::f 98::f 99::f 100::f 101::f 102::f 103::f 104::f 105::f 106::f 107::f 108::f 109::f 110::f 111::f 112::f 113::f 114::f 115::f 116::f 117::f 118::f 119::f 120::f 121::f 122::f 123::f 124::f 125::f 126::f 127::f 128::f 129::f 130::f 131::f 132::f 133::f 134::f 135::f 136::f 137::f 138::f 139::f 140::f 141::f 142::f 143::f 144::f 145::f 146::f 147::f 148::f 149::f 150::f 151::f 152::f 153::f 154::f 155::f 156::f 157::f 158::f 159::f 160::f 161::f 162::f 163::f 164::f 165::f 166::f 167::f 168::f 169::f 170::f 171::f 172::f 173::f 174::[]):=rfl
noncomputable def Xo:Code:=(Tryz.f28.body).getD .skip
noncomputable def XA:Code:=JB (YF (Yc 1 (Zi4 (JB (Yc 1 (YF (Yc 5 Xo)))))))
noncomputable def FR:Code:=YF (Yc 4 XA)
theorem zero2 (w:World):SlB (w.alloc (.cells #[.int .u8 0,.int .u8 0] 5)) (some ⟨w.heap.size,0,none⟩) 2 (lF [0,0]) :=
 .inr ⟨w.heap.size,0,rfl,by simp,fun i hi=>by
  rcases(by omega:i=0\/i=1) with rfl|rfl <;> simp[go_sem,lF]⟩
theorem Zj5 (w:World):SlB (w.alloc (.cells #[.int .u8 0] 5)) (some ⟨w.heap.size,0,none⟩) 1 (lF [0]) :=
 .inr ⟨w.heap.size,0,rfl,by simp,fun i hi=>by
  obtain rfl:i=0:=by omega
  simp[go_sem,lF]⟩
theorem WT {w w':World} {p n g:Nat} {f:Nat->Int} (h:SlB w (some ⟨p,0,none⟩) n f) (hg:w.grownBy w' (some g)) (hp:p<w.heap.size) (bK:p≠g):SlB w' (some ⟨p,0,none⟩) n f:=by
 rcases h with h|⟨b,off,hA,af,hr⟩
 ·exact .inl h
 ·refine .inr ⟨b,off,hA,Nat.lt_of_lt_of_le af hg.size,fun i hi=> ?_⟩;injection hA with hA;injection hA with h1 h2;rw[World.cell?_of_block (a:=⟨b,off+i,none⟩) (hg.block b af (by rw[<-h1]; intro e; injection e with e; exact bK e))];exact hr i hi
theorem Zmf (bl dM ll lc i k th g c:Nat) (A:Option Addr) (sc:Nat) (ss:List XV) (b B2:List Nat) (v0 v2 v7 v8 v11 rb:Value) (w FT:World) (mJ:i<ll) (hk:k<=ss.length) (NC:k<=70) (AO:th+8 * k<=b.length) (gd:b.length<=600000)
 (bg:Hid (∀ W,Below w.heap.size w W->W.cell? ⟨bl,dM+i * 2+1,none⟩=some (.slice A ss.length sc)/\SymW W A ss)) (l8:Hid (∀ s∈ss,Lb s.1/\s.1.length<=100))
 (HO:Hid (YG FT w.heap.size g c b)) (HB:Hid (Below w.heap.size w FT)) (aj:Hid (Zj2 th (ss.take k) 0 b=B2)) (Q:Exit->Act->World->Prop) (a:Act)
 (ha:Has 175 [0,1,2,7,8,9,10,11,12,13,14] [v0,.slice (some ⟨bl,dM,none⟩) ll lc,v2,v7,v8,.slice (some ⟨g,0,none⟩) b.length c,.int .i64 i,v11,.int .i64 k,.int .i64 th,rb] a) (hK: ∀ a' w' g' c',Has 175 [0,1,2,7,8,9,10,11,12,13,14] [v0,.slice (some ⟨bl,dM,none⟩) ll lc,v2,v7,v8,.slice (some ⟨g',0,none⟩) B2.length c',.int .i64 i,v11,.int .i64 k,.int .i64 th,rb] a'->YG w' w.heap.size g' c' B2->Below w.heap.size w w'->Q .normal a' w'):FR.wp Tryz.prog Q a FT:=by
 obtain⟨u,rfl⟩:=Yt ha;simp only[YH,Xi,Zf,Ze];clear ha;have HK:=Zg hK;clear hK;conv=>arg 2; whnf
 go_wp2_with fail
 go_loopw [9,15] (fun v9 v15 wr=> ∃(q g c:Nat) (b':List Nat),q<=k/\v15= .int .i64 q/\v9= .slice (some ⟨g,0,none⟩) b'.length c/\YG wr w.heap.size g c b'/\b.length<=b'.length/\b'.length<=b.length+103 * q/\Below w.heap.size w wr/\Zj2 th ((ss.take k).drop q) q b'=B2) (fun _ v15 _=>k - (intOf v15).toNat)
 case atStart=>exact⟨0,g,c,b,Nat.zero_le _,rfl,rfl,HO.out,Nat.le_refl _,by omega,HB.out,aj.out⟩
 case round =>
  obtain⟨q,g,c,b',hq,rfl,rfl,ho,az,aC,aq,bU⟩:=hrel;replace HO:=Zg ho;replace HB:=Zg aq;replace aj:=Zg bU;clear ho aq bU;by_cases af:q<k
  ·have tM:q<ss.length:=by omega
   obtain⟨e1,dE⟩:=bg.out wr HB.out;have bU:=aj.out;rw[List.drop_eq_getElem_cons (by rw[List.length_take]; omega),List.getElem_take] at bU;obtain⟨s,hs⟩: ∃ s,ss[q]=s:=⟨_,rfl⟩;have df:=Zg (l8.out ss[q] (List.getElem_mem tM));rcases dE with h0|⟨bs,ND,rfl,gX,bm⟩
   ·rw[h0] at tM; simp at tM
   obtain⟨oi,CS,z0,z1,z2⟩:=bm q tM;rw[hs] at CS z0 z2;rw[hs] at bU df;simp only[Zj2,WS] at bU;obtain⟨nm,od,bo⟩:=s;simp only at CS z0 z2 bU df;have mA:=Zg CS;clear CS;have P6:(q:Int)<(ss.length:Int):=by omega
   have P7:(q:Int)<(k:Int):=by omega
   have Lh:(i:Int)<(ll:Int):=by omega
   obtain⟨q8,Cb⟩: ∃ x,8 * q=x:=⟨_,rfl⟩;obtain⟨o,ho⟩: ∃ x,th+q8=x:=⟨_,rfl⟩;have P8:(8:Int) * (q:Int)=(q8:Int):=by omega
   have eo:(th:Int)+(q8:Int)=(o:Int):=by omega
   have iv:o+8<=b'.length:=by omega
   rw[Cb,ho] at bU;obtain⟨w1,ao⟩: ∃ w1,wr.alloc (.cells #[.string (txt nm),.int .i64 oi,.bool bo] 58)=w1:=⟨_,rfl⟩;have cu:=Zg ao;have hA:Below wr.heap.size wr w1:=by rw[<-ao]; exact(Below.refl _ _).alloc (Nat.le_refl _) _
   have HX:=Zg (show w1.heap[wr.heap.size]? =some (.cells #[.string (txt nm),.int .i64 oi,.bool bo] 58 (0,0)) from by rw[<-ao]; exact heap_alloc_new wr _);have cW:=Zg (HO.out.below hA);have av:=Zg (HB.out.trans (hA.mono HB.out.size));have nV:=Zg bU;clear ao hA hs bm gX Cb ho bU tM;go_upto_region 17 with(fail)
   refine(congrArg _ cu.out).mpr ?_;clear z0 z1 z2 e1;have t0:w1.cell? ⟨wr.heap.size,0,none⟩=some (.string (txt nm)):=by rw[Zh HX.out]; rfl
   have t1:w1.cell? ⟨wr.heap.size,1,none⟩=some (.int .i64 oi):=by rw[Zh HX.out]; rfl
   have t2:w1.cell? ⟨wr.heap.size,2,none⟩=some (.bool bo):=by rw[Zh HX.out]; rfl
   rcases bo with _|_
   ·have bU:=nV.out;rw[if_neg (by simp)] at bU;have dP:=Zp (b:=b') (o:=o) (n:=8) iv b'.length;have hp:=Yr (some ⟨g,0,none⟩) c b' o 8 (b'.length:Nat) b'.length w1 cW.out.lb (by omega) cW.out.slB (by omega) (by omega) iv (ZZ (by omega)) (by omega);obtain⟨d1,hd1⟩: ∃ x,ZW b' o 8 b'.length=x:=⟨_,rfl⟩;rw[hd1] at hp dP bU;have lC:=Zg bU;have HP:=Zg hp;clear hp hd1 bU nV;go_wp2_with fail
    refine HP.out.mono ?_;rintro e x0 ⟨g1,c1,rfl,ho,hw⟩;obtain⟨B,AP⟩: ∃ B,w1.heap.size=B:=⟨_,rfl⟩;rw[AP] at ho hw;have nH:w.heap.size<=B:=by rw[<-AP]; exact av.out.size
    have J8:wr.heap.size<B:=by rw[<-AP]; exact Zi HX.out
    have Nn:B<=x0.heap.size:=by rw[<-AP]; exact hw.size
    have eL:=Zg (av.out.trans (hw.mono nH));have jb:=Zg ((hw.block _ J8).trans HX.out);have gw:=Zg (fun W (hW:Below B x0 W)=>Nat.le_trans Nn hW.size);have HC:=Zg (fun W (hW:Below B x0 W)=>show W.cell? ⟨wr.heap.size,0,none⟩=some (.string (txt nm)) from by rw[Zh ((hW.block _ J8).trans jb.out)]; rfl);have dU:=Zg (show YG x0.drew B g1 c1 d1 from ho.below (Below.refl x0.heap.size x0).drew);have qY:=Zg (show Below B x0 x0.drew from(Below.refl _ _).drew);have HS:=qY;have Np:d1.length<=610000:=by omega
    have Nq:=HC.out x0 (Below.refl _ _);clear ho hw t0 t1 t2 AP HP;go_upto_region 20 with(fail)
    clear Nq;refine wp_region_noPanic ?_;refine Zt (fun W=>Below B x0 W) (fun _=>True) 99 (by kernel_rfl) ?_;refine wU (i:=0) HS.out ?_;refine wU (i:=3) HS.out ?_;refine wU (i:=4) HS.out ?_ (hy:=by refine Or.inl ⟨by rfl,?_⟩; intro W aL; have mb:=HC.out W aL; clear aL; go_simp; try with_reducible rfl);clear HS;generalize x0.drew=y0 at *;refine XM (i:=1) (j:=6) (o:= ?_) (o2:= ?_) (by kernel_rfl) ?_ ?_ (fun K hK=> ?first16) (fun K hK=> ?second16);rotate_left 2
    ·(simp only[Za,Zb,Zc]; rfl)
    ·(simp only[Za,Zb,Zc]; rfl)
    case' first16 =>
     go_simp;have fG:=Zg (qY.out.alloc (gw.out _ qY.out) (.cells #[.int .u8 0,.int .u8 0] 5));have fg:=Zg (dU.out.alloc (.cells #[.int .u8 0,.int .u8 0] 5));have gM:=Zg (zero2 y0);have aO:=Zg (show y0.heap.size<(y0.alloc (.cells #[.int .u8 0,.int .u8 0] 5)).heap.size/\y0.heap.size≠g1 from⟨by simp,fun e=>by have:=dU.out.lt; omega⟩);refine hK.out _ _ fG.out (fun _=>trivial) ?_;clear hK K;try simp only[Act.put,Zd,Ze,Zf]
     generalize y0.alloc (.cells #[.int .u8 0,.int .u8 0] 5)=x1 at *;generalize y0.heap.size=p1 at *;clear qY dU;refine XM (i:=2) (j:=6) (o:= ?_) (o2:= ?_) (by kernel_rfl) ?_ ?_ (fun K hK=> ?first26) (fun K hK=> ?second26);rotate_left 2
     ·(simp only[Za,Zb,Zc]; rfl)
     ·(simp only[Za,Zb,Zc]; rfl)
     case' first26 =>
      refine YM rfl (.tmp 93) (.tmp 94) 25 rfl (.slice (some ⟨p1,0,none⟩) 2 2) fg.out (show b'.length=d1.length from by first|omega|(simp only[List.length_append,List.length_cons,List.length_nil]; omega)) (show 2=[0,0].length from rfl) (Wp gM.out) (fun v hv=>by simp at hv; omega) (by have:=df.out.2; omega) (gw.out _ fG.out) (by first|rfl|simp[Act.eval]) (by first|rfl|simp[Act.eval]) ?_;intro g2 c2 x2 dJ aC oh jg;have j8:=Zg dJ;have gY:=Zg (fG.out.trans aC);refine hK.out _ _ gY.out (fun _=>trivial) ?_;clear hK K;try simp only[Act.put,Zd,Ze,Zf]
      clear fG fg dJ aC oh jg;refine XM (i:=5) (j:=6) (o:= ?_) (o2:= ?_) (by kernel_rfl) ?_ ?_ (fun K hK=> ?first56) (fun K hK=> ?second56);rotate_left 2
      ·(simp only[Za,Zb,Zc]; rfl)
      ·(simp only[Za,Zb,Zc]; rfl)
      case first56 =>
       refine YM rfl (.tmp 95) (.tmp 97) 9 rfl (.string (txt nm)) j8.out (show(b'.length+2)=(d1++[0,0]).length from by first|omega|(simp only[List.length_append,List.length_cons,List.length_nil]; omega)) (show nm.length=nm.length from rfl) (Wz nm df.out.1) df.out.1 (by have:=df.out.2; omega) (gw.out _ gY.out) (by first|rfl|simp[Act.eval]) (by first|rfl|simp[Act.eval]) ?_;intro g3 c3 x3 j3 bJ eU wI;have lg:=Zg j3;have fL:=Zg (gY.out.trans bJ);refine hK.out _ _ fL.out (fun _=>trivial) ?_;clear hK K;try simp only[Act.put,Zd,Ze,Zf]
       clear gY j8 j3 bJ eU wI;refine wO (i:=6) (fun K hK=> ?_);go_simp;have eO:=Zg (fL.out.alloc (gw.out _ fL.out) (.cells #[.int .u8 0] 5));have fY:=Zg (lg.out.alloc (.cells #[.int .u8 0] 5));have CQ:=Zg (Zj5 x3);have fV:=Zg (show x3.heap.size<(x3.alloc (.cells #[.int .u8 0] 5)).heap.size/\x3.heap.size≠g3 from⟨by simp,fun e=>by have:=lg.out.lt; omega⟩);refine hK.out _ _ eO.out (fun _=>trivial) ?_;clear hK K;try simp only[Act.put,Zd,Ze,Zf]
       generalize x3.alloc (.cells #[.int .u8 0] 5)=x4 at *;generalize x3.heap.size=p4 at *;clear fL lg;refine wO (i:=7) (fun K hK=> ?_);refine YM rfl (.tmp 98) (.tmp 99) 25 rfl (.slice (some ⟨p4,0,none⟩) 1 1) fY.out (show((b'.length+2)+nm.length)=((d1++[0,0])++nm).length from by first|omega|(simp only[List.length_append,List.length_cons,List.length_nil]; omega)) (show 1=[0].length from rfl) (Wp CQ.out) (fun v hv=>by simp at hv; omega) (by have:=df.out.2; omega) (gw.out _ eO.out) (by first|rfl|simp[Act.eval]) (by first|rfl|simp[Act.eval]) ?_;intro g5 c5 x5 gG cm aI wJ;have gR:=Zg gG;have mW:=Zg (eO.out.trans cm);refine hK.out _ _ mW.out (fun _=>trivial) ?_;clear hK K;try simp only[Act.put,Zd,Ze,Zf]
       clear eO fY gG cm aI wJ;refine wU (i:=8) mW.out ?_;refine Zo (by kernel_rfl) ?_ _;refine NoPanic.normal ?_;go_wp2_with fail
       go_roundw
       case rel=>exact⟨q+1,g5,c5,(((d1++[0,0])++nm)++[0]),by omega,by go_num,by simp only[List.length_append,List.length_cons,List.length_nil]; congr 1; omega,gR.out.weaken nH,by simp; omega,by simp; have:=df.out.2; omega,eL.out.trans (mW.out.mono nH),lC.out⟩
       case measure=>simp[intOf]; omega
      case second56 =>
       go_simp;have fL:=Zg (gY.out.alloc (gw.out _ gY.out) (.cells #[.int .u8 0] 5));have lg:=Zg (j8.out.alloc (.cells #[.int .u8 0] 5));have wF:=Zg (Zj5 x2);have dY:=Zg (show x2.heap.size<(x2.alloc (.cells #[.int .u8 0] 5)).heap.size/\x2.heap.size≠g2 from⟨by simp,fun e=>by have:=j8.out.lt; omega⟩);refine hK.out _ _ fL.out (fun _=>trivial) ?_;clear hK K;try simp only[Act.put,Zd,Ze,Zf]
       generalize x2.alloc (.cells #[.int .u8 0] 5)=x3 at *;generalize x2.heap.size=p3 at *;clear gY j8;refine wO (i:=5) (fun K hK=> ?_);refine YM rfl (.tmp 95) (.tmp 97) 9 rfl (.string (txt nm)) lg.out (show(b'.length+2)=(d1++[0,0]).length from by first|omega|(simp only[List.length_append,List.length_cons,List.length_nil]; omega)) (show nm.length=nm.length from rfl) (Wz nm df.out.1) df.out.1 (by have:=df.out.2; omega) (gw.out _ fL.out) (by first|rfl|simp[Act.eval]) (by first|rfl|simp[Act.eval]) ?_;intro g4 c4 x4 dj bP j5 tY;have fY:=Zg dj;have eO:=Zg (fL.out.trans bP);have lG:=Zg (WT wF.out j5 dY.out.1 dY.out.2);have lH:=Zg (show p3<x4.heap.size/\p3≠g4 from⟨Nat.lt_of_lt_of_le dY.out.1 j5.size,fun e=>by have h1:=dY.out; rcases tY with h|h <;> omega⟩);clear wF dY;have wF:=lG;have dY:=lH;clear lG lH;refine hK.out _ _ eO.out (fun _=>trivial) ?_;clear hK K;try simp only[Act.put,Zd,Ze,Zf]
       clear fL lg dj bP j5 tY;refine wO (i:=7) (fun K hK=> ?_);refine YM rfl (.tmp 98) (.tmp 99) 25 rfl (.slice (some ⟨p3,0,none⟩) 1 1) fY.out (show((b'.length+2)+nm.length)=((d1++[0,0])++nm).length from by first|omega|(simp only[List.length_append,List.length_cons,List.length_nil]; omega)) (show 1=[0].length from rfl) (Wp wF.out) (fun v hv=>by simp at hv; omega) (by have:=df.out.2; omega) (gw.out _ eO.out) (by first|rfl|simp[Act.eval]) (by first|rfl|simp[Act.eval]) ?_;intro g5 c5 x5 gG cm aI wJ;have gR:=Zg gG;have mW:=Zg (eO.out.trans cm);refine hK.out _ _ mW.out (fun _=>trivial) ?_;clear hK K;try simp only[Act.put,Zd,Ze,Zf]
       clear eO fY gG cm aI wJ;refine wU (i:=8) mW.out ?_;refine Zo (by kernel_rfl) ?_ _;refine NoPanic.normal ?_;go_wp2_with fail
       go_roundw
       case rel=>exact⟨q+1,g5,c5,(((d1++[0,0])++nm)++[0]),by omega,by go_num,by simp only[List.length_append,List.length_cons,List.length_nil]; congr 1; omega,gR.out.weaken nH,by simp; omega,by simp; have:=df.out.2; omega,eL.out.trans (mW.out.mono nH),lC.out⟩
       case measure=>simp[intOf]; omega
     case second26 =>
      go_simp;have gY:=Zg (fG.out.alloc (gw.out _ fG.out) (.cells #[.int .u8 0] 5));have j8:=Zg (fg.out.alloc (.cells #[.int .u8 0] 5));have ka:=Zg (Zj5 x1);have bM:=Zg (show x1.heap.size<(x1.alloc (.cells #[.int .u8 0] 5)).heap.size/\x1.heap.size≠g1 from⟨by simp,fun e=>by have:=fg.out.lt; omega⟩);have ql:=Zg (SlB.below gM.out ((Below.refl x1.heap.size x1).alloc (Nat.le_refl _) (.cells #[.int .u8 0] 5)));have qm:=Zg (show p1<(x1.alloc (.cells #[.int .u8 0] 5)).heap.size/\p1≠g1 from⟨Nat.lt_of_lt_of_le aO.out.1 (by simp),aO.out.2⟩);clear gM aO;have gM:=ql;have aO:=qm;clear ql qm;refine hK.out _ _ gY.out (fun _=>trivial) ?_;clear hK K;try simp only[Act.put,Zd,Ze,Zf]
      generalize x1.alloc (.cells #[.int .u8 0] 5)=x2 at *;generalize x1.heap.size=p2 at *;clear fG fg;refine wO (i:=2) (fun K hK=> ?_);refine YM rfl (.tmp 93) (.tmp 94) 25 rfl (.slice (some ⟨p1,0,none⟩) 2 2) j8.out (show b'.length=d1.length from by first|omega|(simp only[List.length_append,List.length_cons,List.length_nil]; omega)) (show 2=[0,0].length from rfl) (Wp gM.out) (fun v hv=>by simp at hv; omega) (by have:=df.out.2; omega) (gw.out _ gY.out) (by first|rfl|simp[Act.eval]) (by first|rfl|simp[Act.eval]) ?_;intro g3 c3 x3 j3 bJ eU wI;have lg:=Zg j3;have fL:=Zg (gY.out.trans bJ);have qn:=Zg (WT ka.out eU bM.out.1 bM.out.2);have qo:=Zg (show p2<x3.heap.size/\p2≠g3 from⟨Nat.lt_of_lt_of_le bM.out.1 eU.size,fun e=>by have h1:=bM.out; rcases wI with h|h <;> omega⟩);clear ka bM;have ka:=qn;have bM:=qo;clear qn qo;refine hK.out _ _ fL.out (fun _=>trivial) ?_;clear hK K;try simp only[Act.put,Zd,Ze,Zf]
      clear gY j8 j3 bJ eU wI;refine wO (i:=5) (fun K hK=> ?_);refine YM rfl (.tmp 95) (.tmp 97) 9 rfl (.string (txt nm)) lg.out (show(b'.length+2)=(d1++[0,0]).length from by first|omega|(simp only[List.length_append,List.length_cons,List.length_nil]; omega)) (show nm.length=nm.length from rfl) (Wz nm df.out.1) df.out.1 (by have:=df.out.2; omega) (gw.out _ fL.out) (by first|rfl|simp[Act.eval]) (by first|rfl|simp[Act.eval]) ?_;intro g4 c4 x4 dj bP j5 tY;have fY:=Zg dj;have eO:=Zg (fL.out.trans bP);have lG:=Zg (WT ka.out j5 bM.out.1 bM.out.2);have lH:=Zg (show p2<x4.heap.size/\p2≠g4 from⟨Nat.lt_of_lt_of_le bM.out.1 j5.size,fun e=>by have h1:=bM.out; rcases tY with h|h <;> omega⟩);clear ka bM;have ka:=lG;have bM:=lH;clear lG lH;refine hK.out _ _ eO.out (fun _=>trivial) ?_;clear hK K;try simp only[Act.put,Zd,Ze,Zf]
      clear fL lg dj bP j5 tY;refine wO (i:=7) (fun K hK=> ?_);refine YM rfl (.tmp 98) (.tmp 99) 25 rfl (.slice (some ⟨p2,0,none⟩) 1 1) fY.out (show((b'.length+2)+nm.length)=((d1++[0,0])++nm).length from by first|omega|(simp only[List.length_append,List.length_cons,List.length_nil]; omega)) (show 1=[0].length from rfl) (Wp ka.out) (fun v hv=>by simp at hv; omega) (by have:=df.out.2; omega) (gw.out _ eO.out) (by first|rfl|simp[Act.eval]) (by first|rfl|simp[Act.eval]) ?_;intro g5 c5 x5 gG cm aI wJ;have gR:=Zg gG;have mW:=Zg (eO.out.trans cm);refine hK.out _ _ mW.out (fun _=>trivial) ?_;clear hK K;try simp only[Act.put,Zd,Ze,Zf]
      clear eO fY gG cm aI wJ;refine wU (i:=8) mW.out ?_;refine Zo (by kernel_rfl) ?_ _;refine NoPanic.normal ?_;go_wp2_with fail
      go_roundw
      case rel=>exact⟨q+1,g5,c5,(((d1++[0,0])++nm)++[0]),by omega,by go_num,by simp only[List.length_append,List.length_cons,List.length_nil]; congr 1; omega,gR.out.weaken nH,by simp; omega,by simp; have:=df.out.2; omega,eL.out.trans (mW.out.mono nH),lC.out⟩
      case measure=>simp[intOf]; omega
    case second16 =>
     go_simp;have fG:=Zg (qY.out.alloc (gw.out _ qY.out) (.cells #[.int .u8 0] 5));have fg:=Zg (dU.out.alloc (.cells #[.int .u8 0] 5));have gM:=Zg (Zj5 y0);have aO:=Zg (show y0.heap.size<(y0.alloc (.cells #[.int .u8 0] 5)).heap.size/\y0.heap.size≠g1 from⟨by simp,fun e=>by have:=dU.out.lt; omega⟩);refine hK.out _ _ fG.out (fun _=>trivial) ?_;clear hK K;try simp only[Act.put,Zd,Ze,Zf]
     generalize y0.alloc (.cells #[.int .u8 0] 5)=x1 at *;generalize y0.heap.size=p1 at *;clear qY dU;refine wO (i:=1) (fun K hK=> ?_);go_simp;have gY:=Zg (fG.out.alloc (gw.out _ fG.out) (.cells #[.int .u8 0,.int .u8 0] 5));have j8:=Zg (fg.out.alloc (.cells #[.int .u8 0,.int .u8 0] 5));have ka:=Zg (zero2 x1);have bM:=Zg (show x1.heap.size<(x1.alloc (.cells #[.int .u8 0,.int .u8 0] 5)).heap.size/\x1.heap.size≠g1 from⟨by simp,fun e=>by have:=fg.out.lt; omega⟩);have ql:=Zg (SlB.below gM.out ((Below.refl x1.heap.size x1).alloc (Nat.le_refl _) (.cells #[.int .u8 0,.int .u8 0] 5)));have qm:=Zg (show p1<(x1.alloc (.cells #[.int .u8 0,.int .u8 0] 5)).heap.size/\p1≠g1 from⟨Nat.lt_of_lt_of_le aO.out.1 (by simp),aO.out.2⟩);clear gM aO;have gM:=ql;have aO:=qm;clear ql qm;refine hK.out _ _ gY.out (fun _=>trivial) ?_;clear hK K;try simp only[Act.put,Zd,Ze,Zf]
     generalize x1.alloc (.cells #[.int .u8 0,.int .u8 0] 5)=x2 at *;generalize x1.heap.size=p2 at *;clear fG fg;refine wO (i:=2) (fun K hK=> ?_);refine YM rfl (.tmp 93) (.tmp 94) 25 rfl (.slice (some ⟨p2,0,none⟩) 2 2) j8.out (show b'.length=d1.length from by first|omega|(simp only[List.length_append,List.length_cons,List.length_nil]; omega)) (show 2=[0,0].length from rfl) (Wp ka.out) (fun v hv=>by simp at hv; omega) (by have:=df.out.2; omega) (gw.out _ gY.out) (by first|rfl|simp[Act.eval]) (by first|rfl|simp[Act.eval]) ?_;intro g3 c3 x3 j3 bJ eU wI;have lg:=Zg j3;have fL:=Zg (gY.out.trans bJ);have qn:=Zg (WT gM.out eU aO.out.1 aO.out.2);have qo:=Zg (show p1<x3.heap.size/\p1≠g3 from⟨Nat.lt_of_lt_of_le aO.out.1 eU.size,fun e=>by have h1:=aO.out; rcases wI with h|h <;> omega⟩);clear gM aO;have gM:=qn;have aO:=qo;clear qn qo;refine hK.out _ _ fL.out (fun _=>trivial) ?_;clear hK K;try simp only[Act.put,Zd,Ze,Zf]
     clear gY j8 j3 bJ eU wI;refine wO (i:=5) (fun K hK=> ?_);refine YM rfl (.tmp 95) (.tmp 97) 9 rfl (.string (txt nm)) lg.out (show(b'.length+2)=(d1++[0,0]).length from by first|omega|(simp only[List.length_append,List.length_cons,List.length_nil]; omega)) (show nm.length=nm.length from rfl) (Wz nm df.out.1) df.out.1 (by have:=df.out.2; omega) (gw.out _ fL.out) (by first|rfl|simp[Act.eval]) (by first|rfl|simp[Act.eval]) ?_;intro g4 c4 x4 dj bP j5 tY;have fY:=Zg dj;have eO:=Zg (fL.out.trans bP);have lG:=Zg (WT gM.out j5 aO.out.1 aO.out.2);have lH:=Zg (show p1<x4.heap.size/\p1≠g4 from⟨Nat.lt_of_lt_of_le aO.out.1 j5.size,fun e=>by have h1:=aO.out; rcases tY with h|h <;> omega⟩);clear gM aO;have gM:=lG;have aO:=lH;clear lG lH;refine hK.out _ _ eO.out (fun _=>trivial) ?_;clear hK K;try simp only[Act.put,Zd,Ze,Zf]
     clear fL lg dj bP j5 tY;refine wO (i:=7) (fun K hK=> ?_);refine YM rfl (.tmp 98) (.tmp 99) 25 rfl (.slice (some ⟨p1,0,none⟩) 1 1) fY.out (show((b'.length+2)+nm.length)=((d1++[0,0])++nm).length from by first|omega|(simp only[List.length_append,List.length_cons,List.length_nil]; omega)) (show 1=[0].length from rfl) (Wp gM.out) (fun v hv=>by simp at hv; omega) (by have:=df.out.2; omega) (gw.out _ eO.out) (by first|rfl|simp[Act.eval]) (by first|rfl|simp[Act.eval]) ?_;intro g5 c5 x5 gG cm aI wJ;have gR:=Zg gG;have mW:=Zg (eO.out.trans cm);refine hK.out _ _ mW.out (fun _=>trivial) ?_;clear hK K;try simp only[Act.put,Zd,Ze,Zf]
     clear eO fY gG cm aI wJ;refine wU (i:=8) mW.out ?_;refine Zo (by kernel_rfl) ?_ _;refine NoPanic.normal ?_;go_wp2_with fail
     go_roundw
     case rel=>exact⟨q+1,g5,c5,(((d1++[0,0])++nm)++[0]),by omega,by go_num,by simp only[List.length_append,List.length_cons,List.length_nil]; congr 1; omega,gR.out.weaken nH,by simp; omega,by simp; have:=df.out.2; omega,eL.out.trans (mW.out.mono nH),lC.out⟩
     case measure=>simp[intOf]; omega
   ·have bU:=nV.out;rw[if_pos rfl] at bU;have Ck:bits .and .i64 oi 65535=((od % 65536:Nat):Int):=by have:=mA.out; rw[Dt]; omega
    obtain⟨x,hx⟩: ∃ x,od % 65536=x:=⟨_,rfl⟩;rw[hx] at Ck bU;have rI:x<65536:=by omega
    obtain⟨y1,gN⟩: ∃ y:Int,(x:Int) - 4611686018427387904=y:=⟨_,rfl⟩;obtain⟨y2,jR⟩: ∃ y:Int,y1 - 4611686018427387904=y:=⟨_,rfl⟩;have P9:IntKind.i64.wrap y1=y1:=by rw[IntKind.wrap_i64]; omega
    have Q6:IntKind.i64.wrap y2=y2:=by rw[IntKind.wrap_i64]; omega
    have wu:IntKind.u64.wrap y2=((x+9223372036854775808:Nat):Int):=by rw[IntKind.wrap_u64]; omega
    have dP:=Zp (b:=b') (o:=o) (n:=8) iv (x+9223372036854775808);have hp:=Yr (some ⟨g,0,none⟩) c b' o 8 y2 (x+9223372036854775808) w1 cW.out.lb (by omega) cW.out.slB (by omega) (by omega) iv wu (by omega);obtain⟨d1,hd1⟩: ∃ z,ZW b' o 8 (x+9223372036854775808)=z:=⟨_,rfl⟩;rw[hd1] at hp dP bU;have lC:=Zg bU;have HP:=Zg hp;clear hp hd1 bU nV hx wu;go_wp2_with fail
    refine HP.out.mono ?_;rintro e x0 ⟨g1,c1,rfl,ho,hw⟩;have eL:=Zg (av.out.trans (hw.mono av.out.size));have dU:=Zg (ho.weaken av.out.size);clear ho hw;go_wp2_with fail
    go_roundw
    case rel=>exact⟨q+1,g1,c1,d1,by omega,by go_num,by rw[dP],dU.out,by omega,by omega,eL.out,lC.out⟩
    case measure=>simp[intOf]; omega
  ·obtain rfl:q=k:=by omega
   have bU:=aj.out;rw[List.drop_eq_nil_of_le (by rw[List.length_take]; omega)] at bU;have iJ:b'=B2:=bU;subst iJ;go_wp2_with fail
   refine HK.out _ _ g c ⟨rfl,rfl,rfl⟩ HO.out HB.out
theorem Zmg (i ak th iat nm g0 c0:Nat) (b0 B2:List Nat) (v0 v1 v7 v8:Value) (w x0:World) (br:ak+32<=b0.length) (gd:b0.length<=900000) (AO:th<4294967296) (x9:iat<4294967296) (oV:nm<4294967296) (hi:i<=1000)
 (ft:Hid (YG x0 w.heap.size g0 c0 b0)) (au:Hid (Below w.heap.size w x0)) (aj:Hid (ZW (ZW (ZW (ZW (ZW (ZW b0 ak 4 1) (ak+4) 4 nm) (ak+8) 4 8) (ak+12) 4 iat) (ak+16) 4 th) (ak+28) 4 (9+i)=B2)) (Q:Exit->Act->World->Prop) (a:Act)
 (ha:Has 175 [0,1,2,7,8,9,10,11,13,14,17] [v0,v1,.bool true,v7,v8,.slice (some ⟨g0,0,none⟩) b0.length c0,.int .i64 i,.int .i64 ak,.int .i64 th,.int .i64 iat,.int .i64 nm] a) (hK: ∀ a' w' g' c',Has 175 [0,1,2,7,8,9,10] [v0,v1,.bool true,v7,v8,.slice (some ⟨g',0,none⟩) B2.length c',.int .i64 i] a'->YG w' w.heap.size g' c' B2->Below w.heap.size w w'->Q (.exit 1) a' w'):(Yc 7 XA).wp Tryz.prog Q a x0:=by
 obtain⟨u,rfl⟩:=Yt ha;simp only[YH,Xi,Zf,Ze];clear ha;have HK:=Zg hK;clear hK;have aa:=aj.out;obtain⟨o4,dj⟩: ∃ q,ak+4=q:=⟨_,rfl⟩;have um:(ak:Int)+4=(o4:Int):=by omega
 have bP:o4+4<=b0.length:=by omega
 obtain⟨o8,fe⟩: ∃ q,ak+8=q:=⟨_,rfl⟩;have Bw:(ak:Int)+8=(o8:Int):=by omega
 have j1:o8+4<=b0.length:=by omega
 obtain⟨dh,dR⟩: ∃ q,ak+12=q:=⟨_,rfl⟩;have n6:(ak:Int)+12=(dh:Int):=by omega
 have qq:dh+4<=b0.length:=by omega
 obtain⟨cg,cq⟩: ∃ q,ak+16=q:=⟨_,rfl⟩;have kx:(ak:Int)+16=(cg:Int):=by omega
 have qs:cg+4<=b0.length:=by omega
 obtain⟨eG,eY⟩: ∃ q,ak+28=q:=⟨_,rfl⟩;have ru:(ak:Int)+28=(eG:Int):=by omega
 have FN:eG+4<=b0.length:=by omega
 obtain⟨i9,Ka⟩: ∃ q,9+i=q:=⟨_,rfl⟩;have Q7:(9:Int)+(i:Int)=(i9:Int):=by omega
 have Nr:i9<4294967296:=by omega
 rw[dj,fe,dR,cq,eY,Ka] at aa;clear dj fe dR cq eY Ka aj;obtain⟨L,hL⟩: ∃ L,b0.length=L:=⟨_,rfl⟩;rw[hL] at br gd bP j1 qq qs FN;conv=>arg 2; whnf
 rw[hL];have dP:=Zp (b:=b0) (o:=ak) (n:=4) (by omega) 1;obtain⟨b1,hd1⟩: ∃ q,ZW b0 ak 4 1=q:=⟨_,rfl⟩;have hp:=Yr (some ⟨g0,0,none⟩) c0 b0 ak 4 (1:Nat) 1 x0 ft.out.lb (by omega) ft.out.slB (by omega) (by omega) (by omega) (ZZ (by omega)) (by omega);rw[hd1] at hp dP aa;rw[hL] at hp;have HP:=Zg hp;have bk:=Zg aa;have HL:=Zg hL;have aO:=Zg dP;clear hp hd1 aa hL dP;go_wp2_with fail
 refine HP.out.mono ?_;rintro e x1 ⟨g1,c1,rfl,ho,hw⟩;have cW:=Zg (ho.weaken au.out.size);have av:=Zg (au.out.trans (hw.mono au.out.size));have aa:=bk.out;have hL:b1.length=L:=by rw[aO.out]; exact HL.out
 clear ho hw HP bk HL aO;have fw:=Zp (b:=b1) (o:=o4) (n:=4) (by omega) nm;obtain⟨b2,kj⟩: ∃ q,ZW b1 o4 4 nm=q:=⟨_,rfl⟩;have hp:=Yr (some ⟨g1,0,none⟩) c1 b1 o4 4 (nm:Nat) nm x1 cW.out.lb (by omega) cW.out.slB (by omega) (by omega) (by omega) (ZZ (by omega)) (by omega);rw[kj] at hp fw aa;rw[hL] at hp;have HP:=Zg hp;have bk:=Zg aa;have HL:=Zg hL;have aO:=Zg fw;clear hp kj aa hL fw;go_wp2_with fail
 refine HP.out.mono ?_;rintro e x2 ⟨g2,c2,rfl,ho,hw⟩;have bQ:=Zg (ho.weaken av.out.size);have aj:=Zg (av.out.trans (hw.mono av.out.size));have aa:=bk.out;have hL:b2.length=L:=by rw[aO.out]; exact HL.out
 clear ho hw HP bk HL aO;have gl:=Zp (b:=b2) (o:=o8) (n:=4) (by omega) 8;obtain⟨b3,pc⟩: ∃ q,ZW b2 o8 4 8=q:=⟨_,rfl⟩;have hp:=Yr (some ⟨g2,0,none⟩) c2 b2 o8 4 (8:Nat) 8 x2 bQ.out.lb (by omega) bQ.out.slB (by omega) (by omega) (by omega) (ZZ (by omega)) (by omega);rw[pc] at hp gl aa;rw[hL] at hp;have HP:=Zg hp;have bk:=Zg aa;have HL:=Zg hL;have aO:=Zg gl;clear hp pc aa hL gl;go_wp2_with fail
 refine HP.out.mono ?_;rintro e x3 ⟨g3,c3,rfl,ho,hw⟩;have cT:=Zg (ho.weaken aj.out.size);have aN:=Zg (aj.out.trans (hw.mono aj.out.size));have aa:=bk.out;have hL:b3.length=L:=by rw[aO.out]; exact HL.out
 clear ho hw HP bk HL aO;have iZ:=Zp (b:=b3) (o:=dh) (n:=4) (by omega) iat;obtain⟨b4,tZ⟩: ∃ q,ZW b3 dh 4 iat=q:=⟨_,rfl⟩;have hp:=Yr (some ⟨g3,0,none⟩) c3 b3 dh 4 (iat:Nat) iat x3 cT.out.lb (by omega) cT.out.slB (by omega) (by omega) (by omega) (ZZ (by omega)) (by omega);rw[tZ] at hp iZ aa;rw[hL] at hp;have HP:=Zg hp;have bk:=Zg aa;have HL:=Zg hL;have aO:=Zg iZ;clear hp tZ aa hL iZ;go_wp2_with fail
 refine HP.out.mono ?_;rintro e x4 ⟨g4,c4,rfl,ho,hw⟩;have bV:=Zg (ho.weaken aN.out.size);have bH:=Zg (aN.out.trans (hw.mono aN.out.size));have aa:=bk.out;have hL:b4.length=L:=by rw[aO.out]; exact HL.out
 clear ho hw HP bk HL aO;have nO:=Zp (b:=b4) (o:=cg) (n:=4) (by omega) th;obtain⟨b5,AQ⟩: ∃ q,ZW b4 cg 4 th=q:=⟨_,rfl⟩;have hp:=Yr (some ⟨g4,0,none⟩) c4 b4 cg 4 (th:Nat) th x4 bV.out.lb (by omega) bV.out.slB (by omega) (by omega) (by omega) (ZZ (by omega)) (by omega);rw[AQ] at hp nO aa;rw[hL] at hp;have HP:=Zg hp;have bk:=Zg aa;have HL:=Zg hL;have aO:=Zg nO;clear hp AQ aa hL nO;go_wp2_with fail
 refine HP.out.mono ?_;rintro e x5 ⟨g5,c5,rfl,ho,hw⟩;have cx:=Zg (ho.weaken bH.out.size);have bp:=Zg (bH.out.trans (hw.mono bH.out.size));have aa:=bk.out;have hL:b5.length=L:=by rw[aO.out]; exact HL.out
 clear ho hw HP bk HL aO;have oY:=Zp (b:=b5) (o:=eG) (n:=4) (by omega) i9;obtain⟨b6,Kb⟩: ∃ q,ZW b5 eG 4 i9=q:=⟨_,rfl⟩;have hp:=Yr (some ⟨g5,0,none⟩) c5 b5 eG 4 (i9:Nat) i9 x5 cx.out.lb (by omega) cx.out.slB (by omega) (by omega) (by omega) (ZZ (by omega)) (by omega);rw[Kb] at hp oY aa;rw[hL] at hp;have HP:=Zg hp;have bk:=Zg aa;have HL:=Zg hL;have aO:=Zg oY;clear hp Kb aa hL oY;go_wp2_with fail
 refine HP.out.mono ?_;rintro e x6 ⟨g6,c6,rfl,ho,hw⟩;have dk:=Zg (ho.weaken bp.out.size);have cU:=Zg (bp.out.trans (hw.mono bp.out.size));have aa:=bk.out;have hL:b6.length=L:=by rw[aO.out]; exact HL.out
 clear ho hw HP bk HL aO;subst aa;have HL:=Zg hL;clear hL;go_wp2_with fail
 refine HK.out _ _ g6 c6 ?_ dk.out cU.out;rw[HL.out];exact⟨rfl,rfl,rfl⟩
theorem and_1 (n:Int):bits .and .i64 n 1=n % 2:=XI n 1 (by omega)
theorem Zmh (i ak k th iat nm g0 c0:Nat) (b0 B2:List Nat) (v0 v1 v7 v8:Value) (w x0:World) (br:ak+32<=b0.length) (gd:b0.length<=900000) (AO:th<4294967296) (x9:iat<4294967296) (oV:nm<4294967296) (hi:i<=1000) (J9:i % 2=0)
 (ft:Hid (YG x0 w.heap.size g0 c0 b0)) (au:Hid (Below w.heap.size w x0)) (aj:Hid (ZW (ZW (ZW (ZW b0 ak 4 th) (ak+4) 4 i) (ak+12) 4 nm) (ak+16) 4 iat=B2)) (Q:Exit->Act->World->Prop) (a:Act)
 (ha:Has 175 [0,1,2,7,8,9,10,11,12,13,14,17] [v0,v1,.bool false,v7,v8,.slice (some ⟨g0,0,none⟩) b0.length c0,.int .i64 i,.int .i64 ak,.int .i64 k,.int .i64 th,.int .i64 iat,.int .i64 nm] a) (hK: ∀ a' w' g' c',Has 175 [0,1,2,7,8,9,10] [v0,v1,.bool false,v7,v8,.slice (some ⟨g',0,none⟩) B2.length c',.int .i64 i] a'->YG w' w.heap.size g' c' B2->Below w.heap.size w w'->Q .normal a' w'):(Yc 7 XA).wp Tryz.prog Q a x0:=by
 obtain⟨u,rfl⟩:=Yt ha;simp only[YH,Xi,Zf,Ze];clear ha;have HK:=Zg hK;clear hK;have aa:=aj.out;obtain⟨o4,dj⟩: ∃ q,ak+4=q:=⟨_,rfl⟩;have um:(ak:Int)+4=(o4:Int):=by omega
 have bP:o4+4<=b0.length:=by omega
 obtain⟨dh,dR⟩: ∃ q,ak+12=q:=⟨_,rfl⟩;have n6:(ak:Int)+12=(dh:Int):=by omega
 have qq:dh+4<=b0.length:=by omega
 obtain⟨cg,cq⟩: ∃ q,ak+16=q:=⟨_,rfl⟩;have kx:(ak:Int)+16=(cg:Int):=by omega
 have qs:cg+4<=b0.length:=by omega
 have hm:bits .and .i64 (i:Int) 1=0:=by rw[and_1]; omega
 rw[dj,dR,cq] at aa;clear dj dR cq aj;obtain⟨L,hL⟩: ∃ L,b0.length=L:=⟨_,rfl⟩;rw[hL] at br gd bP qq qs;conv=>arg 2; whnf
 rw[hL];have dP:=Zp (b:=b0) (o:=ak) (n:=4) (by omega) th;obtain⟨b1,hd1⟩: ∃ q,ZW b0 ak 4 th=q:=⟨_,rfl⟩;have hp:=Yr (some ⟨g0,0,none⟩) c0 b0 ak 4 (th:Nat) th x0 ft.out.lb (by omega) ft.out.slB (by omega) (by omega) (by omega) (ZZ (by omega)) (by omega);rw[hd1] at hp dP aa;rw[hL] at hp;have HP:=Zg hp;have bk:=Zg aa;have HL:=Zg hL;have aO:=Zg dP;clear hp hd1 aa hL dP;go_wp2_with fail
 refine HP.out.mono ?_;rintro e x1 ⟨g1,c1,rfl,ho,hw⟩;have cW:=Zg (ho.weaken au.out.size);have av:=Zg (au.out.trans (hw.mono au.out.size));have aa:=bk.out;have hL:b1.length=L:=by rw[aO.out]; exact HL.out
 clear ho hw HP bk HL aO;have fw:=Zp (b:=b1) (o:=o4) (n:=4) (by omega) i;obtain⟨b2,kj⟩: ∃ q,ZW b1 o4 4 i=q:=⟨_,rfl⟩;have hp:=Yr (some ⟨g1,0,none⟩) c1 b1 o4 4 (i:Nat) i x1 cW.out.lb (by omega) cW.out.slB (by omega) (by omega) (by omega) (ZZ (by omega)) (by omega);rw[kj] at hp fw aa;rw[hL] at hp;have HP:=Zg hp;have bk:=Zg aa;have HL:=Zg hL;have aO:=Zg fw;clear hp kj aa hL fw;go_wp2_with fail
 refine HP.out.mono ?_;rintro e x2 ⟨g2,c2,rfl,ho,hw⟩;have bQ:=Zg (ho.weaken av.out.size);have aj:=Zg (av.out.trans (hw.mono av.out.size));have aa:=bk.out;have hL:b2.length=L:=by rw[aO.out]; exact HL.out
 clear ho hw HP bk HL aO;have gl:=Zp (b:=b2) (o:=dh) (n:=4) (by omega) nm;obtain⟨b3,pc⟩: ∃ q,ZW b2 dh 4 nm=q:=⟨_,rfl⟩;have hp:=Yr (some ⟨g2,0,none⟩) c2 b2 dh 4 (nm:Nat) nm x2 bQ.out.lb (by omega) bQ.out.slB (by omega) (by omega) (by omega) (ZZ (by omega)) (by omega);rw[pc] at hp gl aa;rw[hL] at hp;have HP:=Zg hp;have bk:=Zg aa;have HL:=Zg hL;have aO:=Zg gl;clear hp pc aa hL gl;go_wp2_with fail
 refine HP.out.mono ?_;rintro e x3 ⟨g3,c3,rfl,ho,hw⟩;have cT:=Zg (ho.weaken aj.out.size);have aN:=Zg (aj.out.trans (hw.mono aj.out.size));have aa:=bk.out;have hL:b3.length=L:=by rw[aO.out]; exact HL.out
 clear ho hw HP bk HL aO;have iZ:=Zp (b:=b3) (o:=cg) (n:=4) (by omega) iat;obtain⟨b4,tZ⟩: ∃ q,ZW b3 cg 4 iat=q:=⟨_,rfl⟩;have hp:=Yr (some ⟨g3,0,none⟩) c3 b3 cg 4 (iat:Nat) iat x3 cT.out.lb (by omega) cT.out.slB (by omega) (by omega) (by omega) (ZZ (by omega)) (by omega);rw[tZ] at hp iZ aa;rw[hL] at hp;have HP:=Zg hp;have bk:=Zg aa;have HL:=Zg hL;have aO:=Zg iZ;clear hp tZ aa hL iZ;go_wp2_with fail
 refine HP.out.mono ?_;rintro e x4 ⟨g4,c4,rfl,ho,hw⟩;have bV:=Zg (ho.weaken aN.out.size);have bH:=Zg (aN.out.trans (hw.mono aN.out.size));have aa:=bk.out;have hL:b4.length=L:=by rw[aO.out]; exact HL.out
 clear ho hw HP bk HL aO;subst aa;have HL:=Zg hL;clear hL;go_wp2_with fail
 refine HK.out _ _ g4 c4 ?_ bV.out bH.out;rw[HL.out];exact⟨rfl,rfl,rfl⟩
def cpL (b:List Nat) (iat th m:Nat):List Nat:=b.take iat++((b.drop th).take m++b.drop (iat+m))
theorem Za2 {b:List Nat} {iat th m:Nat} (h1:iat+m<=b.length) (h2:th+m<=b.length):(cpL b iat th m).length=b.length:=by
 simp only[cpL,List.length_append,List.length_take,List.length_drop]; omega
theorem cpL_lb {b:List Nat} (h:Lb b) (iat th m:Nat):Lb (cpL b iat th m):=(h.take _).append (((h.drop _).take _).append (h.drop _))
theorem cpL_at {b:List Nat} {iat th m:Nat} (h1:iat+m<=b.length) (h2:th+m<=b.length) (i:Nat):lF (cpL b iat th m) i=if iat<=i/\i<iat+m then lF b (th+(i - iat)) else lF b i:=by
 have dP:(b.take iat).length=iat:=by rw[List.length_take]; omega
 have fw:((b.drop th).take m).length=m:=by rw[List.length_take,List.length_drop]; omega
 unfold cpL lF;congr 1
 simp only[List.getD_eq_getElem?_getD];by_cases c1:i<iat
 ·rw[if_neg (by omega),List.getElem?_append_left (by omega),List.getElem?_take_of_lt c1]
 ·rw[List.getElem?_append_right (by omega),dP];by_cases c2:i<iat+m
  ·rw[if_pos (by omega),List.getElem?_append_left (by omega),List.getElem?_take_of_lt (by omega),List.getElem?_drop]
  ·rw[if_neg (by omega),List.getElem?_append_right (by omega),fw,List.getElem?_drop,show iat+m+(i - iat - m)=i by omega]
theorem YG.copied {w w':World} {base g cap:Nat} {b:List Nat} (h:YG w base g cap b) {iat th m:Nat} (h1:iat+m<=b.length) (h2:th+m<=b.length) (ho:Own w' g cap (fun q=>if iat<=q/\q<iat+m then Value.int .u8 (lF b (th+(q - iat))) else(w.cell? ⟨g,q,none⟩).getD undef)):YG w' base g cap (cpL b iat th m):=by
 refine⟨h.le,ho.1,fun i hi=> ?_,cpL_lb h.lb _ _ _,by rw[Za2 h1 h2]; exact h.len,h.most,fun j hj=>⟨by rw[(ho.2 j hj).1]; rfl,(ho.2 j hj).2⟩⟩;rw[Za2 h1 h2] at hi;have zT:i<cap:=Nat.lt_of_lt_of_le hi h.len;rw[Nat.zero_add,(ho.2 i zT).1,cpL_at h1 h2 i];show some (if iat<=i/\i<iat+m then Value.int .u8 (lF b (th+(i - iat))) else(w.cell? ⟨g,i,none⟩).getD undef)=some (Value.int .u8 (if iat<=i/\i<iat+m then lF b (th+(i - iat)) else lF b i))
 by_cases c:iat<=i/\i<iat+m
 ·rw[if_pos c,if_pos c]
 ·rw[if_neg c,if_neg c];have:=h.row i hi;rw[Nat.zero_add] at this;rw[this]; rfl
theorem YG.own {w:World} {base g cap:Nat} {b:List Nat} (h:YG w base g cap b):Own w g cap (fun q=>(w.cell? ⟨g,q,none⟩).getD undef) :=
 ⟨h.lt,fun i hi=>⟨by
   obtain⟨x,hx⟩:=Option.isSome_iff_exists.mp (h.wr i hi).1;show w.cell? ⟨g,i,none⟩=some ((w.cell? ⟨g,i,none⟩).getD undef)
   rw[hx]; rfl,(h.wr i hi).2⟩⟩
theorem YG.drewD {w:World} {base g cap:Nat} {b:List Nat} (h:YG w base g cap b):YG w.drew base g cap b:=⟨h.le,h.lt,h.row,h.lb,h.len,h.most,h.wr⟩
theorem Zec {w w':World} {B g:Nat} (hg:w.grownBy w' (some g)) (hB:B<=g) (hs:B<=w.heap.size):Below B w w' :=
 ⟨hg.os,hg.tape,hg.output,hg.size,fun k hk=>hg.block k (by omega) (fun e=>by injection e with e; omega)⟩
theorem Zoo (i ak k th iat nm g0 c0:Nat) (b0 B2:List Nat) (v0 v1 v7 v8:Value) (w x0:World) (br:ak+32<=b0.length) (gd:b0.length<=900000) (AO:th<4294967296) (x9:iat<4294967296) (oV:nm<4294967296) (hi:i<=1000) (mu:iat<b0.length) (n':th<b0.length) (xZ:i % 2=1) (jD:iat+8 * k<=b0.length) (lZ:th+8 * k<=b0.length)
 (ft:Hid (YG x0 w.heap.size g0 c0 b0)) (au:Hid (Below w.heap.size w x0)) (aj:Hid (ZW (cpL (ZW (ZW (ZW (ZW b0 ak 4 th) (ak+4) 4 i) (ak+12) 4 nm) (ak+16) 4 iat) iat th (8 * k)) ak 4 0=B2)) (Q:Exit->Act->World->Prop) (a:Act)
 (ha:Has 175 [0,1,2,7,8,9,10,11,12,13,14,17] [v0,v1,.bool false,v7,v8,.slice (some ⟨g0,0,none⟩) b0.length c0,.int .i64 i,.int .i64 ak,.int .i64 k,.int .i64 th,.int .i64 iat,.int .i64 nm] a) (hK: ∀ a' w' g' c',Has 175 [0,1,2,7,8,9,10] [v0,v1,.bool false,v7,v8,.slice (some ⟨g',0,none⟩) B2.length c',.int .i64 i] a'->YG w' w.heap.size g' c' B2->Below w.heap.size w w'->Q .normal a' w'):(Yc 7 XA).wp Tryz.prog Q a x0:=by
 obtain⟨u,rfl⟩:=Yt ha;simp only[YH,Xi,Zf,Ze];clear ha;have HK:=Zg hK;clear hK;have aa:=aj.out;obtain⟨o4,dj⟩: ∃ q,ak+4=q:=⟨_,rfl⟩;have um:(ak:Int)+4=(o4:Int):=by omega
 have bP:o4+4<=b0.length:=by omega
 obtain⟨dh,dR⟩: ∃ q,ak+12=q:=⟨_,rfl⟩;have n6:(ak:Int)+12=(dh:Int):=by omega
 have qq:dh+4<=b0.length:=by omega
 obtain⟨cg,cq⟩: ∃ q,ak+16=q:=⟨_,rfl⟩;have kx:(ak:Int)+16=(cg:Int):=by omega
 have qs:cg+4<=b0.length:=by omega
 have hm:bits .and .i64 (i:Int) 1=1:=by rw[and_1]; omega
 obtain⟨k8,AU⟩: ∃ q,8 * k=q:=⟨_,rfl⟩;have Ns:(8:Int) * (k:Int)=(k8:Int):=by omega
 rw[AU] at jD lZ aa;obtain⟨e1,eQ⟩: ∃ q,iat+k8=q:=⟨_,rfl⟩;obtain⟨e2,fP⟩: ∃ q,th+k8=q:=⟨_,rfl⟩;have Nt:(iat:Int)+(k8:Int)=(e1:Int):=by omega
 have Q8:(th:Int)+(k8:Int)=(e2:Int):=by omega
 have Hf:(iat:Int)<=(e1:Int):=by omega
 have qL:(th:Int)<=(e2:Int):=by omega
 have Nu:e1<=b0.length:=by omega
 have Nv:e2<=b0.length:=by omega
 rw[dj,dR,cq] at aa;clear dj dR cq aj;obtain⟨L,hL⟩: ∃ L,b0.length=L:=⟨_,rfl⟩;rw[hL] at br gd bP qq qs Nu Nv jD lZ mu n';conv=>arg 2; whnf
 rw[hL];have dP:=Zp (b:=b0) (o:=ak) (n:=4) (by omega) th;obtain⟨b1,hd1⟩: ∃ q,ZW b0 ak 4 th=q:=⟨_,rfl⟩;have hp:=Yr (some ⟨g0,0,none⟩) c0 b0 ak 4 (th:Nat) th x0 ft.out.lb (by omega) ft.out.slB (by omega) (by omega) (by omega) (ZZ (by omega)) (by omega);rw[hd1] at hp dP aa;rw[hL] at hp;have HP:=Zg hp;have bk:=Zg aa;have HL:=Zg hL;have aO:=Zg dP;clear hp hd1 aa hL dP;go_wp2_with fail
 refine HP.out.mono ?_;rintro e x1 ⟨g1,c1,rfl,ho,hw⟩;have cW:=Zg (ho.weaken au.out.size);have av:=Zg (au.out.trans (hw.mono au.out.size));have aa:=bk.out;have hL:b1.length=L:=by rw[aO.out]; exact HL.out
 clear ho hw HP bk HL aO;have fw:=Zp (b:=b1) (o:=o4) (n:=4) (by omega) i;obtain⟨b2,kj⟩: ∃ q,ZW b1 o4 4 i=q:=⟨_,rfl⟩;have hp:=Yr (some ⟨g1,0,none⟩) c1 b1 o4 4 (i:Nat) i x1 cW.out.lb (by omega) cW.out.slB (by omega) (by omega) (by omega) (ZZ (by omega)) (by omega);rw[kj] at hp fw aa;rw[hL] at hp;have HP:=Zg hp;have bk:=Zg aa;have HL:=Zg hL;have aO:=Zg fw;clear hp kj aa hL fw;go_wp2_with fail
 refine HP.out.mono ?_;rintro e x2 ⟨g2,c2,rfl,ho,hw⟩;have bQ:=Zg (ho.weaken av.out.size);have aj:=Zg (av.out.trans (hw.mono av.out.size));have aa:=bk.out;have hL:b2.length=L:=by rw[aO.out]; exact HL.out
 clear ho hw HP bk HL aO;have gl:=Zp (b:=b2) (o:=dh) (n:=4) (by omega) nm;obtain⟨b3,pc⟩: ∃ q,ZW b2 dh 4 nm=q:=⟨_,rfl⟩;have hp:=Yr (some ⟨g2,0,none⟩) c2 b2 dh 4 (nm:Nat) nm x2 bQ.out.lb (by omega) bQ.out.slB (by omega) (by omega) (by omega) (ZZ (by omega)) (by omega);rw[pc] at hp gl aa;rw[hL] at hp;have HP:=Zg hp;have bk:=Zg aa;have HL:=Zg hL;have aO:=Zg gl;clear hp pc aa hL gl;go_wp2_with fail
 refine HP.out.mono ?_;rintro e x3 ⟨g3,c3,rfl,ho,hw⟩;have cT:=Zg (ho.weaken aj.out.size);have aN:=Zg (aj.out.trans (hw.mono aj.out.size));have aa:=bk.out;have hL:b3.length=L:=by rw[aO.out]; exact HL.out
 clear ho hw HP bk HL aO;have iZ:=Zp (b:=b3) (o:=cg) (n:=4) (by omega) iat;obtain⟨b4,tZ⟩: ∃ q,ZW b3 cg 4 iat=q:=⟨_,rfl⟩;have hp:=Yr (some ⟨g3,0,none⟩) c3 b3 cg 4 (iat:Nat) iat x3 cT.out.lb (by omega) cT.out.slB (by omega) (by omega) (by omega) (ZZ (by omega)) (by omega);rw[tZ] at hp iZ aa;rw[hL] at hp;have HP:=Zg hp;have bk:=Zg aa;have HL:=Zg hL;have aO:=Zg iZ;clear hp tZ aa hL iZ;go_wp2_with fail
 refine HP.out.mono ?_;rintro e x4 ⟨g4,c4,rfl,ho,hw⟩;have bV:=Zg (ho.weaken aN.out.size);have bH:=Zg (aN.out.trans (hw.mono aN.out.size));have aa:=bk.out;have hL:b4.length=L:=by rw[aO.out]; exact HL.out
 clear ho hw HP bk HL aO;have Nw:=hL;have rl:L<=c4:=by rw[<-hL]; exact bV.out.len
 have Q9:=bV.out.most;have HL:=Zg hL;have bk:=Zg aa;clear hL Nw aa;have Nx:IntKind.i64.wrap (k8:Int)=(k8:Int):=by rw[IntKind.wrap_i64]; omega
 have Ny:IntKind.i64.wrap (e1:Int)=(e1:Int):=by rw[IntKind.wrap_i64]; omega
 have Ra:IntKind.i64.wrap (e2:Int)=(e2:Int):=by rw[IntKind.wrap_i64]; omega
 have q1:e1<=c4:=by omega
 have q2:e2<=c4:=by omega
 have q3:iat<=e1:=by omega
 have q4:th<=e2:=by omega
 have q7:e1 - iat=k8:=by omega
 have q8:e2 - th=k8:=by omega
 have q5: ¬ c4=iat:=by omega
 have q6: ¬ c4=th:=by omega
 go_upto_region 28 with(fail)
 have HS:=Zg True.intro;refine wp_region_noPanic ?_;refine Zt (fun _=>True) (fun _=>True) 99 (by kernel_rfl) ?_;refine wU (i:=0) HS.out ?_;refine wU (i:=1) HS.out ?_;refine wU (i:=2) HS.out ?_;refine wU (i:=3) HS.out ?_;refine wU (i:=4) HS.out ?_;refine wU (i:=5) HS.out ?_;refine wU (i:=6) HS.out ?_;refine wU (i:=7) HS.out ?_;refine wU (i:=8) HS.out ?_;refine wU (i:=9) HS.out ?_;refine wU (i:=10) HS.out ?_;refine wU (i:=11) HS.out ?_;refine wU (i:=12) HS.out ?_;refine wU (i:=13) HS.out ?_;refine wO (i:=14) (fun K hK=> ?_);refine Zah rfl (.tmp 162) (.tmp 169) 25 25 rfl 5 rfl (by kernel_rfl) g4 iat k8 (c4 - iat) g4 th k8 (c4 - th) rfl rfl k8 c4 _ (fun j=> .int .u8 (lF b4 (th+j))) (by unfold Nat.min; simp) (YG.own bV.out.drewD) (by omega) (fun j hj=> ?_) (fun j=>rfl) (fun w' hg ae=> ?_)
 ·have hh:=bV.out.drewD.row (th+j) (by rw[HL.out]; omega);rw[Nat.zero_add] at hh;exact hh
 have cx:=Zg (YG.copied bV.out.drewD (by rw[HL.out]; omega) (by rw[HL.out]; omega) ae);have bp:=Zg (bH.out.drew.trans (Zec hg bV.out.le bH.out.drew.size));clear hg ae;have aF:=Zg True.intro;refine hK.out _ _ aF.out (fun _=>trivial) ?_;clear hK K;try simp only[Act.put,Zd,Ze,Zf]
 refine Zo (by kernel_rfl) ?_ _;refine NoPanic.normal ?_;have aa:=bk.out;have FO:(cpL b4 iat th k8).length=L:=by rw[Za2 (by rw[HL.out]; omega) (by rw[HL.out]; omega)]; exact HL.out
 have wG:=cx;clear cx;obtain⟨b5,AQ⟩: ∃ q,cpL b4 iat th k8=q:=⟨_,rfl⟩;rw[AQ] at aa FO wG;clear AQ;have oY:=Zp (b:=b5) (o:=ak) (n:=4) (by omega) 0;have hp:=Yr (some ⟨g4,0,none⟩) c4 b5 ak 4 0 0 w' wG.out.lb (by omega) wG.out.slB (by omega) (by omega) (by omega) (ZZ (v:=0) (by omega)) (by omega);rw[aa] at hp oY;rw[FO] at hp oY;have HP:=Zg hp;have EF:=Zg oY;clear hp aa oY FO bk HS aF;go_wp2_with fail
 refine HP.out.mono ?_;rintro e x6 ⟨g6,c6,rfl,ho,hw⟩;have dk:=Zg (ho.weaken bp.out.size);have cU:=Zg (bp.out.trans (hw.mono bp.out.size));clear ho hw HP;go_wp2_with fail
 refine HK.out _ _ g6 c6 ?_ dk.out cU.out;rw[EF.out];exact⟨rfl,rfl,rfl⟩
theorem Zed {th q:Nat} {b:List Nat} {s:XV} (h:th+8 * q+8<=b.length) (hs:s.1.length<=100):b.length<=(WS th q b s).length/\(WS th q b s).length<=b.length+103:=by
 unfold WS;split
 ·rw[Zp h]; omega
 ·simp only[List.length_append,Zp h,List.length_cons,List.length_nil]; omega
theorem Za3 {th:Nat}: ∀(l:List XV) (q:Nat) (b:List Nat),th+8 * (q+l.length)<=b.length->(∀ s∈l,s.1.length<=100)->b.length<=(Zj2 th l q b).length/\(Zj2 th l q b).length<=b.length+103 * l.length
 | [],_,b,_,_=>⟨Nat.le_refl _,Nat.le_add_right _ _⟩
 | s::r,q,b,h,hs=>by
   rw[List.length_cons] at h;have h1:=Zed (th:=th) (q:=q) (b:=b) (s:=s) (by omega) (hs s List.mem_cons_self);have h2:=Za3 (th:=th) r (q+1) (WS th q b s) (by omega) (fun x hx=>hs x (List.mem_cons_of_mem _ hx));show b.length<=(Zj2 th r (q+1) (WS th q b s)).length/\(Zj2 th r (q+1) (WS th q b s)).length<=b.length+103 * (s::r).length
   rw[List.length_cons];omega
theorem Zj6 (start D bl dM ll lc i g c:Nat) (delay:Bool) (A:Option Addr) (sc:Nat) (ss:List XV) (dll:List Nat) (b B2:List Nat) (v8:Value) (w x0:World) (hD:D=Zfx delay) (mJ:i<ll) (hi:i<=18) (gd:b.length<=400000) (aQ:start+D * i+32<=b.length)
 (bg:Hid (∀ W,Below w.heap.size w W->W.cell? ⟨bl,dM+i * 2,none⟩=some (.string (txt dll))/\W.cell? ⟨bl,dM+i * 2+1,none⟩=some (.slice A ss.length sc)/\SymW W A ss)) (l8:Hid (∀ s∈ss,Lb s.1/\s.1.length<=100)) (tR:Hid (Lb dll/\dll.length<=100)) (dE:ss.length<=100000)
 (HO:Hid (YG x0 w.heap.size g c b)) (HB:Hid (Below w.heap.size w x0)) (aj:Hid (Wi delay (start+D * i) i b ⟨dll,ss⟩=B2)) (Q:Exit->Act->World->Prop) (a:Act)
 (ha:Has 175 [0,1,2,7,8,9,10] [.int .i64 start,.slice (some ⟨bl,dM,none⟩) ll lc,.bool delay,.int .i64 D,v8,.slice (some ⟨g,0,none⟩) b.length c,.int .i64 i] a) (hK: ∀ a' w' g' c',Has 175 [0,1,2,7,8,9,10] [.int .i64 start,.slice (some ⟨bl,dM,none⟩) ll lc,.bool delay,.int .i64 D,v8,.slice (some ⟨g',0,none⟩) B2.length c',.int .i64 i] a'->YG w' w.heap.size g' c' B2->Below w.heap.size w w'->Q (if delay=true then .exit 1 else .normal) a' w'):XA.wp Tryz.prog Q a x0:=by
 obtain⟨u,rfl⟩:=Yt ha;simp only[YH,Xi,Zf,Ze];clear ha;have HK:=Zg hK;clear hK;obtain⟨m,hm⟩: ∃ q,D * i=q:=⟨_,rfl⟩;have em:(D:Int) * (i:Int)=(m:Int):=by rw[<-hm,Int.natCast_mul]
 have aC:=aj.out;rw[hm] at aQ aC;obtain⟨ak,br⟩: ∃ q,start+m=q:=⟨_,rfl⟩;have Rb:(start:Int)+(m:Int)=(ak:Int):=by omega
 rw[br] at aQ aC;obtain⟨k,hk⟩: ∃ q,min ss.length 70=q:=⟨_,rfl⟩;have ek:min (ss.length:Int) 70=(k:Int):=by omega
 obtain⟨L,hL⟩: ∃ q,b.length=q:=⟨_,rfl⟩;rw[hL] at aQ gd;rw[hL];obtain⟨k8,AU⟩: ∃ q,8 * k=q:=⟨_,rfl⟩;have Ns:(8:Int) * (k:Int)=(k8:Int):=by omega
 obtain⟨k16,nZ⟩: ∃ q,16 * k=q:=⟨_,rfl⟩;have Nz:(16:Int) * (k:Int)=(k16:Int):=by omega
 obtain⟨z,hz⟩: ∃ q,k16+16=q:=⟨_,rfl⟩;have ez:(k16:Int)+16=(z:Int):=by omega
 obtain⟨e1,eQ⟩: ∃ q,L+k8=q:=⟨_,rfl⟩;have Nt:(L:Int)+(k8:Int)=(e1:Int):=by omega
 obtain⟨iat,x9⟩: ∃ q,e1+8=q:=⟨_,rfl⟩;have Rc:(e1:Int)+8=(iat:Int):=by omega
 have wm:IntKind.i64.wrap (m:Int)=(m:Int):=by rw[IntKind.wrap_i64]; omega
 have Rd:IntKind.i64.wrap (ak:Int)=(ak:Int):=by rw[IntKind.wrap_i64]; omega
 have Nx:IntKind.i64.wrap (k8:Int)=(k8:Int):=by rw[IntKind.wrap_i64]; omega
 have NA:IntKind.i64.wrap (k16:Int)=(k16:Int):=by rw[IntKind.wrap_i64]; omega
 have wz:IntKind.i64.wrap (z:Int)=(z:Int):=by rw[IntKind.wrap_i64]; omega
 have Ny:IntKind.i64.wrap (e1:Int)=(e1:Int):=by rw[IntKind.wrap_i64]; omega
 have Re:IntKind.i64.wrap (iat:Int)=(iat:Int):=by rw[IntKind.wrap_i64]; omega
 have fF:=(bg.out _ HB.out).2.1;have FP:=Zg hL;have FQ:=Zg aC;have HD:=Zg hD;clear aC aj hL hD;have tX:XA=(YF XA).seq ((YF (Yc 1 XA)).seq ((YF (Yc 2 XA)).seq ((YF (Yc 3 XA)).seq (FR.seq ((YF (Yc 5 XA)).seq ((YF (Yc 6 XA)).seq (Yc 7 XA))))))):=by kernel_rfl
 have cO:=Zg (fun g c b' B' w1 (J':L+8 * k<=b'.length/\b'.length<=600000) HO HB aj Q a ha hK=>Zmf bl dM ll lc i k L g c A sc ss b' B' (.int .i64 start) (.bool delay) (.int .i64 D) v8 (.int .i64 ak) (.int .i64 iat) w w1 mJ (by omega) (by omega) J'.1 J'.2 (Zg fun W hW=>(bg.out W hW).2) l8 HO HB aj Q a ha hK);rw[tX];clear tX;generalize FR=S8 at *;conv=>arg 2; arg 1; whnf
 conv=>arg 2; arg 2; arg 1; whnf
 conv=>arg 2; arg 2; arg 2; arg 1; whnf
 conv=>arg 2; arg 2; arg 2; arg 2; arg 1; whnf
 conv=>arg 2; arg 2; arg 2; arg 2; arg 2; arg 2; arg 1; whnf
 conv=>arg 2; arg 2; arg 2; arg 2; arg 2; arg 2; arg 2; arg 1; whnf
 obtain⟨T8,FU⟩: ∃ q,Yc 7 XA=q:=⟨_,rfl⟩;rw[FU];have NB:=Zg FU;clear FU;go_wp2_with (first|(refine Zeb rfl (.tmp 54) (.tmp 57) rfl HO.out FP.out.symm (m:=z) (by omega) (by omega) HB.out.size rfl rfl ?_; intro g1 c1 x1 cG az; have cW:=Zg cG; have av:=Zg (HB.out.trans az); clear cG az)|fail)
 obtain⟨b1,hd1⟩: ∃ q,b++List.replicate z 0=q:=⟨_,rfl⟩;have dP:b1.length=L+z:=by rw[<-hd1,List.length_append,List.length_replicate,FP.out]
 have wH:=cW;clear cW;rw[hd1] at wH;obtain⟨b2,kj⟩: ∃ q,Zj2 L (ss.take k) 0 b1=q:=⟨_,rfl⟩;refine cO.out g1 c1 b1 b2 x1 ⟨by omega,by omega⟩ (Zg wH.out) av (Zg kj) _ _ ⟨rfl,rfl,by rw[dP]; rfl⟩ ?_;intro a2 x2 g2 c2 jg dJ oD;have bQ:=Zg dJ;have aj:=Zg oD;have ij:=(bg.out _ oD).1;have xw:=Zg hd1;have kz:=Zg kj;clear dJ oD fF hd1 kj wH av cO;obtain⟨u2,rfl⟩:=Yt jg;simp only[YH,Xi,Zf,Ze];clear jg u;have fw:b2.length<=600000/\L+z<=b2.length:=by
  have h1:=Za3 (th:=L) (ss.take k) 0 b1 (by rw[List.length_take]; omega) (fun s hs=>(l8.out s (List.mem_of_mem_take hs)).2);have h2:=kz.out;rw[h2,List.length_take] at h1;omega
 have xX:=tR.out.2;go_wp2_with (first
  | (refine YJ rfl (.tmp 103) (.tmp 108) 9 rfl (.string (txt dll)) bQ.out (show b2.length=b2.length from rfl) (show dll.length=dll.length from rfl) (Wz dll tR.out.1) tR.out.1 (by omega) aj.out.size rfl rfl ?_; intro g3 c3 x3 j3 bJ; have cT:=Zg j3; have aN:=Zg (aj.out.trans bJ); clear j3 bJ)
  | (refine YJ rfl (.tmp 109) (.tmp 110) 25 rfl (.slice (some ⟨x3.heap.size,0,none⟩) 1 1) (cT.out.alloc (.cells #[.int .u8 0] 5)) (show b2.length+dll.length=(b2++dll).length from List.length_append.symm) (show 1=[0].length from rfl) (Wp (Zj5 x3)) (fun v hv=>by simp at hv; omega) (by omega) (aN.out.alloc aN.out.size (.cells #[.int .u8 0] 5)).size rfl rfl ?_; intro g4 c4 x4 dj bP; have bV:=Zg dj; have bH:=Zg ((aN.out.alloc aN.out.size (.cells #[.int .u8 0] 5)).trans bP); clear dj bP)
  | fail)
 obtain⟨fw,NF⟩:=fw;have hT:ss.take 70=ss.take k:=by rw[List.take_eq_take_iff]; omega
 have aC:=FQ.out;simp only[Wi,hk,FP.out,hT,nZ,hz,xw.out,kz.out,AU,eQ,x9] at aC;obtain⟨b3,pc⟩: ∃ q,(b2++dll)++[0]=q:=⟨_,rfl⟩;have gl:b3.length=b2.length+dll.length+1:=by rw[<-pc]; simp only[List.length_append,List.length_cons,List.length_nil]
 rw[pc] at aC;have gG:=bV.out;rw[pc] at gG;rw[<-NB.out,<-gl];cases delay with
 | true =>
   rw[if_pos rfl] at aC;exact Zmg i ak L iat b2.length g4 c4 b3 B2 _ _ _ v8 w x4 (by omega) (by omega) (by omega) (by omega) (by omega) (by omega) (Zg gG) bH (Zg aC) Q _ ⟨rfl,rfl,rfl⟩ HK.out
 | false =>
   rw[if_neg Bool.false_ne_true] at aC;rcases Nat.mod_two_eq_zero_or_one i with J9|xZ
   ·rw[if_neg (by omega)] at aC;exact Zmh i ak k L iat b2.length g4 c4 b3 B2 _ _ _ v8 w x4 (by omega) (by omega) (by omega) (by omega) (by omega) (by omega) J9 (Zg gG) bH (Zg aC) Q _ ⟨rfl,rfl,rfl⟩ HK.out
   ·rw[if_pos xZ] at aC;exact Zoo i ak k L iat b2.length g4 c4 b3 B2 _ _ _ v8 w x4 (by omega) (by omega) (by omega) (by omega) (by omega) (by omega) (by omega) (by omega) xZ (by omega) (by omega) (Zg gG) bH (Zg (by rw[AU]; exact aC)) Q _ ⟨rfl,rfl,rfl⟩ HK.out
theorem JP (delay:Bool) (ak i:Nat) (b:List Nat) (x:PIm) (br:ak+32<=b.length) (hs: ∀ s∈x.syms,s.1.length<=100) (hd:x.dll.length<=100):b.length<=(Wi delay ak i b x).length/\(Wi delay ak i b x).length<=b.length+8500:=by
 obtain⟨k,hk⟩: ∃ q,min x.syms.length 70=q:=⟨_,rfl⟩;obtain⟨b2,aC⟩: ∃ q,Zj2 b.length (x.syms.take 70) 0 (b++List.replicate (16 * k+16) 0)=q:=⟨_,rfl⟩;have h1:=Za3 (th:=b.length) (x.syms.take 70) 0 (b++List.replicate (16 * k+16) 0) (by rw[List.length_take,List.length_append,List.length_replicate]; omega) (fun s lM=>hs s (List.mem_of_mem_take lM));rw[aC,List.length_take,List.length_append,List.length_replicate] at h1;obtain⟨b3,bJ⟩: ∃ q,(b2++x.dll)++[0]=q:=⟨_,rfl⟩;have h3:b3.length=b2.length+x.dll.length+1:=by rw[<-bJ]; simp only[List.length_append,List.length_cons,List.length_nil]
 obtain⟨iat,x9⟩: ∃ q,b.length+8 * k+8=q:=⟨_,rfl⟩;have he:(Wi delay ak i b x).length=b3.length:=by
  simp only[Wi,hk,aC,bJ,x9];cases delay with
  | true =>
    rw[if_pos rfl];have L1:(ZW b3 (ak) 4 1).length=b3.length:=Zp (by omega) _;have L2:(ZW (ZW b3 (ak) 4 1) (ak+4) 4 b2.length).length=b3.length:=by rw[Zp (by rw[L1]; omega)]; exact L1
    have L3:(ZW (ZW (ZW b3 (ak) 4 1) (ak+4) 4 b2.length) (ak+8) 4 8).length=b3.length:=by rw[Zp (by rw[L2]; omega)]; exact L2
    have L4:(ZW (ZW (ZW (ZW b3 (ak) 4 1) (ak+4) 4 b2.length) (ak+8) 4 8) (ak+12) 4 iat).length=b3.length:=by rw[Zp (by rw[L3]; omega)]; exact L3
    have L5:(ZW (ZW (ZW (ZW (ZW b3 (ak) 4 1) (ak+4) 4 b2.length) (ak+8) 4 8) (ak+12) 4 iat) (ak+16) 4 b.length).length=b3.length:=by rw[Zp (by rw[L4]; omega)]; exact L4
    have L6:(ZW (ZW (ZW (ZW (ZW (ZW b3 (ak) 4 1) (ak+4) 4 b2.length) (ak+8) 4 8) (ak+12) 4 iat) (ak+16) 4 b.length) (ak+28) 4 (9+i)).length=b3.length:=by rw[Zp (by rw[L5]; omega)]; exact L5
    exact L6
  | false =>
    rw[if_neg Bool.false_ne_true];have L1:(ZW b3 (ak) 4 b.length).length=b3.length:=Zp (by omega) _;have L2:(ZW (ZW b3 (ak) 4 b.length) (ak+4) 4 i).length=b3.length:=by rw[Zp (by rw[L1]; omega)]; exact L1
    have L3:(ZW (ZW (ZW b3 (ak) 4 b.length) (ak+4) 4 i) (ak+12) 4 b2.length).length=b3.length:=by rw[Zp (by rw[L2]; omega)]; exact L2
    have L4:(ZW (ZW (ZW (ZW b3 (ak) 4 b.length) (ak+4) 4 i) (ak+12) 4 b2.length) (ak+16) 4 iat).length=b3.length:=by rw[Zp (by rw[L3]; omega)]; exact L3
    split
    ·have L5:=Za2 (b:=ZW (ZW (ZW (ZW b3 (ak) 4 b.length) (ak+4) 4 i) (ak+12) 4 b2.length) (ak+16) 4 iat) (iat:=iat) (th:=b.length) (m:=8 * k) (by rw[L4]; omega) (by rw[L4]; omega);rw[Zp (by show ak+4<=(cpL _ iat b.length (8 * k)).length; rw[L5,L4]; omega)];exact L5.trans L4
    ·exact L4
 rw[he];omega
noncomputable def Zfy:Code:=Zi4 (JB (Yc 1 (YF (Yc 5 Xo))))
theorem Zj7:YF (Yc 5 Xo)=(YF (YF (Yc 5 Xo))).seq (Code.block 0 (Code.loop Zfy)):=by kernel_rfl
theorem Zj8:Zfy=(YF Zfy).seq ((Code.block 1 XA).seq (Yc 2 Zfy)):=by kernel_rfl
end Go.Proofs.YtplgdpjbkdagfaaGreat
