import Derived.Test.YtplgdpjbkdagfaaGreatZImpG
import Derived.Lib.AppendZeros
import Derived.Deep.Upon
import Derived.Test.YtplgdpjbkdagfaaGreatZRefB
import Derived.Test.YtplgdpjbkdagfaaGreatZOwnT
import Derived.Test.YtplgdpjbkdagfaaGreatZMem
namespace Go.Proofs.YtplgdpjbkdagfaaGreat
open List renaming getElem?_toArray→Za, getElem?_cons_succ→Zb, getElem?_cons_zero→Zc, setIfInBounds_toArray→Zd, set_cons_zero→Ze, set_cons_succ→Zf
open Lib renaming hid→Zg
set_option maxRecDepth 100000
open Go.ChangeShapes Go.WideShapes Go.ChangeAt Go.RowKit
set_option linter.unusedVariables false
set_option linter.unusedSimpArgs false
theorem Zc6 {w:World} (ty tx:TypeId) {base g cap:Nat} {bs cs:List Nat} (X:Value) (hown:YI w base g cap bs) (hs1:Src Tryz.prog 1 tx X cs.length (Zs cs.length (lF cs)) w) (hcs:Lb cs) (hnm:bs.length+cs.length≤1000000) (hbase:base≤w.heap.size) :
 ∃ g' cap' w',(Builtin.append_ #[25,tx] ty #[.slice (some ⟨g,0,none⟩) bs.length cap,X]).run Tryz.prog w= .ok (.slice (some ⟨g',0,none⟩) (bs.length+cs.length) cap') w'∧YI w' base g' cap' (bs++cs)∧Below base w w'∧w.grownBy w' (some g)∧(g'=g∨g'=w.heap.size):=by
 obtain⟨i0,hi,hz0,hz1,hz2⟩:=info_parts Wl
 have hs:Src Tryz.prog i0.size tx X cs.length (Zs cs.length (lF cs)) w:=by rw[hz1]; exact hs1
 by_cases hroom:bs.length+cs.length≤cap
 ·have hin: ∀ j,j<(Zs cs.length (lF cs)).length→(w.cell? ⟨g,bs.length+j,none⟩).isSome=true:=fun j hj=>(hown.wr (bs.length+j) (by rw[Zn] at hj; omega)).1
  have hr:=run_append_room_src (P:=Tryz.prog) w 25 tx ty 5 i0 Tryz.underlying25 hi g 0 bs.length cap X cs.length _ hs hroom
   (fun j hj=>by rw[hz1,Nat.mul_one,Nat.zero_add]; exact hin j hj) (fun j hj=>by rw[hz1,Nat.mul_one,Nat.zero_add]; exact(hown.wr (bs.length+j) (by rw[Zn] at hj; omega)).2)
  rw[hz1,Nat.mul_one,Nat.zero_add] at hr
  refine⟨_,_,_,hr,⟨hown.le,by rw[XJ]; exact hown.lt,fun i hi=> ?_,hown.lb.append hcs,by rw[List.length_append]; exact hroom,hown.most,fun j hj=>⟨World.isSome_setCells _ _ _ _ _ (hown.wr j hj).1,by rw[World.frozen?_setCells]; exact(hown.wr j hj).2⟩⟩,ZW hown.le _ _ _ (Below.refl base w),⟨(Xr g _ _ w).1,(Xr g _ _ w).2.1,(Xr g _ _ w).2.2.1,by rw[XJ]; exact Nat.le_refl _,fun k hk hne=>World.heap_setCells_other w g _ _ hk (fun e=>hne (by rw[e]))⟩,.inl rfl⟩
  rw[JA]
  unfold Uc
  rw[List.length_append] at hi
  rw[Nat.zero_add]
  by_cases e:i<bs.length
  ·rw[if_pos e,World.cell?_setCells_out _ _ _ _ _ (fun _ _=> .inl e)]
   have:=hown.row i e
   rwa [Nat.zero_add] at this
  ·rw[if_neg e]
   have:=World.cell?_setCells_in g (Zs cs.length (lF cs)) bs.length w hin (i - bs.length) (by rw[Zn]; omega)
   rw[show bs.length+(i - bs.length)=i by omega] at this
   rw[this]
   simp[Zs]
 ·have hold:(Builtin.firstCells i0.size bs.length (.slice (some ⟨g,0,none⟩) bs.length cap)).run Tryz.prog w.drew= .ok (Zs bs.length (lF bs)).toArray w.drew:=by
   rw[hz1]
   refine run_firstCells_some w.drew 1 bs.length ⟨g,0,none⟩ bs.length cap (Zs bs.length (lF bs)) (by rw[Zn,Nat.mul_one]) fun j u hu=> ?_
   have hj:j<bs.length:=by
    rcases Nat.lt_or_ge j bs.length with hj|hj
    ·exact hj
    ·rw[List.getElem?_eq_none (by rw[Zn]; omega)] at hu; cases hu
   rw[ZG bs.length (lF bs) hj] at hu
   obtain rfl:=Option.some.inj hu
   have hadd:(⟨g,0,none⟩:Addr).add j=⟨g,0+j,none⟩:=by unfold Addr.add; split <;> simp_all
   rw[hadd]
   exact hown.row j hj
  have hr:=run_append_grow_src (P:=Tryz.prog) w 25 tx ty 5 i0 (.int .u8 0) Tryz.underlying25 hi hz0 (some ⟨g,0,none⟩) bs.length cap (Zs bs.length (lF bs)) hold X cs.length _ hs (by omega) (by omega) (growslice_fits (by omega) (by rw[hz2]; omega))
  have hcap:=grownCap_ge w (bs.length+cs.length) cap 5
  have hcm:=grownCap_le_maxLen w (bs.length+cs.length) cap 5 (by simp only[maxLen]; omega)
  simp only[maxLen] at hcm
  have hz:(Value.int .u8 0).cells= #[.int .u8 0]:=rfl
  have hh:=heap_alloc_new w.drew (.cells ((Zs bs.length (lF bs)++Zs cs.length (lF cs)).toArray++Builtin.zeroCells (Value.int .u8 0).cells (grownCap w (bs.length+cs.length) cap 5 - (bs.length+cs.length))) 5)
  have hsz:((Zs bs.length (lF bs)++Zs cs.length (lF cs)).toArray++Builtin.zeroCells (Value.int .u8 0).cells (grownCap w (bs.length+cs.length) cap 5 - (bs.length+cs.length))).size=grownCap w (bs.length+cs.length) cap 5:=by
   rw[Array.size_append,size_zeroCells,hz]
   simp[Zn]
   omega
  refine⟨_,_,_,hr,⟨hbase,by simp,fun i hi=> ?_,hown.lb.append hcs,by rw[List.length_append]; exact hcap,by omega,fun j hj=>⟨?_,frozen_of_row _ _ _ _ _ hh⟩⟩,((Below.refl base w).drew).alloc (by simpa using hbase) _,⟨rfl,rfl,rfl,by simp,fun k hk _=>Below.heap_alloc w.drew _ k hk⟩,.inr rfl⟩
  ·rw[List.length_append] at hi
   rw[Nat.zero_add,JA]
   have:=cell_of_row _ _ i _ _ _ hh
   refine Eq.trans this ?_
   rw[Wm,Array.getElem?_append_left (by simpa [Zn] using hi),Za,ZG _ _ hi]
  ·have:=cell_of_row _ _ j _ _ _ hh
   refine Eq.trans (congrArg Option.isSome this) ?_
   rw[Array.getElem?_eq_getElem (by omega)]
   rfl
theorem Zf5 (n:Nat):((txt (List.replicate n 0)).extract 0 n).data.map (fun b=>Value.int .u8 (b.toNat:Int))=Builtin.zeroCells #[.int .u8 0] n:=by
 have hl:(List.replicate n 0).length=n:=List.length_replicate
 have hsz:(txt (List.replicate n 0)).size=n:=by rw[Zm,hl]
 have he:(txt (List.replicate n 0)).extract 0 n=txt (List.replicate n 0):=by
  have:=UB (t:=List.replicate n 0) (fun v hv=>by simp at hv; omega) 0 n (by simp)
  rw[Nat.zero_add] at this
  rw[this]
  simp
 rw[he]
 have ht:=Uw (t:=List.replicate n 0) (fun v hv=>by simp at hv; omega)
 rw[ByteArray.toList_eq] at ht
 apply Array.ext'
 rw[Array.toList_map,ht]
 apply List.ext_getElem
 ·simp[Builtin.zeroCells]
 ·intro i h1 h2
  simp[Builtin.zeroCells,Nat.mod_one]
theorem JH (n:Nat):List.take n (List.map (fun b:UInt8=>Value.int .u8 (b.toNat:Int)) (txt (List.replicate n 0)).data.toList)=(Builtin.zeroCells #[.int .u8 0] n).toList:=by
 have h:=congrArg Array.toList (Zf5 n)
 rw[Array.toList_map] at h
 rw[←h,←List.map_take]
 congr 1
 simp[ByteArray.data_extract]
theorem Zf6 (n:Nat):(Array.map (fun b:UInt8=>Value.int .u8 (b.toNat:Int)) (txt (List.replicate n 0)).data).extract 0 n=Builtin.zeroCells #[.int .u8 0] n:=by
 apply Array.ext'
 rw[←JH n]
 simp
theorem Zf7 (w:World) (ty:TypeId) (g sLen cap n:Nat) (hn0:0<n) (hn:n≤1000000) (hnl:sLen+n≤1000000) :
 (Builtin.append_ #[25,3] ty #[.slice (some ⟨g,0,none⟩) sLen cap,.int .i64 n]).run Tryz.prog w=(Builtin.append_ #[25,9] ty #[.slice (some ⟨g,0,none⟩) sLen cap,.string (txt (List.replicate n 0))]).run Tryz.prog w:=by
 obtain⟨i0,hi,hz0,hz1,hz2⟩:=info_parts Wl
 have hw:IntKind.i64.wrap (n:Int)=n:=by rw[IntKind.wrap_i64]; omega
 have hneg: ¬ ((n:Int)<0):=by omega
 have h48i: ¬ (281474976710656<(n:Int) * (i0.bytes:Int)):=by rw[hz2]; omega
 have hsz:(txt (List.replicate n 0)).size=n:=by rw[Zm,List.length_replicate]
 have hz:=JH n
 have hzz:(Value.int .u8 0).cells= #[.int .u8 0]:=rfl
 have h48': ¬ (281474976710656<(n:Int)):=by omega
 have h0:n≠0:=by omega
 by_cases hroom:sLen+n≤cap
 ·simp[Builtin.append_,run_underlying Tryz.underlying25,run_underlying Tryz.underlying3,run_underlying Tryz.underlying9,sizeOf,typeInfo,zeroValue,hi,hz0,hz1,hz2,asInt,asIntOf,hw,hneg,h48i,h48',hroom,hsz,hz,hzz,h0,Builtin.lenOf,Builtin.firstCells]
 ·have h63': ¬ (9223372036854775807<((sLen:Int)+(n:Int))):=by omega
  have hfit:=growslice_fits (need:=sLen+n) (old:=cap) (bytes:=1) (by omega) (by omega)
  have hfit': ¬ (281474976710656<Builtin.nextslicecap (sLen+n) cap):=by omega
  simp[Builtin.append_,run_underlying Tryz.underlying25,run_underlying Tryz.underlying3,run_underlying Tryz.underlying9,sizeOf,typeInfo,zeroValue,hi,hz0,hz1,hz2,asInt,asIntOf,hw,hneg,h48i,h48',hroom,hsz,hz,hzz,h0,h63',hfit',Question.forced,Builtin.lenOf,Builtin.firstCells]
  rw[Zf6 n]
theorem Zbn {w:World} {ops:Array Oper} {rest:List Oper} {o:Oper} {a:Act} {Q:Exit→Act→World→Prop} (hgd:o.guard=none) (s x:Operand)
 (ho:o.op= .call { callee:= .builtin .append,args:= #[s,x],argTypes:= #[25,3] })
 {base g n cap m:Nat} {bs:List Nat} (hown:YI w base g cap bs) (hbn:n=bs.length) (h0:0<m) (hnm:n+m≤1000000) (hbase:base≤w.heap.size)
 (hv:a.eval s= .slice (some ⟨g,0,none⟩) n cap) (hx:a.eval x= .int .i64 m)
 (hK: ∀ g' cap' w',YI w' base g' cap' (bs++List.replicate m 0)→Below base w w'→wpList Tryz.prog ops Q rest (a.put o.dst (.slice (some ⟨g',0,none⟩) (n+m) cap')) w'):wpList Tryz.prog ops Q (o::rest) a w:=by
 subst hbn
 have hlb:Lb (List.replicate m 0):=fun v hv=>by simp at hv; omega
 have hml:(List.replicate m 0).length=m:=List.length_replicate
 have hs1:=Wu (w:=w) (List.replicate m 0) hlb
 obtain⟨g',cap',w',hr,h1,h2,_,_⟩:=Zc6 (w:=w) o.type 9 (cs:=List.replicate m 0) (.string (txt (List.replicate m 0))) hown hs1 hlb (by rw[hml]; exact hnm) hbase
 rw[hml,←Zf7 w o.type g bs.length cap m h0 (by omega) hnm] at hr
 exact Lib.wpList_append_run w hgd s x 25 3 ho _ _ hv hx _ _ hr (hK g' cap' w' h1 h2)
theorem YU {w:World} {ops:Array Oper} {o:Oper} {a:Act} {K:Act→World→Prop} {Q:Exit→Act→World→Prop} {E:Prop} (hgd:o.guard=none) (s x:Operand) (tx:TypeId)
 (ho:o.op= .call { callee:= .builtin .append,args:= #[s,x],argTypes:= #[25,tx] })
 {base g n cap m:Nat} {bs cs:List Nat} (X:Value) (hown:YI w base g cap bs) (hbn:n=bs.length) (hcm:m=cs.length) (hs1:Src Tryz.prog 1 tx X m (Zs m (lF cs)) w) (hcs:Lb cs) (hnm:n+m≤1000000) (hbase:base≤w.heap.size)
 (hv:a.eval s= .slice (some ⟨g,0,none⟩) n cap) (hx:a.eval x=X)
 (hK: ∀ g' cap' w',YI w' base g' cap' (bs++cs)→Below base w w'→w.grownBy w' (some g)→(g'=g∨g'=w.heap.size)→K (a.put o.dst (.slice (some ⟨g',0,none⟩) (n+m) cap')) w'):if Region.wanted o (yielded ops a.tmps)=true then Oper.wp Tryz.prog o a w K Q else E:=by
 rw[if_pos (by simp[Region.wanted,hgd])]
 subst hbn hcm
 obtain⟨g',cap',w',hrun,r1,r2,r3,r4⟩:=Zc6 (w:=w) o.type tx X hown hs1 hcs hnm hbase
 unfold Oper.wp execOp
 simp only[ho,resolve,invoke,builtin,Sem.run_bind,Sem.run_pure,Result.andThen_ok,List.map_toArray,List.map_cons,List.map_nil,hv,hx,hrun]
 exact hK g' cap' w' r1 r2 r3 r4
end Go.Proofs.YtplgdpjbkdagfaaGreat
namespace Go.Proofs.YtplgdpjbkdagfaaGreat
open List renaming getElem?_toArray→Za, getElem?_cons_succ→Zb, getElem?_cons_zero→Zc, setIfInBounds_toArray→Zd, set_cons_zero→Ze, set_cons_succ→Zf
open Lib renaming hid→Zg
set_option maxRecDepth 100000
open Go.ChangeShapes Go.WideShapes Go.ChangeAt Go.RowKit
set_option linter.unusedVariables false
set_option linter.unusedSimpArgs false
set_option synthInstance.maxSize 2000
set_option synthInstance.maxHeartbeats 200000
structure PIm where
 dll:List Nat
 syms:List Wg
def WM (th q:Nat) (b:List Nat) (s:Wg):List Nat :=
 if s.2.2=true then ZQ b (th+8 * q) 8 (s.2.1 % 65536+9223372036854775808)
 else((ZQ b (th+8 * q) 8 b.length++[0,0])++s.1)++[0]
def Zf8 (th:Nat):List Wg→Nat→List Nat→List Nat
 | [],_,b=>b
 | s::r,q,b=>Zf8 th r (q+1) (WM th q b s)
def Wf (delay:Bool) (at' i:Nat) (b:List Nat) (x:PIm):List Nat :=
 let k:=min x.syms.length 70
 let th:=b.length
 let iat:=b.length+8 * k+8
 let b2:=Zf8 th (x.syms.take 70) 0 (b++List.replicate (16 * k+16) 0)
 let b3:=(b2++x.dll)++[0]
 if delay=true then ZQ (ZQ (ZQ (ZQ (ZQ (ZQ b3 at' 4 1) (at'+4) 4 b2.length) (at'+8) 4 8) (at'+12) 4 iat) (at'+16) 4 th) (at'+28) 4 (9+i)
 else
  let b4:=ZQ (ZQ (ZQ (ZQ b3 at' 4 th) (at'+4) 4 i) (at'+12) 4 b2.length) (at'+16) 4 iat
  if i % 2=1 then ZQ (b4.take iat++(((b4.drop th).take (8 * k))++b4.drop (iat+8 * k))) at' 4 0 else b4
def Zc7 (delay:Bool):Nat:=if delay=true then 32 else 20
def Zf9 (delay:Bool) (start:Nat):List PIm→Nat→List Nat→List Nat
 | [],_,b=>b
 | x::r,i,b=>Zf9 delay start r (i+1) (Wf delay (start+Zc7 delay * i) i b x)
def at8 (start:Nat) (l:List PIm) (delay:Bool):List Nat:=Zf9 delay start (l.take 18) 0 (List.replicate (start+Zc7 delay * (min l.length 18+1)) 0)
end Go.Proofs.YtplgdpjbkdagfaaGreat
namespace Go.Proofs.YtplgdpjbkdagfaaGreat
open List renaming getElem?_toArray→Za, getElem?_cons_succ→Zb, getElem?_cons_zero→Zc, setIfInBounds_toArray→Zd, set_cons_zero→Ze, set_cons_succ→Zf
open Lib renaming hid→Zg
open Go.ChangeShapes Go.WideShapes Go.ChangeAt Go.RowKit
set_option linter.unusedVariables false
set_option linter.unusedSimpArgs false
set_option maxRecDepth 100000
def SymW (w:World) (A:Option Addr) (ss:List Wg):Prop:=ss=[]∨ ∃ b off,A=some ⟨b,off,none⟩∧b<w.heap.size∧ ∀(i:Nat) (hi:i<ss.length),∃ od:Int,od % 65536=((ss[i].2.1:Nat):Int) % 65536∧w.cell? ⟨b,off+i * 3,none⟩=some (.string (txt ss[i].1))∧w.cell? ⟨b,off+i * 3+1,none⟩=some (.int .i64 od)∧w.cell? ⟨b,off+i * 3+2,none⟩=some (.bool ss[i].2.2)
theorem Va {α :Type} (f:Nat→ α):(List.range 175).map f=(f 0::f 1::f 2::f 3::f 4::f 5::f 6::f 7::f 8::f 9::f 10::f 11::f 12::f 13::f 14::f 15::f 16::f 17::f 18::f 19::f 20::f 21::f 22::f 23::f 24::f 25::f 26::f 27::f 28::f 29::f 30::f 31::f 32::f 33::f 34::f 35::f 36::f 37::f 38::f 39::f 40::f 41::f 42::f 43::f 44::f 45::f 46::f 47::f 48::f 49::f 50::f 51::f 52::f 53::f 54::f 55::f 56::f 57::f 58::f 59::f 60::f 61::f 62::f 63::f 64::f 65::f 66::f 67::f 68::f 69::f 70::f 71::f 72::f 73::f 74::f 75::f 76::f 77::f 78::f 79::f 80::f 81::f 82::f 83::f 84::f 85::f 86::f 87::f 88::f 89::f 90::f 91::f 92::f 93::f 94::f 95::f 96::f 97::f 98::f 99::f 100::f 101::f 102::f 103::f 104::f 105::f 106::f 107::f 108::f 109::f 110::f 111::f 112::f 113::f 114::f 115::f 116::f 117::f 118::f 119::f 120::f 121::f 122::f 123::f 124::f 125::f 126::f 127::f 128::f 129::f 130::f 131::f 132::f 133::f 134::f 135::f 136::f 137::f 138::f 139::f 140::f 141::f 142::f 143::f 144::f 145::f 146::f 147::f 148::f 149::f 150::f 151::f 152::f 153::f 154::f 155::f 156::f 157::f 158::f 159::f 160::f 161::f 162::f 163::f 164::f 165::f 166::f 167::f 168::f 169::f 170::f 171::f 172::f 173::f 174::[]):=rfl
theorem Ys {a:Act} {v0 v1 v2 v7 v8 v9 v10 v11 v12 v13 v14:Value} (h:Has 175 [0,1,2,7,8,9,10,11,12,13,14] [v0,v1,v2,v7,v8,v9,v10,v11,v12,v13,v14] a): ∃ u:Nat→Value,a=⟨(v0::v1::v2::u 3::u 4::u 5::u 6::v7::v8::v9::v10::v11::v12::v13::v14::u 15::u 16::u 17::u 18::u 19::u 20::u 21::u 22::u 23::u 24::u 25::u 26::u 27::u 28::u 29::u 30::u 31::u 32::u 33::u 34::u 35::u 36::u 37::u 38::u 39::u 40::u 41::u 42::u 43::u 44::u 45::u 46::u 47::u 48::u 49::u 50::u 51::u 52::u 53::u 54::u 55::u 56::u 57::u 58::u 59::u 60::u 61::u 62::u 63::u 64::u 65::u 66::u 67::u 68::u 69::u 70::u 71::u 72::u 73::u 74::u 75::u 76::u 77::u 78::u 79::u 80::u 81::u 82::u 83::u 84::u 85::u 86::u 87::u 88::u 89::u 90::u 91::u 92::u 93::u 94::u 95::u 96::u 97::u 98::u 99::u 100::u 101::u 102::u 103::u 104::u 105::u 106::u 107::u 108::u 109::u 110::u 111::u 112::u 113::u 114::u 115::u 116::u 117::u 118::u 119::u 120::u 121::u 122::u 123::u 124::u 125::u 126::u 127::u 128::u 129::u 130::u 131::u 132::u 133::u 134::u 135::u 136::u 137::u 138::u 139::u 140::u 141::u 142::u 143::u 144::u 145::u 146::u 147::u 148::u 149::u 150::u 151::u 152::u 153::u 154::u 155::u 156::u 157::u 158::u 159::u 160::u 161::u 162::u 163::u 164::u 165::u 166::u 167::u 168::u 169::u 170::u 171::u 172::u 173::u 174::[]).toArray,[]⟩:=by
 obtain⟨⟨l⟩,d⟩:=a
 obtain⟨hs,hd,hl⟩:=h
 have hs':l.length=175:=hs
 have hd':d=[]:=hd
 subst hd'
 simp only[at_,List.map_cons,List.map_nil,List.cons.injEq,and_true] at hl
 obtain⟨e0,e1,e2,e7,e8,e9,e10,e11,e12,e13,e14⟩:=hl
 refine⟨sl ⟨⟨l⟩,[]⟩,?_⟩
 have key:=Zz l [] 175 hs'
 rw[Va] at key
 have u0:sl ⟨⟨l⟩,[]⟩ 0=v0:=by unfold sl; rw[e0]; rfl
 have u1:sl ⟨⟨l⟩,[]⟩ 1=v1:=by unfold sl; rw[e1]; rfl
 have u2:sl ⟨⟨l⟩,[]⟩ 2=v2:=by unfold sl; rw[e2]; rfl
 have u7:sl ⟨⟨l⟩,[]⟩ 7=v7:=by unfold sl; rw[e7]; rfl
 have u8:sl ⟨⟨l⟩,[]⟩ 8=v8:=by unfold sl; rw[e8]; rfl
 have u9:sl ⟨⟨l⟩,[]⟩ 9=v9:=by unfold sl; rw[e9]; rfl
 have u10:sl ⟨⟨l⟩,[]⟩ 10=v10:=by unfold sl; rw[e10]; rfl
 have u11:sl ⟨⟨l⟩,[]⟩ 11=v11:=by unfold sl; rw[e11]; rfl
 have u12:sl ⟨⟨l⟩,[]⟩ 12=v12:=by unfold sl; rw[e12]; rfl
 have u13:sl ⟨⟨l⟩,[]⟩ 13=v13:=by unfold sl; rw[e13]; rfl
 have u14:sl ⟨⟨l⟩,[]⟩ 14=v14:=by unfold sl; rw[e14]; rfl
 rw[←u0,←u1,←u2,←u7,←u8,←u9,←u10,←u11,←u12,←u13,←u14]
 exact congrArg (fun x=>(⟨⟨x⟩,[]⟩:Act)) key
noncomputable def Xq:Code:=(Tryz.f28.body).getD .skip
noncomputable def XA:Code:=UZ (YJ (ZY 1 (Zfq (UZ (ZY 1 (YJ (ZY 5 Xq)))))))
noncomputable def Zga:Code:=YJ (ZY 4 XA)
theorem zero2 (w:World):SlB (w.alloc (.cells #[.int .u8 0,.int .u8 0] 5)) (some ⟨w.heap.size,0,none⟩) 2 (lF [0,0]) :=
 .inr ⟨w.heap.size,0,rfl,by simp,fun i hi=>by
  rcases(by omega:i=0∨i=1) with rfl|rfl <;> simp[go_sem,lF]⟩
theorem Zgb (w:World):SlB (w.alloc (.cells #[.int .u8 0] 5)) (some ⟨w.heap.size,0,none⟩) 1 (lF [0]) :=
 .inr ⟨w.heap.size,0,rfl,by simp,fun i hi=>by
  obtain rfl:i=0:=by omega
  simp[go_sem,lF]⟩
theorem WN {w w':World} {p n g:Nat} {f:Nat→Int} (h:SlB w (some ⟨p,0,none⟩) n f) (hg:w.grownBy w' (some g)) (hp:p<w.heap.size) (hne:p≠g):SlB w' (some ⟨p,0,none⟩) n f:=by
 rcases h with h|⟨b,off,hA,hlt,hr⟩
 ·exact .inl h
 ·refine .inr ⟨b,off,hA,Nat.lt_of_lt_of_le hlt hg.size,fun i hi=> ?_⟩
  injection hA with hA
  injection hA with h1 h2
  rw[World.cell?_of_block (a:=⟨b,off+i,none⟩) (hg.block b hlt (by rw[←h1]; intro e; injection e with e; exact hne e))]
  exact hr i hi
set_option maxHeartbeats 8000000 in
theorem Zhz (bl offl ll lc i k th g c:Nat) (A:Option Addr) (sc:Nat) (ss:List Wg) (b B2:List Nat) (v0 v2 v7 v8 v11 v14:Value) (w wr0:World) (hil:i<ll) (hk:k≤ss.length) (hk70:k≤70) (hth:th+8 * k≤b.length) (hbl:b.length≤600000)
 (HLI:Hid (∀ W,Below w.heap.size w W→W.cell? ⟨bl,offl+i * 2+1,none⟩=some (.slice A ss.length sc)∧SymW W A ss)) (HSS:Hid (∀ s∈ss,Lb s.1∧s.1.length≤100))
 (HO:Hid (YI wr0 w.heap.size g c b)) (HB:Hid (Below w.heap.size w wr0)) (HB2:Hid (Zf8 th (ss.take k) 0 b=B2)) (Q:Exit→Act→World→Prop) (a:Act)
 (ha:Has 175 [0,1,2,7,8,9,10,11,12,13,14] [v0,.slice (some ⟨bl,offl,none⟩) ll lc,v2,v7,v8,.slice (some ⟨g,0,none⟩) b.length c,.int .i64 i,v11,.int .i64 k,.int .i64 th,v14] a) (hK: ∀ a' w' g' c',Has 175 [0,1,2,7,8,9,10,11,12,13,14] [v0,.slice (some ⟨bl,offl,none⟩) ll lc,v2,v7,v8,.slice (some ⟨g',0,none⟩) B2.length c',.int .i64 i,v11,.int .i64 k,.int .i64 th,v14] a'→YI w' w.heap.size g' c' B2→Below w.heap.size w w'→Q .normal a' w'):Zga.wp Tryz.prog Q a wr0:=by
 obtain⟨u,rfl⟩:=Ys ha
 clear ha
 have HK:=Zg hK
 clear hK
 conv=>arg 2; whnf
 go_wp2_with fail
 go_loopw [9,15] (fun v9 v15 wr=> ∃(q g c:Nat) (b':List Nat),q≤k∧v15= .int .i64 q∧v9= .slice (some ⟨g,0,none⟩) b'.length c∧YI wr w.heap.size g c b'∧b.length≤b'.length∧b'.length≤b.length+103 * q∧Below w.heap.size w wr∧Zf8 th ((ss.take k).drop q) q b'=B2) (fun _ v15 _=>k - (intOf v15).toNat)
 case atStart=>exact⟨0,g,c,b,Nat.zero_le _,rfl,rfl,HO.out,Nat.le_refl _,by omega,HB.out,HB2.out⟩
 case round =>
  obtain⟨q,g,c,b',hq,rfl,rfl,ho,hb1,hb2,hbel,hrec⟩:=hrel
  replace HO:=Zg ho
  replace HB:=Zg hbel
  replace HB2:=Zg hrec
  clear ho hbel hrec
  by_cases hlt:q<k
  ·have hqs:q<ss.length:=by omega
   obtain⟨e1,hsl⟩:=HLI.out wr HB.out
   have hrec:=HB2.out
   rw[List.drop_eq_getElem_cons (by rw[List.length_take]; omega),List.getElem_take] at hrec
   obtain⟨s,hs⟩: ∃ s,ss[q]=s:=⟨_,rfl⟩
   have HSL:=Zg (HSS.out ss[q] (List.getElem_mem hqs))
   rcases hsl with h0|⟨bs,offs,rfl,hbs,hcs⟩
   ·rw[h0] at hqs; simp at hqs
   obtain⟨oi,hoi,z0,z1,z2⟩:=hcs q hqs
   rw[hs] at hoi z0 z2
   rw[hs] at hrec HSL
   simp only[Zf8,WM] at hrec
   obtain⟨nm,od,bo⟩:=s
   simp only at hoi z0 z2 hrec HSL
   have HOI:=Zg hoi
   clear hoi
   have hqI:(q:Int)<(ss.length:Int):=by omega
   have hqk:(q:Int)<(k:Int):=by omega
   have hiI:(i:Int)<(ll:Int):=by omega
   obtain⟨q8,hq8⟩: ∃ x,8 * q=x:=⟨_,rfl⟩
   obtain⟨o,ho⟩: ∃ x,th+q8=x:=⟨_,rfl⟩
   have eq8:(8:Int) * (q:Int)=(q8:Int):=by omega
   have eo:(th:Int)+(q8:Int)=(o:Int):=by omega
   have hob:o+8≤b'.length:=by omega
   rw[hq8,ho] at hrec
   obtain⟨w1,hw1⟩: ∃ w1,wr.alloc (.cells #[.string (txt nm),.int .i64 oi,.bool bo] 58)=w1:=⟨_,rfl⟩
   have HE1:=Zg hw1
   have hA:Below wr.heap.size wr w1:=by rw[←hw1]; exact(Below.refl _ _).alloc (Nat.le_refl _) _
   have HX:=Zg (show w1.heap[wr.heap.size]? =some (.cells #[.string (txt nm),.int .i64 oi,.bool bo] 58 (0,0)) from by rw[←hw1]; exact heap_alloc_new wr _)
   have HO1:=Zg (HO.out.below hA)
   have HB1:=Zg (HB.out.trans (hA.mono HB.out.size))
   have HREC0:=Zg hrec
   clear hw1 hA hs hcs hbs hq8 ho hrec hqs
   go_upto_region 17 with(fail)
   refine(congrArg _ HE1.out).mpr ?_
   clear z0 z1 z2 e1
   have t0:w1.cell? ⟨wr.heap.size,0,none⟩=some (.string (txt nm)):=by rw[Zh HX.out]; rfl
   have t1:w1.cell? ⟨wr.heap.size,1,none⟩=some (.int .i64 oi):=by rw[Zh HX.out]; rfl
   have t2:w1.cell? ⟨wr.heap.size,2,none⟩=some (.bool bo):=by rw[Zh HX.out]; rfl
   rcases bo with _|_
   ·have hrec:=HREC0.out
    rw[if_neg (by simp)] at hrec
    have hl1:=Zo (b:=b') (o:=o) (n:=8) hob b'.length
    have hp:=Yo (some ⟨g,0,none⟩) c b' o 8 (b'.length:Nat) b'.length w1 HO1.out.lb (by omega) HO1.out.slB (by omega) (by omega) hob (ZU (by omega)) (by omega)
    obtain⟨d1,hd1⟩: ∃ x,ZQ b' o 8 b'.length=x:=⟨_,rfl⟩
    rw[hd1] at hp hl1 hrec
    have HREC:=Zg hrec
    have HP:=Zg hp
    clear hp hd1 hrec HREC0
    go_wp2_with fail
    refine HP.out.mono ?_
    rintro e x0 ⟨g1,c1,rfl,ho,hw⟩
    obtain⟨B,hBB⟩: ∃ B,w1.heap.size=B:=⟨_,rfl⟩
    rw[hBB] at ho hw
    have hB0:w.heap.size≤B:=by rw[←hBB]; exact HB1.out.size
    have hsB:wr.heap.size<B:=by rw[←hBB]; exact Zi HX.out
    have hBx:B≤x0.heap.size:=by rw[←hBB]; exact hw.size
    have HBX:=Zg (HB1.out.trans (hw.mono hB0))
    have HX0:=Zg ((hw.block _ hsB).trans HX.out)
    have HBS:=Zg (fun W (hW:Below B x0 W)=>Nat.le_trans hBx hW.size)
    have HC:=Zg (fun W (hW:Below B x0 W)=>show W.cell? ⟨wr.heap.size,0,none⟩=some (.string (txt nm)) from by rw[Zh ((hW.block _ hsB).trans HX0.out)]; rfl)
    have HW0:=Zg (show YI x0.drew B g1 c1 d1 from ho.below (Below.refl x0.heap.size x0).drew)
    have HT0:=Zg (show Below B x0 x0.drew from(Below.refl _ _).drew)
    have HS:=HT0
    have hd1b:d1.length≤610000:=by omega
    have t0':=HC.out x0 (Below.refl _ _)
    clear ho hw t0 t1 t2 hBB HP
    go_upto_region 20 with(fail)
    clear t0'
    refine wp_region_noPanic ?_
    refine Zw (fun W=>Below B x0 W) (fun _=>True) 99 (by kernel_rfl) ?_
    refine wT (i:=0) (oi:= ?_) (v:= ?_) ?_ ?_ HS.out ?_
    rotate_left 2
    ·(simp only[Za,Zb,Zc]; rfl)
    ·(first|exact Or.inr ⟨by rfl,rfl⟩|(refine Or.inl ⟨by rfl,?_⟩; intro W hSw; clear hSw; go_simp; try with_reducible rfl))
    try simp only[Act.put,Zd,Ze,Zf]
    refine wT (i:=3) (oi:= ?_) (v:= ?_) ?_ ?_ HS.out ?_
    rotate_left 2
    ·(simp only[Za,Zb,Zc]; rfl)
    ·(first|exact Or.inr ⟨by rfl,rfl⟩|(refine Or.inl ⟨by rfl,?_⟩; intro W hSw; clear hSw; go_simp; try with_reducible rfl))
    try simp only[Act.put,Zd,Ze,Zf]
    refine wT (i:=4) (oi:= ?_) (v:= ?_) ?_ ?_ HS.out ?_
    rotate_left 2
    ·(simp only[Za,Zb,Zc]; rfl)
    ·(first|exact Or.inr ⟨by rfl,rfl⟩|(refine Or.inl ⟨by rfl,?_⟩; intro W hSw; have hq0:=HC.out W hSw; clear hSw; go_simp; try with_reducible rfl))
    try simp only[Act.put,Zd,Ze,Zf]
    clear HS
    generalize x0.drew=y0 at *
    refine Wk (i:=1) (j:=6) (o:= ?_) (o2:= ?_) (by kernel_rfl) ?_ ?_ (fun K hK=> ?first16) (fun K hK=> ?second16)
    rotate_left 2
    ·(simp only[Za,Zb,Zc]; rfl)
    ·(simp only[Za,Zb,Zc]; rfl)
    case' first16 =>
     go_simp
     have HT1:=Zg (HT0.out.alloc (HBS.out _ HT0.out) (.cells #[.int .u8 0,.int .u8 0] 5))
     have HW1:=Zg (HW0.out.alloc (.cells #[.int .u8 0,.int .u8 0] 5))
     have HQ1:=Zg (zero2 y0)
     have HL1:=Zg (show y0.heap.size<(y0.alloc (.cells #[.int .u8 0,.int .u8 0] 5)).heap.size∧y0.heap.size≠g1 from⟨by simp,fun e=>by have:=HW0.out.lt; omega⟩)
     refine hK.out _ _ HT1.out (fun _=>trivial) ?_
     clear hK K
     try simp only[Act.put,Zd,Ze,Zf]
     generalize y0.alloc (.cells #[.int .u8 0,.int .u8 0] 5)=x1 at *
     generalize y0.heap.size=p1 at *
     clear HT0 HW0
     refine Wk (i:=2) (j:=6) (o:= ?_) (o2:= ?_) (by kernel_rfl) ?_ ?_ (fun K hK=> ?first26) (fun K hK=> ?second26)
     rotate_left 2
     ·(simp only[Za,Zb,Zc]; rfl)
     ·(simp only[Za,Zb,Zc]; rfl)
     case' first26 =>
      refine YU rfl (.tmp 93) (.tmp 94) 25 rfl (.slice (some ⟨p1,0,none⟩) 2 2) HW1.out (show b'.length=d1.length from by first|omega|(simp only[List.length_append,List.length_cons,List.length_nil]; omega)) (show 2=[0,0].length from rfl) (Wn HQ1.out) (fun v hv=>by simp at hv; omega) (by have:=HSL.out.2; omega) (HBS.out _ HT1.out) (by first|rfl|simp[Act.eval]) (by first|rfl|simp[Act.eval]) ?_
      intro g2 c2 x2 ho2 hb2 hg2 ha2
      have HW2:=Zg ho2
      have HT2:=Zg (HT1.out.trans hb2)
      refine hK.out _ _ HT2.out (fun _=>trivial) ?_
      clear hK K
      try simp only[Act.put,Zd,Ze,Zf]
      clear HT1 HW1 ho2 hb2 hg2 ha2
      refine Wk (i:=5) (j:=6) (o:= ?_) (o2:= ?_) (by kernel_rfl) ?_ ?_ (fun K hK=> ?first56) (fun K hK=> ?second56)
      rotate_left 2
      ·(simp only[Za,Zb,Zc]; rfl)
      ·(simp only[Za,Zb,Zc]; rfl)
      case first56 =>
       refine YU rfl (.tmp 95) (.tmp 97) 9 rfl (.string (txt nm)) HW2.out (show(b'.length+2)=(d1++[0,0]).length from by first|omega|(simp only[List.length_append,List.length_cons,List.length_nil]; omega)) (show nm.length=nm.length from rfl) (Wu nm HSL.out.1) HSL.out.1 (by have:=HSL.out.2; omega) (HBS.out _ HT2.out) (by first|rfl|simp[Act.eval]) (by first|rfl|simp[Act.eval]) ?_
       intro g3 c3 x3 ho3 hb3 hg3 ha3
       have HW3:=Zg ho3
       have HT3:=Zg (HT2.out.trans hb3)
       refine hK.out _ _ HT3.out (fun _=>trivial) ?_
       clear hK K
       try simp only[Act.put,Zd,Ze,Zf]
       clear HT2 HW2 ho3 hb3 hg3 ha3
       refine Zk (i:=6) (o:= ?_) (by kernel_rfl) ?_ (fun K hK=> ?_)
       rotate_left 1
       ·(simp only[Za,Zb,Zc]; rfl)
       go_simp
       have HT4:=Zg (HT3.out.alloc (HBS.out _ HT3.out) (.cells #[.int .u8 0] 5))
       have HW4:=Zg (HW3.out.alloc (.cells #[.int .u8 0] 5))
       have HQ4:=Zg (Zgb x3)
       have HL4:=Zg (show x3.heap.size<(x3.alloc (.cells #[.int .u8 0] 5)).heap.size∧x3.heap.size≠g3 from⟨by simp,fun e=>by have:=HW3.out.lt; omega⟩)
       refine hK.out _ _ HT4.out (fun _=>trivial) ?_
       clear hK K
       try simp only[Act.put,Zd,Ze,Zf]
       generalize x3.alloc (.cells #[.int .u8 0] 5)=x4 at *
       generalize x3.heap.size=p4 at *
       clear HT3 HW3
       refine Zk (i:=7) (o:= ?_) (by kernel_rfl) ?_ (fun K hK=> ?_)
       rotate_left 1
       ·(simp only[Za,Zb,Zc]; rfl)
       refine YU rfl (.tmp 98) (.tmp 99) 25 rfl (.slice (some ⟨p4,0,none⟩) 1 1) HW4.out (show((b'.length+2)+nm.length)=((d1++[0,0])++nm).length from by first|omega|(simp only[List.length_append,List.length_cons,List.length_nil]; omega)) (show 1=[0].length from rfl) (Wn HQ4.out) (fun v hv=>by simp at hv; omega) (by have:=HSL.out.2; omega) (HBS.out _ HT4.out) (by first|rfl|simp[Act.eval]) (by first|rfl|simp[Act.eval]) ?_
       intro g5 c5 x5 ho5 hb5 hg5 ha5
       have HW5:=Zg ho5
       have HT5:=Zg (HT4.out.trans hb5)
       refine hK.out _ _ HT5.out (fun _=>trivial) ?_
       clear hK K
       try simp only[Act.put,Zd,Ze,Zf]
       clear HT4 HW4 ho5 hb5 hg5 ha5
       refine wT (i:=8) (oi:= ?_) (v:= ?_) ?_ ?_ HT5.out ?_
       rotate_left 2
       ·(simp only[Za,Zb,Zc]; rfl)
       ·(first|exact Or.inr ⟨by rfl,rfl⟩|(refine Or.inl ⟨by rfl,?_⟩; intro W hSw; clear hSw; go_simp; try with_reducible rfl))
       try simp only[Act.put,Zd,Ze,Zf]
       refine Zp (by kernel_rfl) ?_ _
       refine NoPanic.normal ?_
       go_wp2_with fail
       go_roundw
       case rel=>exact⟨q+1,g5,c5,(((d1++[0,0])++nm)++[0]),by omega,by go_num,by simp only[List.length_append,List.length_cons,List.length_nil]; congr 1; omega,HW5.out.weaken hB0,by simp; omega,by simp; have:=HSL.out.2; omega,HBX.out.trans (HT5.out.mono hB0),HREC.out⟩
       case measure=>simp[intOf]; omega
      case second56 =>
       go_simp
       have HT3:=Zg (HT2.out.alloc (HBS.out _ HT2.out) (.cells #[.int .u8 0] 5))
       have HW3:=Zg (HW2.out.alloc (.cells #[.int .u8 0] 5))
       have HQ3:=Zg (Zgb x2)
       have HL3:=Zg (show x2.heap.size<(x2.alloc (.cells #[.int .u8 0] 5)).heap.size∧x2.heap.size≠g2 from⟨by simp,fun e=>by have:=HW2.out.lt; omega⟩)
       refine hK.out _ _ HT3.out (fun _=>trivial) ?_
       clear hK K
       try simp only[Act.put,Zd,Ze,Zf]
       generalize x2.alloc (.cells #[.int .u8 0] 5)=x3 at *
       generalize x2.heap.size=p3 at *
       clear HT2 HW2
       refine Zk (i:=5) (o:= ?_) (by kernel_rfl) ?_ (fun K hK=> ?_)
       rotate_left 1
       ·(simp only[Za,Zb,Zc]; rfl)
       refine YU rfl (.tmp 95) (.tmp 97) 9 rfl (.string (txt nm)) HW3.out (show(b'.length+2)=(d1++[0,0]).length from by first|omega|(simp only[List.length_append,List.length_cons,List.length_nil]; omega)) (show nm.length=nm.length from rfl) (Wu nm HSL.out.1) HSL.out.1 (by have:=HSL.out.2; omega) (HBS.out _ HT3.out) (by first|rfl|simp[Act.eval]) (by first|rfl|simp[Act.eval]) ?_
       intro g4 c4 x4 ho4 hb4 hg4 ha4
       have HW4:=Zg ho4
       have HT4:=Zg (HT3.out.trans hb4)
       have HQo4:=Zg (WN HQ3.out hg4 HL3.out.1 HL3.out.2)
       have HLo4:=Zg (show p3<x4.heap.size∧p3≠g4 from⟨Nat.lt_of_lt_of_le HL3.out.1 hg4.size,fun e=>by have h1:=HL3.out; rcases ha4 with h|h <;> omega⟩)
       clear HQ3 HL3
       have HQ3:=HQo4
       have HL3:=HLo4
       clear HQo4 HLo4
       refine hK.out _ _ HT4.out (fun _=>trivial) ?_
       clear hK K
       try simp only[Act.put,Zd,Ze,Zf]
       clear HT3 HW3 ho4 hb4 hg4 ha4
       refine Zk (i:=7) (o:= ?_) (by kernel_rfl) ?_ (fun K hK=> ?_)
       rotate_left 1
       ·(simp only[Za,Zb,Zc]; rfl)
       refine YU rfl (.tmp 98) (.tmp 99) 25 rfl (.slice (some ⟨p3,0,none⟩) 1 1) HW4.out (show((b'.length+2)+nm.length)=((d1++[0,0])++nm).length from by first|omega|(simp only[List.length_append,List.length_cons,List.length_nil]; omega)) (show 1=[0].length from rfl) (Wn HQ3.out) (fun v hv=>by simp at hv; omega) (by have:=HSL.out.2; omega) (HBS.out _ HT4.out) (by first|rfl|simp[Act.eval]) (by first|rfl|simp[Act.eval]) ?_
       intro g5 c5 x5 ho5 hb5 hg5 ha5
       have HW5:=Zg ho5
       have HT5:=Zg (HT4.out.trans hb5)
       refine hK.out _ _ HT5.out (fun _=>trivial) ?_
       clear hK K
       try simp only[Act.put,Zd,Ze,Zf]
       clear HT4 HW4 ho5 hb5 hg5 ha5
       refine wT (i:=8) (oi:= ?_) (v:= ?_) ?_ ?_ HT5.out ?_
       rotate_left 2
       ·(simp only[Za,Zb,Zc]; rfl)
       ·(first|exact Or.inr ⟨by rfl,rfl⟩|(refine Or.inl ⟨by rfl,?_⟩; intro W hSw; clear hSw; go_simp; try with_reducible rfl))
       try simp only[Act.put,Zd,Ze,Zf]
       refine Zp (by kernel_rfl) ?_ _
       refine NoPanic.normal ?_
       go_wp2_with fail
       go_roundw
       case rel=>exact⟨q+1,g5,c5,(((d1++[0,0])++nm)++[0]),by omega,by go_num,by simp only[List.length_append,List.length_cons,List.length_nil]; congr 1; omega,HW5.out.weaken hB0,by simp; omega,by simp; have:=HSL.out.2; omega,HBX.out.trans (HT5.out.mono hB0),HREC.out⟩
       case measure=>simp[intOf]; omega
     case second26 =>
      go_simp
      have HT2:=Zg (HT1.out.alloc (HBS.out _ HT1.out) (.cells #[.int .u8 0] 5))
      have HW2:=Zg (HW1.out.alloc (.cells #[.int .u8 0] 5))
      have HQ2:=Zg (Zgb x1)
      have HL2:=Zg (show x1.heap.size<(x1.alloc (.cells #[.int .u8 0] 5)).heap.size∧x1.heap.size≠g1 from⟨by simp,fun e=>by have:=HW1.out.lt; omega⟩)
      have HQo2:=Zg (SlB.below HQ1.out ((Below.refl x1.heap.size x1).alloc (Nat.le_refl _) (.cells #[.int .u8 0] 5)))
      have HLo2:=Zg (show p1<(x1.alloc (.cells #[.int .u8 0] 5)).heap.size∧p1≠g1 from⟨Nat.lt_of_lt_of_le HL1.out.1 (by simp),HL1.out.2⟩)
      clear HQ1 HL1
      have HQ1:=HQo2
      have HL1:=HLo2
      clear HQo2 HLo2
      refine hK.out _ _ HT2.out (fun _=>trivial) ?_
      clear hK K
      try simp only[Act.put,Zd,Ze,Zf]
      generalize x1.alloc (.cells #[.int .u8 0] 5)=x2 at *
      generalize x1.heap.size=p2 at *
      clear HT1 HW1
      refine Zk (i:=2) (o:= ?_) (by kernel_rfl) ?_ (fun K hK=> ?_)
      rotate_left 1
      ·(simp only[Za,Zb,Zc]; rfl)
      refine YU rfl (.tmp 93) (.tmp 94) 25 rfl (.slice (some ⟨p1,0,none⟩) 2 2) HW2.out (show b'.length=d1.length from by first|omega|(simp only[List.length_append,List.length_cons,List.length_nil]; omega)) (show 2=[0,0].length from rfl) (Wn HQ1.out) (fun v hv=>by simp at hv; omega) (by have:=HSL.out.2; omega) (HBS.out _ HT2.out) (by first|rfl|simp[Act.eval]) (by first|rfl|simp[Act.eval]) ?_
      intro g3 c3 x3 ho3 hb3 hg3 ha3
      have HW3:=Zg ho3
      have HT3:=Zg (HT2.out.trans hb3)
      have HQo3:=Zg (WN HQ2.out hg3 HL2.out.1 HL2.out.2)
      have HLo3:=Zg (show p2<x3.heap.size∧p2≠g3 from⟨Nat.lt_of_lt_of_le HL2.out.1 hg3.size,fun e=>by have h1:=HL2.out; rcases ha3 with h|h <;> omega⟩)
      clear HQ2 HL2
      have HQ2:=HQo3
      have HL2:=HLo3
      clear HQo3 HLo3
      refine hK.out _ _ HT3.out (fun _=>trivial) ?_
      clear hK K
      try simp only[Act.put,Zd,Ze,Zf]
      clear HT2 HW2 ho3 hb3 hg3 ha3
      refine Zk (i:=5) (o:= ?_) (by kernel_rfl) ?_ (fun K hK=> ?_)
      rotate_left 1
      ·(simp only[Za,Zb,Zc]; rfl)
      refine YU rfl (.tmp 95) (.tmp 97) 9 rfl (.string (txt nm)) HW3.out (show(b'.length+2)=(d1++[0,0]).length from by first|omega|(simp only[List.length_append,List.length_cons,List.length_nil]; omega)) (show nm.length=nm.length from rfl) (Wu nm HSL.out.1) HSL.out.1 (by have:=HSL.out.2; omega) (HBS.out _ HT3.out) (by first|rfl|simp[Act.eval]) (by first|rfl|simp[Act.eval]) ?_
      intro g4 c4 x4 ho4 hb4 hg4 ha4
      have HW4:=Zg ho4
      have HT4:=Zg (HT3.out.trans hb4)
      have HQo4:=Zg (WN HQ2.out hg4 HL2.out.1 HL2.out.2)
      have HLo4:=Zg (show p2<x4.heap.size∧p2≠g4 from⟨Nat.lt_of_lt_of_le HL2.out.1 hg4.size,fun e=>by have h1:=HL2.out; rcases ha4 with h|h <;> omega⟩)
      clear HQ2 HL2
      have HQ2:=HQo4
      have HL2:=HLo4
      clear HQo4 HLo4
      refine hK.out _ _ HT4.out (fun _=>trivial) ?_
      clear hK K
      try simp only[Act.put,Zd,Ze,Zf]
      clear HT3 HW3 ho4 hb4 hg4 ha4
      refine Zk (i:=7) (o:= ?_) (by kernel_rfl) ?_ (fun K hK=> ?_)
      rotate_left 1
      ·(simp only[Za,Zb,Zc]; rfl)
      refine YU rfl (.tmp 98) (.tmp 99) 25 rfl (.slice (some ⟨p2,0,none⟩) 1 1) HW4.out (show((b'.length+2)+nm.length)=((d1++[0,0])++nm).length from by first|omega|(simp only[List.length_append,List.length_cons,List.length_nil]; omega)) (show 1=[0].length from rfl) (Wn HQ2.out) (fun v hv=>by simp at hv; omega) (by have:=HSL.out.2; omega) (HBS.out _ HT4.out) (by first|rfl|simp[Act.eval]) (by first|rfl|simp[Act.eval]) ?_
      intro g5 c5 x5 ho5 hb5 hg5 ha5
      have HW5:=Zg ho5
      have HT5:=Zg (HT4.out.trans hb5)
      refine hK.out _ _ HT5.out (fun _=>trivial) ?_
      clear hK K
      try simp only[Act.put,Zd,Ze,Zf]
      clear HT4 HW4 ho5 hb5 hg5 ha5
      refine wT (i:=8) (oi:= ?_) (v:= ?_) ?_ ?_ HT5.out ?_
      rotate_left 2
      ·(simp only[Za,Zb,Zc]; rfl)
      ·(first|exact Or.inr ⟨by rfl,rfl⟩|(refine Or.inl ⟨by rfl,?_⟩; intro W hSw; clear hSw; go_simp; try with_reducible rfl))
      try simp only[Act.put,Zd,Ze,Zf]
      refine Zp (by kernel_rfl) ?_ _
      refine NoPanic.normal ?_
      go_wp2_with fail
      go_roundw
      case rel=>exact⟨q+1,g5,c5,(((d1++[0,0])++nm)++[0]),by omega,by go_num,by simp only[List.length_append,List.length_cons,List.length_nil]; congr 1; omega,HW5.out.weaken hB0,by simp; omega,by simp; have:=HSL.out.2; omega,HBX.out.trans (HT5.out.mono hB0),HREC.out⟩
      case measure=>simp[intOf]; omega
    case second16 =>
     go_simp
     have HT1:=Zg (HT0.out.alloc (HBS.out _ HT0.out) (.cells #[.int .u8 0] 5))
     have HW1:=Zg (HW0.out.alloc (.cells #[.int .u8 0] 5))
     have HQ1:=Zg (Zgb y0)
     have HL1:=Zg (show y0.heap.size<(y0.alloc (.cells #[.int .u8 0] 5)).heap.size∧y0.heap.size≠g1 from⟨by simp,fun e=>by have:=HW0.out.lt; omega⟩)
     refine hK.out _ _ HT1.out (fun _=>trivial) ?_
     clear hK K
     try simp only[Act.put,Zd,Ze,Zf]
     generalize y0.alloc (.cells #[.int .u8 0] 5)=x1 at *
     generalize y0.heap.size=p1 at *
     clear HT0 HW0
     refine Zk (i:=1) (o:= ?_) (by kernel_rfl) ?_ (fun K hK=> ?_)
     rotate_left 1
     ·(simp only[Za,Zb,Zc]; rfl)
     go_simp
     have HT2:=Zg (HT1.out.alloc (HBS.out _ HT1.out) (.cells #[.int .u8 0,.int .u8 0] 5))
     have HW2:=Zg (HW1.out.alloc (.cells #[.int .u8 0,.int .u8 0] 5))
     have HQ2:=Zg (zero2 x1)
     have HL2:=Zg (show x1.heap.size<(x1.alloc (.cells #[.int .u8 0,.int .u8 0] 5)).heap.size∧x1.heap.size≠g1 from⟨by simp,fun e=>by have:=HW1.out.lt; omega⟩)
     have HQo2:=Zg (SlB.below HQ1.out ((Below.refl x1.heap.size x1).alloc (Nat.le_refl _) (.cells #[.int .u8 0,.int .u8 0] 5)))
     have HLo2:=Zg (show p1<(x1.alloc (.cells #[.int .u8 0,.int .u8 0] 5)).heap.size∧p1≠g1 from⟨Nat.lt_of_lt_of_le HL1.out.1 (by simp),HL1.out.2⟩)
     clear HQ1 HL1
     have HQ1:=HQo2
     have HL1:=HLo2
     clear HQo2 HLo2
     refine hK.out _ _ HT2.out (fun _=>trivial) ?_
     clear hK K
     try simp only[Act.put,Zd,Ze,Zf]
     generalize x1.alloc (.cells #[.int .u8 0,.int .u8 0] 5)=x2 at *
     generalize x1.heap.size=p2 at *
     clear HT1 HW1
     refine Zk (i:=2) (o:= ?_) (by kernel_rfl) ?_ (fun K hK=> ?_)
     rotate_left 1
     ·(simp only[Za,Zb,Zc]; rfl)
     refine YU rfl (.tmp 93) (.tmp 94) 25 rfl (.slice (some ⟨p2,0,none⟩) 2 2) HW2.out (show b'.length=d1.length from by first|omega|(simp only[List.length_append,List.length_cons,List.length_nil]; omega)) (show 2=[0,0].length from rfl) (Wn HQ2.out) (fun v hv=>by simp at hv; omega) (by have:=HSL.out.2; omega) (HBS.out _ HT2.out) (by first|rfl|simp[Act.eval]) (by first|rfl|simp[Act.eval]) ?_
     intro g3 c3 x3 ho3 hb3 hg3 ha3
     have HW3:=Zg ho3
     have HT3:=Zg (HT2.out.trans hb3)
     have HQo3:=Zg (WN HQ1.out hg3 HL1.out.1 HL1.out.2)
     have HLo3:=Zg (show p1<x3.heap.size∧p1≠g3 from⟨Nat.lt_of_lt_of_le HL1.out.1 hg3.size,fun e=>by have h1:=HL1.out; rcases ha3 with h|h <;> omega⟩)
     clear HQ1 HL1
     have HQ1:=HQo3
     have HL1:=HLo3
     clear HQo3 HLo3
     refine hK.out _ _ HT3.out (fun _=>trivial) ?_
     clear hK K
     try simp only[Act.put,Zd,Ze,Zf]
     clear HT2 HW2 ho3 hb3 hg3 ha3
     refine Zk (i:=5) (o:= ?_) (by kernel_rfl) ?_ (fun K hK=> ?_)
     rotate_left 1
     ·(simp only[Za,Zb,Zc]; rfl)
     refine YU rfl (.tmp 95) (.tmp 97) 9 rfl (.string (txt nm)) HW3.out (show(b'.length+2)=(d1++[0,0]).length from by first|omega|(simp only[List.length_append,List.length_cons,List.length_nil]; omega)) (show nm.length=nm.length from rfl) (Wu nm HSL.out.1) HSL.out.1 (by have:=HSL.out.2; omega) (HBS.out _ HT3.out) (by first|rfl|simp[Act.eval]) (by first|rfl|simp[Act.eval]) ?_
     intro g4 c4 x4 ho4 hb4 hg4 ha4
     have HW4:=Zg ho4
     have HT4:=Zg (HT3.out.trans hb4)
     have HQo4:=Zg (WN HQ1.out hg4 HL1.out.1 HL1.out.2)
     have HLo4:=Zg (show p1<x4.heap.size∧p1≠g4 from⟨Nat.lt_of_lt_of_le HL1.out.1 hg4.size,fun e=>by have h1:=HL1.out; rcases ha4 with h|h <;> omega⟩)
     clear HQ1 HL1
     have HQ1:=HQo4
     have HL1:=HLo4
     clear HQo4 HLo4
     refine hK.out _ _ HT4.out (fun _=>trivial) ?_
     clear hK K
     try simp only[Act.put,Zd,Ze,Zf]
     clear HT3 HW3 ho4 hb4 hg4 ha4
     refine Zk (i:=7) (o:= ?_) (by kernel_rfl) ?_ (fun K hK=> ?_)
     rotate_left 1
     ·(simp only[Za,Zb,Zc]; rfl)
     refine YU rfl (.tmp 98) (.tmp 99) 25 rfl (.slice (some ⟨p1,0,none⟩) 1 1) HW4.out (show((b'.length+2)+nm.length)=((d1++[0,0])++nm).length from by first|omega|(simp only[List.length_append,List.length_cons,List.length_nil]; omega)) (show 1=[0].length from rfl) (Wn HQ1.out) (fun v hv=>by simp at hv; omega) (by have:=HSL.out.2; omega) (HBS.out _ HT4.out) (by first|rfl|simp[Act.eval]) (by first|rfl|simp[Act.eval]) ?_
     intro g5 c5 x5 ho5 hb5 hg5 ha5
     have HW5:=Zg ho5
     have HT5:=Zg (HT4.out.trans hb5)
     refine hK.out _ _ HT5.out (fun _=>trivial) ?_
     clear hK K
     try simp only[Act.put,Zd,Ze,Zf]
     clear HT4 HW4 ho5 hb5 hg5 ha5
     refine wT (i:=8) (oi:= ?_) (v:= ?_) ?_ ?_ HT5.out ?_
     rotate_left 2
     ·(simp only[Za,Zb,Zc]; rfl)
     ·(first|exact Or.inr ⟨by rfl,rfl⟩|(refine Or.inl ⟨by rfl,?_⟩; intro W hSw; clear hSw; go_simp; try with_reducible rfl))
     try simp only[Act.put,Zd,Ze,Zf]
     refine Zp (by kernel_rfl) ?_ _
     refine NoPanic.normal ?_
     go_wp2_with fail
     go_roundw
     case rel=>exact⟨q+1,g5,c5,(((d1++[0,0])++nm)++[0]),by omega,by go_num,by simp only[List.length_append,List.length_cons,List.length_nil]; congr 1; omega,HW5.out.weaken hB0,by simp; omega,by simp; have:=HSL.out.2; omega,HBX.out.trans (HT5.out.mono hB0),HREC.out⟩
     case measure=>simp[intOf]; omega
   ·have hrec:=HREC0.out
    rw[if_pos rfl] at hrec
    have hmx:bits .and .i64 oi 65535=((od % 65536:Nat):Int):=by have:=HOI.out; rw[Zhn]; omega
    obtain⟨x,hx⟩: ∃ x,od % 65536=x:=⟨_,rfl⟩
    rw[hx] at hmx hrec
    have hxb:x<65536:=by omega
    obtain⟨y1,hy1⟩: ∃ y:Int,(x:Int) - 4611686018427387904=y:=⟨_,rfl⟩
    obtain⟨y2,hy2⟩: ∃ y:Int,y1 - 4611686018427387904=y:=⟨_,rfl⟩
    have wy1:IntKind.i64.wrap y1=y1:=by rw[IntKind.wrap_i64]; omega
    have wy2:IntKind.i64.wrap y2=y2:=by rw[IntKind.wrap_i64]; omega
    have wu:IntKind.u64.wrap y2=((x+9223372036854775808:Nat):Int):=by rw[IntKind.wrap_u64]; omega
    have hl1:=Zo (b:=b') (o:=o) (n:=8) hob (x+9223372036854775808)
    have hp:=Yo (some ⟨g,0,none⟩) c b' o 8 y2 (x+9223372036854775808) w1 HO1.out.lb (by omega) HO1.out.slB (by omega) (by omega) hob wu (by omega)
    obtain⟨d1,hd1⟩: ∃ z,ZQ b' o 8 (x+9223372036854775808)=z:=⟨_,rfl⟩
    rw[hd1] at hp hl1 hrec
    have HREC:=Zg hrec
    have HP:=Zg hp
    clear hp hd1 hrec HREC0 hx wu
    go_wp2_with fail
    refine HP.out.mono ?_
    rintro e x0 ⟨g1,c1,rfl,ho,hw⟩
    have HBX:=Zg (HB1.out.trans (hw.mono HB1.out.size))
    have HW0:=Zg (ho.weaken HB1.out.size)
    clear ho hw
    go_wp2_with fail
    go_roundw
    case rel=>exact⟨q+1,g1,c1,d1,by omega,by go_num,by rw[hl1],HW0.out,by omega,by omega,HBX.out,HREC.out⟩
    case measure=>simp[intOf]; omega
  ·obtain rfl:q=k:=by omega
   have hrec:=HB2.out
   rw[List.drop_eq_nil_of_le (by rw[List.length_take]; omega)] at hrec
   have hrec':b'=B2:=hrec
   subst hrec'
   go_wp2_with fail
   refine HK.out _ _ g c ⟨rfl,rfl,rfl⟩ HO.out HB.out
theorem Xn {a:Act} {v0 v1 v2 v7 v8 v9 v10 v11 v13 v14 v17:Value} (h:Has 175 [0,1,2,7,8,9,10,11,13,14,17] [v0,v1,v2,v7,v8,v9,v10,v11,v13,v14,v17] a): ∃ u:Nat→Value,a=⟨(v0::v1::v2::u 3::u 4::u 5::u 6::v7::v8::v9::v10::v11::u 12::v13::v14::u 15::u 16::v17::u 18::u 19::u 20::u 21::u 22::u 23::u 24::u 25::u 26::u 27::u 28::u 29::u 30::u 31::u 32::u 33::u 34::u 35::u 36::u 37::u 38::u 39::u 40::u 41::u 42::u 43::u 44::u 45::u 46::u 47::u 48::u 49::u 50::u 51::u 52::u 53::u 54::u 55::u 56::u 57::u 58::u 59::u 60::u 61::u 62::u 63::u 64::u 65::u 66::u 67::u 68::u 69::u 70::u 71::u 72::u 73::u 74::u 75::u 76::u 77::u 78::u 79::u 80::u 81::u 82::u 83::u 84::u 85::u 86::u 87::u 88::u 89::u 90::u 91::u 92::u 93::u 94::u 95::u 96::u 97::u 98::u 99::u 100::u 101::u 102::u 103::u 104::u 105::u 106::u 107::u 108::u 109::u 110::u 111::u 112::u 113::u 114::u 115::u 116::u 117::u 118::u 119::u 120::u 121::u 122::u 123::u 124::u 125::u 126::u 127::u 128::u 129::u 130::u 131::u 132::u 133::u 134::u 135::u 136::u 137::u 138::u 139::u 140::u 141::u 142::u 143::u 144::u 145::u 146::u 147::u 148::u 149::u 150::u 151::u 152::u 153::u 154::u 155::u 156::u 157::u 158::u 159::u 160::u 161::u 162::u 163::u 164::u 165::u 166::u 167::u 168::u 169::u 170::u 171::u 172::u 173::u 174::[]).toArray,[]⟩:=by
 obtain⟨⟨l⟩,d⟩:=a
 obtain⟨hs,hd,hl⟩:=h
 have hs':l.length=175:=hs
 have hd':d=[]:=hd
 subst hd'
 simp only[at_,List.map_cons,List.map_nil,List.cons.injEq,and_true] at hl
 obtain⟨e0,e1,e2,e7,e8,e9,e10,e11,e13,e14,e17⟩:=hl
 refine⟨sl ⟨⟨l⟩,[]⟩,?_⟩
 have key:=Zz l [] 175 hs'
 rw[Va] at key
 have u0:sl ⟨⟨l⟩,[]⟩ 0=v0:=by unfold sl; rw[e0]; rfl
 have u1:sl ⟨⟨l⟩,[]⟩ 1=v1:=by unfold sl; rw[e1]; rfl
 have u2:sl ⟨⟨l⟩,[]⟩ 2=v2:=by unfold sl; rw[e2]; rfl
 have u7:sl ⟨⟨l⟩,[]⟩ 7=v7:=by unfold sl; rw[e7]; rfl
 have u8:sl ⟨⟨l⟩,[]⟩ 8=v8:=by unfold sl; rw[e8]; rfl
 have u9:sl ⟨⟨l⟩,[]⟩ 9=v9:=by unfold sl; rw[e9]; rfl
 have u10:sl ⟨⟨l⟩,[]⟩ 10=v10:=by unfold sl; rw[e10]; rfl
 have u11:sl ⟨⟨l⟩,[]⟩ 11=v11:=by unfold sl; rw[e11]; rfl
 have u13:sl ⟨⟨l⟩,[]⟩ 13=v13:=by unfold sl; rw[e13]; rfl
 have u14:sl ⟨⟨l⟩,[]⟩ 14=v14:=by unfold sl; rw[e14]; rfl
 have u17:sl ⟨⟨l⟩,[]⟩ 17=v17:=by unfold sl; rw[e17]; rfl
 rw[←u0,←u1,←u2,←u7,←u8,←u9,←u10,←u11,←u13,←u14,←u17]
 exact congrArg (fun x=>(⟨⟨x⟩,[]⟩:Act)) key
set_option maxHeartbeats 8000000 in
theorem Zh0 (i at' th iat nm g0 c0:Nat) (b0 B2:List Nat) (v0 v1 v7 v8:Value) (w x0:World) (hat:at'+32≤b0.length) (hbl:b0.length≤900000) (hth:th<4294967296) (hia:iat<4294967296) (hnm:nm<4294967296) (hi:i≤1000)
 (HO0:Hid (YI x0 w.heap.size g0 c0 b0)) (HB0:Hid (Below w.heap.size w x0)) (HB2:Hid (ZQ (ZQ (ZQ (ZQ (ZQ (ZQ b0 at' 4 1) (at'+4) 4 nm) (at'+8) 4 8) (at'+12) 4 iat) (at'+16) 4 th) (at'+28) 4 (9+i)=B2)) (Q:Exit→Act→World→Prop) (a:Act)
 (ha:Has 175 [0,1,2,7,8,9,10,11,13,14,17] [v0,v1,.bool true,v7,v8,.slice (some ⟨g0,0,none⟩) b0.length c0,.int .i64 i,.int .i64 at',.int .i64 th,.int .i64 iat,.int .i64 nm] a) (hK: ∀ a' w' g' c',Has 175 [0,1,2,7,8,9,10] [v0,v1,.bool true,v7,v8,.slice (some ⟨g',0,none⟩) B2.length c',.int .i64 i] a'→YI w' w.heap.size g' c' B2→Below w.heap.size w w'→Q (.exit 1) a' w'):(ZY 7 XA).wp Tryz.prog Q a x0:=by
 obtain⟨u,rfl⟩:=Xn ha
 clear ha
 have HK:=Zg hK
 clear hK
 have hre:=HB2.out
 obtain⟨o4,ho4⟩: ∃ q,at'+4=q:=⟨_,rfl⟩
 have eo4:(at':Int)+4=(o4:Int):=by omega
 have hb4:o4+4≤b0.length:=by omega
 obtain⟨o8,ho8⟩: ∃ q,at'+8=q:=⟨_,rfl⟩
 have eo8:(at':Int)+8=(o8:Int):=by omega
 have hb8:o8+4≤b0.length:=by omega
 obtain⟨o12,ho12⟩: ∃ q,at'+12=q:=⟨_,rfl⟩
 have eo12:(at':Int)+12=(o12:Int):=by omega
 have hb12:o12+4≤b0.length:=by omega
 obtain⟨o16,ho16⟩: ∃ q,at'+16=q:=⟨_,rfl⟩
 have eo16:(at':Int)+16=(o16:Int):=by omega
 have hb16:o16+4≤b0.length:=by omega
 obtain⟨o28,ho28⟩: ∃ q,at'+28=q:=⟨_,rfl⟩
 have eo28:(at':Int)+28=(o28:Int):=by omega
 have hb28:o28+4≤b0.length:=by omega
 obtain⟨i9,hi9⟩: ∃ q,9+i=q:=⟨_,rfl⟩
 have ei9:(9:Int)+(i:Int)=(i9:Int):=by omega
 have hi9b:i9<4294967296:=by omega
 rw[ho4,ho8,ho12,ho16,ho28,hi9] at hre
 clear ho4 ho8 ho12 ho16 ho28 hi9 HB2
 obtain⟨L,hL⟩: ∃ L,b0.length=L:=⟨_,rfl⟩
 rw[hL] at hat hbl hb4 hb8 hb12 hb16 hb28
 conv=>arg 2; whnf
 rw[hL]
 have hl1:=Zo (b:=b0) (o:=at') (n:=4) (by omega) 1
 obtain⟨b1,hd1⟩: ∃ q,ZQ b0 at' 4 1=q:=⟨_,rfl⟩
 have hp:=Yo (some ⟨g0,0,none⟩) c0 b0 at' 4 (1:Nat) 1 x0 HO0.out.lb (by omega) HO0.out.slB (by omega) (by omega) (by omega) (ZU (by omega)) (by omega)
 rw[hd1] at hp hl1 hre
 rw[hL] at hp
 have HP:=Zg hp
 have HRE:=Zg hre
 have HL:=Zg hL
 have HL1:=Zg hl1
 clear hp hd1 hre hL hl1
 go_wp2_with fail
 refine HP.out.mono ?_
 rintro e x1 ⟨g1,c1,rfl,ho,hw⟩
 have HO1:=Zg (ho.weaken HB0.out.size)
 have HB1:=Zg (HB0.out.trans (hw.mono HB0.out.size))
 have hre:=HRE.out
 have hL:b1.length=L:=by rw[HL1.out]; exact HL.out
 clear ho hw HP HRE HL HL1
 have hl2:=Zo (b:=b1) (o:=o4) (n:=4) (by omega) nm
 obtain⟨b2,hd2⟩: ∃ q,ZQ b1 o4 4 nm=q:=⟨_,rfl⟩
 have hp:=Yo (some ⟨g1,0,none⟩) c1 b1 o4 4 (nm:Nat) nm x1 HO1.out.lb (by omega) HO1.out.slB (by omega) (by omega) (by omega) (ZU (by omega)) (by omega)
 rw[hd2] at hp hl2 hre
 rw[hL] at hp
 have HP:=Zg hp
 have HRE:=Zg hre
 have HL:=Zg hL
 have HL1:=Zg hl2
 clear hp hd2 hre hL hl2
 go_wp2_with fail
 refine HP.out.mono ?_
 rintro e x2 ⟨g2,c2,rfl,ho,hw⟩
 have HO2:=Zg (ho.weaken HB1.out.size)
 have HB2:=Zg (HB1.out.trans (hw.mono HB1.out.size))
 have hre:=HRE.out
 have hL:b2.length=L:=by rw[HL1.out]; exact HL.out
 clear ho hw HP HRE HL HL1
 have hl3:=Zo (b:=b2) (o:=o8) (n:=4) (by omega) 8
 obtain⟨b3,hd3⟩: ∃ q,ZQ b2 o8 4 8=q:=⟨_,rfl⟩
 have hp:=Yo (some ⟨g2,0,none⟩) c2 b2 o8 4 (8:Nat) 8 x2 HO2.out.lb (by omega) HO2.out.slB (by omega) (by omega) (by omega) (ZU (by omega)) (by omega)
 rw[hd3] at hp hl3 hre
 rw[hL] at hp
 have HP:=Zg hp
 have HRE:=Zg hre
 have HL:=Zg hL
 have HL1:=Zg hl3
 clear hp hd3 hre hL hl3
 go_wp2_with fail
 refine HP.out.mono ?_
 rintro e x3 ⟨g3,c3,rfl,ho,hw⟩
 have HO3:=Zg (ho.weaken HB2.out.size)
 have HB3:=Zg (HB2.out.trans (hw.mono HB2.out.size))
 have hre:=HRE.out
 have hL:b3.length=L:=by rw[HL1.out]; exact HL.out
 clear ho hw HP HRE HL HL1
 have hl4:=Zo (b:=b3) (o:=o12) (n:=4) (by omega) iat
 obtain⟨b4,hd4⟩: ∃ q,ZQ b3 o12 4 iat=q:=⟨_,rfl⟩
 have hp:=Yo (some ⟨g3,0,none⟩) c3 b3 o12 4 (iat:Nat) iat x3 HO3.out.lb (by omega) HO3.out.slB (by omega) (by omega) (by omega) (ZU (by omega)) (by omega)
 rw[hd4] at hp hl4 hre
 rw[hL] at hp
 have HP:=Zg hp
 have HRE:=Zg hre
 have HL:=Zg hL
 have HL1:=Zg hl4
 clear hp hd4 hre hL hl4
 go_wp2_with fail
 refine HP.out.mono ?_
 rintro e x4 ⟨g4,c4,rfl,ho,hw⟩
 have HO4:=Zg (ho.weaken HB3.out.size)
 have HB4:=Zg (HB3.out.trans (hw.mono HB3.out.size))
 have hre:=HRE.out
 have hL:b4.length=L:=by rw[HL1.out]; exact HL.out
 clear ho hw HP HRE HL HL1
 have hl5:=Zo (b:=b4) (o:=o16) (n:=4) (by omega) th
 obtain⟨b5,hd5⟩: ∃ q,ZQ b4 o16 4 th=q:=⟨_,rfl⟩
 have hp:=Yo (some ⟨g4,0,none⟩) c4 b4 o16 4 (th:Nat) th x4 HO4.out.lb (by omega) HO4.out.slB (by omega) (by omega) (by omega) (ZU (by omega)) (by omega)
 rw[hd5] at hp hl5 hre
 rw[hL] at hp
 have HP:=Zg hp
 have HRE:=Zg hre
 have HL:=Zg hL
 have HL1:=Zg hl5
 clear hp hd5 hre hL hl5
 go_wp2_with fail
 refine HP.out.mono ?_
 rintro e x5 ⟨g5,c5,rfl,ho,hw⟩
 have HO5:=Zg (ho.weaken HB4.out.size)
 have HB5:=Zg (HB4.out.trans (hw.mono HB4.out.size))
 have hre:=HRE.out
 have hL:b5.length=L:=by rw[HL1.out]; exact HL.out
 clear ho hw HP HRE HL HL1
 have hl6:=Zo (b:=b5) (o:=o28) (n:=4) (by omega) i9
 obtain⟨b6,hd6⟩: ∃ q,ZQ b5 o28 4 i9=q:=⟨_,rfl⟩
 have hp:=Yo (some ⟨g5,0,none⟩) c5 b5 o28 4 (i9:Nat) i9 x5 HO5.out.lb (by omega) HO5.out.slB (by omega) (by omega) (by omega) (ZU (by omega)) (by omega)
 rw[hd6] at hp hl6 hre
 rw[hL] at hp
 have HP:=Zg hp
 have HRE:=Zg hre
 have HL:=Zg hL
 have HL1:=Zg hl6
 clear hp hd6 hre hL hl6
 go_wp2_with fail
 refine HP.out.mono ?_
 rintro e x6 ⟨g6,c6,rfl,ho,hw⟩
 have HO6:=Zg (ho.weaken HB5.out.size)
 have HB6:=Zg (HB5.out.trans (hw.mono HB5.out.size))
 have hre:=HRE.out
 have hL:b6.length=L:=by rw[HL1.out]; exact HL.out
 clear ho hw HP HRE HL HL1
 subst hre
 have HL:=Zg hL
 clear hL
 go_wp2_with fail
 refine HK.out _ _ g6 c6 ?_ HO6.out HB6.out
 rw[HL.out]
 exact⟨rfl,rfl,rfl⟩
theorem and_1 (n:Int):bits .and .i64 n 1=n % 2:=Xw n 1 (by omega)
theorem Yj {a:Act} {v0 v1 v2 v7 v8 v9 v10 v11 v12 v13 v14 v17:Value} (h:Has 175 [0,1,2,7,8,9,10,11,12,13,14,17] [v0,v1,v2,v7,v8,v9,v10,v11,v12,v13,v14,v17] a): ∃ u:Nat→Value,a=⟨(v0::v1::v2::u 3::u 4::u 5::u 6::v7::v8::v9::v10::v11::v12::v13::v14::u 15::u 16::v17::u 18::u 19::u 20::u 21::u 22::u 23::u 24::u 25::u 26::u 27::u 28::u 29::u 30::u 31::u 32::u 33::u 34::u 35::u 36::u 37::u 38::u 39::u 40::u 41::u 42::u 43::u 44::u 45::u 46::u 47::u 48::u 49::u 50::u 51::u 52::u 53::u 54::u 55::u 56::u 57::u 58::u 59::u 60::u 61::u 62::u 63::u 64::u 65::u 66::u 67::u 68::u 69::u 70::u 71::u 72::u 73::u 74::u 75::u 76::u 77::u 78::u 79::u 80::u 81::u 82::u 83::u 84::u 85::u 86::u 87::u 88::u 89::u 90::u 91::u 92::u 93::u 94::u 95::u 96::u 97::u 98::u 99::u 100::u 101::u 102::u 103::u 104::u 105::u 106::u 107::u 108::u 109::u 110::u 111::u 112::u 113::u 114::u 115::u 116::u 117::u 118::u 119::u 120::u 121::u 122::u 123::u 124::u 125::u 126::u 127::u 128::u 129::u 130::u 131::u 132::u 133::u 134::u 135::u 136::u 137::u 138::u 139::u 140::u 141::u 142::u 143::u 144::u 145::u 146::u 147::u 148::u 149::u 150::u 151::u 152::u 153::u 154::u 155::u 156::u 157::u 158::u 159::u 160::u 161::u 162::u 163::u 164::u 165::u 166::u 167::u 168::u 169::u 170::u 171::u 172::u 173::u 174::[]).toArray,[]⟩:=by
 obtain⟨⟨l⟩,d⟩:=a
 obtain⟨hs,hd,hl⟩:=h
 have hs':l.length=175:=hs
 have hd':d=[]:=hd
 subst hd'
 simp only[at_,List.map_cons,List.map_nil,List.cons.injEq,and_true] at hl
 obtain⟨e0,e1,e2,e7,e8,e9,e10,e11,e12,e13,e14,e17⟩:=hl
 refine⟨sl ⟨⟨l⟩,[]⟩,?_⟩
 have key:=Zz l [] 175 hs'
 rw[Va] at key
 have u0:sl ⟨⟨l⟩,[]⟩ 0=v0:=by unfold sl; rw[e0]; rfl
 have u1:sl ⟨⟨l⟩,[]⟩ 1=v1:=by unfold sl; rw[e1]; rfl
 have u2:sl ⟨⟨l⟩,[]⟩ 2=v2:=by unfold sl; rw[e2]; rfl
 have u7:sl ⟨⟨l⟩,[]⟩ 7=v7:=by unfold sl; rw[e7]; rfl
 have u8:sl ⟨⟨l⟩,[]⟩ 8=v8:=by unfold sl; rw[e8]; rfl
 have u9:sl ⟨⟨l⟩,[]⟩ 9=v9:=by unfold sl; rw[e9]; rfl
 have u10:sl ⟨⟨l⟩,[]⟩ 10=v10:=by unfold sl; rw[e10]; rfl
 have u11:sl ⟨⟨l⟩,[]⟩ 11=v11:=by unfold sl; rw[e11]; rfl
 have u12:sl ⟨⟨l⟩,[]⟩ 12=v12:=by unfold sl; rw[e12]; rfl
 have u13:sl ⟨⟨l⟩,[]⟩ 13=v13:=by unfold sl; rw[e13]; rfl
 have u14:sl ⟨⟨l⟩,[]⟩ 14=v14:=by unfold sl; rw[e14]; rfl
 have u17:sl ⟨⟨l⟩,[]⟩ 17=v17:=by unfold sl; rw[e17]; rfl
 rw[←u0,←u1,←u2,←u7,←u8,←u9,←u10,←u11,←u12,←u13,←u14,←u17]
 exact congrArg (fun x=>(⟨⟨x⟩,[]⟩:Act)) key
set_option maxHeartbeats 8000000 in
theorem Zh1 (i at' k th iat nm g0 c0:Nat) (b0 B2:List Nat) (v0 v1 v7 v8:Value) (w x0:World) (hat:at'+32≤b0.length) (hbl:b0.length≤900000) (hth:th<4294967296) (hia:iat<4294967296) (hnm:nm<4294967296) (hi:i≤1000) (hev:i % 2=0)
 (HO0:Hid (YI x0 w.heap.size g0 c0 b0)) (HB0:Hid (Below w.heap.size w x0)) (HB2:Hid (ZQ (ZQ (ZQ (ZQ b0 at' 4 th) (at'+4) 4 i) (at'+12) 4 nm) (at'+16) 4 iat=B2)) (Q:Exit→Act→World→Prop) (a:Act)
 (ha:Has 175 [0,1,2,7,8,9,10,11,12,13,14,17] [v0,v1,.bool false,v7,v8,.slice (some ⟨g0,0,none⟩) b0.length c0,.int .i64 i,.int .i64 at',.int .i64 k,.int .i64 th,.int .i64 iat,.int .i64 nm] a) (hK: ∀ a' w' g' c',Has 175 [0,1,2,7,8,9,10] [v0,v1,.bool false,v7,v8,.slice (some ⟨g',0,none⟩) B2.length c',.int .i64 i] a'→YI w' w.heap.size g' c' B2→Below w.heap.size w w'→Q .normal a' w'):(ZY 7 XA).wp Tryz.prog Q a x0:=by
 obtain⟨u,rfl⟩:=Yj ha
 clear ha
 have HK:=Zg hK
 clear hK
 have hre:=HB2.out
 obtain⟨o4,ho4⟩: ∃ q,at'+4=q:=⟨_,rfl⟩
 have eo4:(at':Int)+4=(o4:Int):=by omega
 have hb4:o4+4≤b0.length:=by omega
 obtain⟨o12,ho12⟩: ∃ q,at'+12=q:=⟨_,rfl⟩
 have eo12:(at':Int)+12=(o12:Int):=by omega
 have hb12:o12+4≤b0.length:=by omega
 obtain⟨o16,ho16⟩: ∃ q,at'+16=q:=⟨_,rfl⟩
 have eo16:(at':Int)+16=(o16:Int):=by omega
 have hb16:o16+4≤b0.length:=by omega
 have hm:bits .and .i64 (i:Int) 1=0:=by rw[and_1]; omega
 rw[ho4,ho12,ho16] at hre
 clear ho4 ho12 ho16 HB2
 obtain⟨L,hL⟩: ∃ L,b0.length=L:=⟨_,rfl⟩
 rw[hL] at hat hbl hb4 hb12 hb16
 conv=>arg 2; whnf
 rw[hL]
 have hl1:=Zo (b:=b0) (o:=at') (n:=4) (by omega) th
 obtain⟨b1,hd1⟩: ∃ q,ZQ b0 at' 4 th=q:=⟨_,rfl⟩
 have hp:=Yo (some ⟨g0,0,none⟩) c0 b0 at' 4 (th:Nat) th x0 HO0.out.lb (by omega) HO0.out.slB (by omega) (by omega) (by omega) (ZU (by omega)) (by omega)
 rw[hd1] at hp hl1 hre
 rw[hL] at hp
 have HP:=Zg hp
 have HRE:=Zg hre
 have HL:=Zg hL
 have HL1:=Zg hl1
 clear hp hd1 hre hL hl1
 go_wp2_with fail
 refine HP.out.mono ?_
 rintro e x1 ⟨g1,c1,rfl,ho,hw⟩
 have HO1:=Zg (ho.weaken HB0.out.size)
 have HB1:=Zg (HB0.out.trans (hw.mono HB0.out.size))
 have hre:=HRE.out
 have hL:b1.length=L:=by rw[HL1.out]; exact HL.out
 clear ho hw HP HRE HL HL1
 have hl2:=Zo (b:=b1) (o:=o4) (n:=4) (by omega) i
 obtain⟨b2,hd2⟩: ∃ q,ZQ b1 o4 4 i=q:=⟨_,rfl⟩
 have hp:=Yo (some ⟨g1,0,none⟩) c1 b1 o4 4 (i:Nat) i x1 HO1.out.lb (by omega) HO1.out.slB (by omega) (by omega) (by omega) (ZU (by omega)) (by omega)
 rw[hd2] at hp hl2 hre
 rw[hL] at hp
 have HP:=Zg hp
 have HRE:=Zg hre
 have HL:=Zg hL
 have HL1:=Zg hl2
 clear hp hd2 hre hL hl2
 go_wp2_with fail
 refine HP.out.mono ?_
 rintro e x2 ⟨g2,c2,rfl,ho,hw⟩
 have HO2:=Zg (ho.weaken HB1.out.size)
 have HB2:=Zg (HB1.out.trans (hw.mono HB1.out.size))
 have hre:=HRE.out
 have hL:b2.length=L:=by rw[HL1.out]; exact HL.out
 clear ho hw HP HRE HL HL1
 have hl3:=Zo (b:=b2) (o:=o12) (n:=4) (by omega) nm
 obtain⟨b3,hd3⟩: ∃ q,ZQ b2 o12 4 nm=q:=⟨_,rfl⟩
 have hp:=Yo (some ⟨g2,0,none⟩) c2 b2 o12 4 (nm:Nat) nm x2 HO2.out.lb (by omega) HO2.out.slB (by omega) (by omega) (by omega) (ZU (by omega)) (by omega)
 rw[hd3] at hp hl3 hre
 rw[hL] at hp
 have HP:=Zg hp
 have HRE:=Zg hre
 have HL:=Zg hL
 have HL1:=Zg hl3
 clear hp hd3 hre hL hl3
 go_wp2_with fail
 refine HP.out.mono ?_
 rintro e x3 ⟨g3,c3,rfl,ho,hw⟩
 have HO3:=Zg (ho.weaken HB2.out.size)
 have HB3:=Zg (HB2.out.trans (hw.mono HB2.out.size))
 have hre:=HRE.out
 have hL:b3.length=L:=by rw[HL1.out]; exact HL.out
 clear ho hw HP HRE HL HL1
 have hl4:=Zo (b:=b3) (o:=o16) (n:=4) (by omega) iat
 obtain⟨b4,hd4⟩: ∃ q,ZQ b3 o16 4 iat=q:=⟨_,rfl⟩
 have hp:=Yo (some ⟨g3,0,none⟩) c3 b3 o16 4 (iat:Nat) iat x3 HO3.out.lb (by omega) HO3.out.slB (by omega) (by omega) (by omega) (ZU (by omega)) (by omega)
 rw[hd4] at hp hl4 hre
 rw[hL] at hp
 have HP:=Zg hp
 have HRE:=Zg hre
 have HL:=Zg hL
 have HL1:=Zg hl4
 clear hp hd4 hre hL hl4
 go_wp2_with fail
 refine HP.out.mono ?_
 rintro e x4 ⟨g4,c4,rfl,ho,hw⟩
 have HO4:=Zg (ho.weaken HB3.out.size)
 have HB4:=Zg (HB3.out.trans (hw.mono HB3.out.size))
 have hre:=HRE.out
 have hL:b4.length=L:=by rw[HL1.out]; exact HL.out
 clear ho hw HP HRE HL HL1
 subst hre
 have HL:=Zg hL
 clear hL
 go_wp2_with fail
 refine HK.out _ _ g4 c4 ?_ HO4.out HB4.out
 rw[HL.out]
 exact⟨rfl,rfl,rfl⟩
end Go.Proofs.YtplgdpjbkdagfaaGreat
