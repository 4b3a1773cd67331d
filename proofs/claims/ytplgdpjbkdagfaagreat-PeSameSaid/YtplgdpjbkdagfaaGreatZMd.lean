import Derived.Test.YtplgdpjbkdagfaaGreatZHdrD
import Derived.Test.YtplgdpjbkdagfaaGreatRefPut
import Derived.Test.YtplgdpjbkdagfaaGreatZHdrA
import Derived.Test.YtplgdpjbkdagfaaGreatZMem
import Derived.Deep.RegionHeld3
import Derived.Test.YtplgdpjbkdagfaaGreatShelf
import Derived.Lib.IndexLaws
import Derived.Test.YtplgdpjbkdagfaaGreatRef1
import Derived.DeepKeys
namespace Go.Proofs.YtplgdpjbkdagfaaGreat
open List renaming getElem?_toArray→Za
open Lib renaming hid→Zg
set_option maxRecDepth 100000
open Go.ChangeShapes Go.WideShapes Go.ChangeAt Go.RowKit
set_option linter.unusedVariables false
set_option linter.unusedSimpArgs false
structure YD (w:World) (base g n cap:Nat) (f:Nat→Int):Prop where
 le:base≤g
 lt:g<w.heap.size
 row:Row w g 0 n f
 by255:Zq f
 len:n≤cap
 most:cap≤9223372036854775807
 wr: ∀ j,j<cap→(w.cell? ⟨g,j,none⟩).isSome=true∧w.frozen? ⟨g,j,none⟩=false
theorem YD.rowB {w:World} {base g n cap:Nat} {f:Nat→Int} (h:YD w base g n cap f):VF w g 0 n cap f:=⟨h.row,h.by255,h.lt,h.len,h.most⟩
theorem YD.of_block {w w':World} {base g n cap:Nat} {f:Nat→Int} (h:YD w base g n cap f) (hs:w.heap.size≤w'.heap.size) (hb:w'.heap[g]? =w.heap[g]?):YD w' base g n cap f :=
 ⟨h.le,Nat.lt_of_lt_of_le h.lt hs,fun i hi=>(World.cell?_of_block (a:=⟨g,_,none⟩) hb).trans (h.row i hi),h.by255,h.len,h.most,fun j hj=>by
   rw[World.cell?_of_block (a:=⟨g,j,none⟩) hb,World.frozen?_of_block (a:=⟨g,j,none⟩) hb]; exact h.wr j hj⟩
theorem YD.below {w w':World} {base g n cap:Nat} {f:Nat→Int} (h:YD w base g n cap f) (hb:Below w.heap.size w w'):YD w' base g n cap f:=h.of_block hb.size (hb.block g h.lt)
theorem YD.congr {w:World} {base g n cap:Nat} {f f':Nat→Int} (h:YD w base g n cap f) (h255:Zq f') (he: ∀ i,i<n→f i=f' i):YD w base g n cap f' :=
 ⟨h.le,h.lt,fun i hi=>by rw[h.row i hi,he i hi],h255,h.len,h.most,h.wr⟩
theorem YD.bytes (w:World) (S:ByteArray) (cap lo hi:Nat) (h:S.size≤cap) (hm:cap≤9223372036854775807) (h1:cap≤lo) :
 YD (w.alloc (.cells (bytesRow S cap) 5 (lo,hi))) w.heap.size w.heap.size S.size cap (PlainAid.bt S):=by
 have hz:(bytesRow S cap).size=cap:=by
  have:S.data.size=S.size:=rfl
  simp[bytesRow]
  omega
 refine⟨Nat.le_refl _,by simp,fun i hi'=> ?_,WA S,h,hm,fun j hj=>⟨?_,?_⟩⟩
 ·have hi2:i<S.data.size:=hi'
  rw[Nat.zero_add,World.cell?_alloc_mark w (bytesRow S cap) 5 (lo,hi) i,bytesRow_at S cap i hi2]
  unfold PlainAid.bt
  rw[dif_pos hi']
  rfl
 ·rw[World.cell?_alloc_mark w (bytesRow S cap) 5 (lo,hi) j,Array.getElem?_eq_getElem (by omega)]
  rfl
 ·rw[World.frozen?_alloc_mark w (bytesRow S cap) 5 lo hi j]
  simp only[Bool.and_eq_false_iff,decide_eq_false_iff_not]
  left
  omega
theorem YD.weaken {w:World} {base base' g n cap:Nat} {f:Nat→Int} (h:YD w base g n cap f) (hb:base'≤base):YD w base' g n cap f:=⟨Nat.le_trans hb h.le,h.lt,h.row,h.by255,h.len,h.most,h.wr⟩
theorem YD.drew {w:World} {base g n cap:Nat} {f:Nat→Int} (h:YD w base g n cap f):YD w.drew base g n cap f:=h.of_block (Nat.le_refl _) rfl
theorem Zjs (b n cap:Nat) (f:Nat→Int) (o k:Nat) (v:Int) (w:World) (h:VF w b 0 n cap f) (hn:n≤1000000) (k1:1≤k) (k8:k≤8) (ho:o+k≤n) (v0:0≤v) (v1:v≤18446744073709551615) :
 Calls Tryz.prog 70 #[.slice (some ⟨b,0,none⟩) n cap,.int .i64 o,.int .i64 k,.int .u64 v] w fun e w' =>
  ∃ g c,e= .returned (.slice (some ⟨g,0,none⟩) n c)∧YD w' w.heap.size g n c (Xm f o v k)∧Below w.heap.size w w':=by
 have hs:=YB (cap:=cap) h.row
 have hsz:(ZB f 0 n).size=n:=Zt f 0 n
 have hp:=Uz (ZB f 0 n) o k v w (by omega) k1 k8 (by omega) v0 v1
 rw[hsz,ZH (f:=Xm (PlainAid.bt (ZB f 0 n)) o v k) (f':=Xm f o v k) (o:=0) (o':=0) (n:=n) (fun i hi=>by
  unfold Xm
  split
  ·rfl
  ·rw[Nat.zero_add,XQ h.by255 hi,Nat.zero_add])] at hp
 have h255:Zq (Xm f o v k):=Zjj h.by255 o v k
 have hsz2:(ZB (Xm f o v k) 0 n).size=n:=Zt _ 0 n
 have hbt: ∀ i,i<n→PlainAid.bt (ZB (Xm f o v k) 0 n) i=Xm f o v k i:=fun i hi=>by rw[XQ h255 hi,Nat.zero_add]
 generalize ZB (Xm f o v k) 0 n=S' at *
 generalize ZB f 0 n=S at *
 generalize Xm f o v k=f' at *
 have hcv:=fun(W:World)=>run_bytes_of_string (P:=Tryz.prog) W 9 25 5 S' Tryz.underlying9 Tryz.underlying25 Tryz.underlying5
 have HBT:=Zg hbt
 have HP:=Zg hp
 clear hp hbt hsz h
 go_enter Tryz.func70,Tryz.ntmps70
 go_wp2_with fail
 refine HP.out.mono ?_
 rintro e w1 ⟨rfl,hb1⟩
 go_wp2_with fail
 go_ret
 have hcap:=grownCap_ge w1 n 0 5
 have hcm:=grownCap_le_maxLen w1 n 0 5 (by simp only[maxLen]; omega)
 simp only[maxLen] at hcm
 have hbz:(bytesRow S' (grownCap w1 n 0 5)).size=grownCap w1 n 0 5:=by
  have:S'.data.size=S'.size:=rfl
  simp[bytesRow]
  omega
 have ho:=YD.bytes w1 S' (grownCap w1 n 0 5) (bytesRow S' (grownCap w1 n 0 5)).size ((bytesRow S' (grownCap w1 n 0 5)).size+1) (by omega) (by omega) (by omega)
 rw[hsz2] at ho
 exact⟨_,_,rfl,((ho.congr h255 HBT.out).weaken hb1.size).drew,(hb1.alloc hb1.size _).drew⟩
def Qm (f:Nat→Int) (o:Nat) (v:Int) (j:Nat):Int:=if j=o then v else f j
theorem Zjt {f:Nat→Int} (hf:Zq f) (o:Nat) {v:Int} (h0:0≤v) (h1:v≤255):Zq (Qm f o v):=fun i=>by
 unfold Qm; split
 ·exact⟨h0,h1⟩
 ·exact hf i
theorem YD.set {w:World} {base g n cap:Nat} {f:Nat→Int} (h:YD w base g n cap f) (o:Nat) (v:Int) (ho:o<n) (h0:0≤v) (h1:v≤255) :
 YD (w.setCell ⟨g,o,none⟩ (.int .u8 v)) base g n cap (Qm f o v):=by
 refine⟨h.le,by simpa using h.lt,fun i hi=> ?_,Zjt h.by255 o h0 h1,h.len,h.most,fun j hj=>⟨?_,by rw[World.frozen?_setCell]; exact(h.wr j hj).2⟩⟩
 ·unfold Qm
  rw[Nat.zero_add]
  have hi':=h.row i hi
  rw[Nat.zero_add] at hi'
  by_cases e:i=o
  ·subst e
   rw[if_pos rfl,World.cell?_setCell_same _ _ _ hi']
  ·rw[if_neg e,World.cell?_setCell_other _ _ _ _ (by intro h; injection h with _ h2; omega)]
   exact hi'
 ·obtain⟨u,hu⟩:=Option.isSome_iff_exists.1 (h.wr j hj).1
  by_cases e:j=o
  ·subst e
   rw[World.cell?_setCell_same _ _ _ hu]; rfl
  ·rw[World.cell?_setCell_other _ _ _ _ (by intro h; injection h with _ h2; omega),hu]; rfl
theorem Vu {w:World} {ops:Array Oper} {rest:List Oper} {o:Oper} {a:Act} {Q:Exit→Act→World→Prop} (hgd:o.guard=none) (s x:Operand)
 (ho:o.op= .call { callee:= .builtin .append,args:= #[s,x],argTypes:= #[25,25] })
 {base g n cap m c:Nat} {A:Option Addr} {f h:Nat→Int} (hown:YD w base g n cap f) (hsl:SlB w A m h) (h255:Zq h) (hnm:n+m≤1000000) (hbase:base≤w.heap.size)
 (hv:a.eval s= .slice (some ⟨g,0,none⟩) n cap) (hx:a.eval x= .slice A m c)
 (hK: ∀ g' cap' w',YD w' base g' (n+m) cap' (Uc n f h)→Below base w w'→wpList Tryz.prog ops Q rest (a.put o.dst (.slice (some ⟨g',0,none⟩) (n+m) cap')) w'):wpList Tryz.prog ops Q (o::rest) a w:=by
 obtain⟨i0,hi,hz0,hz1,hz2⟩:=info_parts Wl
 have hs:Src Tryz.prog i0.size 25 (.slice A m c) m (Zs m h) w:=by rw[hz1]; exact Wn hsl
 have hrun: ∃ g' cap' w',(Builtin.append_ #[25,25] o.type #[.slice (some ⟨g,0,none⟩) n cap,.slice A m c]).run Tryz.prog w= .ok (.slice (some ⟨g',0,none⟩) (n+m) cap') w'∧YD w' base g' (n+m) cap' (Uc n f h)∧Below base w w':=by
  by_cases hroom:n+m≤cap
  ·have hin: ∀ j,j<(Zs m h).length→(w.cell? ⟨g,n+j,none⟩).isSome=true:=fun j hj=>(hown.wr (n+j) (by rw[Zn] at hj; omega)).1
   have hr:=run_append_room_src (P:=Tryz.prog) w 25 25 o.type 5 i0 Tryz.underlying25 hi g 0 n cap (.slice A m c) m _ hs hroom
    (fun j hj=>by rw[hz1,Nat.mul_one,Nat.zero_add]; exact hin j hj) (fun j hj=>by rw[hz1,Nat.mul_one,Nat.zero_add]; exact(hown.wr (n+j) (by rw[Zn] at hj; omega)).2)
   rw[hz1,Nat.mul_one,Nat.zero_add] at hr
   refine⟨_,_,_,hr,⟨hown.le,by rw[YG]; exact hown.lt,fun i hi=> ?_,Zcz hown.by255 h255,hroom,hown.most,fun j hj=>⟨World.isSome_setCells _ _ _ _ _ (hown.wr j hj).1,by rw[World.frozen?_setCells]; exact(hown.wr j hj).2⟩⟩,ZW hown.le _ _ _ (Below.refl base w)⟩
   unfold Uc
   rw[Nat.zero_add]
   by_cases e:i<n
   ·rw[if_pos e,World.cell?_setCells_out _ _ _ _ _ (fun _ _=> .inl e)]
    have:=hown.row i e
    rwa [Nat.zero_add] at this
   ·rw[if_neg e]
    have:=World.cell?_setCells_in g (Zs m h) n w hin (i - n) (by rw[Zn]; omega)
    rw[show n+(i - n)=i by omega] at this
    rw[this]
    simp[Zs]
  ·have hold:(Builtin.firstCells i0.size n (.slice (some ⟨g,0,none⟩) n cap)).run Tryz.prog w.drew= .ok (Zs n f).toArray w.drew:=by
    rw[hz1]
    refine run_firstCells_some w.drew 1 n ⟨g,0,none⟩ n cap (Zs n f) (by rw[Zn,Nat.mul_one]) fun j u hu=> ?_
    have hj:j<n:=by
     rcases Nat.lt_or_ge j n with hj|hj
     ·exact hj
     ·rw[List.getElem?_eq_none (by rw[Zn]; omega)] at hu; cases hu
    rw[ZG n f hj] at hu
    injection hu with hu
    subst hu
    have hadd:(⟨g,0,none⟩:Addr).add j=⟨g,0+j,none⟩:=by unfold Addr.add; split <;> simp_all
    rw[hadd]
    exact hown.row j hj
   have hr:=run_append_grow_src (P:=Tryz.prog) w 25 25 o.type 5 i0 (.int .u8 0) Tryz.underlying25 hi hz0 (some ⟨g,0,none⟩) n cap (Zs n f) hold (.slice A m c) m _ hs (by omega) (by omega) (growslice_fits (by omega) (by rw[hz2]; omega))
   have hcap:=grownCap_ge w (n+m) cap 5
   have hcm:=grownCap_le_maxLen w (n+m) cap 5 (by simp only[maxLen]; omega)
   simp only[maxLen] at hcm
   have hz:(Value.int .u8 0).cells= #[.int .u8 0]:=rfl
   have hh:=heap_alloc_new w.drew (.cells ((Zs n f++Zs m h).toArray++Builtin.zeroCells (Value.int .u8 0).cells (grownCap w (n+m) cap 5 - (n+m))) 5)
   have hsz:((Zs n f++Zs m h).toArray++Builtin.zeroCells (Value.int .u8 0).cells (grownCap w (n+m) cap 5 - (n+m))).size=grownCap w (n+m) cap 5:=by
    rw[Array.size_append,size_zeroCells,hz]
    simp[Zn]
    omega
   refine⟨_,_,_,hr,⟨hbase,by simp,fun i hi=> ?_,Zcz hown.by255 h255,hcap,by omega,fun j hj=>⟨?_,frozen_of_row _ _ _ _ _ hh⟩⟩,((Below.refl base w).drew).alloc (by simpa using hbase) _⟩
   ·rw[Nat.zero_add]
    have:=cell_of_row _ _ i _ _ _ hh
    refine Eq.trans this ?_
    rw[Wm,Array.getElem?_append_left (by simpa [Zn] using hi),Za,ZG _ _ hi]
   ·have:=cell_of_row _ _ j _ _ _ hh
    refine Eq.trans (congrArg Option.isSome this) ?_
    rw[Array.getElem?_eq_getElem (by omega)]
    rfl
 refine wpList_plain hgd fun K hK'=> ?_
 obtain⟨g',cap',w',hrun,r1,r2⟩:=hrun
 unfold Oper.wp execOp
 simp only[ho,resolve,invoke,builtin,Sem.run_bind,Sem.run_pure,Result.andThen_ok,List.map_toArray,List.map_cons,List.map_nil,hv,hx,hrun]
 exact hK' _ _ (hK g' cap' w' r1 r2)
def Qn (f:Nat→Int) (o:Nat) (t:ByteArray) (j:Nat):Int:=if o≤j∧j<o+t.size then PlainAid.bt t (j - o) else f j
theorem Zhr {f:Nat→Int} (hf:Zq f) (o:Nat) (t:ByteArray):Zq (Qn f o t):=fun i=>by
 unfold Qn; split
 ·exact WA t _
 ·exact hf i
theorem XF {f:Nat→Int} {o k j:Nat} {v:Int} (h:j<o∨o+k≤j):Xm f o v k j=f j:=by unfold Xm; rw[if_neg (by omega)]
theorem Qo {f:Nat→Int} {o j:Nat} {v:Int} (h:j≠o):Qm f o v j=f j:=by unfold Qm; rw[if_neg h]
theorem Qp {f:Nat→Int} {o j:Nat} {t:ByteArray} (h:j<o∨o+t.size≤j):Qn f o t j=f j:=by unfold Qn; rw[if_neg (by omega)]
theorem Uf {f h:Nat→Int} {n j:Nat} (e:j<n):Uc n f h j=f j:=by unfold Uc; rw[if_pos e]
theorem Zae {f:Nat→Int} {o k o' n:Nat} {v:Int} (h:o'+n≤o∨o+k≤o'):rdF (Xm f o v k) o' n=rdF f o' n:=Xi n o' fun i hi=>XF (by omega)
theorem Ja (f:Nat→Int) (o k:Nat) (v:Int):rdF (Xm f o v k) o k=v % 256 ^ k:=by
 have h:=Zjk f v k k o 0 (by omega)
 simpa using h
theorem Zdz {f:Nat→Int} {o o' n:Nat} {t:ByteArray} (h:o'+n≤o∨o+t.size≤o'):rdF (Qn f o t) o' n=rdF f o' n:=Xi n o' fun i hi=>Qp (by omega)
theorem Zfv {f h:Nat→Int} {m o n:Nat} (e:o+n≤m):rdF (Uc m f h) o n=rdF f o n:=Xi n o fun i hi=>Uf (by omega)
theorem Zju (n:Nat): ∀ o,rdF (fun _=>0) o n=0:=by
 induction n with
 | zero=>intro o; rfl
 | succ n ih=>intro o; simp[rdF,ih]
abbrev Vw:=Int × Int × Int
def Zd0 (t:Vw):List Value:=[.int .i64 t.1,.int .i64 t.2.1,.int .i64 t.2.2]
def vS (t:Vw):Int:=t.1 % 16384+1
def Ur (t:Vw):Int:=ZN (vS t) 4096
def Zaf (t:Vw):Int:=t.2.1 % 8192 / 512 * 512 % (Ur t+512)
def Vm (t:Vw):Int:=t.2.2 % 8
def VM (L:Nat→Vw):Nat→Int
 | 0=>4096
 | i+1=>VM L i+Ur (L i)
def atS (L:Nat→Vw):Nat→Nat
 | 0=>1024
 | i+1=>atS L i+(Zaf (L i)).toNat
theorem Zhs (t:Vw):1≤vS t∧vS t≤16384:=by unfold vS; omega
theorem Zfw {n:Int} (h:1≤n) (h2:n≤1099511627776):ZN n 4096=((n - 1) / 4096+1) * 4096:=by
 unfold ZN
 rw[if_neg (by omega),show max (4096:Int) 1=4096 by omega,show min n 1099511627776=n by omega]
theorem WZ (t:Vw):4096≤Ur t∧Ur t≤16384∧Ur t % 4096=0∧vS t≤Ur t:=by
 have h:=Zhs t
 unfold Ur
 rw[Zfw (by omega) (by omega)]
 omega
theorem Qq (t:Vw):0≤Zaf t∧Zaf t<8192∧Zaf t % 512=0∧Zaf t≤Ur t:=by
 have h:=WZ t
 unfold Zaf
 generalize Ur t=r at *
 obtain⟨k,hk⟩: ∃ k,r=4096 * k:=⟨r / 4096,by omega⟩
 subst hk
 obtain⟨a,ha⟩: ∃ a,t.2.1 % 8192 / 512=a:=⟨_,rfl⟩
 have h1:0≤a∧a<16:=by omega
 rw[ha]
 have h2:1≤k∧k≤4:=by omega
 have h3:=Int.emod_nonneg (a * 512) (show 4096 * k+512≠0 by omega)
 have h4:=Int.emod_lt_of_pos (a * 512) (show(0:Int)<4096 * k+512 by omega)
 have h5:=Int.emod_add_mul_ediv (a * 512) (4096 * k+512)
 rcases(by omega:k=1∨k=2∨k=3∨k=4) with rfl|rfl|rfl|rfl <;> omega
theorem Zag (t:Vw):0≤Vm t∧Vm t<8:=by unfold Vm; omega
theorem Vv (L:Nat→Vw) (i:Nat):4096≤VM L i∧VM L i≤4096+16384 * i∧VM L i % 4096=0:=by
 induction i with
 | zero=>simp[VM]
 | succ i ih=>have:=WZ (L i); simp only[VM]; omega
theorem JE (L:Nat→Vw) (i:Nat):1024≤atS L i∧atS L i≤1024+8192 * i∧atS L i % 512=0:=by
 induction i with
 | zero=>simp[atS]
 | succ i ih=>have:=Qq (L i); simp only[atS]; omega
theorem Zc1 (L:Nat→Vw) {i j:Nat} (h:i≤j):atS L i≤atS L j:=by
 induction j with
 | zero=>obtain rfl:i=0:=by omega
         exact Nat.le_refl _
 | succ j ih =>
   rcases Nat.lt_or_ge j i with h1|h1
   ·obtain rfl:i=j+1:=by omega
    exact Nat.le_refl _
   ·have:=ih h1
    simp only[atS]
    omega
structure Zfx (f:Nat→Int) (n:Int):Prop where
 m0:f 0=77
 m1:f 1=90
 pe:rdF f 60 4=64
 p0:f 64=80
 p1:f 65=69
 p2:f 66=0
 p3:f 67=0
 mach:rdF f 68 2=34404
 cnt:rdF f 70 2=n
 stamp:rdF f 72 4=77
 opt:rdF f 84 2=240
 chars:rdF f 86 2=8226
 mg:rdF f 88 2=523
 ent:rdF f 104 4=0
 base:rdF f 112 8=65536
 al:rdF f 120 4=4096
 fal:rdF f 124 4=512
 hdrs:rdF f 148 4=1024
 nd:rdF f 196 4=16
 dirs: ∀ i,i<32→rdF f (200+4 * i) 4=0
theorem Zfx.congr {f f':Nat→Int} {n:Int} (h:Zfx f n) (e: ∀ q,q<328→(q<144∨148≤q)→f' q=f q):Zfx f' n:=by
 have k: ∀ o m,o+m≤328→(o+m≤144∨148≤o)→rdF f' o m=rdF f o m:=fun o m h1 h2=>Xi m o fun i hi=>e _ (by omega) (by omega)
 exact⟨(e 0 (by omega) (by omega)).trans h.m0,(e 1 (by omega) (by omega)).trans h.m1,(k _ _ (by omega) (by omega)).trans h.pe,(e _ (by omega) (by omega)).trans h.p0,(e _ (by omega) (by omega)).trans h.p1,(e _ (by omega) (by omega)).trans h.p2,(e _ (by omega) (by omega)).trans h.p3,
  (k _ _ (by omega) (by omega)).trans h.mach,(k _ _ (by omega) (by omega)).trans h.cnt,(k _ _ (by omega) (by omega)).trans h.stamp,(k _ _ (by omega) (by omega)).trans h.opt,(k _ _ (by omega) (by omega)).trans h.chars,(k _ _ (by omega) (by omega)).trans h.mg,(k _ _ (by omega) (by omega)).trans h.ent,(k _ _ (by omega) (by omega)).trans h.base,
  (k _ _ (by omega) (by omega)).trans h.al,(k _ _ (by omega) (by omega)).trans h.fal,(k _ _ (by omega) (by omega)).trans h.hdrs,(k _ _ (by omega) (by omega)).trans h.nd,fun i hi=>(k _ _ (by omega) (by omega)).trans (h.dirs i hi)⟩
def preF (n:Int):Nat→Int :=
 Xm (Xm (Xm (Xm (Xm (Xm (Xm (Xm (Xm (Xm (Xm (Qn (Xm (Qn (fun _=>0) 0 ⟨#[77,90]⟩) 60 64 4) 64 ⟨#[80,69,0,0]⟩) 68 34404 2) 70 n 2) 72 77 4) 84 240 2) 86 8226 2) 88 523 2) 112 65536 8) 120 4096 4) 124 512 4) 148 1024 4) 196 16 4
theorem Zfy (n:Int) (h0:0≤n) (h1:n<65536):Zfx (preF n) n:=by
 have z1:(⟨#[77,90]⟩:ByteArray).size=2:=rfl
 have z2:(⟨#[80,69,0,0]⟩:ByteArray).size=4:=rfl
 have hn:n % 256 ^ 2=n:=by rw[show(256:Int) ^ 2=65536 by rfl]; omega
 unfold preF
 refine⟨?_,?_,?_,?_,?_,?_,?_,?_,?_,?_,?_,?_,?_,?_,?_,?_,?_,?_,?_,fun i hi=> ?_⟩
 all_goals simp(disch:=omega) only[Zae,Ja,XF,Zdz,Qp,Zju,hn]
 all_goals first|rfl|skip
theorem Zht (n:Int) (q:Nat) (h:328≤q):preF n q=0:=by
 have z1:(⟨#[77,90]⟩:ByteArray).size=2:=rfl
 have z2:(⟨#[80,69,0,0]⟩:ByteArray).size=4:=rfl
 unfold preF
 simp(disch:=omega) only[XF,Qp]
structure SecF (f:Nat→Int) (o:Nat) (v rva raw spot r:Int) (i:Nat):Prop where
 n0:f o=115
 n1:f (o+1)=48+i
 nz: ∀ q,2≤q→q<8→f (o+q)=0
 v:rdF f (o+8) 4=v
 rva:rdF f (o+12) 4=rva
 raw:rdF f (o+16) 4=raw
 spot:rdF f (o+20) 4=spot
 r:rdF f (o+36) 4=r * 536870912
theorem SecF.congr {f f':Nat→Int} {o:Nat} {v rva raw spot r:Int} {i:Nat} (h:SecF f o v rva raw spot r i) (e: ∀ q,o≤q→q<o+40→f' q=f q):SecF f' o v rva raw spot r i:=by
 have k: ∀ d,d+4≤40→rdF f' (o+d) 4=rdF f (o+d) 4:=fun d h1=>Xi 4 _ fun i hi=>e _ (by omega) (by omega)
 exact⟨(e _ (by omega) (by omega)).trans h.n0,(e _ (by omega) (by omega)).trans h.n1,fun q h1 h2=>(e _ (by omega) (by omega)).trans (h.nz q h1 h2),(k _ (by omega)).trans h.v,(k _ (by omega)).trans h.rva,(k _ (by omega)).trans h.raw,(k _ (by omega)).trans h.spot,(k _ (by omega)).trans h.r⟩
structure VN (L:Nat→Vw) (n:Int) (i:Nat) (f:Nat→Int):Prop where
 hd:Zfx f n
 sec: ∀ j,j<i→SecF f (328+40 * j) (vS (L j)) (VM L j) (Zaf (L j)) (atS L j) (Vm (L j)) j
 dat: ∀(j k:Nat),j<i→(k:Int)<Zaf (L j)→f (atS L j+k)=(7 * k+j+1) % 256
 nul: ∀ q,328+40 * i≤q→q<1024→f q=0
theorem VN.start (L:Nat→Vw) (n:Int) (h0:0≤n) (h1:n<65536):VN L n 0 (preF n) :=
 ⟨Zfy n h0 h1,fun j hj=>by omega,fun j k hj=>by omega,fun q h _=>Zht n q (by omega)⟩
def Zis (L:Nat→Vw) (i:Nat) (f h:Nat→Int):Nat→Int :=
 Uc (atS L i) (Xm (Xm (Xm (Xm (Xm (Qm (Qm f (328+40 * i) 115) (328+40 * i+1) (48+i)) (328+40 * i+8) (vS (L i)) 4) (328+40 * i+12) (VM L i) 4) (328+40 * i+16) (Zaf (L i)) 4) (328+40 * i+20) (atS L i) 4) (328+40 * i+36) (Vm (L i) * 536870912) 4) h
theorem VN.next {L:Nat→Vw} {n:Int} {i:Nat} {f:Nat→Int} (x:VN L n i f) (hi:i<6) (h:Nat→Int) (hh: ∀ k:Nat,(k:Int)<Zaf (L i)→h k=(7 * k+i+1) % 256) :
 VN L n (i+1) (Zis L i f h):=by
 have ha:=JE L i
 have hv:=Zhs (L i)
 have hr:=Vv L i
 have hw:=Qq (L i)
 have hg:=Zag (L i)
 have hlow: ∀ q,q<328+40 * i→Zis L i f h q=f q:=fun q hq=>by
  unfold Zis
  simp(disch:=omega) only[Uf,XF,Qo]
 have hmid: ∀ q,368+40 * i≤q→q<atS L i→Zis L i f h q=f q:=fun q h1 h2=>by
  unfold Zis
  simp(disch:=omega) only[Uf,XF,Qo]
 refine⟨x.hd.congr fun q h1 _=>hlow q (by omega),fun j hj=> ?_,fun j k hj hk=> ?_,fun q h1 h2=> ?_⟩
 ·by_cases e:j=i
  ·subst e
   have hpow:(256:Int) ^ 4=4294967296:=rfl
   refine⟨?_,?_,fun q h1 h2=> ?_,?_,?_,?_,?_,?_⟩
   all_goals unfold Zis
   ·simp(disch:=omega) only[Uf,XF,Qo]; simp[Qm]
   ·simp(disch:=omega) only[Uf,XF]; simp[Qm]
   ·simp(disch:=omega) only[Uf,XF,Qo]
    exact x.nul _ (by omega) (by omega)
   all_goals
    simp(disch:=omega) only[Zfv,Zae,Ja,hpow]
    omega
  ·exact(x.sec j (by omega)).congr fun q h1 h2=>hlow q (by omega)
 ·by_cases e:j=i
  ·subst e
   unfold Zis Uc
   rw[if_neg (by omega),show atS L j+k - atS L j=k by omega]
   exact hh k hk
  ·have h1:=Zc1 L (show j+1≤i by omega)
   simp only[atS] at h1
   have h2:=JE L j
   rw[hmid _ (by omega) (by omega)]
   exact x.dat j k (by omega) hk
 ·rw[hmid q (by omega) (by omega)]
  exact x.nul q (by omega) h2
structure Vh (L:Nat→Vw) (n:Nat) (f:Nat→Int):Prop where
 all:VN L n n f
 size:rdF f 144 4=VM L n
theorem VN.done {L:Nat→Vw} {n:Nat} {f:Nat→Int} (x:VN L n n f) (hn:n≤6):Vh L n (Xm f 144 (VM L n) 4):=by
 have hr:=Vv L n
 refine⟨⟨x.hd.congr fun q _ h=>XF (by omega),fun j hj=>(x.sec j hj).congr fun q h1 h2=>XF (by omega),fun j k hj hk=> ?_,fun q h1 h2=> ?_⟩,?_⟩
 ·have:=JE L j
  rw[XF (by omega)]
  exact x.dat j k hj hk
 ·rw[XF (by omega)]
  exact x.nul q h1 h2
 ·rw[Ja,show(256:Int) ^ 4=4294967296 by rfl]
  omega
theorem YD.made (w:World) (n:Nat) (hn:n≤9223372036854775807):YD (w.alloc (.cells (madeCells (Value.int .u8 0).cells n) 5)) w.heap.size w.heap.size n n (fun _=>0):=by
 have h:=Zcf w 5 n (.int .u8 0) rfl
 exact⟨Nat.le_refl _,by simp,fun i hi=>by rw[Nat.zero_add]; exact h.cell hi,fun _=>by omega,Nat.le_refl _,hn,fun j hj=>⟨by rw[h.cell hj]; rfl,h.frozen hj⟩⟩
theorem Yz {w:World} {ops:Array Oper} {rest:List Oper} {o:Oper} {a:Act} {Q:Exit→Act→World→Prop}
 (hg:o.guard=none) (l c:Operand) (hop:o.op=Op.makeSlice 25 l c) (base:Nat) (kl kc:IntKind) (n:Nat) (hl:a.eval l= .int kl n) (hc:a.eval c= .int kc n) (b2:n≤281474976710656) (b4:base≤w.heap.size)
 (hK: ∀ w',YD w' base w.heap.size n n (fun _=>0)→Below w.heap.size w w'→w'.heap.size=w.heap.size+1→wpList Tryz.prog ops Q rest (a.put o.dst (.slice (some ⟨w.heap.size,0,none⟩) n n)) w') :
 wpList Tryz.prog ops Q (o::rest) a w:=by
 obtain⟨i0,hi,hz0,hz1,hz2⟩:=info_parts Wl
 refine wpList_plain hg fun K hK'=> ?_
 have hbb:(i0.bytes:Int) * (n:Int)≤281474976710656:=by rw[hz2]; omega
 have hrun:=run_make (P:=Tryz.prog) w 25 5 i0 (.int .u8 0) Tryz.underlying25 hi hz0 kl kc n n (by omega) (Int.le_refl _) hbb (by omega)
 rw[hz1] at hrun
 simp only[Int.toNat_natCast,Nat.mul_one] at hrun
 unfold Oper.wp
 simp[execOp,hop,hl,hc,hrun,Result.andThen]
 exact hK' _ _ (hK _ ((YD.made w n (by omega)).weaken b4) ((Below.refl w.heap.size w).alloc (Nat.le_refl _) _) (by simp))
theorem WJ {B:Nat} {a:World} {g:Nat} (hg:B≤g) (vs:List Value) (o:Nat) (w:World) (h:Below B a w):Below B a (w.setCells g o vs):=ZW hg vs o w h
theorem Ul {w:World} {ops:Array Oper} {rest:List Oper} {o:Oper} {a:Act} {Q:Exit→Act→World→Prop} (hgd:o.guard=none) (d x:Operand)
 (ho:o.op= .call { callee:= .builtin .copy,args:= #[d,x],argTypes:= #[25,9] })
 {base g n cap off len c:Nat} {t:ByteArray} {f:Nat→Int} (hown:YD w base g n cap f) (hle:t.size≤len) (hfit:off+t.size≤n)
 (hd:a.eval d= .slice (some ⟨g,off,none⟩) len c) (hx:a.eval x= .string t)
 (hK: ∀ w',YD w' base g n cap (Qn f off t)→Below base w w'→w'.heap.size=w.heap.size→wpList Tryz.prog ops Q rest (a.put o.dst (goInt t.size)) w'):wpList Tryz.prog ops Q (o::rest) a w:=by
 obtain⟨i0,hi,hz0,hz1,hz2⟩:=info_parts Wl
 have hl:(t.data.toList.map fun x=>Value.int .u8 (x.toNat:Int)).length=t.size:=by rw[List.length_map]; rfl
 have hlen:=hown.len
 have hin: ∀ j,j<t.size→(w.cell? ⟨g,off+j,none⟩).isSome=true:=fun j hj=>(hown.wr (off+j) (by omega)).1
 have hrun:=run_copy_string (P:=Tryz.prog) w 25 9 o.type 5 g off len c t Tryz.underlying25 (fun w=>by simp[sizeOf,typeInfo,hi,hz1]) hle hin (fun j hj=>(hown.wr (off+j) (by omega)).2)
 refine wpList_plain hgd fun K hK'=> ?_
 unfold Oper.wp execOp
 simp only[ho,resolve,invoke,builtin,Sem.run_bind,Sem.run_pure,Result.andThen_ok,List.map_toArray,List.map_cons,List.map_nil,hd,hx,hrun]
 refine hK' _ _ (hK _ ⟨hown.le,by rw[YG]; exact hown.lt,fun i hi'=> ?_,Zhr hown.by255 off t,hown.len,hown.most,fun j hj=>⟨World.isSome_setCells _ _ _ _ _ (hown.wr j hj).1,by rw[World.frozen?_setCells]; exact(hown.wr j hj).2⟩⟩ (WJ hown.le _ _ _ (Below.refl base w)) (YG _ _ _ _))
 rw[Nat.zero_add]
 unfold Qn
 by_cases e:off≤i∧i<off+t.size
 ·rw[if_pos e]
  have:=World.cell?_setCells_in g (t.data.toList.map fun x=>Value.int .u8 (x.toNat:Int)) off w (by rw[hl]; exact hin) (i - off) (by rw[hl]; omega)
  rw[show off+(i - off)=i by omega] at this
  rw[this]
  have h2:i - off<t.data.size:=by have:t.data.size=t.size:=rfl; omega
  have h3:i - off<t.size:=h2
  unfold PlainAid.bt
  rw[dif_pos h3]
  simp
  rfl
 ·rw[if_neg e,World.cell?_setCells_out _ _ _ _ _ (fun _ _=>by rw[hl]; show i<off∨off+t.size≤i; omega)]
  have:=hown.row i hi'
  rwa [Nat.zero_add] at this
theorem Xp (base b n cap:Nat) (f:Nat→Int) (o' k':Int) (o k:Nat) (v:Int) (w:World) (h:YD w base b n cap f) (hb:base≤w.heap.size) (eo:o'=o) (ek:k'=k) (hn:n≤1000000) (k1:1≤k) (k8:k≤8) (ho:o+k≤n) (v0:0≤v) (v1:v≤18446744073709551615) :
 Calls Tryz.prog 70 #[.slice (some ⟨b,0,none⟩) n cap,.int .i64 o',.int .i64 k',.int .u64 v] w fun e w' =>
  ∃ g c,e= .returned (.slice (some ⟨g,0,none⟩) n c)∧YD w' base g n c (Xm f o v k)∧Below w.heap.size w w':=by
 subst eo ek
 refine(Zjs b n cap f o k v w h.rowB hn k1 k8 ho v0 v1).mono ?_
 rintro e w' ⟨g,c,rfl,h1,h2⟩
 exact⟨g,c,rfl,h1.weaken hb,h2⟩
theorem Zhu (n:Int):bits .and .i64 n 16383=n % 16384:=Xw n 14 (by omega)
theorem Zhv (n:Int):bits .and .i64 n 8191=n % 8192:=Xw n 13 (by omega)
set_option maxRecDepth 100000 in
set_option maxHeartbeats 4000000 in
theorem Zc2 (AS:Option Addr) (l:List Vw) (cs:Nat) (L:Nat→Vw) (hL: ∀ i,l[i]? =some (L i)∨l.length≤i) (w:World) (hl:1≤l.length) (hS:SlT Zd0 3 w AS l) :
 Calls Tryz.prog 25 #[.slice AS l.length cs,.slice none 0 0] w fun e w' =>
  ∃ g c F,e= .returned (.slice (some ⟨g,0,none⟩) (atS L (min l.length 6)) c)∧YD w' w.heap.size g (atS L (min l.length 6)) c F∧Vh L (min l.length 6) F∧Below w.heap.size w w':=by
 have HL:=Zg hL
 have hlen:((l.length:Int) == 0)=false:=by rw[beq_eq_false_iff_ne]; omega
 have hmin:min (l.length:Int) 6=((min l.length 6:Nat):Int):=by omega
 obtain⟨b,off,hAS,hblt,hcel⟩: ∃ b off,AS=some ⟨b,off,none⟩∧b<w.heap.size∧ ∀(i:Nat) (hi:i<l.length) (j:Nat) (v:Value),(Zd0 l[i])[j]? =some v→w.cell? ⟨b,off+(i * 3+j),none⟩=some v:=by
  rcases hS with h|h
  ·rw[h] at hl; simp at hl
  ·exact h
 subst hAS
 have HCL:=Zg hcel
 have HBLT:=Zg hblt
 clear hS hL hcel hblt
 go_enter Tryz.func25,Tryz.ntmps25
 go_wp2_with (first
  | (at_make; refine Yz rfl _ _ rfl w.heap.size .i64 .i64 1024 rfl rfl (by omega) (Nat.le_refl _) ?_; intro w1 ho hb hs; have HO1:=Zg ho; have HB1:=Zg hb; clear ho hb hs)
  | (refine Ul rfl _ _ rfl (off:=0) (t:=⟨#[77,90]⟩) HO1.out (by decide) (by decide) rfl rfl ?_; intro w2 ho hb hs; have HO2:=Zg ho; have HB2:=Zg (HB1.out.trans (hb.mono (Nat.le_refl _))); clear ho hb hs HO1 HB1))
 refine(Xp w.heap.size _ _ _ _ _ _ 60 4 64 _ HO2.out HB2.out.size rfl rfl (by omega) (by omega) (by omega) (by omega) (by omega) (by omega)).mono ?_
 rintro e w3 ⟨g3,c3,rfl,ho,hb⟩
 have HO3:=Zg ho
 have HB3:=Zg (HB2.out.trans (hb.mono HB2.out.size))
 clear ho hb HO2 HB2
 have hc3:=HO3.out.len
 go_wp2_with (refine Ul rfl _ _ rfl (off:=64) (t:=⟨#[80,69,0,0]⟩) HO3.out (by decide) (by decide) rfl rfl ?_; intro w4 ho hb hs; have HO4:=Zg ho; have HB4:=Zg (HB3.out.trans (hb.mono (Nat.le_refl _))); clear ho hb hs HO3 HB3)
 refine(Xp w.heap.size _ _ _ _ _ _ 68 2 34404 _ HO4.out HB4.out.size rfl rfl (by omega) (by omega) (by omega) (by omega) (by omega) (by omega)).mono ?_
 rintro e w5 ⟨g5,c5,rfl,ho,hb⟩
 have HO5:=Zg ho
 have HB5:=Zg (HB4.out.trans (hb.mono HB4.out.size))
 clear ho hb HO4 HB4
 go_wp2_with fail
 refine(Xp w.heap.size _ _ _ _ _ _ 70 2 ((min l.length 6:Nat):Int) _ HO5.out HB5.out.size rfl rfl (by omega) (by omega) (by omega) (by omega) (by omega) (by omega)).mono ?_
 rintro e w6 ⟨g6,c6,rfl,ho,hb⟩
 have HO6:=Zg ho
 have HB6:=Zg (HB5.out.trans (hb.mono HB5.out.size))
 clear ho hb HO5 HB5
 go_wp2_with fail
 refine(Xp w.heap.size _ _ _ _ _ _ 72 4 77 _ HO6.out HB6.out.size rfl rfl (by omega) (by omega) (by omega) (by omega) (by omega) (by omega)).mono ?_
 rintro e w7 ⟨g7,c7,rfl,ho,hb⟩
 have HO7:=Zg ho
 have HB7:=Zg (HB6.out.trans (hb.mono HB6.out.size))
 clear ho hb HO6 HB6
 go_wp2_with fail
 refine(Xp w.heap.size _ _ _ _ _ _ 84 2 240 _ HO7.out HB7.out.size rfl rfl (by omega) (by omega) (by omega) (by omega) (by omega) (by omega)).mono ?_
 rintro e w8 ⟨g8,c8,rfl,ho,hb⟩
 have HO8:=Zg ho
 have HB8:=Zg (HB7.out.trans (hb.mono HB7.out.size))
 clear ho hb HO7 HB7
 go_wp2_with fail
 refine(Xp w.heap.size _ _ _ _ _ _ 86 2 8226 _ HO8.out HB8.out.size rfl rfl (by omega) (by omega) (by omega) (by omega) (by omega) (by omega)).mono ?_
 rintro e w9 ⟨g9,c9,rfl,ho,hb⟩
 have HO9:=Zg ho
 have HB9:=Zg (HB8.out.trans (hb.mono HB8.out.size))
 clear ho hb HO8 HB8
 go_wp2_with fail
 refine(Xp w.heap.size _ _ _ _ _ _ 88 2 523 _ HO9.out HB9.out.size rfl rfl (by omega) (by omega) (by omega) (by omega) (by omega) (by omega)).mono ?_
 rintro e w10 ⟨g10,c10,rfl,ho,hb⟩
 have HO10:=Zg ho
 have HB10:=Zg (HB9.out.trans (hb.mono HB9.out.size))
 clear ho hb HO9 HB9
 go_wp2_with fail
 refine(Xp w.heap.size _ _ _ _ _ _ 112 8 65536 _ HO10.out HB10.out.size rfl rfl (by omega) (by omega) (by omega) (by omega) (by omega) (by omega)).mono ?_
 rintro e w11 ⟨g11,c11,rfl,ho,hb⟩
 have HO11:=Zg ho
 have HB11:=Zg (HB10.out.trans (hb.mono HB10.out.size))
 clear ho hb HO10 HB10
 go_wp2_with fail
 refine(Xp w.heap.size _ _ _ _ _ _ 120 4 4096 _ HO11.out HB11.out.size rfl rfl (by omega) (by omega) (by omega) (by omega) (by omega) (by omega)).mono ?_
 rintro e w12 ⟨g12,c12,rfl,ho,hb⟩
 have HO12:=Zg ho
 have HB12:=Zg (HB11.out.trans (hb.mono HB11.out.size))
 clear ho hb HO11 HB11
 go_wp2_with fail
 refine(Xp w.heap.size _ _ _ _ _ _ 124 4 512 _ HO12.out HB12.out.size rfl rfl (by omega) (by omega) (by omega) (by omega) (by omega) (by omega)).mono ?_
 rintro e w13 ⟨g13,c13,rfl,ho,hb⟩
 have HO13:=Zg ho
 have HB13:=Zg (HB12.out.trans (hb.mono HB12.out.size))
 clear ho hb HO12 HB12
 go_wp2_with fail
 refine(Xp w.heap.size _ _ _ _ _ _ 148 4 1024 _ HO13.out HB13.out.size rfl rfl (by omega) (by omega) (by omega) (by omega) (by omega) (by omega)).mono ?_
 rintro e w14 ⟨g14,c14,rfl,ho,hb⟩
 have HO14:=Zg ho
 have HB14:=Zg (HB13.out.trans (hb.mono HB13.out.size))
 clear ho hb HO13 HB13
 go_wp2_with fail
 refine(Xp w.heap.size _ _ _ _ _ _ 196 4 16 _ HO14.out HB14.out.size rfl rfl (by omega) (by omega) (by omega) (by omega) (by omega) (by omega)).mono ?_
 rintro e w15 ⟨g15,c15,rfl,ho,hb⟩
 have HO15:=Zg ho
 have HB15:=Zg (HB14.out.trans (hb.mono HB14.out.size))
 clear ho hb HO14 HB14
 go_wp2_with fail
 have HF:=Zg (VN.start L ((min l.length 6:Nat):Int) (by omega) (by omega))
 have hN1:min l.length 6≤l.length:=by omega
 have hN2:min l.length 6≤6:=by omega
 have hN3:1≤min l.length 6:=by omega
 have HOL:Hid (YD w15 w.heap.size g15 1024 c15 (preF ((min l.length 6:Nat):Int))):=HO15
 clear HO15 hmin
 obtain⟨N,hNN⟩: ∃ N,min l.length 6=N:=⟨_,rfl⟩
 have HNN:=Zg hNN
 simp only[hNN] at hN1 hN2 hN3 HF HOL ⊢
 clear hNN
 go_loopw [6,7,8,9,10,11,12,13,14] (fun o6 o7 o8 _ _ _ _ _ _ wr=> ∃(i g c:Nat) (F:Nat→Int),i≤N∧o6= .slice (some ⟨g,0,none⟩) (atS L i) c∧o7= .int .i64 (VM L i)∧o8= .int .i64 i∧YD wr w.heap.size g (atS L i) c F∧VN L N i F∧Below w.heap.size w wr) (fun _ _ o8 _ _ _ _ _ _ _=>N - (intOf o8).toNat)
 case atStart=>exact⟨0,g15,c15,_,by omega,rfl,rfl,rfl,HOL.out,HF.out,HB15.out⟩
 case round =>
  obtain⟨i,g,c,F,hi,rfl,rfl,rfl,ho,hF,hb⟩:=hrel
  have HO:=Zg ho
  have HF:=Zg hF
  have HB:=Zg hb
  clear ho hF hb HOL HB15
  by_cases hlt:i<N
  ·have hlt':(i:Int)<N:=by omega
   have hil:i<l.length:=by omega
   have hLi:l[i]=L i:=by
    rcases HL.out i with h|h
    ·rw[List.getElem?_eq_getElem hil] at h; injection h
    ·omega
   have hcl:=HCL.out i hil
   rw[hLi] at hcl
   have d0:wr.cell? ⟨b,off+i * 3,none⟩=some (.int .i64 (L i).1):=(HB.out.cell (p:=⟨b,_,none⟩) HBLT.out).trans (hcl 0 _ rfl)
   have d1:wr.cell? ⟨b,off+i * 3+1,none⟩=some (.int .i64 (L i).2.1):=(HB.out.cell (p:=⟨b,_,none⟩) HBLT.out).trans (hcl 1 _ rfl)
   have d2:wr.cell? ⟨b,off+i * 3+2,none⟩=some (.int .i64 (L i).2.2):=(HB.out.cell (p:=⟨b,_,none⟩) HBLT.out).trans (hcl 2 _ rfl)
   have HCLI:=Zg hcl
   clear hcl hLi
   have hat:=JE L i
   have hrv:=Vv L i
   have hv:=Zhs (L i)
   have hfu:=WZ (L i)
   have hra:=Qq (L i)
   have hri:=Zag (L i)
   have m1:=Zhu (L i).1
   have m2:=Zhv (L i).2.1
   have m3:=and_7 (L i).2.2
   obtain⟨p,hp⟩: ∃ p:Nat,328+40 * (i:Int)=p:=⟨328+40 * i,by omega⟩
   have hpn:p=328+40 * i:=by omega
   have hp6:p≤528:=by omega
   have HPN:=Zg hpn
   have HRD:=Zg (fun W=>Ud (vS (L i)) 4096 W (by omega) (by omega) (by omega) (by omega))
   have hvd:(L i).1 % 16384+1=vS (L i):=rfl
   have hfd:ZN (vS (L i)) 4096=Ur (L i):=rfl
   rw[hfd] at HRD
   have hrd:(L i).2.1 % 8192 / 512 * 512 % (Ur (L i)+512)=Zaf (L i):=rfl
   have hrr:(L i).2.2 % 8=Vm (L i):=rfl
   have x0:=HO.out.row p (by omega)
   have x1:=HO.out.row (p+1) (by omega)
   rw[Nat.zero_add] at x0 x1
   have z0:=(HO.out.wr p (by have:=HO.out.len; omega)).2
   have z1:=(HO.out.wr (p+1) (by have:=HO.out.len; omega)).2
   have uw: ∀ x:Int,0≤x→x≤1000000→IntKind.u64.wrap x=x:=fun x h0 h1=>by rw[IntKind.wrap_u64]; omega
   have wv:=uw (vS (L i)) (by omega) (by omega)
   have wr':=uw (VM L i) (by omega) (by omega)
   have ww:=uw (Zaf (L i)) (by omega) (by omega)
   have wa:=uw (atS L i) (by omega) (by omega)
   have wg:=uw (Vm (L i)) (by omega) (by omega)
   have wi:IntKind.u8.wrap (48+(i:Int))=48+i:=by rw[IntKind.wrap_u8]; omega
   obtain⟨R,hR⟩: ∃ R:Nat,Zaf (L i)=R:=⟨(Zaf (L i)).toNat,by omega⟩
   have HRR:=Zg hR
   clear uw hpn
   go_wp2_with (go_fit (HRD.out _); rintro e w' ⟨rfl,rfl⟩)
   have HQ0:=Zg ((HO.out.set p 115 (by omega) (by omega) (by omega)).set (p+1) (48+(i:Int)) (by omega) (by omega) (by omega))
   have HB0:=Zg ((HB.out.setCell (p:=⟨g,p,none⟩) HO.out.le (.int .u8 115)).setCell (p:=⟨g,p+1,none⟩) HO.out.le (.int .u8 (48+(i:Int))))
   clear HO HB x0 x1 z0 z1
   refine(Xp w.heap.size _ _ _ _ _ _ (p+8) 4 (vS (L i)) _ HQ0.out HB0.out.size (by omega) rfl (by omega) (by omega) (by omega) (by omega) (by omega) (by omega)).mono ?_
   rintro e v1 ⟨h1,k1,rfl,ho,hb⟩
   have HQ1:=Zg ho
   have HB1:=Zg (HB0.out.trans (hb.mono HB0.out.size))
   clear ho hb HQ0 HB0
   go_wp2_with fail
   refine(Xp w.heap.size _ _ _ _ _ _ (p+12) 4 (VM L i) _ HQ1.out HB1.out.size (by omega) rfl (by omega) (by omega) (by omega) (by omega) (by omega) (by omega)).mono ?_
   rintro e v2 ⟨h2,k2,rfl,ho,hb⟩
   have HQ2:=Zg ho
   have HB2:=Zg (HB1.out.trans (hb.mono HB1.out.size))
   clear ho hb HQ1 HB1
   go_wp2_with fail
   refine(Xp w.heap.size _ _ _ _ _ _ (p+16) 4 (R:Int) _ HQ2.out HB2.out.size (by omega) rfl (by omega) (by omega) (by omega) (by omega) (by omega) (by omega)).mono ?_
   rintro e v3 ⟨h3,k3,rfl,ho,hb⟩
   have HQ3:=Zg ho
   have HB3:=Zg (HB2.out.trans (hb.mono HB2.out.size))
   clear ho hb HQ2 HB2
   go_wp2_with fail
   refine(Xp w.heap.size _ _ _ _ _ _ (p+20) 4 ((atS L i:Nat):Int) _ HQ3.out HB3.out.size (by omega) rfl (by omega) (by omega) (by omega) (by omega) (by omega) (by omega)).mono ?_
   rintro e v4 ⟨h4,k4,rfl,ho,hb⟩
   have HQ4:=Zg ho
   have HB4:=Zg (HB3.out.trans (hb.mono HB3.out.size))
   clear ho hb HQ3 HB3
   have e2:v4.cell? ⟨b,off+i * 3+2,none⟩=some (.int .i64 (L i).2.2):=(HB4.out.cell (p:=⟨b,_,none⟩) HBLT.out).trans (HCLI.out 2 _ rfl)
   clear d0 d1 d2
   go_wp2_with fail
   refine(Xp w.heap.size _ _ _ _ _ _ (p+36) 4 (Vm (L i) * 536870912) _ HQ4.out HB4.out.size (by omega) rfl (by omega) (by omega) (by omega) (by omega) (by omega) (by omega)).mono ?_
   rintro e v5 ⟨h5,k5,rfl,ho,hb⟩
   have HQ5:=Zg ho
   have HB5:=Zg (HB4.out.trans (hb.mono HB4.out.size))
   clear ho hb HQ4 HB4
   clear e2
   go_wp2_with (at_make; refine Yz rfl _ _ rfl w.heap.size .i64 .i64 R rfl rfl (by omega) HB5.out.size ?_; intro v6 ho hb hs)
   have HM:=Zg ho
   have HQ6:=Zg (HQ5.out.below hb)
   have HB6:=Zg (HB5.out.trans (hb.mono HB5.out.size))
   have HNE:Hid (h5≠v5.heap.size):=Zg (by have:=HQ5.out.lt; omega)
   clear ho hb hs HQ5 HB5
   generalize v5.heap.size=gm at *
   go_loopw [14] (fun o14 wr=> ∃ k:Nat,k≤R∧o14= .int .i64 k∧YD wr w.heap.size gm R R (fun q=>if q<k then(7 * (q:Int)+i+1) % 256 else 0)∧YD wr w.heap.size h5 (atS L i) k5 (Xm (Xm (Xm (Xm (Xm (Qm (Qm F p 115) (p+1) (48+i)) (p+8) (vS (L i)) 4) (p+12) (VM L i) 4) (p+16) (R:Int) 4) (p+20) (atS L i) 4) (p+36) (Vm (L i) * 536870912) 4)∧Below w.heap.size w wr) (fun o14 _=>R - (intOf o14).toNat)
   case atStart=>exact⟨0,by omega,rfl,HM.out.congr (fun q=>by simp) (fun q _=>by simp),HQ6.out,HB6.out⟩
   case round =>
    obtain⟨k,hk,rfl,ho,hq,hb⟩:=hrel
    have HM:=Zg ho
    have HQ:=Zg hq
    have HB:=Zg hb
    clear ho hq hb
    by_cases hkl:k<R
    ·have hkl':(k:Int)<R:=by omega
     have x0:=HM.out.row k hkl
     rw[Nat.zero_add] at x0
     have z0:=(HM.out.wr k hkl).2
     have wk:IntKind.u8.wrap ((k:Int) * 7+i+1)=(7 * (k:Int)+i+1) % 256:=by rw[IntKind.wrap_u8]; omega
     have hRb:R<8192:=by omega
     go_wp2_with fail
     go_roundw
     case rel=>exact⟨k+1,by omega,by go_num,(HM.out.set k ((7 * (k:Int)+i+1) % 256) hkl (by omega) (by omega)).congr (fun q=>by split <;> omega) (fun q hq=>by
      unfold Qm
      by_cases e:q=k
      ·subst e; simp
      ·rw[if_neg e]
       show(if q<k then(7 * (q:Int)+i+1) % 256 else 0)=_
       by_cases e2:q<k
       ·rw[if_pos e2,if_pos (by omega)]
       ·rw[if_neg e2,if_neg (by omega)]),HQ.out.of_block (by simp) (heap_setCell_other _ _ _ _ HNE.out),HB.out.setCell HM.out.le _⟩
     case measure=>simp[intOf]; omega
    ·obtain rfl:k=R:=by omega
     go_wp2_with (at_builtin; refine Vu rfl _ _ rfl HQ.out (.inr ⟨gm,0,rfl,HM.out.lt,HM.out.row⟩) HM.out.by255 (by omega) HB.out.size rfl rfl ?_; intro g' cap' w' ho hb)
     have hsum:VM L (i+1)=VM L i+Ur (L i):=rfl
     have hatn:atS L (i+1)=atS L i+k:=by simp only[atS]; rw[HRR.out]; rfl
     go_roundw
     case rel =>
      refine⟨i+1,g',cap',_,by omega,by rw[hatn],by rw[hsum],by go_num,by rw[hatn]; exact ho,?_,HB.out.trans hb⟩
      have hn:=HF.out.next (by omega) (fun q=>if q<k then(7 * (q:Int)+i+1) % 256 else 0) (fun q hq=>if_pos (by rw[HRR.out] at hq; omega))
      unfold Zis at hn
      rw[←HPN.out,HRR.out] at hn
      exact hn
     case measure=>simp[intOf]; omega
  ·obtain rfl:i=N:=by omega
   have wr':IntKind.u64.wrap (VM L i)=VM L i:=by
    have:=Vv L i
    rw[IntKind.wrap_u64]; omega
   have hrv:=Vv L i
   have hat:=JE L i
   go_wp2_with fail
   refine(Xp w.heap.size _ _ _ _ _ _ 144 4 (VM L i) _ HO.out HB.out.size rfl rfl (by omega) (by omega) (by omega) (by omega) (by omega) (by omega)).mono ?_
   rintro e w' ⟨g',c',rfl,ho,hb⟩
   have HO2:=Zg ho
   have HB2:=Zg (HB.out.trans (hb.mono HB.out.size))
   clear ho hb HO HB
   go_wp2_with fail
   go_loopw [6,15] (fun o6 o15 wr=>wr=w'∧o15= .int .i64 0∧o6= .slice (some ⟨g',0,none⟩) (atS L i) c') (fun _ _ _=>0)
   case atStart=>exact⟨rfl,rfl,rfl⟩
   case round =>
    obtain⟨rfl,rfl,rfl⟩:=hrel
    go_wp2_with fail
    go_ret
    rw[HNN.out]
    exact⟨g',c',_,rfl,HO2.out,HF.out.done hN2,HB2.out⟩
theorem VN.sect {L:Nat→Vw} {n:Int} {m i:Nat} {f:Nat→Int} (x:VN L n m f) (h:i<m):Xo f (328+40 * i)=⟨Jr f (328+40 * i),vS (L i),VM L i,Zaf (L i),atS L i,Vm (L i) * 536870912⟩:=by
 have s:=x.sec i h
 unfold Xo
 rw[s.v,s.rva,s.raw,s.spot,s.r]
theorem Zah (L:Nat→Vw) {i j:Nat} (h:i≤j):VM L i≤VM L j:=by
 induction j with
 | zero=>obtain rfl:i=0:=by omega
         exact Int.le_refl _
 | succ j ih =>
   rcases Nat.lt_or_ge j i with h1|h1
   ·obtain rfl:i=j+1:=by omega
    exact Int.le_refl _
   ·have:=ih h1
    have:=WZ (L j)
    simp only[VM]
    omega
theorem VN.chain {L:Nat→Vw} {n:Int} {f:Nat→Int} {t:Nat} (x:VN L n t f) (N:Nat) (hN:atS L t≤N): ∀(m i:Nat),i+m=t→Yw (VM L t) N (VM L i) ((List.range' i m).map fun j=>Xo f (328+40 * j))
 | 0,i,h=>by
   obtain rfl:i=t:=by omega
   rfl
 | m+1,i,h=>by
   rw[List.range'_succ,List.map_cons]
   refine⟨?_,?_⟩
   ·rw[x.sect (by omega)]
    have h1:=Zhs (L i)
    have h2:=WZ (L i)
    have h3:=Qq (L i)
    have h4:=Zah L (show i+1≤t by omega)
    have h5:=Zc1 L (show i+1≤t by omega)
    have h6:=Vv L i
    simp only[VM,atS] at h4 h5
    refine⟨rfl,by show vS (L i)≠0; omega,by show vS (L i)≤_; omega,h3.2.2.1,h3.2.2.2,?_⟩
    show ¬ (0<Zaf (L i)∧(N:Int)<(atS L i:Int)+Zaf (L i))
    omega
   ·rw[x.sect (by omega)]
    exact x.chain N hN m (i+1) (by omega)
structure Zd1 (w:World) (cs:Array Value) (h:ZO) (g c:Nat) (l:List Zr):Prop where
 hv:YR cs h (.slice (some ⟨g,0,none⟩) l.length c)
 sl:SlT Zr.cells 6 w (some ⟨g,0,none⟩) l
 lt:g<w.heap.size
 bd: ∀ s∈l,JS s
 len:l.length≤16
 hd0:0≤h.headers
 hd1:h.headers<4294967296
theorem Zd1.below {w w':World} {cs:Array Value} {h:ZO} {g c:Nat} {l:List Zr} (x:Zd1 w cs h g c l) (hb:Below w.heap.size w w'):Zd1 w' cs h g c l :=
 ⟨x.hv,x.sl.below hb,Nat.lt_of_lt_of_le x.lt hb.size,x.bd,x.len,x.hd0,x.hd1⟩
def Jo (F:Nat→Int) (n k:Nat):Int:=if k<n then F k else 0
theorem VO {F:Nat→Int} (h:Zq F) (n k:Nat):0≤Jo F n k∧Jo F n k≤255:=by
 unfold Jo; split
 ·exact h k
 ·omega
theorem Zd2 (b off n cap:Nat) (F:Nat→Int) (k i:Nat) (w:World) (h:VF w b off n cap F) (hk:k≤4611686018427387904) (hi:i≤4611686018427387904) :
 Calls Tryz.prog 107 #[.slice (some ⟨b,off,none⟩) n cap,.int .i64 k,.int .i64 i] w fun e u=>e= .returned (.int .u8 (Jo F n (k+i)))∧w=u:=by
 have hl:=h.len
 have hm:=h.most
 have k0:(0:Int)≤k:=by omega
 by_cases c:k+i<n
 ·have hc:=h.row (k+i) c
  have hsum:(k:Int)+i=((k+i:Nat):Int):=by omega
  have c1:(k:Int)<n:=by omega
  have c2:(i:Int)<n - k:=by omega
  have hb:Jo F n (k+i)=F (k+i):=by unfold Jo; rw[if_pos c]
  rw[hb]
  have hkn:(k+i:Nat)<n:=c
  clear h
  generalize k+i=q at *
  go_enter Tryz.func107,Tryz.ntmps107
  go_wp2_with fail
  go_ret
  exact⟨rfl,rfl⟩
 ·have hb:Jo F n (k+i)=0:=by unfold Jo; rw[if_neg c]
  rw[hb]
  clear h
  by_cases c1:(k:Int)<n
  ·have c2:(n:Int) - k≤i:=by omega
   go_enter Tryz.func107,Tryz.ntmps107
   go_wp2_with fail
   go_ret
   exact⟨rfl,rfl⟩
  ·have c1':(n:Int)≤k:=by omega
   go_enter Tryz.func107,Tryz.ntmps107
   go_wp2_with fail
   go_ret
   exact⟨rfl,rfl⟩
def Zd3 (N:Nat) (F:Nat→Int) (nb:Nat) (f:Nat→Int) (r k n:Nat) (q:Nat):Int:=if r≤q∧q<r+n∧q<N then Jo F nb (k+(q - r)) else f q
set_option maxRecDepth 100000 in
set_option maxHeartbeats 2000000 in
theorem Zfz (g N:Nat) (f:Nat→Int) (b off nb cap:Nat) (F:Nat→Int) (r k n base:Nat) (w:World) (ho:YD w base g N N f) (h:VF w b off nb cap F) (hne:b<base) (hN:N≤1000000) (hr:r≤4294967296) (hk:k≤4294967296) (hn:n≤4294967296) :
 Calls Tryz.prog 69 #[.slice (some ⟨g,0,none⟩) N N,.int .i64 r,.slice (some ⟨b,off,none⟩) nb cap,.int .i64 k,.int .i64 n] w fun e u=>e= .returned (.tuple #[])∧YD u base g N N (Zd3 N F nb f r k n)∧Below base w u:=by
 have HO:=Zg ho
 have HR:=Zg h
 have r0:(0:Int)≤r:=by omega
 clear ho h
 go_enter Tryz.func69,Tryz.ntmps69
 by_cases c:(N:Int)≤r
 ·go_wp2_with fail
  go_returns
  exact⟨rfl,HO.out.congr (fun q=>by
   unfold Zd3
   split
   ·exact VO HR.out.by255 _ _
   ·exact HO.out.by255 q) (fun q hq=>by unfold Zd3; rw[if_neg (by omega)]),Below.refl _ _⟩
 ·have c':(r:Int)<N:=by omega
  obtain⟨M,hM⟩: ∃ M:Nat,min (n:Int) ((N:Int) - r)=M:=⟨(min (n:Int) ((N:Int) - r)).toNat,by omega⟩
  have HMM:=Zg hM
  have hM1:r+M≤N:=by omega
  go_wp2_with fail
  go_loopw [12] (fun o12 wr=> ∃ i:Nat,i≤M∧o12= .int .i64 i∧YD wr base g N N (Zd3 N F nb f r k i)∧Below base w wr) (fun o12 _=>M - (intOf o12).toNat)
  case atStart=>exact⟨0,by omega,rfl,HO.out.congr (fun q=>by
   unfold Zd3
   split
   ·exact VO HR.out.by255 _ _
   ·exact HO.out.by255 q) (fun q hq=>by unfold Zd3; rw[if_neg (by omega)]),Below.refl _ _⟩
  case round =>
   obtain⟨i,hi,rfl,ho,hb⟩:=hrel
   have HOI:=Zg ho
   have HB:=Zg hb
   clear ho hb hM
   by_cases hlt:i<M
   ·have hlt':(i:Int)<M:=by omega
    have HBY:=Zg (Zd2 b off nb cap F k i wr ⟨fun j hj=>(HB.out.cell (p:=⟨b,_,none⟩) hne).trans (HR.out.row j hj),HR.out.by255,Nat.lt_of_lt_of_le HR.out.lt HB.out.size,HR.out.len,HR.out.most⟩ (by omega) (by omega))
    have hsum:(r:Int)+i=((r+i:Nat):Int):=by omega
    have x0:=HOI.out.row (r+i) (by omega)
    rw[Nat.zero_add] at x0
    have z0:=(HOI.out.wr (r+i) (by omega)).2
    have hbd:=VO HR.out.by255 nb (k+i)
    have hri:r+i<N:=by omega
    obtain⟨p,hp⟩: ∃ p,r+i=p:=⟨_,rfl⟩
    have HP:=Zg hp
    rw[hp] at hsum x0 z0 hri
    clear hp
    go_wp2_with (go_fit HBY.out; rintro e u ⟨rfl,rfl⟩)
    go_roundw
    case rel=>exact⟨i+1,by omega,by go_num,(HOI.out.set p (Jo F nb (k+i)) hri hbd.1 hbd.2).congr (fun q=>by
     unfold Zd3
     split
     ·exact VO HR.out.by255 _ _
     ·exact HO.out.by255 q) (fun q hq=>by
     have hp:=HP.out
     unfold Qm
     by_cases e:q=p
     ·subst e
      rw[if_pos rfl]
      unfold Zd3
      rw[if_pos (by omega),show q - r=i by omega]
     ·rw[if_neg e]
      unfold Zd3
      by_cases e2:r≤q∧q<r+i∧q<N
      ·rw[if_pos e2,if_pos (by omega)]
      ·rw[if_neg e2,if_neg (by omega)]),HB.out.setCell HOI.out.le _⟩
    case measure=>simp[intOf]; omega
   ·obtain rfl:i=M:=by omega
    go_wp2_with fail
    go_returns
    exact⟨rfl,HOI.out.congr (fun q=>by
     unfold Zd3
     split
     ·exact VO HR.out.by255 _ _
     ·exact HO.out.by255 q) (fun q hq=>by
     have hM:=HMM.out
     unfold Zd3
     by_cases e:r≤q∧q<r+i∧q<N
     ·rw[if_pos e,if_pos (by omega)]
     ·rw[if_neg e,if_neg (by omega)]),HB.out⟩
def Zhw (N:Nat) (F:Nat→Int) (nb:Nat):List Zr→(Nat→Int)→(Nat→Int)
 | [],f=>f
 | s::l,f=>Zhw N F nb l (Zd3 N F nb f s.rva.toNat s.spot.toNat s.raw.toNat)
def imgF (N:Nat) (F:Nat→Int) (nb:Nat) (hd:Nat) (l:List Zr):Nat→Int:=Zhw N F nb l (Zd3 N F nb (fun _=>0) 0 0 hd)
set_option maxRecDepth 100000 in
set_option maxHeartbeats 2000000 in
theorem Zhx (cs:Array Value) (h:ZO) (g c:Nat) (l:List Zr) (b off nb cap:Nat) (F:Nat→Int) (N hd:Nat) (w:World) (hh:Zd1 w cs h g c l) (hr:VF w b off nb cap F) (hN:h.size=N) (hN2:N≤262144) (hhd:h.headers=hd) :
 Calls Tryz.prog 24 #[.agg cs,.slice (some ⟨b,off,none⟩) nb cap] w fun e u=> ∃ gi,e= .returned (.slice (some ⟨gi,0,none⟩) N N)∧YD u w.heap.size gi N N (imgF N F nb hd l)∧Below w.heap.size w u:=by
 have HH:=Zg hh
 have HR:=Zg hr
 have HB0:=Zg ((Below.refl w.heap.size w).alloc (Nat.le_refl _) (.cells cs 41))
 have HG:=Zg (heap_alloc_new w (.cells cs 41))
 have c4:=hh.hv.c4
 have c5:=hh.hv.c5
 have c38:=hh.hv.c38
 have hlen:=hh.len
 have hd1:=hh.hd1
 rw[hN] at c4
 rw[hhd] at c5 hd1
 obtain⟨IM,hIM⟩: ∃ IM,imgF N F nb hd l=IM:=⟨_,rfl⟩
 have HIM:=Zg hIM
 rw[hIM]
 have HS1:Hid ((w.alloc (.cells cs 41)).heap.size=w.heap.size+1):=Zg (by simp)
 have n0:decide ((N:Int)<0)=false:=decide_eq_false (by omega)
 have n1:decide ((262144:Int)<(N:Int))=false:=decide_eq_false (by omega)
 have HN2:=Zg hN2
 clear hh hr hIM hN hhd hN2
 go_enter Tryz.func24,Tryz.ntmps24
 go_wp2_with (at_make; have k5:=(cell_of_row _ _ 5 _ _ _ HG.out).trans c5; have k38:=(cell_of_row _ _ 38 _ _ _ HG.out).trans c38; generalize w.alloc (.cells cs 41)=w1 at *; refine Yz rfl _ _ rfl w1.heap.size .i64 .i64 N rfl rfl (by have:=HN2.out; omega) (Nat.le_refl _) ?_; intro w2 ho hb hs; have HO2:=Zg ho; have HB12:=Zg hb; have k5:=(hb.cell (p:=⟨w.heap.size,5,none⟩) (by have:=HS1.out; show w.heap.size<w1.heap.size; omega)).trans k5; clear ho hb hs)
 have HB2:=Zg (HB0.out.trans (HB12.out.mono HB0.out.size))
 have hb01:b<w1.heap.size:=by have:=HR.out.lt; have:=HS1.out; omega
 refine(Zfz w1.heap.size N (fun _=>0) b off nb cap F 0 0 hd w1.heap.size w2 HO2.out (HR.out.below HB2.out) hb01 (by have:=HN2.out; omega) (by omega) (by omega) (by omega)).mono ?_
 rintro e w3 ⟨rfl,ho,hb⟩
 have HO3:=Zg ho
 have HB13:=Zg (HB12.out.trans hb)
 have k38':=(HB13.out.cell (p:=⟨w.heap.size,38,none⟩) (by have:=HS1.out; show w.heap.size<w1.heap.size; omega)).trans ((cell_of_row _ _ 38 _ _ _ HG.out).trans c38)
 clear ho hb k5 HO2 HB12 HB2
 go_wp2_with fail
 clear k38' c38 c4 c5 n0 n1
 go_loopw [7,27] (fun _ o27 wr=> ∃(i:Nat) (f:Nat→Int),i≤l.length∧o27= .int .i64 i∧YD wr w1.heap.size w1.heap.size N N f∧Zhw N F nb (l.drop i) f=IM∧Below w1.heap.size w1 wr) (fun _ o27 _=>l.length - (intOf o27).toNat)
 case atStart=>exact⟨0,_,by omega,rfl,HO3.out,HIM.out,HB13.out⟩
 case round =>
  obtain⟨i,f,hi,rfl,ho,hf,hb⟩:=hrel
  have HO:=Zg ho
  have HF:=Zg hf
  have HB:=Zg hb
  have HBW:Hid (Below w.heap.size w wr):=Zg (HB0.out.trans (hb.mono HB0.out.size))
  clear ho hf hb HO3 HB13
  by_cases hlt:i<l.length
  ·have hlt':(i:Int)<l.length:=by omega
   obtain⟨d0,d1,d2,d3,d4,d5⟩:=(HH.out.sl.below HBW.out).at6 i hlt
   have hs:=HH.out.bd l[i] (List.getElem_mem hlt)
   have hd:=HF.out
   rw[List.drop_eq_getElem_cons hlt] at hd
   have HD:=Zg hd
   clear hd
   generalize l[i]=s at *
   obtain⟨nm,v,rva,raw,spot,ch⟩:=s
   obtain⟨v0,v1,p0,p1,a0,a1,s0,s1,x0,x1⟩:=hs
   simp only at d0 d1 d2 d3 d4 d5 v0 v1 p0 p1 a0 a1 s0 s1 x0 x1
   obtain⟨rv,rfl⟩: ∃ n:Nat,rva=n:=⟨rva.toNat,by omega⟩
   obtain⟨rw',rfl⟩: ∃ n:Nat,raw=n:=⟨raw.toNat,by omega⟩
   obtain⟨sp,rfl⟩: ∃ n:Nat,spot=n:=⟨spot.toNat,by omega⟩
   go_wp2_with fail
   have hba:=(Below.refl wr.heap.size wr).alloc (Nat.le_refl _) (.cells #[.string nm,.int .i64 v,.int .i64 (rv:Int),.int .i64 (rw':Int),.int .i64 (sp:Int),.int .i64 ch] 72)
   refine(Zfz w1.heap.size N f b off nb cap F rv sp rw' w1.heap.size _ (HO.out.below hba) (HR.out.below (HBW.out.trans (hba.mono HBW.out.size))) hb01 (by have:=HN2.out; omega) (by omega) (by omega) (by omega)).mono ?_
   rintro e u ⟨rfl,ho,hb⟩
   have HOU:=Zg ho
   have HBU:=Zg ((HB.out.trans (hba.mono HB.out.size)).trans hb)
   clear ho hb hba
   go_wp2_with fail
   go_roundw
   case rel=>exact⟨i+1,_,by omega,by go_num,HOU.out,by have:=HD.out; simp only[Zhw,Int.toNat_natCast] at this; exact this,HBU.out⟩
   case measure=>simp[intOf]; omega
  ·obtain rfl:i=l.length:=by omega
   have hf:=HF.out
   rw[List.drop_length] at hf
   have hf':f=IM:=hf
   subst hf'
   go_wp2_with fail
   go_ret
   exact⟨_,rfl,HO.out.weaken (by have:=HS1.out; omega),HBW.out⟩
theorem YD.empty (w:World):YD (w.alloc (.cells #[] 5)) w.heap.size w.heap.size 0 0 (fun _=>0) :=
 ⟨Nat.le_refl _,by simp,fun i hi=>by omega,fun _=>by omega,Nat.le_refl _,by omega,fun j hj=>by omega⟩
def Zai (c:Int):Bool:=decide ((97≤c∧c≤122)∨(65≤c∧c≤90)∨(48≤c∧c≤57)∨c=46∨c=95∨c=45)
def Zc3 (S:ByteArray):Prop:=1≤S.size∧S.size≤40∧ ∀ i,i<S.size→Zai (PlainAid.bt S i)=true
def Zhy (S:ByteArray):Prop:=1≤S.size∧S.size≤60∧PlainAid.bt S 0≠35∧ ∀ i,i<S.size→33≤PlainAid.bt S i∧PlainAid.bt S i≤126
def lF (bs:List Nat) (i:Nat):Int:=((bs.getD i 0:Nat):Int)
theorem Zf0 (bs:List Nat) (k i:Nat):lF (bs.drop k) i=lF bs (k+i):=by simp[lF,List.getD]
theorem Zf1 (bs:List Nat) (n i:Nat) (h:i<n):lF (bs.take n) i=lF bs i:=by simp[lF,List.getD,List.getElem?_take,h]
def Lb (bs:List Nat):Prop:= ∀ v∈bs,v≤255
theorem Lb.drop {bs:List Nat} (h:Lb bs) (k:Nat):Lb (bs.drop k):=fun v hv=>h v (List.mem_of_mem_drop hv)
theorem Lb.take {bs:List Nat} (h:Lb bs) (k:Nat):Lb (bs.take k):=fun v hv=>h v (List.mem_of_mem_take hv)
theorem Lb.append {bs cs:List Nat} (h:Lb bs) (k:Lb cs):Lb (bs++cs):=fun v hv=>(List.mem_append.mp hv).elim (h v) (k v)
theorem Lb.b255 {bs:List Nat} (h:Lb bs):Zq (lF bs):=by
 intro i
 unfold lF
 rcases Nat.lt_or_ge i bs.length with hi|hi
 ·have:=h bs[i] (List.getElem_mem hi)
  simp[List.getD,hi]; omega
 ·simp[List.getD,hi]
def YS (bs:List Nat):Nat→Nat
 | 0=>0
 | n+1=>bs.headD 0+256 * YS bs.tail n
theorem UE (bs:List Nat): ∀(n k:Nat),rdF (lF bs) k n=((YS (bs.drop k) n:Nat):Int)
 | 0,k=>rfl
 | n+1,k=>by
   have h1:(bs.drop k).tail=bs.drop (k+1):=by simp
   have h2:(bs.drop k).headD 0=bs.getD k 0:=by simp[List.headD_eq_head?_getD,List.getD]
   simp only[rdF,YS,h1,h2,UE bs n (k+1)]
   unfold lF
   omega
theorem Ym {bs:List Nat} (h:Lb bs) (n:Nat):YS bs n<256 ^ n:=by
 have h1:=ZS (lF bs) h.b255 n 0
 rw[UE] at h1
 have:((YS bs n:Nat):Int)<((256 ^ n:Nat):Int):=by rw[Int.natCast_pow]; simpa using h1.2
 exact_mod_cast this
def txt (t:List Nat):ByteArray:=ZB (lF t) 0 t.length
theorem Zm (t:List Nat):(txt t).size=t.length:=Zt _ _ _
theorem JF {t:List Nat} (h:Lb t) {i:Nat} (hi:i<t.length):PlainAid.bt (txt t) i=lF t i:=by
 unfold txt; rw[XQ h.b255 hi,Nat.zero_add]
theorem Qr (bs:List Nat) (o n:Nat) (h:o+n≤bs.length):ZB (lF bs) o n=txt ((bs.drop o).take n):=by
 have hl:((bs.drop o).take n).length=n:=by rw[List.length_take,List.length_drop]; omega
 unfold txt
 rw[hl]
 exact ZH fun i hi=>by rw[Nat.zero_add,Zf1 _ _ _ hi,Zf0]
def XV (b:List Nat) (o most:Nat):Option (List Nat) :=
 match ((b.drop o).take (most+1)).findIdx? (· == 0) with
 | some k=>some ((b.drop o).take k)
 | none=>none
theorem JG {b:List Nat} {o most:Nat} {t:List Nat} (h:XV b o most=some t) :
 o+t.length<b.length∧t.length≤most∧lF b (o+t.length)=0∧(∀ i,i<t.length→lF b (o+i)≠0)∧t=(b.drop o).take t.length:=by
 unfold XV at h
 split at h
 ·rename_i k hk
  injection h with h
  rw[List.findIdx?_eq_some_iff_getElem] at hk
  obtain⟨hkl,hk0,hkn⟩:=hk
  rw[List.length_take,List.length_drop] at hkl
  have hl:t.length=k:=by rw[←h,List.length_take,List.length_drop]; omega
  rw[List.getElem_take,List.getElem_drop] at hk0
  refine⟨by omega,by omega,?_,fun i hi=> ?_,by rw[hl,h]⟩
  ·rw[hl]
   unfold lF
   have:o+k<b.length:=by omega
   simp only[List.getD,List.getElem?_eq_getElem this,Option.getD_some]
   simpa using hk0
  ·have:=hkn i (by omega)
   rw[List.getElem_take,List.getElem_drop] at this
   unfold lF
   have h2:o+i<b.length:=by omega
   simp only[List.getD,List.getElem?_eq_getElem h2,Option.getD_some]
   simpa using this
 ·exact absurd h (by simp)
theorem Zd4 {b:List Nat} {o most:Nat} (h:XV b o most=none) (i:Nat) (h1:o+i<b.length) (h2:i≤most):lF b (o+i)≠0:=by
 unfold XV at h
 split at h
 ·exact absurd h (by simp)
 ·rename_i hk
  rw[List.findIdx?_eq_none_iff] at hk
  have hm:b[o+i]∈(b.drop o).take (most+1):=by
   rw[List.mem_iff_getElem]
   exact⟨i,by rw[List.length_take,List.length_drop]; omega,by rw[List.getElem_take,List.getElem_drop]⟩
  have:=hk _ hm
  unfold lF
  simp only[List.getD,List.getElem?_eq_getElem h1,Option.getD_some]
  simpa using this
def Zjv (c:Nat):Bool:=(decide (97≤c)&&decide (c≤122))||(decide (65≤c)&&decide (c≤90))||(decide (48≤c)&&decide (c≤57))||c == 46||c == 95||c == 45
def Zc4 (t:List Nat):Bool:=decide (1≤t.length)&&decide (t.length≤40)&&t.all Zjv
theorem Zaj (c:Nat):Zai (c:Int)=Zjv c:=by
 unfold Zai Zjv
 rw[Bool.eq_iff_iff]
 simp only[decide_eq_true_eq,Bool.or_eq_true,Bool.and_eq_true,beq_iff_eq]
 omega
theorem Zc5 {t:List Nat} (h:Lb t):Zc3 (txt t)↔Zc4 t=true:=by
 unfold Zc3 Zc4
 rw[Zm]
 simp only[Bool.and_eq_true,decide_eq_true_eq,List.all_eq_true,and_assoc]
 refine and_congr_right fun _=>and_congr_right fun _=>⟨fun k v hv=> ?_,fun k i hi=> ?_⟩
 ·obtain⟨i,hi,rfl⟩:=List.mem_iff_getElem.mp hv
  have:=k i hi
  rw[JF h hi] at this
  rw[←Zaj]
  unfold lF at this
  simpa [List.getD,hi] using this
 ·rw[JF h hi]
  unfold lF
  rw[Zaj]
  have:=k t[i] (List.getElem_mem hi)
  simpa [List.getD,hi] using this
def Xj (b:List Nat) (o n:Nat):Bool:=decide (o+n≤b.length)&&((b.drop o).take n).all (· == 0)
theorem WK {b:List Nat} {o n:Nat} (h: ¬ o+n≤b.length):Xj b o n=false:=by unfold Xj; rw[decide_eq_false h]; rfl
theorem Zak {b:List Nat} {o n:Nat} (h:o+n≤b.length):Xj b o n=true↔ ∀ i,i<n→lF b (o+i)=0:=by
 unfold Xj
 rw[decide_eq_true h,Bool.true_and,List.all_eq_true]
 constructor
 ·intro k i hi
  have hb:o+i<b.length:=by omega
  have hm:b[o+i]∈(b.drop o).take n:=by
   rw[List.mem_iff_getElem]
   exact⟨i,by rw[List.length_take,List.length_drop]; omega,by rw[List.getElem_take,List.getElem_drop]⟩
  have:=k _ hm
  unfold lF
  simp only[List.getD,List.getElem?_eq_getElem hb,Option.getD_some]
  simpa using this
 ·intro k v hv
  obtain⟨i,hi,rfl⟩:=List.mem_iff_getElem.mp hv
  rw[List.length_take,List.length_drop] at hi
  have:=k i (by omega)
  have hb:o+i<b.length:=by omega
  unfold lF at this
  simp only[List.getD,List.getElem?_eq_getElem hb,Option.getD_some] at this
  rw[List.getElem_take,List.getElem_drop]
  simpa using this
theorem Wo {P:Program} {ops:Array Oper} {rest:List Oper} {o:Oper} {a:Act} {w:World} {Q:Exit→Act→World→Prop} (hw:Region.wanted o (yielded ops a.tmps)=true) (ty:TypeId) (x:Operand) (ho:o.op= .load ty x)
 (g:Nat) (hx:a.eval x= .pointer (some ⟨g,0,none⟩)) (t:TypeId) (cs:Array Value) (fr:Nat × Nat) (d:TypeDesc) (hg:w.heap[g]? =some (.cells cs t fr))
 (hu:P.underlying ty=some d) (hd:(match d with| .struct _| .array _ _=>true|_=>false)=true) (hi:(P.info? ty).map (·.size)=some cs.size)
 (h:wpList P ops Q rest (a.put o.dst (.agg cs)) w):wpList P ops Q (o::rest) a w :=
 wpList_step fun K hK=>by
  rw[if_pos hw]
  exact wp_load_row ty x ho g hx t cs fr d hg hu hd hi (hK _ _ h)
def Vn (w:World) (sv:Value) (l:List Zr):Prop:= ∃ A c,sv= .slice A l.length c∧SlT Zr.cells 6 w A l∧l.length≤16
theorem SlT.at6o {w:World} {b o:Nat} {l:List Zr} (h:SlT Zr.cells 6 w (some ⟨b,o,none⟩) l) (i:Nat) (hi:i<l.length) :
 b<w.heap.size∧w.cell? ⟨b,o+i * 6,none⟩=some (.string l[i].name)∧w.cell? ⟨b,o+i * 6+1,none⟩=some (.int .i64 l[i].vsize)∧w.cell? ⟨b,o+i * 6+2,none⟩=some (.int .i64 l[i].rva) ∧
 w.cell? ⟨b,o+i * 6+3,none⟩=some (.int .i64 l[i].raw)∧w.cell? ⟨b,o+i * 6+4,none⟩=some (.int .i64 l[i].spot)∧w.cell? ⟨b,o+i * 6+5,none⟩=some (.int .i64 l[i].chars):=by
 rcases h with rfl|⟨b',off,hb,hlt,hc⟩
 ·simp at hi
 ·injection hb with hb
  injection hb with h1 h2
  subst h1 h2
  have k:=fun j v hv=>hc i hi j v hv
  exact⟨hlt,k 0 _ rfl,k 1 _ rfl,k 2 _ rfl,k 3 _ rfl,k 4 _ rfl,k 5 _ rfl⟩
def Vi (h:ZO):List Value:=[.int .i64 (h.dirs 0).1,.int .i64 (h.dirs 0).2,.int .i64 (h.dirs 1).1,.int .i64 (h.dirs 1).2,.int .i64 (h.dirs 2).1,.int .i64 (h.dirs 2).2,.int .i64 (h.dirs 3).1,.int .i64 (h.dirs 3).2,.int .i64 (h.dirs 4).1,.int .i64 (h.dirs 4).2,.int .i64 (h.dirs 5).1,.int .i64 (h.dirs 5).2,.int .i64 (h.dirs 6).1,.int .i64 (h.dirs 6).2,.int .i64 (h.dirs 7).1,.int .i64 (h.dirs 7).2,.int .i64 (h.dirs 8).1,.int .i64 (h.dirs 8).2,.int .i64 (h.dirs 9).1,.int .i64 (h.dirs 9).2,.int .i64 (h.dirs 10).1,.int .i64 (h.dirs 10).2,.int .i64 (h.dirs 11).1,.int .i64 (h.dirs 11).2,.int .i64 (h.dirs 12).1,.int .i64 (h.dirs 12).2,.int .i64 (h.dirs 13).1,.int .i64 (h.dirs 13).2,.int .i64 (h.dirs 14).1,.int .i64 (h.dirs 14).2,.int .i64 (h.dirs 15).1,.int .i64 (h.dirs 15).2]
theorem YR.dirRow {cs:Array Value} {h:ZO} {sv:Value} (x:YR cs h sv) {w:World} {g:Nat} (hg:w.heap[g]? =some (.cells cs 41 (0,0))):w.rangeAt g 6 (Vi h):=fun j v hj=>by
 rw[cell_of_row _ _ _ _ _ _ hg]
 have hl:j<32:=(List.getElem?_eq_some_iff.1 hj).1
 rcases(by omega:j=0∨j=1∨j=2∨j=3∨j=4∨j=5∨j=6∨j=7∨j=8∨j=9∨j=10∨j=11∨j=12∨j=13∨j=14∨j=15∨j=16∨j=17∨j=18∨j=19∨j=20∨j=21∨j=22∨j=23∨j=24∨j=25∨j=26∨j=27∨j=28∨j=29∨j=30∨j=31) with rfl|rfl|rfl|rfl|rfl|rfl|rfl|rfl|rfl|rfl|rfl|rfl|rfl|rfl|rfl|rfl|rfl|rfl|rfl|rfl|rfl|rfl|rfl|rfl|rfl|rfl|rfl|rfl|rfl|rfl|rfl|rfl
 ·rw[←hj]; exact x.dir0 0 (by omega)
 ·rw[←hj]; exact x.dir1 0 (by omega)
 ·rw[←hj]; exact x.dir0 1 (by omega)
 ·rw[←hj]; exact x.dir1 1 (by omega)
 ·rw[←hj]; exact x.dir0 2 (by omega)
 ·rw[←hj]; exact x.dir1 2 (by omega)
 ·rw[←hj]; exact x.dir0 3 (by omega)
 ·rw[←hj]; exact x.dir1 3 (by omega)
 ·rw[←hj]; exact x.dir0 4 (by omega)
 ·rw[←hj]; exact x.dir1 4 (by omega)
 ·rw[←hj]; exact x.dir0 5 (by omega)
 ·rw[←hj]; exact x.dir1 5 (by omega)
 ·rw[←hj]; exact x.dir0 6 (by omega)
 ·rw[←hj]; exact x.dir1 6 (by omega)
 ·rw[←hj]; exact x.dir0 7 (by omega)
 ·rw[←hj]; exact x.dir1 7 (by omega)
 ·rw[←hj]; exact x.dir0 8 (by omega)
 ·rw[←hj]; exact x.dir1 8 (by omega)
 ·rw[←hj]; exact x.dir0 9 (by omega)
 ·rw[←hj]; exact x.dir1 9 (by omega)
 ·rw[←hj]; exact x.dir0 10 (by omega)
 ·rw[←hj]; exact x.dir1 10 (by omega)
 ·rw[←hj]; exact x.dir0 11 (by omega)
 ·rw[←hj]; exact x.dir1 11 (by omega)
 ·rw[←hj]; exact x.dir0 12 (by omega)
 ·rw[←hj]; exact x.dir1 12 (by omega)
 ·rw[←hj]; exact x.dir0 13 (by omega)
 ·rw[←hj]; exact x.dir1 13 (by omega)
 ·rw[←hj]; exact x.dir0 14 (by omega)
 ·rw[←hj]; exact x.dir1 14 (by omega)
 ·rw[←hj]; exact x.dir0 15 (by omega)
 ·rw[←hj]; exact x.dir1 15 (by omega)
def Uq (h:ZO):Prop:= ∀ i,i<16→0≤(h.dirs i).1∧(h.dirs i).1<4294967296∧0≤(h.dirs i).2∧(h.dirs i).2<4294967296
theorem Zal (x y:Int) (d:Nat) (hx:(Lit.int .i64 x).wf=true) (hy:(Lit.int .i64 y).wf=true):Tryz.prog.keyLits (d+2) 37 [.int .i64 x,.int .i64 y]=some [.int .i64 x,.int .i64 y]:=by
 have e: ∀ z:Int,(Lit.int .i64 z).wf=true→Tryz.prog.keyLits (d+1) 3 [.int .i64 z]=some [.int .i64 z]:=fun z hz=>by
  unfold Program.keyLits
  rw[Tryz.underlying3]
  simp[hz]
 unfold Program.keyLits
 rw[Tryz.underlying37]
 have c28:Tryz.prog.cellsOf 37=2:=by kernel_rfl
 have c3:Tryz.prog.cellsOf 3=1:=by kernel_rfl
 simp[c28,c3,e x hx,e y hy]
theorem Zjw (h:ZO) (hb:Uq h) (W:World):(Op.equalIn 10000 38 (.agg (Vi h).toArray) (.agg (Vi h).toArray)).run Tryz.prog W= .ok true W:=by
 have hf:(Value.agg (Vi h).toArray).formed Tryz.prog 38=true:=by rfl
 have hw: ∀ z:Int,0≤z→z<4294967296→(Lit.int .i64 z).wf=true:=fun z h0 h1=>by
  simp[Lit.wf,IntKind.min,IntKind.max,IntKind.bits,IntKind.signed]
  omega
 have hp: ∀ i,i<16→Tryz.prog.keyLits 9 37 [.int .i64 (h.dirs i).1,.int .i64 (h.dirs i).2]=some [.int .i64 (h.dirs i).1,.int .i64 (h.dirs i).2]:=fun i hi=>by
  obtain⟨h1,h2,h3,h4⟩:=hb i hi
  exact Zal _ _ 7 (hw _ h1 h2) (hw _ h3 h4)
 have hk: ∃ la,Tryz.prog.keyLits 10 38 (Value.agg (Vi h).toArray).cells.toList=some la:=by
  have c28:Tryz.prog.cellsOf 37=2:=by kernel_rfl
  have c29:Tryz.prog.cellsOf 38=32:=by kernel_rfl
  have hr:List.range 16=[0,1,2,3,4,5,6,7,8,9,10,11,12,13,14,15]:=rfl
  have hc:(Value.agg (Vi h).toArray).cells.toList=Vi h:=rfl
  rw[hc]
  unfold Program.keyLits
  rw[Tryz.underlying38]
  simp only[c29,c28,hr]
  rw[if_pos (by rfl)]
  simp only[List.mapM_cons,List.mapM_nil,Vi,List.drop_zero,List.drop_succ_cons,List.take_succ_cons,List.take_zero,Nat.zero_mul,Nat.one_mul,Nat.reduceMul]
  rw[hp 0 (by omega),hp 1 (by omega),hp 2 (by omega),hp 3 (by omega),hp 4 (by omega),hp 5 (by omega),hp 6 (by omega),hp 7 (by omega),hp 8 (by omega),hp 9 (by omega),hp 10 (by omega),hp 11 (by omega),hp 12 (by omega),hp 13 (by omega),hp 14 (by omega),hp 15 (by omega)]
  exact⟨_,rfl⟩
 obtain⟨la,hk⟩:=hk
 obtain⟨r,hr,hi⟩:=run_equalIn_deep (P:=Tryz.prog) 9990 10 38 (by kernel_rfl) W 10 10 _ _ la la hf hf hk hk
 rw[hi.2 rfl] at hr
 exact hr
theorem Zx {P:Program} {ops:Array Oper} {rest:List Oper} {o:Oper} {a:Act} {w:World} {Q:Exit→Act→World→Prop} (hw:Region.wanted o (yielded ops a.tmps)=true) (ty:TypeId) (x:Operand) (ho:o.op= .load ty x)
 (b off:Nat) (hx:a.eval x= .pointer (some ⟨b,off,none⟩)) (cs:List Value) (d:TypeDesc) (hc:w.rangeAt b off cs)
 (hu:P.underlying ty=some d) (hd:d.isRow=true) (hi:(P.info? ty).map (·.size)=some cs.length)
 (h:wpList P ops Q rest (a.put o.dst (.agg cs.toArray)) w):wpList P ops Q (o::rest) a w :=
 wpList_step fun K hK=>by
  rw[if_pos hw]
  exact wp_load_mid ty x ho b off hx cs d hc hu hd hi (hK _ _ h)
theorem Yc (S:ByteArray) (o n:Nat) (w:World) (hs:S.size≤1000000) (hn:n≤4) (h:o+n≤S.size) :
 Calls Tryz.prog 72 #[.string S,.int .i64 o,.int .i64 n] w fun e w'=>e= .returned (.int .i64 (rdF (PlainAid.bt S) o n))∧w=w':=by
 have HR:=Zg (WW S o n w (by omega) (by omega) h)
 have hb:=ZS (PlainAid.bt S) (WA S) n o
 have hp:(256:Int) ^ n≤4294967296:=by
  rcases(by omega:n=0∨n=1∨n=2∨n=3∨n=4) with rfl|rfl|rfl|rfl|rfl <;> decide
 have h1:rdF (PlainAid.bt S) o n<4294967296:=by omega
 have h0:=hb.1
 clear hb hp
 generalize rdF (PlainAid.bt S) o n=x at *
 go_enter Tryz.func72,Tryz.ntmps72
 go_wp2_with (go_fit HR.out; rintro e u ⟨rfl,rfl⟩)
 go_ret
 exact⟨rfl,rfl⟩
theorem Zf2 {f:Nat→Int} (hb:Zq f) (xs:List UInt8) (o:Nat):((ZB f o xs.length).toList == xs)=true↔ ∀ i (h:i<xs.length),f (o+i)=(xs[i].toNat:Int):=by
 have hl:(ZB f o xs.length).toList=Lib.bytesOf ((List.range xs.length).map fun i=>f (o+i)):=Lib.strOfNums_toList _
 rw[hl,beq_iff_eq]
 constructor
 ·intro h i hi
  have h2:=congrArg (fun z=>z[i]?) h
  simp only[Lib.bytesOf,List.getElem?_map,List.getElem?_range hi,Option.map_some,List.getElem?_eq_getElem hi,Option.some.injEq] at h2
  have h3:=congrArg UInt8.toNat h2
  have:=hb (o+i)
  simp at h3
  omega
 ·intro h
  apply List.ext_getElem?
  intro i
  rcases Nat.lt_or_ge i xs.length with hi|hi
  ·simp only[Lib.bytesOf,List.getElem?_map,List.getElem?_range hi,Option.map_some,List.getElem?_eq_getElem hi,Option.some.injEq]
   rw[h i hi]
   simp
  ·rw[List.getElem?_eq_none hi,List.getElem?_eq_none]
   simpa [Lib.bytesOf] using hi
theorem Zf3 (S:ByteArray) (h:2≤S.size):((S.extract 0 2).toList == [77,90])=true↔PlainAid.bt S 0=77∧PlainAid.bt S 1=90:=by
 have e:=YF S 0 2 (by omega)
 rw[Nat.zero_add] at e
 rw[e]
 have k:=Zf2 (WA S) [77,90] 0
 refine k.trans ⟨fun h=>⟨h 0 (by simp),h 1 (by simp)⟩,fun h i hi=> ?_⟩
 have hi':i<2:=hi
 rcases(by omega:i=0∨i=1) with rfl|rfl
 ·exact h.1
 ·exact h.2
theorem Zf4 (S:ByteArray) (p:Nat) (h:p+4≤S.size):((S.extract p (p+4)).toList == [80,69,0,0])=true↔PlainAid.bt S p=80∧PlainAid.bt S (p+1)=69∧PlainAid.bt S (p+2)=0∧PlainAid.bt S (p+3)=0:=by
 rw[YF S p 4 h]
 have k:=Zf2 (WA S) [80,69,0,0] p
 refine k.trans ⟨fun h=>⟨h 0 (by simp),h 1 (by simp),h 2 (by simp),h 3 (by simp)⟩,fun h i hi=> ?_⟩
 have hi':i<4:=hi
 rcases(by omega:i=0∨i=1∨i=2∨i=3) with rfl|rfl|rfl|rfl
 ·exact h.1
 ·exact h.2.1
 ·exact h.2.2.1
 ·exact h.2.2.2
def Zjx (w:World) (n:Nat) (f:Nat→Int) (v:Value):Prop :=
 ∃ cs,v= .tuple #[.agg cs,.int .i64 (ZT n f)] ∧
   ((ZT n f≠0∧YR cs Za0 (.slice none 0 0))∨(ZT n f=0∧ ∃ sv,YR cs (ZF f (headP n f)) sv∧Vn w sv (Ya f (headP n f+264) (headK n f))))
end Go.Proofs.YtplgdpjbkdagfaaGreat
