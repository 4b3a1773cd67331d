import Derived.Test.YtplgdpjbkdagfaaGreatZHdrD
import Derived.Test.YtplgdpjbkdagfaaGreatRefPut
import Derived.Test.YtplgdpjbkdagfaaGreatZHdrA
import Derived.Test.YtplgdpjbkdagfaaGreatZAwake1
namespace Go.Proofs.YtplgdpjbkdagfaaGreat
set_option maxHeartbeats 8000000
open List renaming getElem?_toArray→Za
open Lib renaming hid→Zg
set_option maxRecDepth 100000
open Go.ChangeShapes Go.WideShapes Go.ChangeAt Go.RowKit
set_option linter.unusedVariables false
set_option linter.unusedSimpArgs false
structure YA (w:World) (base g n cap:Nat) (f:Nat->Int):Prop where
 le:base<=g
 lt:g<w.heap.size
 row:Row w g 0 n f
 by255:Zm f
 len:n<=cap
 most:cap<=9223372036854775807
 wr: ∀ j,j<cap->(w.cell? ⟨g,j,none⟩).isSome=true/\w.frozen? ⟨g,j,none⟩=false
theorem YA.rowB {w:World} {base g n cap:Nat} {f:Nat->Int} (h:YA w base g n cap f):Wj w g 0 n cap f:=⟨h.row,h.by255,h.lt,h.len,h.most⟩
theorem YA.of_block {w w':World} {base g n cap:Nat} {f:Nat->Int} (h:YA w base g n cap f) (hs:w.heap.size<=w'.heap.size) (hb:w'.heap[g]? =w.heap[g]?):YA w' base g n cap f :=
 ⟨h.le,Nat.lt_of_lt_of_le h.lt hs,fun i hi=>(World.cell?_of_block (a:=⟨g,_,none⟩) hb).trans (h.row i hi),h.by255,h.len,h.most,fun j hj=>by
   rw[World.cell?_of_block (a:=⟨g,j,none⟩) hb,World.frozen?_of_block (a:=⟨g,j,none⟩) hb]; exact h.wr j hj⟩
theorem YA.below {w w':World} {base g n cap:Nat} {f:Nat->Int} (h:YA w base g n cap f) (hb:Below w.heap.size w w'):YA w' base g n cap f:=h.of_block hb.size (hb.block g h.lt)
theorem YA.congr {w:World} {base g n cap:Nat} {f f':Nat->Int} (h:YA w base g n cap f) (dF:Zm f') (he: ∀ i,i<n->f i=f' i):YA w base g n cap f' :=
 ⟨h.le,h.lt,fun i hi=>by rw[h.row i hi,he i hi],dF,h.len,h.most,h.wr⟩
theorem YA.bytes (w:World) (S:ByteArray) (cap lo hi:Nat) (h:S.size<=cap) (hm:cap<=9223372036854775807) (h1:cap<=lo) :
 YA (w.alloc (.cells (bytesRow S cap) 5 (lo,hi))) w.heap.size w.heap.size S.size cap (PlainAid.bt S):=by
 have hz:(bytesRow S cap).size=cap:=by
  have:S.data.size=S.size:=rfl;simp[bytesRow];omega
 refine⟨Nat.le_refl _,by simp,fun i ef=> ?_,Xx S,h,hm,fun j hj=>⟨?_,?_⟩⟩
 ·have qL:i<S.data.size:=ef;rw[Nat.zero_add,World.cell?_alloc_mark w (bytesRow S cap) 5 (lo,hi) i,bytesRow_at S cap i qL];unfold PlainAid.bt;rw[dif_pos ef];rfl
 ·rw[World.cell?_alloc_mark w (bytesRow S cap) 5 (lo,hi) j,Array.getElem?_eq_getElem (by omega)];rfl
 ·rw[World.frozen?_alloc_mark w (bytesRow S cap) 5 lo hi j];simp only[Bool.and_eq_false_iff,decide_eq_false_iff_not];left;omega
theorem YA.weaken {w:World} {base base' g n cap:Nat} {f:Nat->Int} (h:YA w base g n cap f) (hb:base'<=base):YA w base' g n cap f:=⟨Nat.le_trans hb h.le,h.lt,h.row,h.by255,h.len,h.most,h.wr⟩
theorem YA.drew {w:World} {base g n cap:Nat} {f:Nat->Int} (h:YA w base g n cap f):YA w.drew base g n cap f:=h.of_block (Nat.le_refl _) rfl
theorem Zol (b n cap:Nat) (f:Nat->Int) (o k:Nat) (v:Int) (w:World) (h:Wj w b 0 n cap f) (hn:n<=1000000) (k1:1<=k) (k8:k<=8) (ho:o+k<=n) (v0:0<=v) (v1:v<=18446744073709551615) :
 Calls Tryz.prog 70 #[.slice (some ⟨b,0,none⟩) n cap,.int .i64 o,.int .i64 k,.int .u64 v] w fun e w' =>
  ∃ g c,e= .returned (.slice (some ⟨g,0,none⟩) n c)/\YA w' w.heap.size g n c (Xk f o v k)/\Below w.heap.size w w':=by
 have hs:=YL (cap:=cap) h.row;have aT:(ZB f 0 n).size=n:=Zr f 0 n;have hp:=Jc (ZB f 0 n) o k v w (by omega) k1 k8 (by omega) v0 v1;rw[aT,ZA (f:=Xk (PlainAid.bt (ZB f 0 n)) o v k) (f':=Xk f o v k) (o:=0) (o':=0) (n:=n) (fun i hi=>by
  unfold Xk;split
  ·rfl
  ·rw[Nat.zero_add,XO h.by255 hi,Nat.zero_add])] at hp
 have dF:Zm (Xk f o v k):=Znw h.by255 o v k;have fp:(ZB (Xk f o v k) 0 n).size=n:=Zr _ 0 n;have oU: ∀ i,i<n->PlainAid.bt (ZB (Xk f o v k) 0 n) i=Xk f o v k i:=fun i hi=>by rw[XO dF hi,Nat.zero_add]
 generalize ZB (Xk f o v k) 0 n=S' at *;generalize ZB f 0 n=S at *;generalize Xk f o v k=f' at *;have dI:=fun(W:World)=>run_bytes_of_string (P:=Tryz.prog) W 9 25 5 S' Tryz.underlying9 Tryz.underlying25 Tryz.underlying5;have CA:=Zg oU;have HP:=Zg hp;clear hp oU aT h;go_enter Tryz.func70,Tryz.ntmps70;go_wp2_with fail
 refine HP.out.mono ?_;rintro e w1 ⟨rfl,az⟩;go_wp2_with fail
 go_ret;have dK:=grownCap_ge w1 n 0 5;have gL:=grownCap_le_maxLen w1 n 0 5 (by simp only[maxLen]; omega);simp only[maxLen] at gL;have zu:(bytesRow S' (grownCap w1 n 0 5)).size=grownCap w1 n 0 5:=by
  have:S'.data.size=S'.size:=rfl;simp[bytesRow];omega
 have ho:=YA.bytes w1 S' (grownCap w1 n 0 5) (bytesRow S' (grownCap w1 n 0 5)).size ((bytesRow S' (grownCap w1 n 0 5)).size+1) (by omega) (by omega) (by omega);rw[fp] at ho;exact⟨_,_,rfl,((ho.congr dF CA.out).weaken az.size).drew,(az.alloc az.size _).drew⟩
def Zbb (f:Nat->Int) (o:Nat) (v:Int) (j:Nat):Int:=if j=o then v else f j
theorem Zom {f:Nat->Int} (hf:Zm f) (o:Nat) {v:Int} (h0:0<=v) (h1:v<=255):Zm (Zbb f o v):=fun i=>by
 unfold Zbb; split
 ·exact⟨h0,h1⟩
 ·exact hf i
theorem YA.set {w:World} {base g n cap:Nat} {f:Nat->Int} (h:YA w base g n cap f) (o:Nat) (v:Int) (ho:o<n) (h0:0<=v) (h1:v<=255) :
 YA (w.setCell ⟨g,o,none⟩ (.int .u8 v)) base g n cap (Zbb f o v):=by
 refine⟨h.le,by simpa using h.lt,fun i hi=> ?_,Zom h.by255 o h0 h1,h.len,h.most,fun j hj=>⟨?_,by rw[World.frozen?_setCell]; exact(h.wr j hj).2⟩⟩
 ·unfold Zbb;rw[Nat.zero_add];have ef:=h.row i hi;rw[Nat.zero_add] at ef;by_cases e:i=o
  ·subst e;rw[if_pos rfl,World.cell?_setCell_same _ _ _ ef]
  ·rw[if_neg e,World.cell?_setCell_other _ _ _ _ (by intro h; injection h with _ h2; omega)];exact ef
 ·obtain⟨u,hu⟩:=Option.isSome_iff_exists.1 (h.wr j hj).1;by_cases e:j=o
  ·subst e;rw[World.cell?_setCell_same _ _ _ hu]; rfl
  ·rw[World.cell?_setCell_other _ _ _ _ (by intro h; injection h with _ h2; omega),hu]; rfl
theorem VE {w:World} {ops:Array Oper} {rest:List Oper} {o:Oper} {a:Act} {Q:Exit->Act->World->Prop} (eu:o.guard=none) (s x:Operand)
 (ho:o.op= .call { callee:= .builtin .append,args:= #[s,x],argTypes:= #[25,25] })
 {base g n cap m c:Nat} {A:Option Addr} {f h:Nat->Int} (ae:YA w base g n cap f) (dE:SlB w A m h) (dF:Zm h) (oV:n+m<=1000000) (aH:base<=w.heap.size)
 (hv:a.eval s= .slice (some ⟨g,0,none⟩) n cap) (hx:a.eval x= .slice A m c)
 (hK: ∀ g' aA w',YA w' base g' (n+m) aA (VQ n f h)->Below base w w'->wpList Tryz.prog ops Q rest (a.put o.dst (.slice (some ⟨g',0,none⟩) (n+m) aA)) w'):wpList Tryz.prog ops Q (o::rest) a w:=by
 obtain⟨i0,hi,dQ,bw,ed⟩:=info_parts Ws;have hs:Src Tryz.prog i0.size 25 (.slice A m c) m (Zs m h) w:=by rw[bw]; exact Wp dE
 have bG: ∃ g' aA w',(Builtin.append_ #[25,25] o.type #[.slice (some ⟨g,0,none⟩) n cap,.slice A m c]).run Tryz.prog w= .ok (.slice (some ⟨g',0,none⟩) (n+m) aA) w'/\YA w' base g' (n+m) aA (VQ n f h)/\Below base w w':=by
  by_cases cQ:n+m<=cap
  ·have aU: ∀ j,j<(Zs m h).length->(w.cell? ⟨g,n+j,none⟩).isSome=true:=fun j hj=>(ae.wr (n+j) (by rw[Zn] at hj; omega)).1;have hr:=run_append_room_src (P:=Tryz.prog) w 25 25 o.type 5 i0 Tryz.underlying25 hi g 0 n cap (.slice A m c) m _ hs cQ
    (fun j hj=>by rw[bw,Nat.mul_one,Nat.zero_add]; exact aU j hj) (fun j hj=>by rw[bw,Nat.mul_one,Nat.zero_add]; exact(ae.wr (n+j) (by rw[Zn] at hj; omega)).2)
   rw[bw,Nat.mul_one,Nat.zero_add] at hr;refine⟨_,_,_,hr,⟨ae.le,by rw[YD]; exact ae.lt,fun i hi=> ?_,Ze5 ae.by255 dF,cQ,ae.most,fun j hj=>⟨World.isSome_setCells _ _ _ _ _ (ae.wr j hj).1,by rw[World.frozen?_setCells]; exact(ae.wr j hj).2⟩⟩,Ya ae.le _ _ _ (Below.refl base w)⟩;unfold VQ;rw[Nat.zero_add];by_cases e:i<n
   ·rw[if_pos e,World.cell?_setCells_out _ _ _ _ _ (fun _ _=> .inl e)];have:=ae.row i e;rwa [Nat.zero_add] at this
   ·rw[if_neg e];have:=World.cell?_setCells_in g (Zs m h) n w aU (i - n) (by rw[Zn]; omega);rw[show n+(i - n)=i by omega] at this;rw[this];simp[Zs]
  ·have hold:(Builtin.firstCells i0.size n (.slice (some ⟨g,0,none⟩) n cap)).run Tryz.prog w.drew= .ok (Zs n f).toArray w.drew:=by
    rw[bw];refine run_firstCells_some w.drew 1 n ⟨g,0,none⟩ n cap (Zs n f) (by rw[Zn,Nat.mul_one]) fun j u hu=> ?_;have hj:j<n:=by
     rcases Nat.lt_or_ge j n with hj|hj
     ·exact hj
     ·rw[List.getElem?_eq_none (by rw[Zn]; omega)] at hu; cases hu
    rw[ZN n f hj] at hu;injection hu with hu;subst hu;have cJ:(⟨g,0,none⟩:Addr).add j=⟨g,0+j,none⟩:=by unfold Addr.add; split <;> simp_all
    rw[cJ];exact ae.row j hj
   have hr:=run_append_grow_src (P:=Tryz.prog) w 25 25 o.type 5 i0 (.int .u8 0) Tryz.underlying25 hi dQ (some ⟨g,0,none⟩) n cap (Zs n f) hold (.slice A m c) m _ hs (by omega) (by omega) (growslice_fits (by omega) (by rw[ed]; omega));have dK:=grownCap_ge w (n+m) cap 5;have gL:=grownCap_le_maxLen w (n+m) cap 5 (by simp only[maxLen]; omega);simp only[maxLen] at gL;have hz:(Value.int .u8 0).cells= #[.int .u8 0]:=rfl;have hh:=heap_alloc_new w.drew (.cells ((Zs n f++Zs m h).toArray++Builtin.zeroCells (Value.int .u8 0).cells (grownCap w (n+m) cap 5 - (n+m))) 5);have aT:((Zs n f++Zs m h).toArray++Builtin.zeroCells (Value.int .u8 0).cells (grownCap w (n+m) cap 5 - (n+m))).size=grownCap w (n+m) cap 5:=by
    rw[Array.size_append,size_zeroCells,hz];simp[Zn];omega
   refine⟨_,_,_,hr,⟨aH,by simp,fun i hi=> ?_,Ze5 ae.by255 dF,dK,by omega,fun j hj=>⟨?_,frozen_of_row _ _ _ _ _ hh⟩⟩,((Below.refl base w).drew).alloc (by simpa using aH) _⟩
   ·rw[Nat.zero_add];have:=cell_of_row _ _ i _ _ _ hh;refine Eq.trans this ?_;rw[Wo,Array.getElem?_append_left (by simpa [Zn] using hi),Za,ZN _ _ hi]
   ·have:=cell_of_row _ _ j _ _ _ hh;refine Eq.trans (congrArg Option.isSome this) ?_;rw[Array.getElem?_eq_getElem (by omega)];rfl
 refine wpList_plain eu fun K kS=> ?_;obtain⟨g',aA,w',bG,r1,r2⟩:=bG;unfold Oper.wp execOp;simp only[ho,resolve,invoke,builtin,Sem.run_bind,Sem.run_pure,Result.andThen_ok,List.map_toArray,List.map_cons,List.map_nil,hv,hx,bG];exact kS _ _ (hK g' aA w' r1 r2)
def Zay (f:Nat->Int) (o:Nat) (t:ByteArray) (j:Nat):Int:=if o<=j/\j<o+t.size then PlainAid.bt t (j - o) else f j
theorem Zl9 {f:Nat->Int} (hf:Zm f) (o:Nat) (t:ByteArray):Zm (Zay f o t):=fun i=>by
 unfold Zay; split
 ·exact Xx t _
 ·exact hf i
theorem XF {f:Nat->Int} {o k j:Nat} {v:Int} (h:j<o\/o+k<=j):Xk f o v k j=f j:=by unfold Xk; rw[if_neg (by omega)]
theorem Zaz {f:Nat->Int} {o j:Nat} {v:Int} (h:j≠o):Zbb f o v j=f j:=by unfold Zbb; rw[if_neg h]
theorem Za0 {f:Nat->Int} {o j:Nat} {t:ByteArray} (h:j<o\/o+t.size<=j):Zay f o t j=f j:=by unfold Zay; rw[if_neg (by omega)]
theorem UC {f h:Nat->Int} {n j:Nat} (e:j<n):VQ n f h j=f j:=by unfold VQ; rw[if_pos e]
theorem Zcr {f:Nat->Int} {o k o' n:Nat} {v:Int} (h:o'+n<=o\/o+k<=o'):rdF (Xk f o v k) o' n=rdF f o' n:=Xd n o' fun i hi=>XF (by omega)
theorem JN (f:Nat->Int) (o k:Nat) (v:Int):rdF (Xk f o v k) o k=v % 256 ^ k:=by
 have h:=Znx f v k k o 0 (by omega);simpa using h
theorem Zg2 {f:Nat->Int} {o o' n:Nat} {t:ByteArray} (h:o'+n<=o\/o+t.size<=o'):rdF (Zay f o t) o' n=rdF f o' n:=Xd n o' fun i hi=>Za0 (by omega)
theorem Zju {f h:Nat->Int} {m o n:Nat} (e:o+n<=m):rdF (VQ m f h) o n=rdF f o n:=Xd n o fun i hi=>UC (by omega)
theorem Zon (n:Nat): ∀ o,rdF (fun _=>0) o n=0:=by
 induction n with
 | zero=>intro o; rfl
 | succ n ih=>intro o; simp[rdF,ih]
abbrev VF:=Int × Int × Int
def Zg3 (t:VF):List Value:=[.int .i64 t.1,.int .i64 t.2.1,.int .i64 t.2.2]
def vS (t:VF):Int:=t.1 % 16384+1
def UT (t:VF):Int:=ZS (vS t) 4096
def lz (t:VF):Int:=t.2.1 % 8192 / 512 * 512 % (UT t+512)
def Vs (t:VF):Int:=t.2.2 % 8
def Ud (L:Nat->VF):Nat->Int
 | 0=>4096
 | i+1=>Ud L i+UT (L i)
def atS (L:Nat->VF):Nat->Nat
 | 0=>1024
 | i+1=>atS L i+(lz (L i)).toNat
theorem Zma (t:VF):1<=vS t/\vS t<=16384:=by unfold vS; omega
theorem Zjv {n:Int} (h:1<=n) (h2:n<=1099511627776):ZS n 4096=((n - 1) / 4096+1) * 4096:=by
 unfold ZS;rw[if_neg (by omega),show max (4096:Int) 1=4096 by omega,show min n 1099511627776=n by omega]
theorem Vj (t:VF):4096<=UT t/\UT t<=16384/\UT t % 4096=0/\vS t<=UT t:=by
 have h:=Zma t;unfold UT;rw[Zjv (by omega) (by omega)];omega
theorem Za1 (t:VF):0<=lz t/\lz t<8192/\lz t % 512=0/\lz t<=UT t:=by
 have h:=Vj t;unfold lz;generalize UT t=r at *;obtain⟨k,hk⟩: ∃ k,r=4096 * k:=⟨r / 4096,by omega⟩;subst hk;obtain⟨a,ha⟩: ∃ a,t.2.1 % 8192 / 512=a:=⟨_,rfl⟩;have h1:0<=a/\a<16:=by omega
 rw[ha];have h2:1<=k/\k<=4:=by omega
 have h3:=Int.emod_nonneg (a * 512) (show 4096 * k+512≠0 by omega);have h4:=Int.emod_lt_of_pos (a * 512) (show(0:Int)<4096 * k+512 by omega);have h5:=Int.emod_add_mul_ediv (a * 512) (4096 * k+512);rcases(by omega:k=1\/k=2\/k=3\/k=4) with rfl|rfl|rfl|rfl <;> omega
theorem Zct (t:VF):0<=Vs t/\Vs t<8:=by unfold Vs; omega
theorem VG (L:Nat->VF) (i:Nat):4096<=Ud L i/\Ud L i<=4096+16384 * i/\Ud L i % 4096=0:=by
 induction i with
 | zero=>simp[Ud]
 | succ i ih=>have:=Vj (L i); simp only[Ud]; omega
theorem QE (L:Nat->VF) (i:Nat):1024<=atS L i/\atS L i<=1024+8192 * i/\atS L i % 512=0:=by
 induction i with
 | zero=>simp[atS]
 | succ i ih=>have:=Za1 (L i); simp only[atS]; omega
theorem Zfu (L:Nat->VF) {i j:Nat} (h:i<=j):atS L i<=atS L j:=by
 induction j with
 | zero=>obtain rfl:i=0:=by omega
         exact Nat.le_refl _
 | succ j ih =>
   rcases Nat.lt_or_ge j i with h1|h1
   ·obtain rfl:i=j+1:=by omega
    exact Nat.le_refl _
   ·have:=ih h1;simp only[atS];omega
structure Zjw (f:Nat->Int) (n:Int):Prop where
 m0:f 0=77
 m1:f 1=90
 pe:rdF f 60 4=64
 p0:f 64=80
 p1:f 65=69
 p2:f 66=0
 p3:f 67=0
 mach:rdF f 68 2=34404
 cnt:rdF f 70 2=n
 stamp:rdF f 72 4=77
 opt:rdF f 84 2=240
 chars:rdF f 86 2=8226
 mg:rdF f 88 2=523
 ent:rdF f 104 4=0
 base:rdF f 112 8=65536
 al:rdF f 120 4=4096
 fal:rdF f 124 4=512
 hdrs:rdF f 148 4=1024
 nd:rdF f 196 4=16
 dirs: ∀ i,i<32->rdF f (200+4 * i) 4=0
theorem Zjw.congr {f f':Nat->Int} {n:Int} (h:Zjw f n) (e: ∀ q,q<328->(q<144\/148<=q)->f' q=f q):Zjw f' n:=by
 have k: ∀ o m,o+m<=328->(o+m<=144\/148<=o)->rdF f' o m=rdF f o m:=fun o m h1 h2=>Xd m o fun i hi=>e _ (by omega) (by omega);exact⟨(e 0 (by omega) (by omega)).trans h.m0,(e 1 (by omega) (by omega)).trans h.m1,(k _ _ (by omega) (by omega)).trans h.pe,(e _ (by omega) (by omega)).trans h.p0,(e _ (by omega) (by omega)).trans h.p1,(e _ (by omega) (by omega)).trans h.p2,(e _ (by omega) (by omega)).trans h.p3,
  (k _ _ (by omega) (by omega)).trans h.mach,(k _ _ (by omega) (by omega)).trans h.cnt,(k _ _ (by omega) (by omega)).trans h.stamp,(k _ _ (by omega) (by omega)).trans h.opt,(k _ _ (by omega) (by omega)).trans h.chars,(k _ _ (by omega) (by omega)).trans h.mg,(k _ _ (by omega) (by omega)).trans h.ent,(k _ _ (by omega) (by omega)).trans h.base,
  (k _ _ (by omega) (by omega)).trans h.al,(k _ _ (by omega) (by omega)).trans h.fal,(k _ _ (by omega) (by omega)).trans h.hdrs,(k _ _ (by omega) (by omega)).trans h.nd,fun i hi=>(k _ _ (by omega) (by omega)).trans (h.dirs i hi)⟩
def preF (n:Int):Nat->Int :=
 Xk (Xk (Xk (Xk (Xk (Xk (Xk (Xk (Xk (Xk (Xk (Zay (Xk (Zay (fun _=>0) 0 ⟨#[77,90]⟩) 60 64 4) 64 ⟨#[80,69,0,0]⟩) 68 34404 2) 70 n 2) 72 77 4) 84 240 2) 86 8226 2) 88 523 2) 112 65536 8) 120 4096 4) 124 512 4) 148 1024 4) 196 16 4
theorem Zjx (n:Int) (h0:0<=n) (h1:n<65536):Zjw (preF n) n:=by
 have z1:(⟨#[77,90]⟩:ByteArray).size=2:=rfl;have z2:(⟨#[80,69,0,0]⟩:ByteArray).size=4:=rfl;have hn:n % 256 ^ 2=n:=by rw[show(256:Int) ^ 2=65536 by rfl]; omega
 unfold preF;refine⟨?_,?_,?_,?_,?_,?_,?_,?_,?_,?_,?_,?_,?_,?_,?_,?_,?_,?_,?_,fun i hi=> ?_⟩;all_goals simp(disch:=omega) only[Zcr,JN,XF,Zg2,Za0,Zon,hn]
 all_goals first|rfl|skip
theorem Zmb (n:Int) (q:Nat) (h:328<=q):preF n q=0:=by
 have z1:(⟨#[77,90]⟩:ByteArray).size=2:=rfl;have z2:(⟨#[80,69,0,0]⟩:ByteArray).size=4:=rfl;unfold preF;simp(disch:=omega) only[XF,Za0]
structure SecF (f:Nat->Int) (o:Nat) (v rva raw spot r:Int) (i:Nat):Prop where
 n0:f o=115
 n1:f (o+1)=48+i
 nz: ∀ q,2<=q->q<8->f (o+q)=0
 v:rdF f (o+8) 4=v
 rva:rdF f (o+12) 4=rva
 raw:rdF f (o+16) 4=raw
 spot:rdF f (o+20) 4=spot
 r:rdF f (o+36) 4=r * 536870912
theorem SecF.congr {f f':Nat->Int} {o:Nat} {v rva raw spot r:Int} {i:Nat} (h:SecF f o v rva raw spot r i) (e: ∀ q,o<=q->q<o+40->f' q=f q):SecF f' o v rva raw spot r i:=by
 have k: ∀ d,d+4<=40->rdF f' (o+d) 4=rdF f (o+d) 4:=fun d h1=>Xd 4 _ fun i hi=>e _ (by omega) (by omega);exact⟨(e _ (by omega) (by omega)).trans h.n0,(e _ (by omega) (by omega)).trans h.n1,fun q h1 h2=>(e _ (by omega) (by omega)).trans (h.nz q h1 h2),(k _ (by omega)).trans h.v,(k _ (by omega)).trans h.rva,(k _ (by omega)).trans h.raw,(k _ (by omega)).trans h.spot,(k _ (by omega)).trans h.r⟩
structure Ue (L:Nat->VF) (n:Int) (i:Nat) (f:Nat->Int):Prop where
 hd:Zjw f n
 sec: ∀ j,j<i->SecF f (328+40 * j) (vS (L j)) (Ud L j) (lz (L j)) (atS L j) (Vs (L j)) j
 dat: ∀(j k:Nat),j<i->(k:Int)<lz (L j)->f (atS L j+k)=(7 * k+j+1) % 256
 nul: ∀ q,328+40 * i<=q->q<1024->f q=0
theorem Ue.start (L:Nat->VF) (n:Int) (h0:0<=n) (h1:n<65536):Ue L n 0 (preF n) :=
 ⟨Zjx n h0 h1,fun j hj=>by omega,fun j k hj=>by omega,fun q h _=>Zmb n q (by omega)⟩
def Zne (L:Nat->VF) (i:Nat) (f h:Nat->Int):Nat->Int :=
 VQ (atS L i) (Xk (Xk (Xk (Xk (Xk (Zbb (Zbb f (328+40 * i) 115) (328+40 * i+1) (48+i)) (328+40 * i+8) (vS (L i)) 4) (328+40 * i+12) (Ud L i) 4) (328+40 * i+16) (lz (L i)) 4) (328+40 * i+20) (atS L i) 4) (328+40 * i+36) (Vs (L i) * 536870912) 4) h
theorem Ue.next {L:Nat->VF} {n:Int} {i:Nat} {f:Nat->Int} (x:Ue L n i f) (hi:i<6) (h:Nat->Int) (hh: ∀ k:Nat,(k:Int)<lz (L i)->h k=(7 * k+i+1) % 256) :
 Ue L n (i+1) (Zne L i f h):=by
 have ha:=QE L i;have hv:=Zma (L i);have hr:=VG L i;have hw:=Za1 (L i);have hg:=Zct (L i);have wE: ∀ q,q<328+40 * i->Zne L i f h q=f q:=fun q hq=>by
  unfold Zne;simp(disch:=omega) only[UC,XF,Zaz]
 have Ar: ∀ q,368+40 * i<=q->q<atS L i->Zne L i f h q=f q:=fun q h1 h2=>by
  unfold Zne;simp(disch:=omega) only[UC,XF,Zaz]
 refine⟨x.hd.congr fun q h1 _=>wE q (by omega),fun j hj=> ?_,fun j k hj hk=> ?_,fun q h1 h2=> ?_⟩
 ·by_cases e:j=i
  ·subst e;have FD:(256:Int) ^ 4=4294967296:=rfl;refine⟨?_,?_,fun q h1 h2=> ?_,?_,?_,?_,?_,?_⟩;all_goals unfold Zne
   ·simp(disch:=omega) only[UC,XF,Zaz]; simp[Zbb]
   ·simp(disch:=omega) only[UC,XF]; simp[Zbb]
   ·simp(disch:=omega) only[UC,XF,Zaz];exact x.nul _ (by omega) (by omega)
   all_goals
    simp(disch:=omega) only[Zju,Zcr,JN,FD];omega
  ·exact(x.sec j (by omega)).congr fun q h1 h2=>wE q (by omega)
 ·by_cases e:j=i
  ·subst e;unfold Zne VQ;rw[if_neg (by omega),show atS L j+k - atS L j=k by omega];exact hh k hk
  ·have h1:=Zfu L (show j+1<=i by omega);simp only[atS] at h1;have h2:=QE L j;rw[Ar _ (by omega) (by omega)];exact x.dat j k (by omega) hk
 ·rw[Ar q (by omega) (by omega)];exact x.nul q (by omega) h2
structure Vx (L:Nat->VF) (n:Nat) (f:Nat->Int):Prop where
 all:Ue L n n f
 size:rdF f 144 4=Ud L n
theorem Ue.done {L:Nat->VF} {n:Nat} {f:Nat->Int} (x:Ue L n n f) (hn:n<=6):Vx L n (Xk f 144 (Ud L n) 4):=by
 have hr:=VG L n;refine⟨⟨x.hd.congr fun q _ h=>XF (by omega),fun j hj=>(x.sec j hj).congr fun q h1 h2=>XF (by omega),fun j k hj hk=> ?_,fun q h1 h2=> ?_⟩,?_⟩
 ·have:=QE L j;rw[XF (by omega)];exact x.dat j k hj hk
 ·rw[XF (by omega)];exact x.nul q h1 h2
 ·rw[JN,show(256:Int) ^ 4=4294967296 by rfl];omega
theorem YA.made (w:World) (n:Nat) (hn:n<=9223372036854775807):YA (w.alloc (.cells (madeCells (Value.int .u8 0).cells n) 5)) w.heap.size w.heap.size n n (fun _=>0):=by
 have h:=Ze4 w 5 n (.int .u8 0) rfl;exact⟨Nat.le_refl _,by simp,fun i hi=>by rw[Nat.zero_add]; exact h.cell hi,fun _=>by omega,Nat.le_refl _,hn,fun j hj=>⟨by rw[h.cell hj]; rfl,h.frozen hj⟩⟩
theorem Yx {w:World} {ops:Array Oper} {rest:List Oper} {o:Oper} {a:Act} {Q:Exit->Act->World->Prop}
 (hg:o.guard=none) (l c:Operand) (vi:o.op=Op.makeSlice 25 l c) (base:Nat) (kl kc:IntKind) (n:Nat) (hl:a.eval l= .int kl n) (hc:a.eval c= .int kc n) (b2:n<=281474976710656) (b4:base<=w.heap.size)
 (hK: ∀ w',YA w' base w.heap.size n n (fun _=>0)->Below w.heap.size w w'->w'.heap.size=w.heap.size+1->wpList Tryz.prog ops Q rest (a.put o.dst (.slice (some ⟨w.heap.size,0,none⟩) n n)) w') :
 wpList Tryz.prog ops Q (o::rest) a w:=by
 obtain⟨i0,hi,dQ,bw,ed⟩:=info_parts Ws;refine wpList_plain hg fun K kS=> ?_;have eM:(i0.bytes:Int) * (n:Int)<=281474976710656:=by rw[ed]; omega
 have bG:=run_make (P:=Tryz.prog) w 25 5 i0 (.int .u8 0) Tryz.underlying25 hi dQ kl kc n n (by omega) (Int.le_refl _) eM (by omega);rw[bw] at bG;simp only[Int.toNat_natCast,Nat.mul_one] at bG;unfold Oper.wp;simp[execOp,vi,hl,hc,bG,Result.andThen];exact kS _ _ (hK _ ((YA.made w n (by omega)).weaken b4) ((Below.refl w.heap.size w).alloc (Nat.le_refl _) _) (by simp))
theorem WR {B:Nat} {a:World} {g:Nat} (hg:B<=g) (vs:List Value) (o:Nat) (w:World) (h:Below B a w):Below B a (w.setCells g o vs):=Ya hg vs o w h
theorem UN {w:World} {ops:Array Oper} {rest:List Oper} {o:Oper} {a:Act} {Q:Exit->Act->World->Prop} (eu:o.guard=none) (d x:Operand)
 (ho:o.op= .call { callee:= .builtin .copy,args:= #[d,x],argTypes:= #[25,9] })
 {base g n cap off len c:Nat} {t:ByteArray} {f:Nat->Int} (ae:YA w base g n cap f) (hle:t.size<=len) (vh:off+t.size<=n)
 (hd:a.eval d= .slice (some ⟨g,off,none⟩) len c) (hx:a.eval x= .string t)
 (hK: ∀ w',YA w' base g n cap (Zay f off t)->Below base w w'->w'.heap.size=w.heap.size->wpList Tryz.prog ops Q rest (a.put o.dst (goInt t.size)) w'):wpList Tryz.prog ops Q (o::rest) a w:=by
 obtain⟨i0,hi,dQ,bw,ed⟩:=info_parts Ws;have hl:(t.data.toList.map fun x=>Value.int .u8 (x.toNat:Int)).length=t.size:=by rw[List.length_map]; rfl
 have hlen:=ae.len;have aU: ∀ j,j<t.size->(w.cell? ⟨g,off+j,none⟩).isSome=true:=fun j hj=>(ae.wr (off+j) (by omega)).1;have bG:=run_copy_string (P:=Tryz.prog) w 25 9 o.type 5 g off len c t Tryz.underlying25 (fun w=>by simp[sizeOf,typeInfo,hi,bw]) hle aU (fun j hj=>(ae.wr (off+j) (by omega)).2);refine wpList_plain eu fun K kS=> ?_;unfold Oper.wp execOp;simp only[ho,resolve,invoke,builtin,Sem.run_bind,Sem.run_pure,Result.andThen_ok,List.map_toArray,List.map_cons,List.map_nil,hd,hx,bG];refine kS _ _ (hK _ ⟨ae.le,by rw[YD]; exact ae.lt,fun i ef=> ?_,Zl9 ae.by255 off t,ae.len,ae.most,fun j hj=>⟨World.isSome_setCells _ _ _ _ _ (ae.wr j hj).1,by rw[World.frozen?_setCells]; exact(ae.wr j hj).2⟩⟩ (WR ae.le _ _ _ (Below.refl base w)) (YD _ _ _ _));rw[Nat.zero_add];unfold Zay;by_cases e:off<=i/\i<off+t.size
 ·rw[if_pos e];have:=World.cell?_setCells_in g (t.data.toList.map fun x=>Value.int .u8 (x.toNat:Int)) off w (by rw[hl]; exact aU) (i - off) (by rw[hl]; omega);rw[show off+(i - off)=i by omega] at this;rw[this];have h2:i - off<t.data.size:=by have:t.data.size=t.size:=rfl; omega
  have h3:i - off<t.size:=h2;unfold PlainAid.bt;rw[dif_pos h3];simp;rfl
 ·rw[if_neg e,World.cell?_setCells_out _ _ _ _ _ (fun _ _=>by rw[hl]; show i<off\/off+t.size<=i; omega)];have:=ae.row i ef;rwa [Nat.zero_add] at this
theorem Xn (base b n cap:Nat) (f:Nat->Int) (o' k':Int) (o k:Nat) (v:Int) (w:World) (h:YA w base b n cap f) (hb:base<=w.heap.size) (eo:o'=o) (ek:k'=k) (hn:n<=1000000) (k1:1<=k) (k8:k<=8) (ho:o+k<=n) (v0:0<=v) (v1:v<=18446744073709551615) :
 Calls Tryz.prog 70 #[.slice (some ⟨b,0,none⟩) n cap,.int .i64 o',.int .i64 k',.int .u64 v] w fun e w' =>
  ∃ g c,e= .returned (.slice (some ⟨g,0,none⟩) n c)/\YA w' base g n c (Xk f o v k)/\Below w.heap.size w w':=by
 subst eo ek;refine(Zol b n cap f o k v w h.rowB hn k1 k8 ho v0 v1).mono ?_;rintro e w' ⟨g,c,rfl,h1,h2⟩;exact⟨g,c,rfl,h1.weaken hb,h2⟩
theorem Zmc (n:Int):bits .and .i64 n 16383=n % 16384:=XI n 14 (by omega)
theorem Zmd (n:Int):bits .and .i64 n 8191=n % 8192:=XI n 13 (by omega)
theorem Zfv (AS:Option Addr) (l:List VF) (cs:Nat) (L:Nat->VF) (hL: ∀ i,l[i]? =some (L i)\/l.length<=i) (w:World) (hl:1<=l.length) (hS:SlT Zg3 3 w AS l) :
 Calls Tryz.prog 25 #[.slice AS l.length cs,.slice none 0 0] w fun e w' =>
  ∃ g c F,e= .returned (.slice (some ⟨g,0,none⟩) (atS L (min l.length 6)) c)/\YA w' w.heap.size g (atS L (min l.length 6)) c F/\Vx L (min l.length 6) F/\Below w.heap.size w w':=by
 have HL:=Zg hL;have hlen:((l.length:Int) == 0)=false:=by rw[beq_eq_false_iff_ne]; omega
 have zq:min (l.length:Int) 6=((min l.length 6:Nat):Int):=by omega
 obtain⟨b,off,Nl,AH,AJ⟩: ∃ b off,AS=some ⟨b,off,none⟩/\b<w.heap.size/\ ∀(i:Nat) (hi:i<l.length) (j:Nat) (v:Value),(Zg3 l[i])[j]? =some v->w.cell? ⟨b,off+(i * 3+j),none⟩=some v:=by
  rcases hS with h|h
  ·rw[h] at hl; simp at hl
  ·exact h
 subst Nl;have kt:=Zg AJ;have sG:=Zg AH;clear hS hL AJ AH;go_enter Tryz.func25,Tryz.ntmps25;go_wp2_with (first
  | (at_make; refine Yx rfl _ _ rfl w.heap.size .i64 .i64 1024 rfl rfl (by omega) (Nat.le_refl _) ?_; intro w1 ho hb hs; have cW:=Zg ho; have av:=Zg hb; clear ho hb hs)
  | (refine UN rfl _ _ rfl (off:=0) (t:=⟨#[77,90]⟩) cW.out (by decide) (by decide) rfl rfl ?_; intro w2 ho hb hs; have bQ:=Zg ho; have aj:=Zg (av.out.trans (hb.mono (Nat.le_refl _))); clear ho hb hs cW av))
 refine(Xn w.heap.size _ _ _ _ _ _ 60 4 64 _ bQ.out aj.out.size rfl rfl (by omega) (by omega) (by omega) (by omega) (by omega) (by omega)).mono ?_;rintro e w3 ⟨g3,c3,rfl,ho,hb⟩;have cT:=Zg ho;have aN:=Zg (aj.out.trans (hb.mono aj.out.size));clear ho hb bQ aj;have Lt:=cT.out.len;go_wp2_with (refine UN rfl _ _ rfl (off:=64) (t:=⟨#[80,69,0,0]⟩) cT.out (by decide) (by decide) rfl rfl ?_; intro w4 ho hb hs; have bV:=Zg ho; have bH:=Zg (aN.out.trans (hb.mono (Nat.le_refl _))); clear ho hb hs cT aN)
 refine(Xn w.heap.size _ _ _ _ _ _ 68 2 34404 _ bV.out bH.out.size rfl rfl (by omega) (by omega) (by omega) (by omega) (by omega) (by omega)).mono ?_;rintro e w5 ⟨g5,c5,rfl,ho,hb⟩;have cx:=Zg ho;have bp:=Zg (bH.out.trans (hb.mono bH.out.size));clear ho hb bV bH;go_wp2_with fail
 refine(Xn w.heap.size _ _ _ _ _ _ 70 2 ((min l.length 6:Nat):Int) _ cx.out bp.out.size rfl rfl (by omega) (by omega) (by omega) (by omega) (by omega) (by omega)).mono ?_;rintro e w6 ⟨g6,c6,rfl,ho,hb⟩;have dk:=Zg ho;have cU:=Zg (bp.out.trans (hb.mono bp.out.size));clear ho hb cx bp;go_wp2_with fail
 refine(Xn w.heap.size _ _ _ _ _ _ 72 4 77 _ dk.out cU.out.size rfl rfl (by omega) (by omega) (by omega) (by omega) (by omega) (by omega)).mono ?_;rintro e w7 ⟨g7,c7,rfl,ho,hb⟩;have tF:=Zg ho;have dS:=Zg (cU.out.trans (hb.mono cU.out.size));clear ho hb dk cU;go_wp2_with fail
 refine(Xn w.heap.size _ _ _ _ _ _ 84 2 240 _ tF.out dS.out.size rfl rfl (by omega) (by omega) (by omega) (by omega) (by omega) (by omega)).mono ?_;rintro e w8 ⟨g8,c8,rfl,ho,hb⟩;have fQ:=Zg ho;have aV:=Zg (dS.out.trans (hb.mono dS.out.size));clear ho hb tF dS;go_wp2_with fail
 refine(Xn w.heap.size _ _ _ _ _ _ 86 2 8226 _ fQ.out aV.out.size rfl rfl (by omega) (by omega) (by omega) (by omega) (by omega) (by omega)).mono ?_;rintro e w9 ⟨g9,c9,rfl,ho,hb⟩;have di:=Zg ho;have ay:=Zg (aV.out.trans (hb.mono aV.out.size));clear ho hb fQ aV;go_wp2_with fail
 refine(Xn w.heap.size _ _ _ _ _ _ 88 2 523 _ di.out ay.out.size rfl rfl (by omega) (by omega) (by omega) (by omega) (by omega) (by omega)).mono ?_;rintro e mP ⟨g10,PZ,rfl,ho,hb⟩;have As:=Zg ho;have sH:=Zg (ay.out.trans (hb.mono ay.out.size));clear ho hb di ay;go_wp2_with fail
 refine(Xn w.heap.size _ _ _ _ _ _ 112 8 65536 _ As.out sH.out.size rfl rfl (by omega) (by omega) (by omega) (by omega) (by omega) (by omega)).mono ?_;rintro e p' ⟨g11,H9,rfl,ho,hb⟩;have rY:=Zg ho;have sI:=Zg (sH.out.trans (hb.mono sH.out.size));clear ho hb As sH;go_wp2_with fail
 refine(Xn w.heap.size _ _ _ _ _ _ 120 4 4096 _ rY.out sI.out.size rfl rfl (by omega) (by omega) (by omega) (by omega) (by omega) (by omega)).mono ?_;rintro e tW ⟨g12,P3,rfl,ho,hb⟩;have At:=Zg ho;have lx:=Zg (sI.out.trans (hb.mono sI.out.size));clear ho hb rY sI;go_wp2_with fail
 refine(Xn w.heap.size _ _ _ _ _ _ 124 4 512 _ At.out lx.out.size rfl rfl (by omega) (by omega) (by omega) (by omega) (by omega) (by omega)).mono ?_;rintro e CR ⟨g13,P4,rfl,ho,hb⟩;have Au:=Zg ho;have ly:=Zg (lx.out.trans (hb.mono lx.out.size));clear ho hb At lx;go_wp2_with fail
 refine(Xn w.heap.size _ _ _ _ _ _ 148 4 1024 _ Au.out ly.out.size rfl rfl (by omega) (by omega) (by omega) (by omega) (by omega) (by omega)).mono ?_;rintro e PY ⟨g14,P5,rfl,ho,hb⟩;have Av:=Zg ho;have sJ:=Zg (ly.out.trans (hb.mono ly.out.size));clear ho hb Au ly;go_wp2_with fail
 refine(Xn w.heap.size _ _ _ _ _ _ 196 4 16 _ Av.out sJ.out.size rfl rfl (by omega) (by omega) (by omega) (by omega) (by omega) (by omega)).mono ?_;rintro e Nk ⟨g15,J7,rfl,ho,hb⟩;have Aw:=Zg ho;have Ax:=Zg (sJ.out.trans (hb.mono sJ.out.size));clear ho hb Av sJ;go_wp2_with fail
 have HF:=Zg (Ue.start L ((min l.length 6:Nat):Int) (by omega) (by omega));have Nc:min l.length 6<=l.length:=by omega
 have gx:min l.length 6<=6:=by omega
 have Nd:1<=min l.length 6:=by omega
 have FF:Hid (YA Nk w.heap.size g15 1024 J7 (preF ((min l.length 6:Nat):Int))):=Aw;clear Aw zq;obtain⟨N,FL⟩: ∃ N,min l.length 6=N:=⟨_,rfl⟩;have nt:=Zg FL;simp only[FL] at Nc gx Nd HF FF ⊢;clear FL;go_loopw [6,7,8,9,10,11,12,13,14] (fun o6 o7 o8 _ _ _ _ _ _ wr=> ∃(i g c:Nat) (F:Nat->Int),i<=N/\o6= .slice (some ⟨g,0,none⟩) (atS L i) c/\o7= .int .i64 (Ud L i)/\o8= .int .i64 i/\YA wr w.heap.size g (atS L i) c F/\Ue L N i F/\Below w.heap.size w wr) (fun _ _ o8 _ _ _ _ _ _ _=>N - (intOf o8).toNat)
 case atStart=>exact⟨0,g15,J7,_,by omega,rfl,rfl,rfl,FF.out,HF.out,Ax.out⟩
 case round =>
  obtain⟨i,g,c,F,hi,rfl,rfl,rfl,ho,hF,hb⟩:=hrel;have HO:=Zg ho;have HF:=Zg hF;have HB:=Zg hb;clear ho hF hb FF Ax;by_cases af:i<N
  ·have aE:(i:Int)<N:=by omega
   have mJ:i<l.length:=by omega
   have J5:l[i]=L i:=by
    rcases HL.out i with h|h
    ·rw[List.getElem?_eq_getElem mJ] at h; injection h
    ·omega
   have rl:=kt.out i mJ;rw[J5] at rl;have d0:wr.cell? ⟨b,off+i * 3,none⟩=some (.int .i64 (L i).1):=(HB.out.cell (p:=⟨b,_,none⟩) sG.out).trans (rl 0 _ rfl);have d1:wr.cell? ⟨b,off+i * 3+1,none⟩=some (.int .i64 (L i).2.1):=(HB.out.cell (p:=⟨b,_,none⟩) sG.out).trans (rl 1 _ rfl);have d2:wr.cell? ⟨b,off+i * 3+2,none⟩=some (.int .i64 (L i).2.2):=(HB.out.cell (p:=⟨b,_,none⟩) sG.out).trans (rl 2 _ rfl);have FG:=Zg rl;clear rl J5;have br:=QE L i;have DS:=VG L i;have hv:=Zma (L i);have pT:=Vj (L i);have PU:=Za1 (L i);have x7:=Zct (L i);have m1:=Zmc (L i).1;have m2:=Zmd (L i).2.1;have m3:=and_7 (L i).2.2;obtain⟨p,hp⟩: ∃ p:Nat,328+40 * (i:Int)=p:=⟨328+40 * i,by omega⟩;have J6:p=328+40 * i:=by omega
   have PV:p<=528:=by omega
   have Nf:=Zg J6;have cZ:=Zg (fun W=>Uu (vS (L i)) 4096 W (by omega) (by omega) (by omega) (by omega));have PW:(L i).1 % 16384+1=vS (L i):=rfl;have Ng:ZS (vS (L i)) 4096=UT (L i):=rfl;rw[Ng] at cZ;have du:(L i).2.1 % 8192 / 512 * 512 % (UT (L i)+512)=lz (L i):=rfl;have aY:(L i).2.2 % 8=Vs (L i):=rfl;have x0:=HO.out.row p (by omega);have x1:=HO.out.row (p+1) (by omega);rw[Nat.zero_add] at x0 x1;have z0:=(HO.out.wr p (by have:=HO.out.len; omega)).2;have z1:=(HO.out.wr (p+1) (by have:=HO.out.len; omega)).2;have uw: ∀ x:Int,0<=x->x<=1000000->IntKind.u64.wrap x=x:=fun x h0 h1=>by rw[IntKind.wrap_u64]; omega
   have wv:=uw (vS (L i)) (by omega) (by omega);have vd:=uw (Ud L i) (by omega) (by omega);have ww:=uw (lz (L i)) (by omega) (by omega);have wa:=uw (atS L i) (by omega) (by omega);have wg:=uw (Vs (L i)) (by omega) (by omega);have wi:IntKind.u8.wrap (48+(i:Int))=48+i:=by rw[IntKind.wrap_u8]; omega
   obtain⟨R,hR⟩: ∃ R:Nat,lz (L i)=R:=⟨(lz (L i)).toNat,by omega⟩;have cd:=Zg hR;clear uw J6;go_wp2_with (go_fit (cZ.out _); rintro e w' ⟨rfl,rfl⟩)
   have Ac:=Zg ((HO.out.set p 115 (by omega) (by omega) (by omega)).set (p+1) (48+(i:Int)) (by omega) (by omega) (by omega));have au:=Zg ((HB.out.setCell (p:=⟨g,p,none⟩) HO.out.le (.int .u8 115)).setCell (p:=⟨g,p+1,none⟩) HO.out.le (.int .u8 (48+(i:Int))));clear HO HB x0 x1 z0 z1;refine(Xn w.heap.size _ _ _ _ _ _ (p+8) 4 (vS (L i)) _ Ac.out au.out.size (by omega) rfl (by omega) (by omega) (by omega) (by omega) (by omega) (by omega)).mono ?_;rintro e v1 ⟨h1,k1,rfl,ho,hb⟩;have gM:=Zg ho;have av:=Zg (au.out.trans (hb.mono au.out.size));clear ho hb Ac au;go_wp2_with fail
   refine(Xn w.heap.size _ _ _ _ _ _ (p+12) 4 (Ud L i) _ gM.out av.out.size (by omega) rfl (by omega) (by omega) (by omega) (by omega) (by omega) (by omega)).mono ?_;rintro e v2 ⟨h2,k2,rfl,ho,hb⟩;have ka:=Zg ho;have aj:=Zg (av.out.trans (hb.mono av.out.size));clear ho hb gM av;go_wp2_with fail
   refine(Xn w.heap.size _ _ _ _ _ _ (p+16) 4 (R:Int) _ ka.out aj.out.size (by omega) rfl (by omega) (by omega) (by omega) (by omega) (by omega) (by omega)).mono ?_;rintro e v3 ⟨h3,k3,rfl,ho,hb⟩;have wF:=Zg ho;have aN:=Zg (aj.out.trans (hb.mono aj.out.size));clear ho hb ka aj;go_wp2_with fail
   refine(Xn w.heap.size _ _ _ _ _ _ (p+20) 4 ((atS L i:Nat):Int) _ wF.out aN.out.size (by omega) rfl (by omega) (by omega) (by omega) (by omega) (by omega) (by omega)).mono ?_;rintro e v4 ⟨h4,k4,rfl,ho,hb⟩;have CQ:=Zg ho;have bH:=Zg (aN.out.trans (hb.mono aN.out.size));clear ho hb wF aN;have e2:v4.cell? ⟨b,off+i * 3+2,none⟩=some (.int .i64 (L i).2.2):=(bH.out.cell (p:=⟨b,_,none⟩) sG.out).trans (FG.out 2 _ rfl);clear d0 d1 d2;go_wp2_with fail
   refine(Xn w.heap.size _ _ _ _ _ _ (p+36) 4 (Vs (L i) * 536870912) _ CQ.out bH.out.size (by omega) rfl (by omega) (by omega) (by omega) (by omega) (by omega) (by omega)).mono ?_;rintro e v5 ⟨h5,k5,rfl,ho,hb⟩;have FH:=Zg ho;have bp:=Zg (bH.out.trans (hb.mono bH.out.size));clear ho hb CQ bH;clear e2;go_wp2_with (at_make; refine Yx rfl _ _ rfl w.heap.size .i64 .i64 R rfl rfl (by omega) bp.out.size ?_; intro v6 ho hb hs)
   have HM:=Zg ho;have Nh:=Zg (FH.out.below hb);have cU:=Zg (bp.out.trans (hb.mono bp.out.size));have ko:Hid (h5≠v5.heap.size):=Zg (by have:=FH.out.lt; omega);clear ho hb hs FH bp;generalize v5.heap.size=gm at *;go_loopw [14] (fun FI wr=> ∃ k:Nat,k<=R/\FI= .int .i64 k/\YA wr w.heap.size gm R R (fun q=>if q<k then(7 * (q:Int)+i+1) % 256 else 0)/\YA wr w.heap.size h5 (atS L i) k5 (Xk (Xk (Xk (Xk (Xk (Zbb (Zbb F p 115) (p+1) (48+i)) (p+8) (vS (L i)) 4) (p+12) (Ud L i) 4) (p+16) (R:Int) 4) (p+20) (atS L i) 4) (p+36) (Vs (L i) * 536870912) 4)/\Below w.heap.size w wr) (fun FI _=>R - (intOf FI).toNat)
   case atStart=>exact⟨0,by omega,rfl,HM.out.congr (fun q=>by simp) (fun q _=>by simp),Nh.out,cU.out⟩
   case round =>
    obtain⟨k,hk,rfl,ho,hq,hb⟩:=hrel;have HM:=Zg ho;have HQ:=Zg hq;have HB:=Zg hb;clear ho hq hb;by_cases jy:k<R
    ·have Fi:(k:Int)<R:=by omega
     have x0:=HM.out.row k jy;rw[Nat.zero_add] at x0;have z0:=(HM.out.wr k jy).2;have wk:IntKind.u8.wrap ((k:Int) * 7+i+1)=(7 * (k:Int)+i+1) % 256:=by rw[IntKind.wrap_u8]; omega
     have PX:R<8192:=by omega
     go_wp2_with fail
     go_roundw
     case rel=>exact⟨k+1,by omega,by go_num,(HM.out.set k ((7 * (k:Int)+i+1) % 256) jy (by omega) (by omega)).congr (fun q=>by split <;> omega) (fun q hq=>by
      unfold Zbb;by_cases e:q=k
      ·subst e; simp
      ·rw[if_neg e];show(if q<k then(7 * (q:Int)+i+1) % 256 else 0)=_
       by_cases e2:q<k
       ·rw[if_pos e2,if_pos (by omega)]
       ·rw[if_neg e2,if_neg (by omega)]),HQ.out.of_block (by simp) (heap_setCell_other _ _ _ _ ko.out),HB.out.setCell HM.out.le _⟩
     case measure=>simp[intOf]; omega
    ·obtain rfl:k=R:=by omega
     go_wp2_with (at_builtin; refine VE rfl _ _ rfl HQ.out (.inr ⟨gm,0,rfl,HM.out.lt,HM.out.row⟩) HM.out.by255 (by omega) HB.out.size rfl rfl ?_; intro g' aA w' ho hb)
     have sL:Ud L (i+1)=Ud L i+UT (L i):=rfl;have AA:atS L (i+1)=atS L i+k:=by simp only[atS]; rw[cd.out]; rfl
     go_roundw
     case rel =>
      refine⟨i+1,g',aA,_,by omega,by rw[AA],by rw[sL],by go_num,by rw[AA]; exact ho,?_,HB.out.trans hb⟩;have hn:=HF.out.next (by omega) (fun q=>if q<k then(7 * (q:Int)+i+1) % 256 else 0) (fun q hq=>if_pos (by rw[cd.out] at hq; omega));unfold Zne at hn;rw[<-Nf.out,cd.out] at hn;exact hn
     case measure=>simp[intOf]; omega
  ·obtain rfl:i=N:=by omega
   have vd:IntKind.u64.wrap (Ud L i)=Ud L i:=by
    have:=VG L i;rw[IntKind.wrap_u64]; omega
   have DS:=VG L i;have br:=QE L i;go_wp2_with fail
   refine(Xn w.heap.size _ _ _ _ _ _ 144 4 (Ud L i) _ HO.out HB.out.size rfl rfl (by omega) (by omega) (by omega) (by omega) (by omega) (by omega)).mono ?_;rintro e w' ⟨g',c',rfl,ho,hb⟩;have bQ:=Zg ho;have aj:=Zg (HB.out.trans (hb.mono HB.out.size));clear ho hb HO HB;go_wp2_with fail
   go_loopw [6,15] (fun o6 AG wr=>wr=w'/\AG= .int .i64 0/\o6= .slice (some ⟨g',0,none⟩) (atS L i) c') (fun _ _ _=>0)
   case atStart=>exact⟨rfl,rfl,rfl⟩
   case round =>
    obtain⟨rfl,rfl,rfl⟩:=hrel;go_wp2_with fail
    go_ret;rw[nt.out];exact⟨g',c',_,rfl,bQ.out,HF.out.done gx,aj.out⟩
theorem Ue.sect {L:Nat->VF} {n:Int} {m i:Nat} {f:Nat->Int} (x:Ue L n m f) (h:i<m):Xm f (328+40 * i)=⟨Qc f (328+40 * i),vS (L i),Ud L i,lz (L i),atS L i,Vs (L i) * 536870912⟩:=by
 have s:=x.sec i h;unfold Xm;rw[s.v,s.rva,s.raw,s.spot,s.r]
theorem Zcu (L:Nat->VF) {i j:Nat} (h:i<=j):Ud L i<=Ud L j:=by
 induction j with
 | zero=>obtain rfl:i=0:=by omega
         exact Int.le_refl _
 | succ j ih =>
   rcases Nat.lt_or_ge j i with h1|h1
   ·obtain rfl:i=j+1:=by omega
    exact Int.le_refl _
   ·have:=ih h1;have:=Vj (L j);simp only[Ud];omega
theorem Ue.chain {L:Nat->VF} {n:Int} {f:Nat->Int} {t:Nat} (x:Ue L n t f) (N:Nat) (hN:atS L t<=N): ∀(m i:Nat),i+m=t->Yo (Ud L t) N (Ud L i) ((List.range' i m).map fun j=>Xm f (328+40 * j))
 | 0,i,h=>by
   obtain rfl:i=t:=by omega
   rfl
 | m+1,i,h=>by
   rw[List.range'_succ,List.map_cons];refine⟨?_,?_⟩
   ·rw[x.sect (by omega)];have h1:=Zma (L i);have h2:=Vj (L i);have h3:=Za1 (L i);have h4:=Zcu L (show i+1<=t by omega);have h5:=Zfu L (show i+1<=t by omega);have h6:=VG L i;simp only[Ud,atS] at h4 h5;refine⟨rfl,by show vS (L i)≠0; omega,by show vS (L i)<=_; omega,h3.2.2.1,h3.2.2.2,?_⟩;show ¬ (0<lz (L i)/\(N:Int)<(atS L i:Int)+lz (L i))
    omega
   ·rw[x.sect (by omega)];exact x.chain N hN m (i+1) (by omega)
open Classical in
abbrev L0:Nat->VF:=fun _=>(16,512,3)
theorem at0:atS L0 1=1536:=rfl
structure Zg4 (w:World) (cs:Array Value) (h:ZX) (g c:Nat) (l:List Zx):Prop where
 hv:YR cs h (.slice (some ⟨g,0,none⟩) l.length c)
 sl:SlT Zx.cells 6 w (some ⟨g,0,none⟩) l
 lt:g<w.heap.size
 bd: ∀ s∈l,JU s
 len:l.length<=16
 hd0:0<=h.headers
 hd1:h.headers<4294967296
theorem Zg4.below {w w':World} {cs:Array Value} {h:ZX} {g c:Nat} {l:List Zx} (x:Zg4 w cs h g c l) (hb:Below w.heap.size w w'):Zg4 w' cs h g c l :=
 ⟨x.hv,x.sl.below hb,Nat.lt_of_lt_of_le x.lt hb.size,x.bd,x.len,x.hd0,x.hd1⟩
def JO (F:Nat->Int) (n k:Nat):Int:=if k<n then F k else 0
theorem Uf {F:Nat->Int} (h:Zm F) (n k:Nat):0<=JO F n k/\JO F n k<=255:=by
 unfold JO; split
 ·exact h k
 ·omega
theorem Zg5 (b off n cap:Nat) (F:Nat->Int) (k i:Nat) (w:World) (h:Wj w b off n cap F) (hk:k<=4611686018427387904) (hi:i<=4611686018427387904) :
 Calls Tryz.prog 107 #[.slice (some ⟨b,off,none⟩) n cap,.int .i64 k,.int .i64 i] w fun e u=>e= .returned (.int .u8 (JO F n (k+i)))/\w=u:=by
 have hl:=h.len;have hm:=h.most;have k0:(0:Int)<=k:=by omega
 by_cases c:k+i<n
 ·have hc:=h.row (k+i) c;have sL:(k:Int)+i=((k+i:Nat):Int):=by omega
  have c1:(k:Int)<n:=by omega
  have c2:(i:Int)<n - k:=by omega
  have hb:JO F n (k+i)=F (k+i):=by unfold JO; rw[if_pos c]
  rw[hb];have yj:(k+i:Nat)<n:=c;clear h;generalize k+i=q at *;go_enter Tryz.func107,Tryz.ntmps107;go_wp2_with fail
  go_ret;exact⟨rfl,rfl⟩
 ·have hb:JO F n (k+i)=0:=by unfold JO; rw[if_neg c]
  rw[hb];clear h;by_cases c1:(k:Int)<n
  ·have c2:(n:Int) - k<=i:=by omega
   go_enter Tryz.func107,Tryz.ntmps107;go_wp2_with fail
   go_ret;exact⟨rfl,rfl⟩
  ·have Cl:(n:Int)<=k:=by omega
   go_enter Tryz.func107,Tryz.ntmps107;go_wp2_with fail
   go_ret;exact⟨rfl,rfl⟩
def Zea (N:Nat) (F:Nat->Int) (nb:Nat) (f:Nat->Int) (r k n:Nat) (q:Nat):Int:=if r<=q/\q<r+n/\q<N then JO F nb (k+(q - r)) else f q
theorem Zjy (g N:Nat) (f:Nat->Int) (b off nb cap:Nat) (F:Nat->Int) (r k n base:Nat) (w:World) (ho:YA w base g N N f) (h:Wj w b off nb cap F) (bK:b<base) (hN:N<=1000000) (hr:r<=4294967296) (hk:k<=4294967296) (hn:n<=4294967296) :
 Calls Tryz.prog 69 #[.slice (some ⟨g,0,none⟩) N N,.int .i64 r,.slice (some ⟨b,off,none⟩) nb cap,.int .i64 k,.int .i64 n] w fun e u=>e= .returned (.tuple #[])/\YA u base g N N (Zea N F nb f r k n)/\Below base w u:=by
 have HO:=Zg ho;have HR:=Zg h;have r0:(0:Int)<=r:=by omega
 clear ho h;go_enter Tryz.func69,Tryz.ntmps69;by_cases c:(N:Int)<=r
 ·go_wp2_with fail
  go_returns
  exact⟨rfl,HO.out.congr (fun q=>by
   unfold Zea;split
   ·exact Uf HR.out.by255 _ _
   ·exact HO.out.by255 q) (fun q hq=>by unfold Zea; rw[if_neg (by omega)]),Below.refl _ _⟩
 ·have c':(r:Int)<N:=by omega
  obtain⟨M,hM⟩: ∃ M:Nat,min (n:Int) ((N:Int) - r)=M:=⟨(min (n:Int) ((N:Int) - r)).toNat,by omega⟩;have Ni:=Zg hM;have FJ:r+M<=N:=by omega
  go_wp2_with fail
  go_loopw [12] (fun dh wr=> ∃ i:Nat,i<=M/\dh= .int .i64 i/\YA wr base g N N (Zea N F nb f r k i)/\Below base w wr) (fun dh _=>M - (intOf dh).toNat)
  case atStart=>exact⟨0,by omega,rfl,HO.out.congr (fun q=>by
   unfold Zea;split
   ·exact Uf HR.out.by255 _ _
   ·exact HO.out.by255 q) (fun q hq=>by unfold Zea; rw[if_neg (by omega)]),Below.refl _ _⟩
  case round =>
   obtain⟨i,hi,rfl,ho,hb⟩:=hrel;have mA:=Zg ho;have HB:=Zg hb;clear ho hb hM;by_cases af:i<M
   ·have aE:(i:Int)<M:=by omega
    have tI:=Zg (Zg5 b off nb cap F k i wr ⟨fun j hj=>(HB.out.cell (p:=⟨b,_,none⟩) bK).trans (HR.out.row j hj),HR.out.by255,Nat.lt_of_lt_of_le HR.out.lt HB.out.size,HR.out.len,HR.out.most⟩ (by omega) (by omega));have sL:(r:Int)+i=((r+i:Nat):Int):=by omega
    have x0:=mA.out.row (r+i) (by omega);rw[Nat.zero_add] at x0;have z0:=(mA.out.wr (r+i) (by omega)).2;have jr:=Uf HR.out.by255 nb (k+i);have x7:r+i<N:=by omega
    obtain⟨p,hp⟩: ∃ p,r+i=p:=⟨_,rfl⟩;have HP:=Zg hp;rw[hp] at sL x0 z0 x7;clear hp;go_wp2_with (go_fit tI.out; rintro e u ⟨rfl,rfl⟩)
    go_roundw
    case rel=>exact⟨i+1,by omega,by go_num,(mA.out.set p (JO F nb (k+i)) x7 jr.1 jr.2).congr (fun q=>by
     unfold Zea;split
     ·exact Uf HR.out.by255 _ _
     ·exact HO.out.by255 q) (fun q hq=>by
     have hp:=HP.out;unfold Zbb;by_cases e:q=p
     ·subst e;rw[if_pos rfl];unfold Zea;rw[if_pos (by omega),show q - r=i by omega]
     ·rw[if_neg e];unfold Zea;by_cases e2:r<=q/\q<r+i/\q<N
      ·rw[if_pos e2,if_pos (by omega)]
      ·rw[if_neg e2,if_neg (by omega)]),HB.out.setCell mA.out.le _⟩
    case measure=>simp[intOf]; omega
   ·obtain rfl:i=M:=by omega
    go_wp2_with fail
    go_returns
    exact⟨rfl,mA.out.congr (fun q=>by
     unfold Zea;split
     ·exact Uf HR.out.by255 _ _
     ·exact HO.out.by255 q) (fun q hq=>by
     have hM:=Ni.out;unfold Zea;by_cases e:r<=q/\q<r+i/\q<N
     ·rw[if_pos e,if_pos (by omega)]
     ·rw[if_neg e,if_neg (by omega)]),HB.out⟩
def Zg6 (N:Nat) (F:Nat->Int) (nb:Nat):List Zx->(Nat->Int)->(Nat->Int)
 | [],f=>f
 | s::l,f=>Zg6 N F nb l (Zea N F nb f s.rva.toNat s.spot.toNat s.raw.toNat)
def Znf (N:Nat) (F:Nat->Int) (nb:Nat) (hd:Nat) (l:List Zx):Nat->Int:=Zg6 N F nb l (Zea N F nb (fun _=>0) 0 0 hd)
theorem Zme (cs:Array Value) (h:ZX) (g c:Nat) (l:List Zx) (b off nb cap:Nat) (F:Nat->Int) (N hd:Nat) (w:World) (hh:Zg4 w cs h g c l) (hr:Wj w b off nb cap F) (hN:h.size=N) (gx:N<=262144) (jj:h.headers=hd) :
 Calls Tryz.prog 24 #[.agg cs,.slice (some ⟨b,off,none⟩) nb cap] w fun e u=> ∃ gi,e= .returned (.slice (some ⟨gi,0,none⟩) N N)/\YA u w.heap.size gi N N (Znf N F nb hd l)/\Below w.heap.size w u:=by
 have HH:=Zg hh;have HR:=Zg hr;have au:=Zg ((Below.refl w.heap.size w).alloc (Nat.le_refl _) (.cells cs 41));have HG:=Zg (heap_alloc_new w (.cells cs 41));have c4:=hh.hv.c4;have c5:=hh.hv.c5;have c38:=hh.hv.c38;have hlen:=hh.len;have hd1:=hh.hd1;rw[hN] at c4;rw[jj] at c5 hd1;obtain⟨IM,pb⟩: ∃ IM,Znf N F nb hd l=IM:=⟨_,rfl⟩;have FB:=Zg pb;rw[pb];have eK:Hid ((w.alloc (.cells cs 41)).heap.size=w.heap.size+1):=Zg (by simp);have n0:decide ((N:Int)<0)=false:=decide_eq_false (by omega);have n1:decide ((262144:Int)<(N:Int))=false:=decide_eq_false (by omega);have fH:=Zg gx;clear hh hr pb hN jj gx;go_enter Tryz.func24,Tryz.ntmps24;go_wp2_with (at_make; have k5:=(cell_of_row _ _ 5 _ _ _ HG.out).trans c5; have qK:=(cell_of_row _ _ 38 _ _ _ HG.out).trans c38; generalize w.alloc (.cells cs 41)=w1 at *; refine Yx rfl _ _ rfl w1.heap.size .i64 .i64 N rfl rfl (by have:=fH.out; omega) (Nat.le_refl _) ?_; intro w2 ho hb hs; have bQ:=Zg ho; have lx:=Zg hb; have k5:=(hb.cell (p:=⟨w.heap.size,5,none⟩) (by have:=eK.out; show w.heap.size<w1.heap.size; omega)).trans k5; clear ho hb hs)
 have aj:=Zg (au.out.trans (lx.out.mono au.out.size));have AF:b<w1.heap.size:=by have:=HR.out.lt; have:=eK.out; omega
 refine(Zjy w1.heap.size N (fun _=>0) b off nb cap F 0 0 hd w1.heap.size w2 bQ.out (HR.out.below aj.out) AF (by have:=fH.out; omega) (by omega) (by omega) (by omega)).mono ?_;rintro e w3 ⟨rfl,ho,hb⟩;have cT:=Zg ho;have ly:=Zg (lx.out.trans hb);have pr:=(ly.out.cell (p:=⟨w.heap.size,38,none⟩) (by have:=eK.out; show w.heap.size<w1.heap.size; omega)).trans ((cell_of_row _ _ 38 _ _ _ HG.out).trans c38);clear ho hb k5 bQ lx aj;go_wp2_with fail
 clear pr c38 c4 c5 n0 n1;go_loopw [7,27] (fun _ FK wr=> ∃(i:Nat) (f:Nat->Int),i<=l.length/\FK= .int .i64 i/\YA wr w1.heap.size w1.heap.size N N f/\Zg6 N F nb (l.drop i) f=IM/\Below w1.heap.size w1 wr) (fun _ FK _=>l.length - (intOf FK).toNat)
 case atStart=>exact⟨0,_,by omega,rfl,cT.out,FB.out,ly.out⟩
 case round =>
  obtain⟨i,f,hi,rfl,ho,hf,hb⟩:=hrel;have HO:=Zg ho;have HF:=Zg hf;have HB:=Zg hb;have aw:Hid (Below w.heap.size w wr):=Zg (au.out.trans (hb.mono au.out.size));clear ho hf hb cT ly;by_cases af:i<l.length
  ·have aE:(i:Int)<l.length:=by omega
   obtain⟨d0,d1,d2,d3,d4,d5⟩:=(HH.out.sl.below aw.out).at6 i af;have hs:=HH.out.bd l[i] (List.getElem_mem af);have hd:=HF.out;rw[List.drop_eq_getElem_cons af] at hd;have HD:=Zg hd;clear hd;generalize l[i]=s at *;obtain⟨nm,v,rva,raw,spot,ch⟩:=s;obtain⟨v0,v1,p0,p1,a0,a1,s0,s1,x0,x1⟩:=hs;simp only at d0 d1 d2 d3 d4 d5 v0 v1 p0 p1 a0 a1 s0 s1 x0 x1;obtain⟨rv,rfl⟩: ∃ n:Nat,rva=n:=⟨rva.toNat,by omega⟩;obtain⟨rk,rfl⟩: ∃ n:Nat,raw=n:=⟨raw.toNat,by omega⟩;obtain⟨sp,rfl⟩: ∃ n:Nat,spot=n:=⟨spot.toNat,by omega⟩;go_wp2_with fail
   have te:=(Below.refl wr.heap.size wr).alloc (Nat.le_refl _) (.cells #[.string nm,.int .i64 v,.int .i64 (rv:Int),.int .i64 (rk:Int),.int .i64 (sp:Int),.int .i64 ch] 72);refine(Zjy w1.heap.size N f b off nb cap F rv sp rk w1.heap.size _ (HO.out.below te) (HR.out.below (aw.out.trans (te.mono aw.out.size))) AF (by have:=fH.out; omega) (by omega) (by omega) (by omega)).mono ?_;rintro e u ⟨rfl,ho,hb⟩;have Nj:=Zg ho;have BF:=Zg ((HB.out.trans (te.mono HB.out.size)).trans hb);clear ho hb te;go_wp2_with fail
   go_roundw
   case rel=>exact⟨i+1,_,by omega,by go_num,Nj.out,by have:=HD.out; simp only[Zg6,Int.toNat_natCast] at this; exact this,BF.out⟩
   case measure=>simp[intOf]; omega
  ·obtain rfl:i=l.length:=by omega
   have hf:=HF.out;rw[List.drop_length] at hf;have xq:f=IM:=hf;subst xq;go_wp2_with fail
   go_ret;exact⟨_,rfl,HO.out.weaken (by have:=eK.out; omega),aw.out⟩
end Go.Proofs.YtplgdpjbkdagfaaGreat
