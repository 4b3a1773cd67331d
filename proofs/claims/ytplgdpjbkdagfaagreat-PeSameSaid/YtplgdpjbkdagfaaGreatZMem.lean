import Derived.Test.YtplgdpjbkdagfaaGreatRows
import Derived.WalkKit
import Derived.ProofKit
import Derived.OpenShut
import Derived.ShutString
import Derived.ChangeOld
import Derived.Below
import Derived.Lib.Hide
import Derived.Outline
import Derived.IntWalk
import Derived.Handy
import Derived.Deep.OwnRows
import Derived.Laws.BitsAllLaws
import Derived.Maps.AppendAt
import Derived.Deep.AppendLies
import Derived.Test.YtplgdpjbkdagfaaGreatNum
import Derived.Lib.SmallJoins
import Derived.Laws.BitsLemmas
import Derived.Test.YtplgdpjbkdagfaaGreatApp
import Derived.PlainAid
import Derived.Deep.QuietTactic
import Derived.BigQuiet
namespace Go.Proofs.YtplgdpjbkdagfaaGreat
set_option maxRecDepth 100000
open Go.ChangeShapes Go.WideShapes Go.ChangeAt Go.RowKit
open Go.ChangeMaps (open_string shut_string)
set_option linter.unusedVariables false
set_option linter.unusedSimpArgs false
def Own (w:World) (g n:Nat) (f:Nat→Value):Prop:=g<w.heap.size∧ ∀ i,i<n→w.cell? ⟨g,i,none⟩=some (f i)∧w.frozen? ⟨g,i,none⟩=false
namespace Own
variable {w w':World} {g n:Nat} {f f':Nat→Value}
theorem cell (h:Own w g n f) {i:Nat} (hi:i<n):w.cell? ⟨g,i,none⟩=some (f i):=(h.2 i hi).1
theorem frozen (h:Own w g n f) {i:Nat} (hi:i<n):w.frozen? ⟨g,i,none⟩=false:=(h.2 i hi).2
theorem congr (h:Own w g n f) (e: ∀ i,i<n→f i=f' i):Own w g n f':=⟨h.1,fun i hi=>by rw[←e i hi]; exact h.2 i hi⟩
theorem of_block (h:Own w g n f) (e:w'.heap[g]? =w.heap[g]?) (hs:w.heap.size≤w'.heap.size):Own w' g n f :=
 ⟨Nat.lt_of_lt_of_le h.1 hs,fun i hi=>⟨(World.cell?_of_block (a:=⟨g,i,none⟩) e).trans (h.2 i hi).1,(World.frozen?_of_block (a:=⟨g,i,none⟩) e).trans (h.2 i hi).2⟩⟩
theorem below {B:Nat} (h:Own w g n f) (hb:Below B w w') (hg:g<B):Own w' g n f:=h.of_block (hb.block g hg) hb.size
theorem grown {row:Option Nat} (h:Own w g n f) (hb:w.grownBy w' row) (hg:some g≠row):Own w' g n f:=h.of_block (hb.block g h.1 hg) hb.size
theorem alloc (h:Own w g n f) (o:Obj):Own (w.alloc o) g n f:=h.of_block (Below.heap_alloc w o g h.1) (by simp)
theorem drew (h:Own w g n f):Own w.drew g n f:=h
theorem set (h:Own w g n f) {i:Nat} (hi:i<n) (v:Value):Own (w.setCell ⟨g,i,none⟩ v) g n (fun j=>if j=i then v else f j):=by
 refine⟨by simpa [World.setCell] using h.1,fun j hj=>⟨?_,?_⟩⟩
 ·by_cases e:j=i
  ·subst e
   show _=some (if j=j then v else f j)
   rw[if_pos rfl]
   exact World.cell?_setCell_same w _ v (h.cell hj)
  ·show _=some (if j=i then v else f j)
   rw[if_neg e]
   rw[World.cell?_setCell_other w _ _ v (fun e'=>e (by injection e' with _ e'; exact e'.symm))]
   exact h.cell hj
 ·rw[World.frozen?_setCell]; exact h.frozen hj
theorem of_own {base:Nat} {e:TypeId} {c:Nat} {A:Option Addr} {n:Nat} {xs:List Value} (h:w.ownsRow base e 1 (.slice A n c) n xs) (hn:0<n) (hx: ∀ i,i<n→xs[i]? =some (f i)) :
 ∃ g,A=some ⟨g,0,none⟩∧base≤g∧Own w g n f:=by
 obtain⟨g,cap,hv,hb,hlt⟩:=h.form hn
 have hA:A=some ⟨g,0,none⟩:=by injection hv
 subst hA
 refine⟨g,rfl,hb,hlt,fun i hi=>⟨?_,?_⟩⟩
 ·rw[h.cellAt i (by omega)]; exact hx i hi
 ·exact h.frozenAt i
end Own
def Yf (v:Int) (i:Nat):Int:=v / 2 ^ (8 * i) % 256
theorem Wl:(Tryz.prog.info? 5).map (fun i=>(i.zero,i.size,i.bytes))=some (some (.int .u8 0),1,1):=by kernel_rfl
def ZB (f:Nat→Int) (o n:Nat):ByteArray:=strOfNums ((List.range n).map fun i=>f (o+i))
theorem Zt (f:Nat→Int) (o n:Nat):(ZB f o n).size=n:=by simp[ZB,strOfNums_size]
theorem YB {w:World} {b off n cap:Nat} {f:Nat→Int} (h:Row w b off n f) :
 (convert 25 9 (.slice (some ⟨b,off,none⟩) n cap)).run Tryz.prog w= .ok (.string (ZB f 0 n)) w:=by
 rw[run_convert_bytes_arg (P:=Tryz.prog) w 25 5 Tryz.underlying25 Tryz.underlying5 b off n cap ((List.range n).map f) (by simp) (fun i hi=>by rw[h i hi]; simp[hi]) 9 Tryz.underlying9]
 simp[ZB]
theorem Zdu {w:World} {b off len n o cap:Nat} {f:Nat→Int} (h:Row w b off len f) (hn:o+n≤len) :
 (convert 25 9 (.slice (some ⟨b,off+o,none⟩) n cap)).run Tryz.prog w= .ok (.string (ZB f o n)) w:=by
 rw[run_convert_bytes_arg (P:=Tryz.prog) w 25 5 Tryz.underlying25 Tryz.underlying5 b (off+o) n cap ((List.range n).map fun i=>f (o+i)) (by simp) (fun i hi=>by rw[Nat.add_assoc,h (o+i) (by omega)]; simp[hi]) 9 Tryz.underlying9]
 rfl
def VX (l:List Int) (i:Nat):Int:=l.getD i 0
theorem Zfm {w:World} {g:Nat} {t:TypeId} {fr:Nat × Nat} (l:List Int) (hg:g=w.heap.size):Row (w.alloc (.cells (l.map (Value.int .u8)).toArray t fr)) g 0 l.length (VX l):=by
 intro i hi
 subst hg
 rw[Nat.zero_add,World.cell?_alloc_mark]
 simp[hi,VX]
theorem Zji {w:World} {g n:Nat} {f:Nat→Value} {f':Nat→Int} (h:Own w g n f) (e: ∀ i,i<n→f i= .int .u8 (f' i)):Row w g 0 n f':=by
 intro i hi
 rw[Nat.zero_add,h.cell hi,e i hi]
end Go.Proofs.YtplgdpjbkdagfaaGreat
namespace Go.Proofs.YtplgdpjbkdagfaaGreat
set_option maxRecDepth 100000
open Go.RowKit
set_option linter.unusedVariables false
set_option linter.unusedSimpArgs false
theorem Xw (n:Int) (k:Nat) (hk:k<63):bits .and .i64 n (2 ^ k - 1:Nat)=n % (2 ^ k:Nat):=by
 show IntKind.i64.wrap ((BitVec.ofInt 64 n &&& BitVec.ofInt 64 ((2 ^ k - 1:Nat):Int)).toNat:Int)=_
 have hp:2 ^ k<2 ^ 63:=Nat.pow_lt_pow_right (by omega) hk
 have hp0:0<2 ^ k:=Nat.pow_pos (by omega)
 rw[BitVec.toNat_and]
 have e1:(BitVec.ofInt 64 ((2 ^ k - 1:Nat):Int)).toNat=2 ^ k - 1:=by
  rw[BitVec.ofInt_natCast,BitVec.toNat_ofNat]; exact Nat.mod_eq_of_lt (by omega)
 rw[e1,Nat.and_two_pow_sub_one_eq_mod,BitVec.toNat_ofInt]
 have e2:((n % ((2 ^ 64:Nat):Int)).toNat:Int)=n % ((2 ^ 64:Nat):Int):=Int.toNat_of_nonneg (Int.emod_nonneg _ (by omega))
 have e3:(((n % ((2 ^ 64:Nat):Int)).toNat % 2 ^ k:Nat):Int)=n % ((2 ^ k:Nat):Int):=by
  rw[Int.natCast_emod,e2]
  exact Int.emod_emod_of_dvd n (Int.natCast_dvd_natCast.2 (Nat.pow_dvd_pow 2 (by omega)))
 rw[e3,IntKind.wrap_i64]
 have h1:=Int.emod_nonneg n (show((2 ^ k:Nat):Int)≠0 by omega)
 have h2:=Int.emod_lt_of_pos n (show(0:Int)<((2 ^ k:Nat):Int) by omega)
 generalize n % ((2 ^ k:Nat):Int)=r at *
 omega
theorem Zhn (n:Int):bits .and .i64 n 65535=n % 65536:=Xw n 16 (by omega)
theorem and_7 (n:Int):bits .and .i64 n 7=n % 8:=Xw n 3 (by omega)
end Go.Proofs.YtplgdpjbkdagfaaGreat
namespace Go.Proofs.YtplgdpjbkdagfaaGreat
set_option maxRecDepth 100000
open Go.ChangeShapes Go.WideShapes Go.ChangeAt Go.RowKit
set_option linter.unusedVariables false
set_option linter.unusedSimpArgs false
def SlB (w:World) (A:Option Addr) (n:Nat) (f:Nat→Int):Prop:=n=0∨ ∃ b off,A=some ⟨b,off,none⟩∧b<w.heap.size∧Row w b off n f
theorem SlB.below {w w':World} {A:Option Addr} {n:Nat} {f:Nat→Int} (h:SlB w A n f) (hb:Below w.heap.size w w'):SlB w' A n f:=by
 rcases h with h|⟨b,off,hA,hlt,hr⟩
 ·exact .inl h
 ·exact .inr ⟨b,off,hA,Nat.lt_of_lt_of_le hlt hb.size,fun i hi=>(hb.cell (p:=⟨b,off+i,none⟩) hlt).trans (hr i hi)⟩
theorem Qj {w:World} {b o:Nat} {v:Value} (h:w.cell? ⟨b,o,none⟩=some v):b<w.heap.size:=by
 rcases Nat.lt_or_ge b w.heap.size with hlt|hge
 ·exact hlt
 ·simp[World.cell?,Array.getElem?_eq_none hge] at h
def Zs (n:Nat) (f:Nat→Int):List Value:=(List.range n).map fun i=> .int .u8 (f i)
theorem Zn (n:Nat) (f:Nat→Int):(Zs n f).length=n:=by simp[Zs]
theorem ZG (n:Nat) (f:Nat→Int) {i:Nat} (h:i<n):(Zs n f)[i]? =some (.int .u8 (f i)):=by simp[Zs,h]
def Uc (n:Nat) (f h:Nat→Int) (i:Nat):Int:=if i<n then f i else h (i - n)
theorem Wm (n m:Nat) (f h:Nat→Int):Zs n f++Zs m h=Zs (n+m) (Uc n f h):=by
 apply List.ext_getElem?
 intro i
 rcases Nat.lt_or_ge i n with h1|h1
 ·rw[List.getElem?_append_left (by rw[Zn]; omega),ZG n f h1,ZG _ _ (by omega)]
  simp[Uc,h1]
 ·rw[List.getElem?_append_right (by rw[Zn]; omega),Zn]
  rcases Nat.lt_or_ge (i - n) m with h2|h2
  ·rw[ZG m h h2,ZG _ _ (by omega)]
   simp[Uc,show ¬ i<n by omega]
  ·rw[List.getElem?_eq_none (by rw[Zn]; omega),List.getElem?_eq_none (by rw[Zn]; omega)]
theorem Zcz {n:Nat} {f h:Nat→Int} (hf:Zq f) (hh:Zq h):Zq (Uc n f h):=by
 intro i; unfold Uc; split
 ·exact hf i
 ·exact hh _
theorem Zdv (n:Nat) (f:Nat→Int): ∀ u∈Zs n f,u.oneCell'=true:=by
 intro u hu
 obtain⟨i,_,rfl⟩:=List.mem_map.1 hu
 rfl
theorem Wn {w:World} {A:Option Addr} {m c:Nat} {f:Nat→Int} (h:SlB w A m f):Src Tryz.prog 1 25 (.slice A m c) m (Zs m f) w:=by
 rcases A with _|x
 ·rcases h with rfl|⟨b,off,hA,_⟩
  ·exact Src.ofNil w Tryz.underlying25 c
  ·cases hA
 ·refine Src.ofSlice w Tryz.underlying25 x m c (Zs m f) (by rw[Zn,Nat.mul_one]) (fun j u hu=> ?_) (Zdv m f)
  rcases h with rfl|⟨b,off,hA,_,hr⟩
  ·simp[Zs] at hu
  ·injection hA with hA
   subst hA
   have hj:j<m:=by
    rcases Nat.lt_or_ge j m with hj|hj
    ·exact hj
    ·rw[List.getElem?_eq_none (by rw[Zn]; omega)] at hu; cases hu
   rw[ZG m f hj] at hu
   injection hu with hu
   subst hu
   have hadd:(⟨b,off,none⟩:Addr).add j=⟨b,off+j,none⟩:=by unfold Addr.add; split <;> simp_all
   rw[hadd]
   exact hr j hj
theorem Zfn {w:World} (s:ByteArray):Src Tryz.prog 1 9 (.string s) s.size (Zs s.size (PlainAid.bt s)) w:=by
 have h:=Src.ofString (P:=Tryz.prog) w Tryz.underlying9 s
 have e:byteCells s=Zs s.size (PlainAid.bt s):=by
  apply List.ext_getElem?
  intro i
  rcases Nat.lt_or_ge i s.size with hi|hi
  ·rw[ZG _ _ hi]
   have hi':i<s.data.size:=hi
   simp only[byteCells,List.getElem?_map,Array.getElem?_toList,Array.getElem?_eq_getElem hi',Option.map_some]
   unfold PlainAid.bt
   rw[dif_pos hi]
   rfl
  ·rw[List.getElem?_eq_none (by rw[byteCells_length]; omega),List.getElem?_eq_none (by rw[Zn]; omega)]
 rw[e] at h
 exact h
theorem WA (s:ByteArray):Zq (PlainAid.bt s):=fun i=>⟨PlainAid.bt_nonneg s i,PlainAid.bt_le s i⟩
def Zbj (w:World) (base:Nat) (v:Value) (n:Nat) (f:Nat→Int):Prop:=w.ownsRow base 5 1 v n (Zs n f)
theorem Zho (w:World) (base:Nat) (f:Nat→Int):Zbj w base (.slice none 0 0) 0 f:=World.ownsRow_nil w base _ 1
theorem Zbj.own {w:World} {base g n cap:Nat} {f:Nat→Int} (h:Zbj w base (.slice (some ⟨g,0,none⟩) n cap) n f) (hn:0<n):base≤g∧g<w.heap.size∧n≤cap∧cap≤maxLen∧Own w g n (fun i=> .int .u8 (f i)):=by
 obtain⟨g',hA,hb,hown⟩:=Own.of_own (f:=fun i=> .int .u8 (f i)) h hn (fun i hi=>ZG n f hi)
 injection hA with hA
 injection hA with hA
 subst hA
 rcases h.2 with⟨h0,h1⟩|⟨g',cap',cur,hv,_,_,h1,h2,_⟩
 ·omega
 ·injection hv with _ _ hv
  subst hv
  exact⟨hb,hown.1,h1,h2,hown⟩
theorem Zbk {w:World} {ops:Array Oper} {rest:List Oper} {o:Oper} {a:Act} {Q:Exit→Act→World→Prop} (hgd:o.guard=none) (s x:Operand) (tx:TypeId)
 (ho:o.op= .call { callee:= .builtin .append,args:= #[s,x],argTypes:= #[25,tx] })
 (base:Nat) (v:Value) (n:Nat) (f:Nat→Int) (hv:a.eval s=v) (hown:Zbj w base v n f) (X:Value) (hX:a.eval x=X) (m:Nat) (h:Nat→Int) (hs:Src Tryz.prog 1 tx X m (Zs m h) w)
 (h63:n+m≤140737488355328) (hbase:base≤w.heap.size)
 (hK: ∀ v' w',Zbj w' base v' (n+m) (Uc n f h)→w.grownBy w' v.ownBlock→(v'.ownBlock=v.ownBlock∨v'.ownBlock=some w.heap.size)→wpList Tryz.prog ops Q rest (a.put o.dst v') w') :
 wpList Tryz.prog ops Q (o::rest) a w:=by
 obtain⟨i0,hi,hz0,hz1,hz2⟩:=info_parts Wl
 refine Jk w hgd s x 25 tx ho base 5 i0 (.int .u8 0) 1 Tryz.underlying25 hi hz0 hz1 hz2 rfl v n (Zs n f) hv hown X hX m (Zs m h) hs (by unfold maxLen; omega) (by omega) hbase ?_
 intro v' w' hown' hg _ hat
 rw[Wm] at hown'
 exact hK v' w' hown' hg hat
theorem Zbj.slice {w:World} {base n cap:Nat} {A:Option Addr} {f:Nat→Int} (h:Zbj w base (.slice A n cap) n f) :
 n≤cap∧cap≤maxLen∧(n=0∨ ∃ g,A=some ⟨g,0,none⟩∧base≤g∧Own w g n (fun i=> .int .u8 (f i))):=by
 rcases Nat.eq_zero_or_pos n with h0|h0
 ·subst h0
  rcases h.2 with⟨h1,_⟩|⟨g,cap',_,h1,_,_,h2,h3,_⟩
  ·injection h1 with _ _ h1; subst h1; exact⟨by omega,by omega,.inl rfl⟩
  ·injection h1 with _ _ h1; subst h1; exact⟨h2,h3,.inl rfl⟩
 ·obtain⟨g,hA,hb,hown⟩:=Own.of_own (f:=fun i=> .int .u8 (f i)) h h0 (fun i hi=>ZG n f hi)
  subst hA
  obtain⟨_,_,h2,h3,_⟩:=h.own h0
  exact⟨h2,h3,.inr ⟨g,rfl,hb,hown⟩⟩
theorem Zbj.below {w w':World} {base:Nat} {v:Value} {n:Nat} {f:Nat→Int} (h:Zbj w base v n f) (hb:Below w.heap.size w w'):Zbj w' base v n f :=
 World.ownsRow.kept h (row:=none) ⟨hb.os,hb.tape,hb.output,hb.size,fun i hi _=>hb.block i hi⟩ (by
  cases hv:v.ownBlock with
  | none=>exact .inl rfl
  | some k=>exact .inr (by simp))
theorem ZH {f f':Nat→Int} {o o' n:Nat} (h: ∀ i,i<n→f (o+i)=f' (o'+i)):ZB f o n=ZB f' o' n:=by
 unfold ZB
 congr 1
 apply List.map_congr_left
 intro i hi
 exact h i (List.mem_range.1 hi)
theorem Row.below {w w':World} {B b off len:Nat} {f:Nat→Int} (h:Row w b off len f) (hb:Below B w w') (hB:b<B):Row w' b off len f:=fun i hi=>(hb.cell (p:=⟨b,off+i,none⟩) hB).trans (h i hi)
def Xm (f:Nat→Int) (o:Nat) (v:Int) (k:Nat) (j:Nat):Int:=if o≤j∧j<o+k then Yf v (j - o) else f j
theorem UW (v:Int) (i:Nat):0≤Yf v i∧Yf v i≤255:=by unfold Yf; omega
theorem Zjj {f:Nat→Int} (hf:Zq f) (o:Nat) (v:Int) (k:Nat):Zq (Xm f o v k):=by
 intro i; unfold Xm; split
 ·exact UW _ _
 ·exact hf i
theorem Zjk (f:Nat→Int) (v:Int) (k:Nat): ∀(n o d:Nat),d+n≤k→rdF (Xm f o v k) (o+d) n=v / 2 ^ (8 * d) % 256 ^ n:=by
 intro n
 induction n with
 | zero=>intro o d _; simp[rdF]
 | succ n ih =>
   intro o d h
   simp only[rdF]
   rw[show o+d+1=o+(d+1) from by omega,ih o (d+1) (by omega)]
   have e1:Xm f o v k (o+d)=v / 2 ^ (8 * d) % 256:=by
    unfold Xm Yf; rw[if_pos (by omega)]; congr 2; congr 2; omega
   rw[e1,show 8 * (d+1)=8 * d+8 from by omega,Int.pow_add,←Int.ediv_ediv_of_nonneg (by exact Int.pow_nonneg (by omega))]
   generalize v / 2 ^ (8 * d)=q
   have hp:(0:Int)<256 ^ n:=Int.pow_pos (by omega)
   rw[Int.pow_succ 256 n,show(2:Int) ^ 8=256 from rfl]
   generalize (256:Int) ^ n=P at *
   have h1:=Int.emod_add_mul_ediv q 256
   have h2:=Int.emod_add_mul_ediv (q / 256) P
   have hr0:=Int.emod_nonneg (q / 256) (show P≠0 by omega)
   have hr1:=Int.emod_lt_of_pos (q / 256) hp
   have hq0:=Int.emod_nonneg q (show(256:Int)≠0 by omega)
   have hq1:=Int.emod_lt_of_pos q (show(0:Int)<256 by omega)
   have key:q=(q % 256+256 * (q / 256 % P))+(P * 256) * (q / 256 / P):=by
    have e:P * 256 * (q / 256 / P)=256 * (P * (q / 256 / P)):=by rw[Int.mul_comm P 256,Int.mul_assoc]
    rw[e]; omega
   conv=>rhs; rw[key]
   rw[Int.add_mul_emod_self_left]
   exact(Int.emod_eq_of_lt (by omega) (by omega)).symm
def Zfo (w W:World):Prop:=w.heap.size≤W.heap.size∧ ∀ p:Addr,p.block<w.heap.size→W.cell? p=w.cell? p
theorem Zfo.drew (w:World):Zfo w w.drew:=⟨Nat.le_refl _,fun _ _=>rfl⟩
theorem Zfo.below {w W W':World} (h:Zfo w W) (hb:Below W.heap.size W W'):Zfo w W':=⟨Nat.le_trans h.1 hb.size,fun p hp=>(hb.cell (Nat.lt_of_lt_of_le hp h.1)).trans (h.2 p hp)⟩
theorem UX (s:ByteArray):ZB (PlainAid.bt s) 0 s.size=s:=by
 apply ByteArray.ext
 apply Array.toList_inj.1
 unfold ZB
 rw[strOfNums_data,List.map_map]
 apply List.ext_getElem?
 intro i
 rcases Nat.lt_or_ge i s.size with hi|hi
 ·have hi':i<s.data.size:=hi
  simp only[List.getElem?_map,List.getElem?_range hi,Option.map_some,Function.comp_apply,Nat.zero_add,Array.getElem?_toList,Array.getElem?_eq_getElem hi']
  unfold PlainAid.bt
  rw[dif_pos hi]
  simp
  rfl
 ·rw[List.getElem?_eq_none (by simpa using hi),List.getElem?_eq_none (by simpa using hi)]
theorem YF (s:ByteArray) (o n:Nat) (h:o+n≤s.size):s.extract o (o+n)=ZB (PlainAid.bt s) o n:=by
 apply ByteArray.ext
 apply Array.toList_inj.1
 unfold ZB
 rw[strOfNums_data,List.map_map]
 apply List.ext_getElem?
 intro i
 have hd:(s.extract o (o+n)).data=s.data.extract o (o+n):=by simp
 rw[hd,Array.getElem?_toList,Array.getElem?_extract]
 rcases Nat.lt_or_ge i n with hi|hi
 ·have hi':o+i<s.data.size:=by have:s.size=s.data.size:=rfl; omega
  rw[if_pos (by have:s.size=s.data.size:=rfl; omega)]
  simp only[List.getElem?_map,List.getElem?_range hi,Option.map_some,Function.comp_apply,Array.getElem?_eq_getElem hi']
  unfold PlainAid.bt
  rw[dif_pos (show o+i<s.size from hi')]
  simp
  rfl
 ·rw[if_neg (by have:s.size=s.data.size:=rfl; omega),List.getElem?_eq_none (by simpa using hi)]
theorem Zhp (f:Nat→Int) (o k:Nat):rdF f o (k+1)=rdF f o k+256 ^ k * f (o+k):=by
 rw[Zjn]; simp[rdF]
theorem Xi {f f':Nat→Int} (n:Nat): ∀ o,(∀ i,i<n→f (o+i)=f' (o+i))→rdF f o n=rdF f' o n:=by
 induction n with
 | zero=>intro o _; rfl
 | succ n ih =>
   intro o h
   simp only[rdF]
   rw[ih (o+1) (fun i hi=>by have:=h (i+1) (by omega); rw[show o+(i+1)=o+1+i by omega] at this; exact this)]
   have:=h 0 (by omega)
   rw[Nat.add_zero] at this
   rw[this]
theorem XQ {f:Nat→Int} (hb:Zq f) {o n i:Nat} (h:i<n):PlainAid.bt (ZB f o n) i=f (o+i):=by
 have h5:=hb (o+i)
 unfold PlainAid.bt
 rw[dif_pos (by rw[Zt]; exact h)]
 have e:(ZB f o n)[i]'(by rw[Zt]; exact h)=UInt8.ofNat (f (o+i)).toNat:=by
  show(ZB f o n).data[i]'_=_
  simp[ZB,strOfNums]
 rw[e]
 simp
 omega
theorem WX (f:Nat→Int) (o n m:Nat):ZB f o n++ZB f (o+n) m=ZB f o (n+m):=by
 apply ByteArray.ext
 apply Array.toList_inj.1
 have h:(ZB f o n++ZB f (o+n) m).data=(ZB f o n).data++(ZB f (o+n) m).data:=by simp
 rw[h,Array.toList_append]
 unfold ZB
 rw[strOfNums_data,strOfNums_data,strOfNums_data,←List.map_append]
 congr 1
 rw[List.range_add,List.map_append,List.map_map]
 congr 1
 apply List.map_congr_left
 intro i _
 simp[Nat.add_assoc]
theorem belD {B:Nat} {w wr:World} (h:Below B w wr) (n:Nat):Below B w (wr.drewN n):=⟨h.os,h.tape,h.output,h.size,h.block⟩
theorem Zfp (A:Option Addr) (len cap:Nat) (a n:Int) (b:Bool) (w:World) (hl:len≤9223372036854775807) (n1: -9223372036854775808≤n) (n2:n≤9223372036854775807) (hb:b=true↔(0≤a∧0≤n∧a≤len - n)) :
 Calls Tryz.prog 113 #[.slice A len cap,.int .i64 a,.int .i64 n] w fun e w'=>e= .returned (.bool b)∧w=w':=by
 by_cases c1:0≤a
 ·by_cases c2:0≤n
  ·by_cases c3:a≤len - n
   ·have hbt:b=true:=hb.2 ⟨c1,c2,c3⟩
    subst hbt
    have c4:decide (a≤(len:Int) - n)=true:=decide_eq_true c3
    clear hb
    go_enter Tryz.func113,Tryz.ntmps113
    go_wp2
    go_ret
    exact⟨rfl,rfl⟩
   ·have hbt:b=false:=by cases b with
     | false=>rfl
     | true=>exact absurd (hb.1 rfl).2.2 c3
    subst hbt
    have c4:decide (a≤(len:Int) - n)=false:=decide_eq_false c3
    clear hb c3
    go_enter Tryz.func113,Tryz.ntmps113
    go_wp2
    go_ret
    exact⟨rfl,rfl⟩
  ·have hbt:b=false:=by cases b with
    | false=>rfl
    | true=>exact absurd (hb.1 rfl).2.1 c2
   subst hbt
   clear hb
   go_enter Tryz.func113,Tryz.ntmps113
   go_wp2
   go_ret
   exact⟨rfl,rfl⟩
 ·have hbt:b=false:=by cases b with
   | false=>rfl
   | true=>exact absurd (hb.1 rfl).1 c1
  subst hbt
  clear hb
  go_enter Tryz.func113,Tryz.ntmps113
  go_wp2
  go_ret
  exact⟨rfl,rfl⟩
def ZN (n t:Int):Int:=if n<1 then 0 else((min n 1099511627776 - 1) / max t 1+1) * max t 1
theorem Zaa (n t:Int) (ht:t≤9223372036854775807):0≤ZN n t∧ZN n t≤9223372036854775807:=by
 unfold ZN
 split
 ·omega
 ·obtain⟨m,hm⟩: ∃ m,min n 1099511627776=m:=⟨_,rfl⟩
  obtain⟨d,hd⟩: ∃ d,max t 1=d:=⟨_,rfl⟩
  rw[hm,hd]
  have h1:1≤m:=by omega
  have h2:m≤1099511627776:=by omega
  have d1:1≤d:=by omega
  have d2:d≤9223372036854775807:=by omega
  have e:(m - 1) / d * d≤m - 1:=Int.ediv_mul_le _ (by omega)
  have e0:0≤(m - 1) / d:=Int.ediv_nonneg (by omega) (by omega)
  have e00:0≤(m - 1) / d * d:=Int.mul_nonneg e0 (by omega)
  rw[Int.add_mul,Int.one_mul]
  by_cases c:m - 1<d
  ·rw[Int.ediv_eq_zero_of_lt (by omega) c]; omega
  ·omega
theorem Zab (n t:Int) (w:World) (h0: -9223372036854775808≤n) (h1:n≤9223372036854775807) (t0: -9223372036854775808≤t) (t1:t≤9223372036854775807) :
 Calls Tryz.prog 106 #[.int .i64 n,.int .i64 t] w fun e w'=>e= .returned (.int .i64 (ZN n t))∧w=w':=by
 have hb:=Zaa n t t1
 unfold ZN at hb ⊢
 by_cases c:n<1
 ·rw[if_pos c]
  go_enter Tryz.func106,Tryz.ntmps106
  go_wp2
  go_ret
  exact⟨rfl,rfl⟩
 ·rw[if_neg c] at hb ⊢
  obtain⟨m,hm⟩: ∃ m,min n 1099511627776=m:=⟨_,rfl⟩
  obtain⟨d,hd⟩: ∃ d,max t 1=d:=⟨_,rfl⟩
  rw[hm,hd] at hb ⊢
  have h1:1≤m:=by omega
  have h2:m≤1099511627776:=by omega
  have d1:1≤d:=by omega
  have d2:d≤9223372036854775807:=by omega
  obtain⟨q,hq⟩: ∃ q,(m - 1) / d=q:=⟨_,rfl⟩
  have hqt:Int.tdiv (m - 1) d=q:=by rw[←hq]; exact Int.tdiv_eq_ediv_of_nonneg (by omega)
  have q0:0≤q:=by rw[←hq]; exact Int.ediv_nonneg (by omega) (by omega)
  have q1:q≤1099511627776:=by rw[←hq]; exact Int.le_trans (Int.ediv_le_self _ (by omega)) (by omega)
  rw[hq] at hb ⊢
  obtain⟨r,hr⟩: ∃ r,(q+1) * d=r:=⟨_,rfl⟩
  rw[hr] at hb ⊢
  have hw:wrap64 r=r:=by unfold wrap64; omega
  obtain⟨b0,b1⟩:=hb
  have hw1:wrap64 (q+1)=q+1:=by unfold wrap64; omega
  have hc:(n≤1099511627776∧m=n)∨(1099511627776<n∧m=1099511627776):=by omega
  have hcd:(1≤t∧d=t)∨(t<1∧d=1):=by omega
  rcases hc with⟨n1,rfl⟩|⟨n1,rfl⟩ <;> rcases hcd with⟨n2,rfl⟩|⟨n2,rfl⟩
  all_goals
   clear hm hd hqt
   try simp only[show(1099511627776 - 1:Int)=1099511627775 from rfl] at hq
   go_enter Tryz.func106,Tryz.ntmps106
   go_wp2
   go_ret
   first
   | exact⟨rfl,rfl⟩
   | exact⟨congrArg _ (congrArg (Value.int .i64) (by omega)),rfl⟩
theorem Zjl {m d:Int} (h1:1≤m) (hd:1≤d):((m - 1) / d+1) * d=if m % d=0 then m else m - m % d+d:=by
 have e:=Int.mul_ediv_add_emod m d
 have m0:=Int.emod_nonneg m (show d≠0 by omega)
 have m1:=Int.emod_lt_of_pos m (show 0<d by omega)
 obtain⟨q,hq⟩: ∃ q,m / d=q:=⟨_,rfl⟩
 obtain⟨r,hr⟩: ∃ r,m % d=r:=⟨_,rfl⟩
 rw[hq,hr] at e
 rw[hr] at m0 m1 ⊢
 by_cases c:r=0
 ·rw[if_pos c]
  have hx:(m - 1) / d=q - 1:=by
   rw[show m - 1=(d - 1)+d * (q - 1) by rw[Int.mul_sub,Int.mul_one]; omega,Int.add_mul_ediv_left _ _ (by omega),Int.ediv_eq_zero_of_lt (by omega) (by omega)]
   omega
  rw[hx,Int.sub_add_cancel,Int.mul_comm]
  omega
 ·rw[if_neg c]
  have hx:(m - 1) / d=q:=by
   rw[show m - 1=(r - 1)+d * q by omega,Int.add_mul_ediv_left _ _ (by omega),Int.ediv_eq_zero_of_lt (by omega) (by omega)]
   omega
  rw[hx,Int.add_mul,Int.one_mul,Int.mul_comm]
  omega
theorem Ud (n t:Int) (w:World) (h0: -9223372036854775808≤n) (h1:n≤9223372036854775807) (t0: -9223372036854775808≤t) (t1:t≤9223372036854775807) :
 Calls Tryz.prog 71 #[.int .i64 n,.int .i64 t] w fun e w'=>e= .returned (.int .i64 (ZN n t))∧w=w':=by
 have hb:=Zaa n t t1
 unfold ZN at hb ⊢
 by_cases c:n<1
 ·rw[if_pos c]
  go_enter Tryz.func71,Tryz.ntmps71
  go_wp2
  go_ret
  exact⟨rfl,rfl⟩
 ·rw[if_neg c] at hb ⊢
  rw[Zjl (by omega) (by omega)] at hb ⊢
  obtain⟨m,hm⟩: ∃ m,min n 1099511627776=m:=⟨_,rfl⟩
  obtain⟨d,hd⟩: ∃ d,max t 1=d:=⟨_,rfl⟩
  rw[hm,hd] at hb ⊢
  have h1:1≤m:=by omega
  have h2:m≤1099511627776:=by omega
  have d1:1≤d:=by omega
  have d2:d≤9223372036854775807:=by omega
  have m0:=Int.emod_nonneg m (show d≠0 by omega)
  have m1:=Int.emod_lt_of_pos m (show 0<d by omega)
  have m2:m % d≤m:=by
   have e:=Int.mul_ediv_add_emod m d
   have e2:=Int.mul_nonneg (show 0≤d by omega) (Int.ediv_nonneg (show 0≤m by omega) (show 0≤d by omega))
   omega
  have hmt:Int.tmod m d=m % d:=Int.tmod_eq_emod_of_nonneg (by omega)
  have hc:(n≤1099511627776∧m=n)∨(1099511627776<n∧m=1099511627776):=by omega
  have hcd:(1≤t∧d=t)∨(t<1∧d=1):=by omega
  obtain⟨r,hr⟩: ∃ r,m % d=r:=⟨_,rfl⟩
  rw[hr] at m0 m1 m2 hb hmt ⊢
  by_cases c0:r=0
  ·have e0:(r == 0)=true:=by simp[c0]
   rw[if_pos c0]
   rcases hc with⟨n1,rfl⟩|⟨n1,rfl⟩ <;> rcases hcd with⟨n2,rfl⟩|⟨n2,rfl⟩
   all_goals
    clear hm hd hb c0
    go_enter Tryz.func71,Tryz.ntmps71
    go_wp2
    go_ret
    exact⟨rfl,rfl⟩
  ·have e0:(r == 0)=false:=by simpa using c0
   rw[if_neg c0] at hb ⊢
   rcases hc with⟨n1,rfl⟩|⟨n1,rfl⟩ <;> rcases hcd with⟨n2,rfl⟩|⟨n2,rfl⟩
   all_goals
    first
    | (exfalso; omega)
    | (clear hm hd c0
       go_enter Tryz.func71,Tryz.ntmps71
       go_wp2
       go_ret
       exact⟨rfl,rfl⟩)
end Go.Proofs.YtplgdpjbkdagfaaGreat
