import Derived.Test.YtplgdpjbkdagfaaGreatZMem
import Derived.Lib.SmallJoins
import Derived.Laws.BitsAllLaws
import Derived.Laws.BitsLemmas
import Derived.IntWalk
import Derived.Test.YtplgdpjbkdagfaaGreatApp
import Derived.PlainAid
import Derived.Deep.QuietTactic
import Derived.BigQuiet
namespace Go.Proofs.YtplgdpjbkdagfaaGreat
open Lib renaming hid→Zg
set_option maxRecDepth 100000
open Go.ChangeShapes Go.WideShapes Go.ChangeAt Go.RowKit
open Go.ChangeMaps (open_string shut_string)
set_option linter.unusedVariables false
set_option linter.unusedSimpArgs false
def Vo (l:List Int) (i:Nat):Int:=l.getD i 0
theorem Zig {w:World} {g:Nat} {t:TypeId} {fr:Nat × Nat} (l:List Int) (hg:g=w.heap.size):Row (w.alloc (.cells (l.map (Value.int .u8)).toArray t fr)) g 0 l.length (Vo l):=by
 intro i hi;subst hg;rw[Nat.zero_add,World.cell?_alloc_mark];simp[hi,Vo]
theorem Zdr {w:World} {g n:Nat} {f:Nat->Value} {f':Nat->Int} (h:Own w g n f) (e: ∀ i,i<n->f i= .int .u8 (f' i)):Row w g 0 n f':=by
 intro i hi;rw[Nat.zero_add,h.cell hi,e i hi]
end Go.Proofs.YtplgdpjbkdagfaaGreat
namespace Go.Proofs.YtplgdpjbkdagfaaGreat
open Lib renaming hid→Zg
set_option maxRecDepth 100000
open Go.RowKit
set_option linter.unusedVariables false
set_option linter.unusedSimpArgs false
theorem XI (n:Int) (k:Nat) (hk:k<63):bits .and .i64 n (2 ^ k - 1:Nat)=n % (2 ^ k:Nat):=by
 show IntKind.i64.wrap ((BitVec.ofInt 64 n &&& BitVec.ofInt 64 ((2 ^ k - 1:Nat):Int)).toNat:Int)=_
 have hp:2 ^ k<2 ^ 63:=Nat.pow_lt_pow_right (by omega) hk;have G7:0<2 ^ k:=Nat.pow_pos (by omega);rw[BitVec.toNat_and];have e1:(BitVec.ofInt 64 ((2 ^ k - 1:Nat):Int)).toNat=2 ^ k - 1:=by
  rw[BitVec.ofInt_natCast,BitVec.toNat_ofNat]; exact Nat.mod_eq_of_lt (by omega)
 rw[e1,Nat.and_two_pow_sub_one_eq_mod,BitVec.toNat_ofInt];have e2:((n % ((2 ^ 64:Nat):Int)).toNat:Int)=n % ((2 ^ 64:Nat):Int):=Int.toNat_of_nonneg (Int.emod_nonneg _ (by omega));have e3:(((n % ((2 ^ 64:Nat):Int)).toNat % 2 ^ k:Nat):Int)=n % ((2 ^ k:Nat):Int):=by
  rw[Int.natCast_emod,e2];exact Int.emod_emod_of_dvd n (Int.natCast_dvd_natCast.2 (Nat.pow_dvd_pow 2 (by omega)))
 rw[e3,IntKind.wrap_i64];have h1:=Int.emod_nonneg n (show((2 ^ k:Nat):Int)≠0 by omega);have h2:=Int.emod_lt_of_pos n (show(0:Int)<((2 ^ k:Nat):Int) by omega);generalize n % ((2 ^ k:Nat):Int)=r at *;omega
theorem Dt (n:Int):bits .and .i64 n 65535=n % 65536:=XI n 16 (by omega)
theorem and_7 (n:Int):bits .and .i64 n 7=n % 8:=XI n 3 (by omega)
end Go.Proofs.YtplgdpjbkdagfaaGreat
namespace Go.Proofs.YtplgdpjbkdagfaaGreat
open Lib renaming hid→Zg
set_option maxRecDepth 100000
open Go.ChangeShapes Go.WideShapes Go.ChangeAt Go.RowKit
set_option linter.unusedVariables false
set_option linter.unusedSimpArgs false
def SlB (w:World) (A:Option Addr) (n:Nat) (f:Nat->Int):Prop:=n=0\/ ∃ b off,A=some ⟨b,off,none⟩/\b<w.heap.size/\Row w b off n f
theorem SlB.below {w w':World} {A:Option Addr} {n:Nat} {f:Nat->Int} (h:SlB w A n f) (hb:Below w.heap.size w w'):SlB w' A n f:=by
 rcases h with h|⟨b,off,hA,af,hr⟩
 ·exact .inl h
 ·exact .inr ⟨b,off,hA,Nat.lt_of_lt_of_le af hb.size,fun i hi=>(hb.cell (p:=⟨b,off+i,none⟩) af).trans (hr i hi)⟩
theorem Js {w:World} {b o:Nat} {v:Value} (h:w.cell? ⟨b,o,none⟩=some v):b<w.heap.size:=by
 rcases Nat.lt_or_ge b w.heap.size with af|gK
 ·exact af
 ·simp[World.cell?,Array.getElem?_eq_none gK] at h
theorem wf_u8 {n:Int} (h:(Lit.int .u8 n).wf=true):0<=n/\n<=255:=by
 have:=bounds_u8 h;omega
theorem sl_of {w:World} {a:Option Addr} {len cap:Nat} {zs:List Int} (h:(a=none/\len=0/\cap=0/\zs=[]) \/
 ∃ x,a=some x/\len<=cap/\cap<=maxLen/\zs.length=cap/\(∀ i,i<zs.length->w.cell? (x.add i)=some (.int .u8 (zs.getD i 0)))/\ ∀ n∈zs,(Lit.int .u8 n).wf=true) :
 len<=cap/\cap<=9223372036854775807/\Zm (Vo zs)/\SlB w a len (Vo zs):=by
 have tB:(∀ n∈zs,(Lit.int .u8 n).wf=true)->Zm (Vo zs):=by
  intro hw i;unfold Vo;rcases Nat.lt_or_ge i zs.length with hi|hi
  ·have:=wf_u8 (hw zs[i] (List.getElem_mem hi));simpa [List.getD,List.getElem?_eq_getElem hi] using this
  ·simp[List.getD,List.getElem?_eq_none hi]
 rcases h with⟨rfl,rfl,rfl,rfl⟩|⟨x,rfl,hl,hm,hz,bj,De⟩
 ·exact⟨by omega,by omega,tB (by simp),.inl rfl⟩
 ·refine⟨hl,by unfold maxLen at hm; omega,tB De,?_⟩;rcases Nat.eq_zero_or_pos len with h0|h0
  ·exact .inl h0
  ·obtain⟨b,off,spot⟩:=x;have hc:=bj 0 (by omega);have fR:spot=none:=by simpa [Addr.add] using World.cell?_spot hc
   subst fR;have cJ: ∀ i,(⟨b,off,none⟩:Addr).add i=⟨b,off+i,none⟩:=fun i=>by unfold Addr.add; split <;> simp_all
   refine .inr ⟨b,off,rfl,?_,fun i hi=> ?_⟩
   ·rw[cJ] at hc; exact Js hc
   ·have:=bj i (by omega);rw[cJ] at this;exact this
def Zs (n:Nat) (f:Nat->Int):List Value:=(List.range n).map fun i=> .int .u8 (f i)
theorem Zn (n:Nat) (f:Nat->Int):(Zs n f).length=n:=by simp[Zs]
theorem ZN (n:Nat) (f:Nat->Int) {i:Nat} (h:i<n):(Zs n f)[i]? =some (.int .u8 (f i)):=by simp[Zs,h]
def VQ (n:Nat) (f h:Nat->Int) (i:Nat):Int:=if i<n then f i else h (i - n)
theorem Wo (n m:Nat) (f h:Nat->Int):Zs n f++Zs m h=Zs (n+m) (VQ n f h):=by
 apply List.ext_getElem?;intro i;rcases Nat.lt_or_ge i n with h1|h1
 ·rw[List.getElem?_append_left (by rw[Zn]; omega),ZN n f h1,ZN _ _ (by omega)];simp[VQ,h1]
 ·rw[List.getElem?_append_right (by rw[Zn]; omega),Zn];rcases Nat.lt_or_ge (i - n) m with h2|h2
  ·rw[ZN m h h2,ZN _ _ (by omega)];simp[VQ,show ¬ i<n by omega]
  ·rw[List.getElem?_eq_none (by rw[Zn]; omega),List.getElem?_eq_none (by rw[Zn]; omega)]
theorem Ze5 {n:Nat} {f h:Nat->Int} (hf:Zm f) (hh:Zm h):Zm (VQ n f h):=by
 intro i; unfold VQ; split
 ·exact hf i
 ·exact hh _
theorem Zgl (n:Nat) (f:Nat->Int): ∀ u∈Zs n f,u.oneCell'=true:=by
 intro u hu;obtain⟨i,_,rfl⟩:=List.mem_map.1 hu;rfl
theorem Wp {w:World} {A:Option Addr} {m c:Nat} {f:Nat->Int} (h:SlB w A m f):Src Tryz.prog 1 25 (.slice A m c) m (Zs m f) w:=by
 rcases A with _|x
 ·rcases h with rfl|⟨b,off,hA,_⟩
  ·exact Src.ofNil w Tryz.underlying25 c
  ·cases hA
 ·refine Src.ofSlice w Tryz.underlying25 x m c (Zs m f) (by rw[Zn,Nat.mul_one]) (fun j u hu=> ?_) (Zgl m f);rcases h with rfl|⟨b,off,hA,_,hr⟩
  ·simp[Zs] at hu
  ·injection hA with hA;subst hA;have hj:j<m:=by
    rcases Nat.lt_or_ge j m with hj|hj
    ·exact hj
    ·rw[List.getElem?_eq_none (by rw[Zn]; omega)] at hu; cases hu
   rw[ZN m f hj] at hu;injection hu with hu;subst hu;have cJ:(⟨b,off,none⟩:Addr).add j=⟨b,off+j,none⟩:=by unfold Addr.add; split <;> simp_all
   rw[cJ];exact hr j hj
theorem Zih {w:World} (s:ByteArray):Src Tryz.prog 1 9 (.string s) s.size (Zs s.size (PlainAid.bt s)) w:=by
 have h:=Src.ofString (P:=Tryz.prog) w Tryz.underlying9 s;have e:byteCells s=Zs s.size (PlainAid.bt s):=by
  apply List.ext_getElem?;intro i;rcases Nat.lt_or_ge i s.size with hi|hi
  ·rw[ZN _ _ hi];have ef:i<s.data.size:=hi;simp only[byteCells,List.getElem?_map,Array.getElem?_toList,Array.getElem?_eq_getElem ef,Option.map_some];unfold PlainAid.bt;rw[dif_pos hi];rfl
  ·rw[List.getElem?_eq_none (by rw[byteCells_length]; omega),List.getElem?_eq_none (by rw[Zn]; omega)]
 rw[e] at h;exact h
theorem Xx (s:ByteArray):Zm (PlainAid.bt s):=fun i=>⟨PlainAid.bt_nonneg s i,PlainAid.bt_le s i⟩
def Zds (w:World) (base:Nat) (v:Value) (n:Nat) (f:Nat->Int):Prop:=w.ownsRow base 5 1 v n (Zs n f)
theorem Zlg (w:World) (base:Nat) (f:Nat->Int):Zds w base (.slice none 0 0) 0 f:=World.ownsRow_nil w base _ 1
theorem Zds.own {w:World} {base g n cap:Nat} {f:Nat->Int} (h:Zds w base (.slice (some ⟨g,0,none⟩) n cap) n f) (hn:0<n):base<=g/\g<w.heap.size/\n<=cap/\cap<=maxLen/\Own w g n (fun i=> .int .u8 (f i)):=by
 obtain⟨g',hA,hb,ae⟩:=Own.of_own (f:=fun i=> .int .u8 (f i)) h hn (fun i hi=>ZN n f hi);injection hA with hA;injection hA with hA;subst hA;rcases h.2 with⟨h0,h1⟩|⟨g',aA,cur,hv,_,_,h1,h2,_⟩
 ·omega
 ·injection hv with _ _ hv;subst hv;exact⟨hb,ae.1,h1,h2,ae⟩
theorem Zdt {w:World} {ops:Array Oper} {rest:List Oper} {o:Oper} {a:Act} {Q:Exit->Act->World->Prop} (eu:o.guard=none) (s x:Operand) (tx:TypeId)
 (ho:o.op= .call { callee:= .builtin .append,args:= #[s,x],argTypes:= #[25,tx] })
 (base:Nat) (v:Value) (n:Nat) (f:Nat->Int) (hv:a.eval s=v) (ae:Zds w base v n f) (X:Value) (hX:a.eval x=X) (m:Nat) (h:Nat->Int) (hs:Src Tryz.prog 1 tx X m (Zs m h) w)
 (n9:n+m<=140737488355328) (aH:base<=w.heap.size)
 (hK: ∀ v' w',Zds w' base v' (n+m) (VQ n f h)->w.grownBy w' v.ownBlock->(v'.ownBlock=v.ownBlock\/v'.ownBlock=some w.heap.size)->wpList Tryz.prog ops Q rest (a.put o.dst v') w') :
 wpList Tryz.prog ops Q (o::rest) a w:=by
 obtain⟨i0,hi,dQ,bw,ed⟩:=info_parts Ws;refine JY w eu s x 25 tx ho base 5 i0 (.int .u8 0) 1 Tryz.underlying25 hi dQ bw ed rfl v n (Zs n f) hv ae X hX m (Zs m h) hs (by unfold maxLen; omega) (by omega) aH ?_;intro v' w' gA hg _ br;rw[Wo] at gA;exact hK v' w' gA hg br
theorem Zds.slice {w:World} {base n cap:Nat} {A:Option Addr} {f:Nat->Int} (h:Zds w base (.slice A n cap) n f) :
 n<=cap/\cap<=maxLen/\(n=0\/ ∃ g,A=some ⟨g,0,none⟩/\base<=g/\Own w g n (fun i=> .int .u8 (f i))):=by
 rcases Nat.eq_zero_or_pos n with h0|h0
 ·subst h0;rcases h.2 with⟨h1,_⟩|⟨g,aA,_,h1,_,_,h2,h3,_⟩
  ·injection h1 with _ _ h1; subst h1; exact⟨by omega,by omega,.inl rfl⟩
  ·injection h1 with _ _ h1; subst h1; exact⟨h2,h3,.inl rfl⟩
 ·obtain⟨g,hA,hb,ae⟩:=Own.of_own (f:=fun i=> .int .u8 (f i)) h h0 (fun i hi=>ZN n f hi);subst hA;obtain⟨_,_,h2,h3,_⟩:=h.own h0;exact⟨h2,h3,.inr ⟨g,rfl,hb,ae⟩⟩
theorem Zds.below {w w':World} {base:Nat} {v:Value} {n:Nat} {f:Nat->Int} (h:Zds w base v n f) (hb:Below w.heap.size w w'):Zds w' base v n f :=
 World.ownsRow.kept h (row:=none) ⟨hb.os,hb.tape,hb.output,hb.size,fun i hi _=>hb.block i hi⟩ (by
  cases hv:v.ownBlock with
  | none=>exact .inl rfl
  | some k=>exact .inr (by simp))
theorem ZA {f f':Nat->Int} {o o' n:Nat} (h: ∀ i,i<n->f (o+i)=f' (o'+i)):ZB f o n=ZB f' o' n:=by
 unfold ZB;congr 1
 apply List.map_congr_left;intro i hi;exact h i (List.mem_range.1 hi)
theorem Row.below {w w':World} {B b off len:Nat} {f:Nat->Int} (h:Row w b off len f) (hb:Below B w w') (hB:b<B):Row w' b off len f:=fun i hi=>(hb.cell (p:=⟨b,off+i,none⟩) hB).trans (h i hi)
theorem Zlh {w:World} {A:Option Addr} {cap:Nat}:(convert 25 9 (.slice A 0 cap)).run Tryz.prog w= .ok (.string ByteArray.empty) w:=by
 rcases A with _|⟨b,off,spot⟩
 ·exact run_convert_bytes_nil w 25 5 Tryz.underlying25 Tryz.underlying5 0 cap 9 Tryz.underlying9
 ·rw[run_convert_bytes_string w 25 9 5 _ 0 cap Tryz.underlying25 Tryz.underlying5 Tryz.underlying9];rw[run_bytesToString w ⟨b,off,spot⟩ 0 cap [] (by simp[loadCells,loadCellsFrom])];rfl
def Xk (f:Nat->Int) (o:Nat) (v:Int) (k:Nat) (j:Nat):Int:=if o<=j/\j<o+k then Yj v (j - o) else f j
theorem Jt (v:Int) (i:Nat):0<=Yj v i/\Yj v i<=255:=by unfold Yj; omega
theorem Znw {f:Nat->Int} (hf:Zm f) (o:Nat) (v:Int) (k:Nat):Zm (Xk f o v k):=by
 intro i; unfold Xk; split
 ·exact Jt _ _
 ·exact hf i
theorem Znx (f:Nat->Int) (v:Int) (k:Nat): ∀(n o d:Nat),d+n<=k->rdF (Xk f o v k) (o+d) n=v / 2 ^ (8 * d) % 256 ^ n:=by
 intro n;induction n with
 | zero=>intro o d _; simp[rdF]
 | succ n ih =>
   intro o d h;simp only[rdF];rw[show o+d+1=o+(d+1) from by omega,ih o (d+1) (by omega)];have e1:Xk f o v k (o+d)=v / 2 ^ (8 * d) % 256:=by
    unfold Xk Yj; rw[if_pos (by omega)]; congr 2; congr 2; omega
   rw[e1,show 8 * (d+1)=8 * d+8 from by omega,Int.pow_add,<-Int.ediv_ediv_of_nonneg (by exact Int.pow_nonneg (by omega))];generalize v / 2 ^ (8 * d)=q;have hp:(0:Int)<256 ^ n:=Int.pow_pos (by omega);rw[Int.pow_succ 256 n,show(2:Int) ^ 8=256 from rfl];generalize (256:Int) ^ n=P at *;have h1:=Int.emod_add_mul_ediv q 256;have h2:=Int.emod_add_mul_ediv (q / 256) P;have xz:=Int.emod_nonneg (q / 256) (show P≠0 by omega);have uB:=Int.emod_lt_of_pos (q / 256) hp;have mb:=Int.emod_nonneg q (show(256:Int)≠0 by omega);have dO:=Int.emod_lt_of_pos q (show(0:Int)<256 by omega);have key:q=(q % 256+256 * (q / 256 % P))+(P * 256) * (q / 256 / P):=by
    have e:P * 256 * (q / 256 / P)=256 * (P * (q / 256 / P)):=by rw[Int.mul_comm P 256,Int.mul_assoc]
    rw[e]; omega
   conv=>rhs; rw[key]
   rw[Int.add_mul_emod_self_left];exact(Int.emod_eq_of_lt (by omega) (by omega)).symm
def Zii (w W:World):Prop:=w.heap.size<=W.heap.size/\ ∀ p:Addr,p.block<w.heap.size->W.cell? p=w.cell? p
theorem Zii.drew (w:World):Zii w w.drew:=⟨Nat.le_refl _,fun _ _=>rfl⟩
theorem Zii.below {w W W':World} (h:Zii w W) (hb:Below W.heap.size W W'):Zii w W':=⟨Nat.le_trans h.1 hb.size,fun p hp=>(hb.cell (Nat.lt_of_lt_of_le hp h.1)).trans (h.2 p hp)⟩
theorem Ju (s:ByteArray):ZB (PlainAid.bt s) 0 s.size=s:=by
 apply ByteArray.ext;apply Array.toList_inj.1;unfold ZB;rw[strOfNums_data,List.map_map];apply List.ext_getElem?;intro i;rcases Nat.lt_or_ge i s.size with hi|hi
 ·have ef:i<s.data.size:=hi;simp only[List.getElem?_map,List.getElem?_range hi,Option.map_some,Function.comp_apply,Nat.zero_add,Array.getElem?_toList,Array.getElem?_eq_getElem ef];unfold PlainAid.bt;rw[dif_pos hi];simp;rfl
 ·rw[List.getElem?_eq_none (by simpa using hi),List.getElem?_eq_none (by simpa using hi)]
theorem Yq (s:ByteArray) (o n:Nat) (h:o+n<=s.size):s.extract o (o+n)=ZB (PlainAid.bt s) o n:=by
 apply ByteArray.ext;apply Array.toList_inj.1;unfold ZB;rw[strOfNums_data,List.map_map];apply List.ext_getElem?;intro i;have hd:(s.extract o (o+n)).data=s.data.extract o (o+n):=by simp
 rw[hd,Array.getElem?_toList,Array.getElem?_extract];rcases Nat.lt_or_ge i n with hi|hi
 ·have ef:o+i<s.data.size:=by have:s.size=s.data.size:=rfl; omega
  rw[if_pos (by have:s.size=s.data.size:=rfl; omega)];simp only[List.getElem?_map,List.getElem?_range hi,Option.map_some,Function.comp_apply,Array.getElem?_eq_getElem ef];unfold PlainAid.bt;rw[dif_pos (show o+i<s.size from ef)];simp;rfl
 ·rw[if_neg (by have:s.size=s.data.size:=rfl; omega),List.getElem?_eq_none (by simpa using hi)]
theorem Zli (f:Nat->Int) (o k:Nat):rdF f o (k+1)=rdF f o k+256 ^ k * f (o+k):=by
 rw[Zoi]; simp[rdF]
theorem Xd {f f':Nat->Int} (n:Nat): ∀ o,(∀ i,i<n->f (o+i)=f' (o+i))->rdF f o n=rdF f' o n:=by
 induction n with
 | zero=>intro o _; rfl
 | succ n ih =>
   intro o h;simp only[rdF];rw[ih (o+1) (fun i hi=>by have:=h (i+1) (by omega); rw[show o+(i+1)=o+1+i by omega] at this; exact this)];have:=h 0 (by omega);rw[Nat.add_zero] at this;rw[this]
theorem XO {f:Nat->Int} (hb:Zm f) {o n i:Nat} (h:i<n):PlainAid.bt (ZB f o n) i=f (o+i):=by
 have h5:=hb (o+i);unfold PlainAid.bt;rw[dif_pos (by rw[Zr]; exact h)];have e:(ZB f o n)[i]'(by rw[Zr]; exact h)=UInt8.ofNat (f (o+i)).toNat:=by
  show(ZB f o n).data[i]'_=_
  simp[ZB,strOfNums]
 rw[e];simp;omega
theorem XY (f:Nat->Int) (o n m:Nat):ZB f o n++ZB f (o+n) m=ZB f o (n+m):=by
 apply ByteArray.ext;apply Array.toList_inj.1;have h:(ZB f o n++ZB f (o+n) m).data=(ZB f o n).data++(ZB f (o+n) m).data:=by simp
 rw[h,Array.toList_append];unfold ZB;rw[strOfNums_data,strOfNums_data,strOfNums_data,<-List.map_append];congr 1
 rw[List.range_add,List.map_append,List.map_map];congr 1
 apply List.map_congr_left;intro i _;simp[Nat.add_assoc]
theorem belD {B:Nat} {w wr:World} (h:Below B w wr) (n:Nat):Below B w (wr.drewN n):=⟨h.os,h.tape,h.output,h.size,h.block⟩
theorem ZV (A:Option Addr) (len cap:Nat) (a n:Int) (b:Bool) (w:World) (hl:len<=9223372036854775807) (n1: -9223372036854775808<=n) (n2:n<=9223372036854775807) (hb:b=true↔(0<=a/\0<=n/\a<=len - n)) :
 Calls Tryz.prog 113 #[.slice A len cap,.int .i64 a,.int .i64 n] w fun e w'=>e= .returned (.bool b)/\w=w':=by
 by_cases c1:0<=a
 ·by_cases c2:0<=n
  ·by_cases c3:a<=len - n
   ·have oU:b=true:=hb.2 ⟨c1,c2,c3⟩;subst oU;have c4:decide (a<=(len:Int) - n)=true:=decide_eq_true c3;clear hb;go_enter Tryz.func113,Tryz.ntmps113;go_wp2
    go_ret;exact⟨rfl,rfl⟩
   ·have oU:b=false:=by cases b with
     | false=>rfl
     | true=>exact absurd (hb.1 rfl).2.2 c3
    subst oU;have c4:decide (a<=(len:Int) - n)=false:=decide_eq_false c3;clear hb c3;go_enter Tryz.func113,Tryz.ntmps113;go_wp2
    go_ret;exact⟨rfl,rfl⟩
  ·have oU:b=false:=by cases b with
    | false=>rfl
    | true=>exact absurd (hb.1 rfl).2.1 c2
   subst oU;clear hb;go_enter Tryz.func113,Tryz.ntmps113;go_wp2
   go_ret;exact⟨rfl,rfl⟩
 ·have oU:b=false:=by cases b with
   | false=>rfl
   | true=>exact absurd (hb.1 rfl).1 c1
  subst oU;clear hb;go_enter Tryz.func113,Tryz.ntmps113;go_wp2
  go_ret;exact⟨rfl,rfl⟩
def ZS (n t:Int):Int:=if n<1 then 0 else((min n 1099511627776 - 1) / max t 1+1) * max t 1
theorem Zbw (n t:Int) (ht:t<=9223372036854775807):0<=ZS n t/\ZS n t<=9223372036854775807:=by
 unfold ZS;split
 ·omega
 ·obtain⟨m,hm⟩: ∃ m,min n 1099511627776=m:=⟨_,rfl⟩;obtain⟨d,hd⟩: ∃ d,max t 1=d:=⟨_,rfl⟩;rw[hm,hd];have h1:1<=m:=by omega
  have h2:m<=1099511627776:=by omega
  have d1:1<=d:=by omega
  have d2:d<=9223372036854775807:=by omega
  have e:(m - 1) / d * d<=m - 1:=Int.ediv_mul_le _ (by omega);have e0:0<=(m - 1) / d:=Int.ediv_nonneg (by omega) (by omega);have Pe:0<=(m - 1) / d * d:=Int.mul_nonneg e0 (by omega);rw[Int.add_mul,Int.one_mul];by_cases c:m - 1<d
  ·rw[Int.ediv_eq_zero_of_lt (by omega) c]; omega
  ·omega
theorem Zbx (n t:Int) (w:World) (h0: -9223372036854775808<=n) (h1:n<=9223372036854775807) (t0: -9223372036854775808<=t) (t1:t<=9223372036854775807) :
 Calls Tryz.prog 106 #[.int .i64 n,.int .i64 t] w fun e w'=>e= .returned (.int .i64 (ZS n t))/\w=w':=by
 have hb:=Zbw n t t1;unfold ZS at hb ⊢;by_cases c:n<1
 ·rw[if_pos c];go_enter Tryz.func106,Tryz.ntmps106;go_wp2
  go_ret;exact⟨rfl,rfl⟩
 ·rw[if_neg c] at hb ⊢;obtain⟨m,hm⟩: ∃ m,min n 1099511627776=m:=⟨_,rfl⟩;obtain⟨d,hd⟩: ∃ d,max t 1=d:=⟨_,rfl⟩;rw[hm,hd] at hb ⊢;have h1:1<=m:=by omega
  have h2:m<=1099511627776:=by omega
  have d1:1<=d:=by omega
  have d2:d<=9223372036854775807:=by omega
  obtain⟨q,hq⟩: ∃ q,(m - 1) / d=q:=⟨_,rfl⟩;have LO:Int.tdiv (m - 1) d=q:=by rw[<-hq]; exact Int.tdiv_eq_ediv_of_nonneg (by omega)
  have q0:0<=q:=by rw[<-hq]; exact Int.ediv_nonneg (by omega) (by omega)
  have q1:q<=1099511627776:=by rw[<-hq]; exact Int.le_trans (Int.ediv_le_self _ (by omega)) (by omega)
  rw[hq] at hb ⊢;obtain⟨r,hr⟩: ∃ r,(q+1) * d=r:=⟨_,rfl⟩;rw[hr] at hb ⊢;have hw:wrap64 r=r:=by unfold wrap64; omega
  obtain⟨b0,b1⟩:=hb;have ao:wrap64 (q+1)=q+1:=by unfold wrap64; omega
  have hc:(n<=1099511627776/\m=n)\/(1099511627776<n/\m=1099511627776):=by omega
  have B7:(1<=t/\d=t)\/(t<1/\d=1):=by omega
  rcases hc with⟨n1,rfl⟩|⟨n1,rfl⟩ <;> rcases B7 with⟨n2,rfl⟩|⟨n2,rfl⟩
  all_goals
   clear hm hd LO;try simp only[show(1099511627776 - 1:Int)=1099511627775 from rfl] at hq
   go_enter Tryz.func106,Tryz.ntmps106;go_wp2
   go_ret;first
   | exact⟨rfl,rfl⟩
   | exact⟨congrArg _ (congrArg (Value.int .i64) (by omega)),rfl⟩
theorem Zny {m d:Int} (h1:1<=m) (hd:1<=d):((m - 1) / d+1) * d=if m % d=0 then m else m - m % d+d:=by
 have e:=Int.mul_ediv_add_emod m d;have m0:=Int.emod_nonneg m (show d≠0 by omega);have m1:=Int.emod_lt_of_pos m (show 0<d by omega);obtain⟨q,hq⟩: ∃ q,m / d=q:=⟨_,rfl⟩;obtain⟨r,hr⟩: ∃ r,m % d=r:=⟨_,rfl⟩;rw[hq,hr] at e;rw[hr] at m0 m1 ⊢;by_cases c:r=0
 ·rw[if_pos c];have hx:(m - 1) / d=q - 1:=by
   rw[show m - 1=(d - 1)+d * (q - 1) by rw[Int.mul_sub,Int.mul_one]; omega,Int.add_mul_ediv_left _ _ (by omega),Int.ediv_eq_zero_of_lt (by omega) (by omega)];omega
  rw[hx,Int.sub_add_cancel,Int.mul_comm];omega
 ·rw[if_neg c];have hx:(m - 1) / d=q:=by
   rw[show m - 1=(r - 1)+d * q by omega,Int.add_mul_ediv_left _ _ (by omega),Int.ediv_eq_zero_of_lt (by omega) (by omega)];omega
  rw[hx,Int.add_mul,Int.one_mul,Int.mul_comm];omega
theorem Uu (n t:Int) (w:World) (h0: -9223372036854775808<=n) (h1:n<=9223372036854775807) (t0: -9223372036854775808<=t) (t1:t<=9223372036854775807) :
 Calls Tryz.prog 71 #[.int .i64 n,.int .i64 t] w fun e w'=>e= .returned (.int .i64 (ZS n t))/\w=w':=by
 have hb:=Zbw n t t1;unfold ZS at hb ⊢;by_cases c:n<1
 ·rw[if_pos c];go_enter Tryz.func71,Tryz.ntmps71;go_wp2
  go_ret;exact⟨rfl,rfl⟩
 ·rw[if_neg c] at hb ⊢;rw[Zny (by omega) (by omega)] at hb ⊢;obtain⟨m,hm⟩: ∃ m,min n 1099511627776=m:=⟨_,rfl⟩;obtain⟨d,hd⟩: ∃ d,max t 1=d:=⟨_,rfl⟩;rw[hm,hd] at hb ⊢;have h1:1<=m:=by omega
  have h2:m<=1099511627776:=by omega
  have d1:1<=d:=by omega
  have d2:d<=9223372036854775807:=by omega
  have m0:=Int.emod_nonneg m (show d≠0 by omega);have m1:=Int.emod_lt_of_pos m (show 0<d by omega);have m2:m % d<=m:=by
   have e:=Int.mul_ediv_add_emod m d;have e2:=Int.mul_nonneg (show 0<=d by omega) (Int.ediv_nonneg (show 0<=m by omega) (show 0<=d by omega));omega
  have B8:Int.tmod m d=m % d:=Int.tmod_eq_emod_of_nonneg (by omega);have hc:(n<=1099511627776/\m=n)\/(1099511627776<n/\m=1099511627776):=by omega
  have B7:(1<=t/\d=t)\/(t<1/\d=1):=by omega
  obtain⟨r,hr⟩: ∃ r,m % d=r:=⟨_,rfl⟩;rw[hr] at m0 m1 m2 hb B8 ⊢;by_cases c0:r=0
  ·have e0:(r == 0)=true:=by simp[c0]
   rw[if_pos c0];rcases hc with⟨n1,rfl⟩|⟨n1,rfl⟩ <;> rcases B7 with⟨n2,rfl⟩|⟨n2,rfl⟩
   all_goals
    clear hm hd hb c0;go_enter Tryz.func71,Tryz.ntmps71;go_wp2
    go_ret;exact⟨rfl,rfl⟩
  ·have e0:(r == 0)=false:=by simpa using c0
   rw[if_neg c0] at hb ⊢;rcases hc with⟨n1,rfl⟩|⟨n1,rfl⟩ <;> rcases B7 with⟨n2,rfl⟩|⟨n2,rfl⟩
   all_goals
    first
    | (exfalso; omega)
    | (clear hm hd c0
       go_enter Tryz.func71,Tryz.ntmps71;go_wp2
       go_ret;exact⟨rfl,rfl⟩)
def ZK (k:Int):Int:=if k=3 then 4 else if k=10 then 8 else 0
theorem Xy (k:Int):0<=ZK k/\ZK k<=8:=by unfold ZK; split <;> (try split) <;> omega
theorem Zgm (k r:Int) (w:World):Calls Tryz.prog 138 #[.agg #[.int .i64 k,.int .i64 r]] w fun e w'=>e= .returned (.int .i64 (ZK k))/\Below w.heap.size w w':=by
 unfold ZK;by_cases c1:k=3
 ·subst c1;go_enter Tryz.func138,Tryz.ntmps138;go_wp2
  go_ret;exact⟨rfl,by go_grown⟩
 ·by_cases c2:k=10
  ·subst c2;go_enter Tryz.func138,Tryz.ntmps138;go_wp2
   go_ret;exact⟨rfl,by go_grown⟩
  ·have e1:(k == 3)=false:=by simpa using c1
   have e2:(k == 10)=false:=by simpa using c2
   rw[if_neg c1,if_neg c2];go_enter Tryz.func138,Tryz.ntmps138;go_wp2
   go_ret;exact⟨rfl,by go_grown⟩
def XG (f:Nat->Int) (o e:Nat):Option (Int × Int) :=
 if e<o+8 then none else
 if rdF f o 4 % 4096≠0\/rdF f (o+4) 4<8\/rdF f (o+4) 4 % 4≠0\/(e:Int) - o<rdF f (o+4) 4 then none else
 some (rdF f o 4,rdF f (o+4) 4)
theorem Zgn {f:Nat->Int} {o e:Nat} {p n:Int} (h:XG f o e=some (p,n)):o+8<=e/\p=rdF f o 4/\p % 4096=0/\8<=n/\n % 4=0/\n<=(e:Int) - o:=by
 unfold XG at h;by_cases c:e<o+8
 ·rw[if_pos c] at h; cases h
 ·rw[if_neg c] at h;by_cases c2:rdF f o 4 % 4096≠0\/rdF f (o+4) 4<8\/rdF f (o+4) 4 % 4≠0\/(e:Int) - o<rdF f (o+4) 4
  ·rw[if_pos c2] at h; cases h
  ·rw[if_neg c2] at h;injection h with h;injection h with h1 h2;subst h1 h2;refine⟨by omega,rfl,?_,?_,?_,?_⟩ <;> (have:=c2; simp only[not_or,Int.not_lt] at this; omega)
theorem Zlj (b off len cap:Nat) (f:Nat->Int) (o e:Nat) (w:World) (h0:len<=9223372036854775807) (ho:o<=e) (he:e<=len) (hb:Zm f) (hc:Row w b off len f) :
 Calls Tryz.prog 114 #[.slice (some ⟨b,off,none⟩) len cap,.int .i64 o,.int .i64 e] w fun e' w' =>
  e'= .returned (.tuple #[.int .i64 ((XG f o e).getD (0,0)).1,.int .i64 ((XG f o e).getD (0,0)).2,.bool (XG f o e).isSome])/\w=w':=by
 have HC:=Zg hc;have HB:=Zg hb;obtain⟨r,hr⟩: ∃ r,XG f o e=r:=⟨_,rfl⟩;rw[hr];have HR:=Zg hr;clear hr hc hb;by_cases c0:e<o+8
 ·have hr:=HR.out;unfold XG at hr;rw[if_pos c0] at hr;subst hr;have c1:(e:Int) - o<8:=by omega
  go_enter Tryz.func114,Tryz.ntmps114;go_wp2
  exact bodyPost_ret (v:= .tuple #[.int .i64 0,.int .i64 0,.bool false]) (by simp[results,Tryz.results114,go_sem]) rfl ⟨rfl,rfl⟩
 ·have hp:=ZR f HB.out 4 o;have hn:=ZR f HB.out 4 (o+4);obtain⟨p,vc⟩: ∃ p,rdF f o 4=p:=⟨_,rfl⟩;obtain⟨n,bK⟩: ∃ n,rdF f (o+4) 4=n:=⟨_,rfl⟩;rw[vc] at hp;rw[bK] at hn;obtain⟨p0,p1⟩:=hp;obtain⟨n0,n1⟩:=hn;have hr:=HR.out;unfold XG at hr;rw[if_neg c0,vc,bK] at hr;have lS:=Zg hr;have HP:=Zg vc;have HN:=Zg bK;clear hr vc bK;have c1:8<=(e:Int) - o:=by omega
  have ux:=Zaw b off len cap f o w h0 (by omega) HB.out HC.out;have uy:=Zaw b off len cap f (o+4) w h0 (by omega) HB.out HC.out;rw[HP.out] at ux;rw[HN.out,show((o+4:Nat):Int)=(o:Int)+4 by omega] at uy;have mn:=Zg ux;have nh:=Zg uy;clear ux uy c0;have p2:p<4294967296:=by omega
  have n2:n<4294967296:=by omega
  clear p1 n1;have bm:((p % 4096 != 0)=true/\r=none)\/((p % 4096 != 0)=false/\n<8/\r=none)\/((p % 4096 != 0)=false/\8<=n/\(n % 4 != 0)=true/\r=none) \/
   ((p % 4096 != 0)=false/\8<=n/\(n % 4 != 0)=false/\(e:Int) - o<n/\r=none)\/((p % 4096 != 0)=false/\8<=n/\(n % 4 != 0)=false/\n<=(e:Int) - o/\r=some (p,n)):=by
   have h:=lS.out;by_cases d1:p % 4096=0
   ·right;by_cases d2:n<8
    ·left; rw[if_pos (by omega)] at h; exact⟨by simp[d1],d2,h.symm⟩
    ·right;by_cases d3:n % 4=0
     ·right;by_cases d4:(e:Int) - o<n
      ·left; rw[if_pos (by omega)] at h; exact⟨by simp[d1],by omega,by simp[d3],d4,h.symm⟩
      ·right; rw[if_neg (by omega)] at h; exact⟨by simp[d1],by omega,by simp[d3],by omega,h.symm⟩
     ·left; rw[if_pos (by omega)] at h; exact⟨by simp[d1],by omega,by simp[d3],h.symm⟩
   ·left; rw[if_pos (by omega)] at h; exact⟨by simp[d1],h.symm⟩
  clear lS HR;rcases bm with⟨d1,rfl⟩|⟨d1,d2,rfl⟩|⟨d1,d2,d3,rfl⟩|⟨d1,d2,d3,d4,rfl⟩|⟨d1,d2,d3,d4,rfl⟩;all_goals
   go_enter Tryz.func114,Tryz.ntmps114;go_wp2_with fail
   refine mn.out.mono ?_;rintro e w' ⟨rfl,rfl⟩;go_wp2_with fail
   refine nh.out.mono ?_;rintro e w' ⟨rfl,rfl⟩;go_wp2
   first
   | exact bodyPost_ret (v:= .tuple #[.int .i64 0,.int .i64 0,.bool false]) (by simp[results,Tryz.results114,go_sem]) rfl ⟨rfl,rfl⟩
   | exact bodyPost_ret (v:= .tuple #[.int .i64 p,.int .i64 n,.bool true]) (by simp[results,Tryz.results114,go_sem]) rfl ⟨rfl,rfl⟩
def AX (n:Nat) (tk:Nat->Bool) (k r:Int):Prop:=ZK k≠0/\r+ZK k<=n/\ ∀ j:Nat,r<=j->(j:Int)<r+ZK k->tk j=false
def Zkx (tk:Nat->Bool) (r e:Int) (j:Nat):Bool:=tk j||(decide (r<=j)&&decide ((j:Int)<e))
def Znz (w:World) (g n:Nat) (b:Bool) (t:Nat->Bool):Prop:= ∃ Hi,Own w g n (fun i=> .bool (Hi i))/\(b=true->Hi=t)
theorem Vy {w w':World} (h:Below w.heap.size w w') (row:Option Nat):w.grownBy w' row:=⟨h.os,h.tape,h.output,h.size,fun k hk _=>h.block k hk⟩
theorem YY (w:World) (x y:Value) (t:TypeId):Own (w.alloc (.cells #[x,y] t)) w.heap.size 2 (fun i=>if i=0 then x else y) :=
 ⟨by simp,fun i hi=>⟨by rcases(by omega:i=0\/i=1) with rfl|rfl <;> simp[go_sem],by simp[go_sem]⟩⟩
theorem Zlk (w:World) (g n cap:Nat) (tk:Nat->Bool) (k r:Int) (b:Bool) (h0:0<=r) (h1:r<=9223372036854775807) (hn:n<=140737488355328) (ho:Own w g n (fun i=> .bool (tk i))) (hb:b=true↔AX n tk k r) :
 Calls Tryz.prog 115 #[.slice (some ⟨g,0,none⟩) n cap,.agg #[.int .i64 k,.int .i64 r]] w fun e w' =>
  e= .returned (.bool b)/\Znz w' g n b (Zkx tk r (r+ZK k))/\w.grownBy w' (some g):=by
 have HO:=Zg ho;have HB:=Zg hb;have Eh:=ho.1;have nH:Below w.heap.size w (w.alloc (.cells #[.int .i64 k,.int .i64 r] 82)):=(Below.refl w.heap.size w).alloc (Nat.le_refl _) _;have au:=Zg nH;have qY:=Zg (YY w (.int .i64 k) (.int .i64 r) 82);obtain⟨l0,l1⟩:=Xy k;clear ho hb nH;go_enter Tryz.func115,Tryz.ntmps115;go_wp2_with fail
 refine(Zgm k r _).mono ?_;rintro e w1 ⟨rfl,az⟩;have av:=Zg (au.out.trans (az.mono (by simp)));have fG:=Zg (qY.out.below az (by simp));clear az qY au;have c0:=fG.out.cell (i:=0) (by omega);have c1:=fG.out.cell (i:=1) (by omega);simp only[if_pos,if_neg,Nat.one_ne_zero] at c0 c1;obtain⟨L,hL⟩: ∃ L,ZK k=L:=⟨_,rfl⟩;have fi:Hid (b=true↔L≠0/\r+L<=n/\ ∀ j:Nat,r<=j->(j:Int)<r+L->tk j=false):=by have h:=HB.out; unfold AX at h; rw[hL] at h; exact h
 rw[hL] at l0 l1;have HL:=Zg hL;try simp only[hL]
 clear hL HB;have rR:=Zg (HO.out.below av.out Eh);by_cases d0:L=0
 ·have zn:b=false:=by cases b with
   | false=>rfl
   | true=>exact absurd d0 (fi.out.1 rfl).1
  subst zn d0;go_wp2
  go_ret;exact⟨rfl,⟨tk,rR.out,fun h=>by cases h⟩,(Vy av.out (some g))⟩
 ·have e0:(L == 0)=false:=by simpa using d0
  by_cases d1:(n:Int) - L<r
  ·have zn:b=false:=by cases b with
    | false=>rfl
    | true=>have:=(fi.out.1 rfl).2.1; omega
   subst zn;have e1:decide ((n:Int) - L<r)=true:=decide_eq_true d1;go_wp2
   go_ret;exact⟨rfl,⟨tk,rR.out,fun h=>by cases h⟩,(Vy av.out (some g))⟩
  ·have e1:decide ((n:Int) - L<r)=false:=decide_eq_false d1;obtain⟨R,rfl⟩: ∃ R:Nat,r=R:=⟨r.toNat,by omega⟩;obtain⟨N,rfl⟩: ∃ N:Nat,L=N:=⟨L.toNat,by omega⟩;have Hh:g≠w.heap.size:=by omega
   have mN:=Zg Hh;have ni:=Zg (Vy av.out (some g));clear Hh;go_wp2_with fail
   clear c0 c1;go_loopw [6] (fun o wr=> ∃ i:Nat,R<=i/\i<=R+N/\o= .int .i64 i/\Own wr g n (fun q=> .bool (Zkx tk R i q))/\Own wr w.heap.size 2 (fun i=>if i=0 then .int .i64 k else .int .i64 (R:Int))/\(∀ j:Nat,R<=j->j<i->tk j=false)/\w.grownBy wr (some g)) (fun o _=>(R+N) - (intOf o).toNat)
   case atStart=>exact⟨R,by omega,by omega,rfl,rR.out.congr (fun q _=>by simp only[Zkx]; congr 1; by_cases hq:(R:Int)<=q <;> simp <;> omega),fG.out,fun j h1 h2=>by omega,ni.out⟩
   case round =>
    obtain⟨i,hi,qL,rfl,Hj,xP,xQ,hg⟩:=hrel;have zo:=Zg Hj;have vv:=Zg xP;have xO:=Zg xQ;have HG:=Zg hg;have c1:=xP.cell (i:=1) (by omega);simp only[if_neg,Nat.one_ne_zero] at c1;clear Hj xP xQ hg fG rR ni;by_cases af:i<R+N
    ·have ct:=zo.out.cell (i:=i) (by omega);have cz:=zo.out.frozen (i:=i) (by omega);have aQ:Zkx tk R i i=tk i:=by simp[Zkx]
     rw[aQ] at ct;have aU:i<n:=by omega
     cases lZ:tk i with
     | true =>
       have zn:b=false:=by cases b with
        | false=>rfl
        | true=>have:=(fi.out.1 rfl).2.2 i (by omega) (by omega); rw[lZ] at this; cases this
       subst zn;rw[lZ] at ct;clear aQ lZ;go_wp2_with fail
       go_ret;exact⟨rfl,⟨_,zo.out,fun h=>by cases h⟩,HG.out⟩
     | false =>
       have B9:=Zg lZ;rw[lZ] at ct;clear aQ lZ;go_wp2_with fail
       go_roundw
       case rel=>exact⟨i+1,by omega,by omega,by go_num,(zo.out.set aU (.bool true)).congr (fun q hq=>by
        by_cases e:q=i
        ·subst e; simp[Zkx]; omega
        ·simp only[if_neg e,Zkx]; rw[show decide ((q:Int)<i)=decide ((q:Int)<((i+1:Nat):Int)) by rw[decide_eq_decide]; omega]),vv.out.of_block (Below.heap_setCell _ _ _ _ (fun h=>mN.out h.symm)) (by simp[World.setCell]),fun j h1 h2=>by
        by_cases e:j=i
        ·subst e; exact B9.out
        ·exact xO.out j h1 (by omega),Zco HG.out (.inl rfl) _⟩
       case measure=>simp[intOf]; omega
    ·obtain rfl:i=R+N:=by omega
     have oU:b=true:=fi.out.2 ⟨d0,by omega,fun j h1 h2=>xO.out j (by omega) (by omega)⟩;subst oU;go_wp2_with fail
     go_ret;exact⟨rfl,⟨_,zo.out,fun _=>by rw[HL.out,show((R+N:Nat):Int)=(R:Int)+N by omega]⟩,HG.out⟩
theorem Vp (long ak n:Int) (w:World) (hl:long<=9223372036854775807) (h1:0<=ak) (h2:0<=n) (h3:ak<=long - n) :
 Calls Tryz.prog 73 #[.int .i64 long,.int .i64 ak,.int .i64 n] w fun e w'=>e= .returned (.bool true)/\w=w':=by
 have h4:ak<=long:=by omega
 have h5:n<=long - ak:=by omega
 go_enter Tryz.func73,Tryz.ntmps73;go_wp2
 go_ret;exact⟨rfl,rfl⟩
theorem Zby (long ak n:Int) (w:World) (lQ:0<=long) (hl:long<=9223372036854775807) (h: ¬ (0<=ak/\0<=n/\ak<=long - n)) :
 Calls Tryz.prog 73 #[.int .i64 long,.int .i64 ak,.int .i64 n] w fun e w'=>e= .returned (.bool false)/\w=w':=by
 by_cases h1:0<=ak
 ·by_cases h2:0<=n
  ·by_cases h3:ak<=long
   ·have h4: ¬ n<=long - ak:=by omega
    go_enter Tryz.func73,Tryz.ntmps73;go_wp2
    go_ret;exact⟨rfl,rfl⟩
   ·go_enter Tryz.func73,Tryz.ntmps73;go_wp2
    go_ret;exact⟨rfl,rfl⟩
  ·go_enter Tryz.func73,Tryz.ntmps73;go_wp2
   go_ret;exact⟨rfl,rfl⟩
 ·go_enter Tryz.func73,Tryz.ntmps73;go_wp2
  go_ret;exact⟨rfl,rfl⟩
theorem Zn0 {v c:Int} (k:Nat) (hk:k<=56) (v0:0<=v) (v1:v<2 ^ k) (c0:0<=c) (c1:c<=255) :
 bits BinOp.or IntKind.u64 v (c * 2 ^ k)=v+2 ^ k * c:=by
 obtain⟨x,rfl⟩:=Int.eq_ofNat_of_zero_le v0;obtain⟨y,rfl⟩:=Int.eq_ofNat_of_zero_le c0;have hx:x<2 ^ k:=by
  have:((x:Nat):Int)<((2 ^ k:Nat):Int):=by rw[Int.natCast_pow]; exact v1
  omega
 have hp:2 ^ k<=2 ^ 56:=Nat.pow_le_pow_right (by omega) hk;have hy:y * 2 ^ k<=255 * 2 ^ 56:=Nat.mul_le_mul (by omega) hp;have e1:((y:Int) * 2 ^ k)=((y * 2 ^ k:Nat):Int):=by rw[Int.natCast_mul,Int.natCast_pow]; rfl
 rw[e1,u64_or _ _ (by omega) (by omega) (by omega) (by omega)];have e2:((x:Int)).toNat=x:=by omega
 have e3:(((y * 2 ^ k:Nat):Int)).toNat=y * 2 ^ k:=by omega
 rw[e2,e3,Nat.or_comm,Nat.mul_comm,<-Nat.two_pow_add_eq_or_of_lt hx];rw[Int.natCast_add,Int.natCast_mul,Int.natCast_pow];exact Int.add_comm _ _
theorem Zn1 (s:ByteArray) (ak n:Int) (w:World) (hs:s.size<=9223372036854775807) (h0:0<=n) (h: ¬ (0<=ak/\ak<=s.size - n)) :
 Calls Tryz.prog 74 #[.string s,.int .i64 ak,.int .i64 n] w fun e w'=>e= .returned (.tuple #[.int .u64 0,.bool false])/\w=w':=by
 go_enter Tryz.func74,Tryz.ntmps74;go_wp2_with (go_at_call 73; refine(Zby _ _ _ _ (by omega) (by omega) (by omega)).mono ?_; rintro e w' ⟨rfl,rfl⟩)
 go_ret2;exact⟨rfl,rfl⟩
theorem Vd (s:ByteArray) (o n:Nat) (w:World) (hs:s.size<=9223372036854775807) (hn:n<=8) (h:o+n<=s.size) :
 Calls Tryz.prog 74 #[.string s,.int .i64 o,.int .i64 n] w fun e w'=>e= .returned (.tuple #[.int .u64 (rdF (PlainAid.bt s) o n),.bool true])/\w=w':=by
 have gb:=PlainAid.get_bt s;go_enter Tryz.func74,Tryz.ntmps74;go_wp2_with (go_at_call 73; refine(Vp _ _ _ _ (by omega) (by omega) (by omega) (by omega)).mono ?_; rintro e w' ⟨rfl,rfl⟩)
 go_loop [8,9] (fun v i=> ∃ k:Nat,k<=n/\i= .int .i64 k/\v= .int .u64 (rdF (PlainAid.bt s) o k)) (fun _ i=>n - (intOf i).toNat)
 case atStart=>exact⟨0,by omega,rfl,rfl⟩
 case round =>
  obtain⟨k,hk,rfl,rfl⟩:=hrel;by_cases af:k<n
  ·have h5:=Xx s (o+k);have Pf:=h5.1;have Pg:=h5.2;have h3:=ZR (PlainAid.bt s) (Xx s) k o;have hp:(256:Int) ^ k=2 ^ (8 * k):=by rw[Int.pow_mul]; rfl
   have uJ:0<=PlainAid.bt s (o+k) * 2 ^ (8 * k):=Int.mul_nonneg h5.1 (Int.pow_nonneg (by omega));have uI:PlainAid.bt s (o+k) * 2 ^ (8 * k)<=18446744073709551615:=by
    have h6:(2:Int) ^ (8 * k)<=2 ^ 56:=by
     rw[<-hp]; have:=Zcp (show k<=7 by omega); omega
    have h7:(0:Int)<=2 ^ (8 * k):=Int.pow_nonneg (by omega);have:=Int.mul_le_mul h5.2 h6 h7 (by omega);omega
   have H:Hid (rdF (PlainAid.bt s) o (k+1)=bits BinOp.or IntKind.u64 (rdF (PlainAid.bt s) o k) (PlainAid.bt s (o+k) * 2 ^ (8 * k))):=by
    rw[Zn0 (8 * k) (by omega) h3.1 (by rw[<-hp]; exact h3.2) h5.1 h5.2,Zli,hp]; exact rfl
   clear h3 hp h5;go_wp2
   go_round
   case rel=>exact⟨k+1,by omega,by go_num,by rw[H.out]⟩
   case measure=>simp[intOf]; omega
  ·obtain rfl:k=n:=by omega
   go_wp2
   go_ret2;exact⟨rfl,rfl⟩
theorem Zik (s:ByteArray) (ak most:Int) (w:World) (hs:s.size<=9223372036854775807) (h:ak<0\/s.size<=ak) :
 Calls Tryz.prog 75 #[.string s,.int .i64 ak,.int .i64 most] w fun e w'=>e= .returned (.tuple #[.string ByteArray.empty,.bool false])/\w=w':=by
 by_cases h1:ak<0
 ·go_enter Tryz.func75,Tryz.ntmps75;go_wp2
  go_ret2;exact⟨rfl,rfl⟩
 ·have h2:(s.size:Int)<=ak:=by omega
  go_enter Tryz.func75,Tryz.ntmps75;go_wp2
  go_ret2;exact⟨rfl,rfl⟩
theorem Zbz (s:ByteArray) (o n:Nat) (most:Int) (w:World) (hs:s.size<=9223372036854775807) (h:o+n<s.size) (hm:n=0\/n<=most) (hz:PlainAid.bt s (o+n)=0)
 (Ej: ∀ i,i<n->PlainAid.bt s (o+i)≠0) :
 Calls Tryz.prog 75 #[.string s,.int .i64 o,.int .i64 most] w fun e w'=>e= .returned (.tuple #[.string (ZB (PlainAid.bt s) o n),.bool true])/\w=w':=by
 have gb:=PlainAid.get_bt s;have HX:=Zg (Yq s o n (by omega));have HZ:=Zg hz;clear hz;by_cases lP:0<=most
 ·have np:max most 0=most:=by omega
  have oV:(n:Int)<=most:=by omega
  go_enter Tryz.func75,Tryz.ntmps75;go_wp2
  go_loop [8] (fun i=> ∃ k:Nat,k<=n/\i= .int .i64 k) (fun i=>n - (intOf i).toNat)
  case atStart=>exact⟨0,by omega,rfl⟩
  case round =>
   obtain⟨k,hk,rfl⟩:=hrel;have Ei:(k:Int)<=most:=by omega
   have oN:(k:Int)<(s.size:Int) - o:=by omega
   by_cases af:k<n
   ·have hf:(PlainAid.bt s (o+k) == 0)=false:=by simpa using Ej k af
    go_wp2
    go_round
    case rel=>exact⟨k+1,by omega,by go_num⟩
    case measure=>simp[intOf]; omega
   ·obtain rfl:k=n:=by omega
    have hf:(PlainAid.bt s (o+k) == 0)=true:=by simpa using HZ.out
    have d1:(o:Int)<=(o:Int)+k:=by omega
    have d2:(o:Int)+k<=s.size:=by omega
    go_wp2
    go_ret2;exact⟨by rw[<-HX.out]; rfl,rfl⟩
 ·have np:max most 0=0:=by omega
  obtain rfl:n=0:=by omega
  have hf:(PlainAid.bt s o == 0)=true:=by simpa using HZ.out
  have d3:(o:Int)<s.size:=by omega
  have d4:(o:Int)<=s.size:=by omega
  have d5:o<=s.size:=by omega
  go_enter Tryz.func75,Tryz.ntmps75;go_wp2
  refine wp_loop_rounds 1 ?_;rw[rounds_succ];go_wp2
  go_ret2;exact⟨rfl,rfl⟩
theorem Ze6 (s:ByteArray) (o:Nat) (most:Int) (w:World) (hs:s.size<=9223372036854775807) (h:o<s.size) (mc: ∀ i:Nat,o+i<s.size->(i=0\/i<=most)->PlainAid.bt s (o+i)≠0) :
 Calls Tryz.prog 75 #[.string s,.int .i64 o,.int .i64 most] w fun e w'=>e= .returned (.tuple #[.string ByteArray.empty,.bool false])/\w=w':=by
 have gb:=PlainAid.get_bt s;by_cases lP:0<=most
 ·have np:max most 0=most:=by omega
  go_enter Tryz.func75,Tryz.ntmps75;go_wp2
  go_loop [8] (fun i=> ∃ k:Nat,k<=s.size - o/\i= .int .i64 k) (fun i=>s.size - (intOf i).toNat)
  case atStart=>exact⟨0,by omega,rfl⟩
  case round =>
   obtain⟨k,hk,rfl⟩:=hrel;by_cases Ei:(k:Int)<=most
   ·by_cases af:(k:Int)<(s.size:Int) - o
    ·have hf:(PlainAid.bt s (o+k) == 0)=false:=by simpa using mc k (by omega) (by omega)
     go_wp2
     go_round
     case rel=>exact⟨k+1,by omega,by go_num⟩
     case measure=>simp[intOf]; omega
    ·go_wp2
     go_ret2;exact⟨rfl,rfl⟩
   ·go_wp2
    go_ret2;exact⟨rfl,rfl⟩
 ·have np:max most 0=0:=by omega
  have hf:(PlainAid.bt s o == 0)=false:=by simpa using mc 0 (by omega) (.inl rfl)
  have d3:(o:Int)<s.size:=by omega
  go_enter Tryz.func75,Tryz.ntmps75;go_wp2
  refine wp_loop_rounds 2 ?_;rw[rounds_succ];go_wp2
  rw[rounds_succ];go_wp2
  go_ret2;exact⟨rfl,rfl⟩
end Go.Proofs.YtplgdpjbkdagfaaGreat
