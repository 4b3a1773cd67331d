import Derived.Test.YtplgdpjbkdagfaaGreatZAwake1
import Derived.Test.YtplgdpjbkdagfaaGreatShelf
import Derived.Lib.IndexLaws
namespace Go.Proofs.YtplgdpjbkdagfaaGreat
set_option maxHeartbeats 8000000
open Lib renaming hid→Zg
set_option maxRecDepth 100000
open Go.ChangeShapes Go.WideShapes Go.ChangeAt Go.RowKit
set_option linter.unusedVariables false
set_option linter.unusedSimpArgs false
def Vu (c:Int):Bool:=decide ((97<=c/\c<=122)\/(65<=c/\c<=90)\/(48<=c/\c<=57)\/c=46\/c=95\/c=45)
theorem Wu (c:Int) (w:World):Calls Tryz.prog 140 #[.int .u8 c] w fun e w'=>e= .returned (.bool (decide (48<=c/\c<=57)))/\w=w':=by
 by_cases h1:48<=c
 ·go_enter Tryz.func140,Tryz.ntmps140;go_wp2
  go_ret;exact⟨Zav (by simp[h1]),rfl⟩
 ·go_enter Tryz.func140,Tryz.ntmps140;go_wp2
  go_ret;exact⟨Zav (by simp; omega),rfl⟩
theorem We (c:Int) (w:World):Calls Tryz.prog 124 #[.int .u8 c] w fun e w'=>e= .returned (.bool (Vu c))/\w=w':=by
 go_enter Tryz.func124,Tryz.ntmps124;go_wp2_with (go_at_call 140; refine(Wu _ _).mono ?_; rintro e w' ⟨rfl,rfl⟩)
 all_goals go_ret
 all_goals refine⟨Zav ?_,rfl⟩
 all_goals rw[Bool.eq_iff_iff]
 all_goals simp[Vu]
 all_goals omega
def WD (S:ByteArray):Prop:=1<=S.size/\S.size<=40/\ ∀ i,i<S.size->Vu (PlainAid.bt S i)=true
def Um (S:ByteArray):Prop:=1<=S.size/\S.size<=60/\PlainAid.bt S 0≠35/\ ∀ i,i<S.size->33<=PlainAid.bt S i/\PlainAid.bt S i<=126
theorem Zbf (S:ByteArray) (w:World) (h:WD S):Calls Tryz.prog 88 #[.string S] w fun e w'=>e= .returned (.bool true)/\w=w':=by
 obtain⟨h1,h2,h3⟩:=h;have gb:=PlainAid.get_bt S;have d1: ¬ (S.size:Int)<1:=by omega
 have d2: ¬ (40:Int)<S.size:=by omega
 go_enter Tryz.func88,Tryz.ntmps88;go_wp2
 go_loop [14] (fun i=> ∃ k:Nat,k<=S.size/\i= .int .i64 k) (fun i=>S.size - (intOf i).toNat)
 case atStart=>exact⟨0,by omega,rfl⟩
 case round =>
  obtain⟨k,hk,rfl⟩:=hrel;by_cases af:k<S.size
  ·have hf:=h3 k af;go_wp2_with (go_at_call 124; refine(We _ _).mono ?_; rintro e w' ⟨rfl,rfl⟩)
   go_round
   case rel=>exact⟨k+1,by omega,by go_num⟩
   case measure=>simp[intOf]; omega
  ·obtain rfl:k=S.size:=by omega
   go_wp2
   go_ret;exact⟨rfl,rfl⟩
theorem ok_no (S:ByteArray) (w:World) (hs:S.size<=9223372036854775807) (h: ¬ WD S):Calls Tryz.prog 88 #[.string S] w fun e w'=>e= .returned (.bool false)/\w=w':=by
 by_cases h1:S.size<1
 ·have d1:(S.size:Int)<1:=by omega
  go_enter Tryz.func88,Tryz.ntmps88;go_wp2
  go_ret;exact⟨rfl,rfl⟩
 by_cases h2:40<S.size
 ·have d1: ¬ (S.size:Int)<1:=by omega
  have d2:(40:Int)<S.size:=by omega
  go_enter Tryz.func88,Tryz.ntmps88;go_wp2
  go_ret;exact⟨rfl,rfl⟩
 have hz: ∃ z,z<S.size/\Vu (PlainAid.bt S z)=false/\ ∀ i,i<z->Vu (PlainAid.bt S i)=true:=by
  by_cases hz: ∃ z,z<S.size/\Vu (PlainAid.bt S z)=false/\ ∀ i,i<z->Vu (PlainAid.bt S i)=true
  ·exact hz
  ·exfalso;apply h;refine⟨by omega,by omega,fun i=> ?_⟩;induction i using Nat.strongRecOn with
   | ind i ih =>
     intro hi;cases hb:Vu (PlainAid.bt S i) with
     | true=>rfl
     | false=>exact absurd ⟨i,hi,hb,fun j hj=>ih j hj (by omega)⟩ hz
 obtain⟨z,bw,ed,lO⟩:=hz;have HZ:=Zg ed;clear ed h;have gb:=PlainAid.get_bt S;have d1: ¬ (S.size:Int)<1:=by omega
 have d2: ¬ (40:Int)<S.size:=by omega
 go_enter Tryz.func88,Tryz.ntmps88;go_wp2
 go_loop [14] (fun i=> ∃ k:Nat,k<=z/\i= .int .i64 k) (fun i=>z - (intOf i).toNat)
 case atStart=>exact⟨0,by omega,rfl⟩
 case round =>
  obtain⟨k,hk,rfl⟩:=hrel;have oN:k<S.size:=by omega
  by_cases af:k<z
  ·have hf:=lO k af;go_wp2_with (go_at_call 124; refine(We _ _).mono ?_; rintro e w' ⟨rfl,rfl⟩)
   go_round
   case rel=>exact⟨k+1,by omega,by go_num⟩
   case measure=>simp[intOf]; omega
  ·obtain rfl:k=z:=by omega
   have hf:=HZ.out;go_wp2_with (go_at_call 124; refine(We _ _).mono ?_; rintro e w' ⟨rfl,rfl⟩)
   go_ret;exact⟨rfl,rfl⟩
theorem Zbg (S:ByteArray) (w:World) (h:Um S):Calls Tryz.prog 125 #[.string S] w fun e w'=>e= .returned (.bool true)/\w=w':=by
 obtain⟨h1,h2,h0,h3⟩:=h;have gb:=PlainAid.get_bt S;have d1: ¬ (S.size:Int)<1:=by omega
 have d2: ¬ (60:Int)<S.size:=by omega
 have d3:0<S.size:=by omega
 have d4:(PlainAid.bt S 0 == 35)=false:=by simpa using h0
 go_enter Tryz.func125,Tryz.ntmps125;go_wp2
 go_loop [19] (fun i=> ∃ k:Nat,k<=S.size/\i= .int .i64 k) (fun i=>S.size - (intOf i).toNat)
 case atStart=>exact⟨0,by omega,rfl⟩
 case round =>
  obtain⟨k,hk,rfl⟩:=hrel;by_cases af:k<S.size
  ·have hf:=h3 k af;have f1: ¬ PlainAid.bt S k<33:=by omega
   have f2: ¬ 126<PlainAid.bt S k:=by omega
   go_wp2
   go_round
   case rel=>exact⟨k+1,by omega,by go_num⟩
   case measure=>simp[intOf]; omega
  ·obtain rfl:k=S.size:=by omega
   go_wp2
   go_ret;exact⟨rfl,rfl⟩
theorem UZ (S:ByteArray) (w:World) (hs:S.size<=9223372036854775807) (h: ¬ Um S):Calls Tryz.prog 125 #[.string S] w fun e w'=>e= .returned (.bool false)/\w=w':=by
 by_cases h1:S.size<1
 ·have d1:(S.size:Int)<1:=by omega
  go_enter Tryz.func125,Tryz.ntmps125;go_wp2
  go_ret;exact⟨rfl,rfl⟩
 have d1: ¬ (S.size:Int)<1:=by omega
 by_cases h2:60<S.size
 ·have d2:(60:Int)<S.size:=by omega
  go_enter Tryz.func125,Tryz.ntmps125;go_wp2
  go_ret;exact⟨rfl,rfl⟩
 have d2: ¬ (60:Int)<S.size:=by omega
 have gb:=PlainAid.get_bt S;have d3:0<S.size:=by omega
 by_cases h0:PlainAid.bt S 0=35
 ·have d4:(PlainAid.bt S 0 == 35)=true:=by simpa using h0
  clear h0;go_enter Tryz.func125,Tryz.ntmps125;go_wp2
  go_ret;exact⟨rfl,rfl⟩
 have d4:(PlainAid.bt S 0 == 35)=false:=by simpa using h0
 have hz: ∃ z,z<S.size/\ ¬ (33<=PlainAid.bt S z/\PlainAid.bt S z<=126)/\ ∀ i,i<z->(33<=PlainAid.bt S i/\PlainAid.bt S i<=126):=by
  by_cases hz: ∃ z,z<S.size/\ ¬ (33<=PlainAid.bt S z/\PlainAid.bt S z<=126)/\ ∀ i,i<z->(33<=PlainAid.bt S i/\PlainAid.bt S i<=126)
  ·exact hz
  ·exfalso;apply h;refine⟨by omega,by omega,h0,fun i=> ?_⟩;induction i using Nat.strongRecOn with
   | ind i ih =>
     intro hi;by_cases hb:33<=PlainAid.bt S i/\PlainAid.bt S i<=126
     ·exact hb
     ·exact absurd ⟨i,hi,hb,fun j hj=>ih j hj (by omega)⟩ hz
 obtain⟨z,bw,ed,lO⟩:=hz;have HZ:=Zg ed;clear ed h h0;go_enter Tryz.func125,Tryz.ntmps125;go_wp2
 go_loop [19] (fun i=> ∃ k:Nat,k<=z/\i= .int .i64 k) (fun i=>z - (intOf i).toNat)
 case atStart=>exact⟨0,by omega,rfl⟩
 case round =>
  obtain⟨k,hk,rfl⟩:=hrel;have oN:k<S.size:=by omega
  by_cases af:k<z
  ·have hf:=lO k af;have f1: ¬ PlainAid.bt S k<33:=by omega
   have f2: ¬ 126<PlainAid.bt S k:=by omega
   go_wp2
   go_round
   case rel=>exact⟨k+1,by omega,by go_num⟩
   case measure=>simp[intOf]; omega
  ·obtain rfl:k=z:=by omega
   by_cases f1:PlainAid.bt S k<33
   ·go_wp2
    go_ret;exact⟨rfl,rfl⟩
   ·have f2:126<PlainAid.bt S k:=by have:=HZ.out; omega
    go_wp2
    go_ret;exact⟨rfl,rfl⟩
def Zhh (c:Int):Int:=if 65<=c/\c<=90 then c+32 else c
def Zc7 (S:ByteArray) (i:Nat):Int:=Zhh (PlainAid.bt S i)
def Zc8 (S:ByteArray):ByteArray:=ZB (Zc7 S) 0 S.size
def Vv (S:ByteArray):Prop:= ∃ i,i<S.size/\PlainAid.bt S i=46
def Jn:ByteArray:=⟨#[46,100,108,108]⟩
theorem Znl {c:Int} (h0:0<=c) (h1:c<=255):0<=Zhh c/\Zhh c<=255:=by unfold Zhh; split <;> omega
theorem low255 (S:ByteArray):Zm (Zc7 S):=fun i=>Znl (Xx S i).1 (Xx S i).2
theorem Jo (S:ByteArray):(Zc8 S).size=S.size:=Zr _ _ _
theorem Zho {S:ByteArray} {i:Nat} (h:i<S.size):PlainAid.bt (Zc8 S) i=Zhh (PlainAid.bt S i):=by
 rw[show Zc8 S=ZB (Zc7 S) 0 S.size from rfl,XO (low255 S) h,Nat.zero_add]; rfl
theorem Zet {c:Int}:Zhh c=46↔c=46:=by unfold Zhh; split <;> omega
theorem Zeu (S:ByteArray):Vv (Zc8 S)↔Vv S:=by
 unfold Vv;rw[Jo];constructor
 ·rintro⟨i,hi,h⟩; rw[Zho hi,Zet] at h; exact⟨i,hi,h⟩
 ·rintro⟨i,hi,h⟩; exact⟨i,hi,by rw[Zho hi,Zet]; exact h⟩
def Zev (S:ByteArray) (k j:Nat):Value:= .int .u8 (if j<k then Zc7 S j else PlainAid.bt S j)
theorem Zbh (S:ByteArray) (j:Nat):Zev S 0 j= .int .u8 (PlainAid.bt S j):=by simp[Zev]
theorem Zhp (S:ByteArray) (k:Nat):Zev S k k= .int .u8 (PlainAid.bt S k):=by simp[Zev]
theorem Zhq (S:ByteArray) (k j:Nat) (x:Int) (h:Zc7 S k=x):(if j=k then .int .u8 x else Zev S k j)=Zev S (k+1) j:=by
 unfold Zev;by_cases e:j=k
 ·subst e; rw[if_pos rfl,if_pos (by omega),h]
 ·rw[if_neg e];by_cases h3:j<k
  ·rw[if_pos h3,if_pos (by omega)]
  ·rw[if_neg h3,if_neg (by omega)]
theorem VL (S:ByteArray) (k j:Nat) (h:Zc7 S k=PlainAid.bt S k):Zev S k j=Zev S (k+1) j:=by
 unfold Zev;by_cases e:j=k
 ·subst e; rw[if_neg (by omega),if_pos (by omega),h]
 ·by_cases h3:j<k
  ·rw[if_pos h3,if_pos (by omega)]
  ·rw[if_neg h3,if_neg (by omega)]
theorem Zbi (w:World) (S:ByteArray) (cap:Nat) (lo hi:Nat) (h1:S.size<=lo) :
 Own (w.alloc (.cells (bytesRow S cap) 5 (lo,hi))) w.heap.size S.size (fun i=> .int .u8 (PlainAid.bt S i)):=by
 refine⟨by simp,fun i ef=>⟨?_,?_⟩⟩
 ·have qL:i<S.data.size:=ef;rw[World.cell?_alloc_mark w (bytesRow S cap) 5 (lo,hi) i,bytesRow_at S cap i qL];show _=some (Value.int .u8 (PlainAid.bt S i))
  unfold PlainAid.bt;rw[dif_pos ef];rfl
 ·rw[World.frozen?_alloc_mark w (bytesRow S cap) 5 lo hi i];simp only[Bool.and_eq_false_iff,decide_eq_false_iff_not];left;omega
theorem VM (S:ByteArray) (cap:Nat) (h:S.size<=cap):(bytesRow S cap).size=cap:=by
 have:S.data.size=S.size:=rfl;simp[bytesRow];omega
theorem Zhr (T:ByteArray) (w:World):Calls Tryz.prog 121 #[.string T,.string ⟨#[46]⟩] w fun e w'=>e= .returned (.bool (decide (0<=Lib.indexByte T.data.toList 46)))/\w=w' :=
 (Tryz.strings_Contains_one T 46 w).mono fun _ _ ⟨h1,h2⟩=>⟨h1,h2.symm⟩
theorem Zhs (T:ByteArray) (i:Nat) (c:UInt8) (hi:i<T.size):PlainAid.bt T i=c.toNat↔T.data.toList[i]? =some c:=by
 have qL:i<T.data.size:=hi;unfold PlainAid.bt;rw[dif_pos hi,Array.getElem?_toList,Array.getElem?_eq_getElem qL];constructor
 ·intro h;have:T.data[i]=c:=UInt8.toNat_inj.1 (Int.ofNat.inj h);rw[this]
 ·intro h;injection h with h;show((T.data[i].toNat:Nat):Int)=_
  rw[h]
theorem Zht (T:ByteArray):0<=Lib.indexByte T.data.toList 46↔Vv T:=by
 constructor
 ·intro h;obtain⟨o,ho⟩:=Int.eq_ofNat_of_zero_le h;have h1:=(Lib.indexByte_some ho).1;have hi:o<T.size:=by
   rcases Nat.lt_or_ge o T.size with h2|h2
   ·exact h2
   ·rw[List.getElem?_eq_none (by simpa using h2)] at h1; cases h1
  exact⟨o,hi,(Zhs T o 46 hi).2 h1⟩
 ·rintro⟨i,hi,h⟩;rcases Int.lt_or_le (Lib.indexByte T.data.toList 46) 0 with h1|h1
  ·have h2:=Lib.indexByte_ge T.data.toList 46;exact absurd ((Zhs T i 46 hi).1 h) (Lib.indexByte_none (show Lib.indexByte T.data.toList 46= -1 by omega) i)
  ·exact h1
def Znm (S T:ByteArray):Prop:=(Vv S->T=Zc8 S)/\(¬ Vv S->T=Zc8 S++Jn)
theorem Znn (S T:ByteArray) (w:World) (hs:S.size<=140737488355328) (hT:Znm S T) :
 Calls Tryz.prog 85 #[.string S] w fun e w'=>e= .returned (.string T)/\Below w.heap.size w w':=by
 have dI:=fun(W:World)=>run_bytes_of_string (P:=Tryz.prog) W 9 25 5 S Tryz.underlying9 Tryz.underlying25 Tryz.underlying5;have dK:=grownCap_ge w S.size 0 5;have kG:=Zbi w S (grownCap w S.size 0 5) (bytesRow S (grownCap w S.size 0 5)).size ((bytesRow S (grownCap w S.size 0 5)).size+1) (by rw[VM S _ dK]; exact dK);have HO:=Zg kG;have HT:=Zg hT;clear kG hT;go_enter Tryz.func85,Tryz.ntmps85;go_wp2
 clear dI;go_loopw [11] (fun i wr=> ∃ k:Nat,k<=S.size/\i= .int .i64 k/\Own wr w.heap.size S.size (Zev S k)/\Below w.heap.size w wr) (fun i _=>S.size - (intOf i).toNat)
 case atStart=>exact⟨0,by omega,rfl,(Own.drew HO.out).congr fun j _=>(Zbh S j).symm,((Below.refl _ _).alloc (Nat.le_refl _) _).drew⟩
 case round =>
  obtain⟨k,hk,rfl,ae,aq⟩:=hrel;by_cases af:k<S.size
  ·have hc:=ae.cell af;rw[Zhp] at hc;have hz:=ae.frozen af;have az:=(Xx S k).1;have aC:=(Xx S k).2;by_cases hu:65<=PlainAid.bt S k/\PlainAid.bt S k<=90
   ·have ux:=hu.1;have uy:=hu.2;go_wp2
    go_roundw
    case rel=>exact⟨k+1,by omega,by go_num,(ae.set af _).congr fun j _=>Zhq S k j _ (by unfold Zc7 Zhh; rw[if_pos hu]; omega),aq.setCell (Nat.le_refl _) _⟩
    case measure=>simp[intOf]; omega
   ·have tb:Zc7 S k=PlainAid.bt S k:=by unfold Zc7 Zhh; rw[if_neg hu]
    by_cases ux:65<=PlainAid.bt S k
    ·have uy: ¬ PlainAid.bt S k<=90:=by omega
     go_wp2
     go_roundw
     case rel=>exact⟨k+1,by omega,by go_num,ae.congr fun j _=>VL S k j tb,aq⟩
     case measure=>simp[intOf]; omega
    ·go_wp2
     go_roundw
     case rel=>exact⟨k+1,by omega,by go_num,ae.congr fun j _=>VL S k j tb,aq⟩
     case measure=>simp[intOf]; omega
  ·obtain rfl:k=S.size:=by omega
   have Dd:=fun(c:Nat)=>show(convert 25 9 (.slice (some ⟨w.heap.size,0,none⟩) S.size c)).run Tryz.prog wr= .ok (.string (Zc8 S)) wr from
    YL (Zdr (f':=Zc7 S) ae fun i hi=>by unfold Zev; rw[if_pos hi])
   have ed:(Zc8 S).size<=140737488355328:=by rw[Jo]; exact hs
   by_cases hd:Vv S
   ·have rE:decide (0<=Lib.indexByte (Zc8 S).data.toList 46)=true:=decide_eq_true ((Zht _).2 ((Zeu S).2 hd));go_wp2_with (go_at_call 121; refine(Zhr _ _).mono ?_; rintro e w' ⟨rfl,rfl⟩)
    go_ret;exact⟨by rw[HT.out.1 hd]; rfl,aq⟩
   ·have rE:decide (0<=Lib.indexByte (Zc8 S).data.toList 46)=false:=decide_eq_false fun h=>hd ((Zeu S).1 ((Zht _).1 h));have cJ:=fun(W:World)=>run_string_add_sum (P:=Tryz.prog) W (Zc8 S) Jn (by have:Jn.size=4:=rfl; omega);unfold Jn at cJ;go_wp2_with (go_at_call 121; refine(Zhr _ _).mono ?_; rintro e w' ⟨rfl,rfl⟩)
    go_ret;exact⟨by rw[HT.out.2 hd]; rfl,aq⟩
def lF (bs:List Nat) (i:Nat):Int:=((bs.getD i 0:Nat):Int)
theorem Zhu (bs:List Nat) (k i:Nat):lF (bs.drop k) i=lF bs (k+i):=by simp[lF,List.getD]
theorem Zhv (bs:List Nat) (n i:Nat) (h:i<n):lF (bs.take n) i=lF bs i:=by simp[lF,List.getD,List.getElem?_take,h]
def Lb (bs:List Nat):Prop:= ∀ v∈bs,v<=255
theorem Lb.drop {bs:List Nat} (h:Lb bs) (k:Nat):Lb (bs.drop k):=fun v hv=>h v (List.mem_of_mem_drop hv)
theorem Lb.take {bs:List Nat} (h:Lb bs) (k:Nat):Lb (bs.take k):=fun v hv=>h v (List.mem_of_mem_take hv)
theorem Lb.append {bs cs:List Nat} (h:Lb bs) (k:Lb cs):Lb (bs++cs):=fun v hv=>(List.mem_append.mp hv).elim (h v) (k v)
theorem Lb.b255 {bs:List Nat} (h:Lb bs):Zm (lF bs):=by
 intro i;unfold lF;rcases Nat.lt_or_ge i bs.length with hi|hi
 ·have:=h bs[i] (List.getElem_mem hi);simp[List.getD,hi]; omega
 ·simp[List.getD,hi]
def Yg (bs:List Nat):Nat->Nat
 | 0=>0
 | n+1=>bs.headD 0+256 * Yg bs.tail n
theorem Wv (bs:List Nat): ∀(n k:Nat),rdF (lF bs) k n=((Yg (bs.drop k) n:Nat):Int)
 | 0,k=>rfl
 | n+1,k=>by
   have h1:(bs.drop k).tail=bs.drop (k+1):=by simp
   have h2:(bs.drop k).headD 0=bs.getD k 0:=by simp[List.headD_eq_head?_getD,List.getD]
   simp only[rdF,Yg,h1,h2,Wv bs n (k+1)];unfold lF;omega
theorem ZG {bs:List Nat} (h:Lb bs) (n:Nat):Yg bs n<256 ^ n:=by
 have h1:=ZR (lF bs) h.b255 n 0;rw[Wv] at h1;have:((Yg bs n:Nat):Int)<((256 ^ n:Nat):Int):=by rw[Int.natCast_pow]; simpa using h1.2
 exact_mod_cast this
def txt (t:List Nat):ByteArray:=ZB (lF t) 0 t.length
theorem Zk (t:List Nat):(txt t).size=t.length:=Zr _ _ _
theorem WJ {t:List Nat} (h:Lb t) {i:Nat} (hi:i<t.length):PlainAid.bt (txt t) i=lF t i:=by
 unfold txt; rw[XO h.b255 hi,Nat.zero_add]
theorem Ja (bs:List Nat) (o n:Nat) (h:o+n<=bs.length):ZB (lF bs) o n=txt ((bs.drop o).take n):=by
 have hl:((bs.drop o).take n).length=n:=by rw[List.length_take,List.length_drop]; omega
 unfold txt;rw[hl];exact ZA fun i hi=>by rw[Nat.zero_add,Zhv _ _ _ hi,Zhu]
def YO (b:List Nat) (o most:Nat):Option (List Nat) :=
 match ((b.drop o).take (most+1)).findIdx? (· == 0) with
 | some k=>some ((b.drop o).take k)
 | none=>none
theorem Wl {b:List Nat} {o most:Nat} {t:List Nat} (h:YO b o most=some t) :
 o+t.length<b.length/\t.length<=most/\lF b (o+t.length)=0/\(∀ i,i<t.length->lF b (o+i)≠0)/\t=(b.drop o).take t.length:=by
 unfold YO at h;split at h
 ·rename_i k hk;injection h with h;rw[List.findIdx?_eq_some_iff_getElem] at hk;obtain⟨jy,mu,yj⟩:=hk;rw[List.length_take,List.length_drop] at jy;have hl:t.length=k:=by rw[<-h,List.length_take,List.length_drop]; omega
  rw[List.getElem_take,List.getElem_drop] at mu;refine⟨by omega,by omega,?_,fun i hi=> ?_,by rw[hl,h]⟩
  ·rw[hl];unfold lF;have:o+k<b.length:=by omega
   simp only[List.getD,List.getElem?_eq_getElem this,Option.getD_some];simpa using mu
  ·have:=yj i (by omega);rw[List.getElem_take,List.getElem_drop] at this;unfold lF;have h2:o+i<b.length:=by omega
   simp only[List.getD,List.getElem?_eq_getElem h2,Option.getD_some];simpa using this
 ·exact absurd h (by simp)
theorem Qf {b:List Nat} {o most:Nat} (h:YO b o most=none) (i:Nat) (h1:o+i<b.length) (h2:i<=most):lF b (o+i)≠0:=by
 unfold YO at h;split at h
 ·exact absurd h (by simp)
 ·rename_i hk;rw[List.findIdx?_eq_none_iff] at hk;have hm:b[o+i]∈(b.drop o).take (most+1):=by
   rw[List.mem_iff_getElem];exact⟨i,by rw[List.length_take,List.length_drop]; omega,by rw[List.getElem_take,List.getElem_drop]⟩
  have:=hk _ hm;unfold lF;simp only[List.getD,List.getElem?_eq_getElem h1,Option.getD_some];simpa using this
theorem WK (A:Option Addr) (cap:Nat) (bs:List Nat) (o most:Nat) (w:World) (h0:cap<=9223372036854775807) (h1:bs.length<=cap) (hs:SlB w A bs.length (lF bs)) :
 Calls Tryz.prog 135 #[.slice A bs.length cap,.int .i64 o,.int .i64 most] w fun e w' =>
  e= .returned (match YO bs o most with|some t=> .tuple #[.string (txt t),.bool true]|none=> .tuple #[.string ByteArray.empty,.bool false])/\w=w':=by
 rcases ht:YO bs o most with _|t
 ·rcases Nat.lt_or_ge o bs.length with ho|ho
  ·rcases hs with h|⟨b,off,rfl,_,hr⟩
   ·omega
   ·exact Zoh b off _ cap _ o most w h0 h1 ho (fun i hi hm=>Qf ht i hi (by omega)) hr
  ·exact Zl6 A _ cap o most w (by omega) (.inr (by omega))
 ·obtain⟨t1,t2,t3,t4,t5⟩:=Wl ht;rcases hs with h|⟨b,off,rfl,_,hr⟩
  ·omega
  ·refine(Zl7 b off _ cap _ o t.length most w h0 h1 t1 (by omega) t3 t4 hr).mono ?_;rintro e w' ⟨rfl,rfl⟩;refine⟨?_,rfl⟩;rw[Ja bs o t.length (by omega),<-t5]
def Zno (c:Nat):Bool:=(decide (97<=c)&&decide (c<=122))||(decide (65<=c)&&decide (c<=90))||(decide (48<=c)&&decide (c<=57))||c == 46||c == 95||c == 45
def Un (t:List Nat):Bool:=decide (1<=t.length)&&decide (t.length<=40)&&t.all Zno
theorem Zbj (c:Nat):Vu (c:Int)=Zno c:=by
 unfold Vu Zno;rw[Bool.eq_iff_iff];simp only[decide_eq_true_eq,Bool.or_eq_true,Bool.and_eq_true,beq_iff_eq];omega
theorem Ww {t:List Nat} (h:Lb t):WD (txt t)↔Un t=true:=by
 unfold WD Un;rw[Zk];simp only[Bool.and_eq_true,decide_eq_true_eq,List.all_eq_true,and_assoc];refine and_congr_right fun _=>and_congr_right fun _=>⟨fun k v hv=> ?_,fun k i hi=> ?_⟩
 ·obtain⟨i,hi,rfl⟩:=List.mem_iff_getElem.mp hv;have:=k i hi;rw[WJ h hi] at this;rw[<-Zbj];unfold lF at this;simpa [List.getD,hi] using this
 ·rw[WJ h hi];unfold lF;rw[Zbj];have:=k t[i] (List.getElem_mem hi);simpa [List.getD,hi] using this
theorem Zew (t:List Nat) (w:World) (h:Lb t) (hl:t.length<=9223372036854775807):Calls Tryz.prog 88 #[.string (txt t)] w fun e w'=>e= .returned (.bool (Un t))/\w=w':=by
 by_cases k:Un t=true
 ·rw[k]; exact Zbf _ w ((Ww h).2 k)
 ·rw[show Un t=false by simpa using k];exact ok_no _ w (by rw[Zk]; exact hl) (fun q=>k ((Ww h).1 q))
theorem Jb (A:Option Addr) (cap:Nat) (bs:List Nat) (o:Nat) (w:World) (hl:bs.length<=9223372036854775807) (hb:Lb bs) (h:o+2<=bs.length) (hs:SlB w A bs.length (lF bs)) :
 Calls Tryz.prog 104 #[.slice A bs.length cap,.int .i64 o] w fun e w'=>e= .returned (.tuple #[.int .i64 (Yg (bs.drop o) 2),.bool true])/\w=w':=by
 rcases hs with h'|⟨b,off,rfl,_,hr⟩
 ·omega
 ·rw[<-Wv]; exact Zd6 b off _ cap _ o w hl h hb.b255 hr
theorem QZ (A:Option Addr) (cap:Nat) (bs:List Nat) (o:Nat) (w:World) (hl:bs.length<=9223372036854775807) (hb:Lb bs) (h:o+4<=bs.length) (hs:SlB w A bs.length (lF bs)) :
 Calls Tryz.prog 129 #[.slice A bs.length cap,.int .i64 o] w fun e w'=>e= .returned (.tuple #[.int .i64 (Yg (bs.drop o) 4),.bool true])/\w=w':=by
 rcases hs with h'|⟨b,off,rfl,_,hr⟩
 ·omega
 ·rw[<-Wv]; exact Zaw b off _ cap _ o w hl h hb.b255 hr
def Zk1 (S:ByteArray) (k:Nat):Bool:=(List.range k).any fun j=>PlainAid.bt S j == 46
theorem Zhw (S:ByteArray) (k:Nat):Zk1 S (k+1)=(Zk1 S k||(PlainAid.bt S k == 46)):=by
 unfold Zk1; rw[List.range_succ,List.any_append]; simp
theorem Zex (S:ByteArray):Zk1 S S.size=true↔Vv S:=by
 unfold Zk1 Vv;rw[List.any_eq_true];constructor
 ·rintro⟨j,hj,h⟩; exact⟨j,by simpa using hj,by simpa using h⟩
 ·rintro⟨j,hj,h⟩; exact⟨j,by simpa using hj,by simpa using h⟩
theorem Qg (S T:ByteArray) (w:World) (hs:S.size<=140737488355328) (hT:Znm S T) :
 Calls Tryz.prog 50 #[.string S] w fun e w'=>e= .returned (.string T)/\Below w.heap.size w w':=by
 have dI:=fun(W:World)=>run_bytes_of_string (P:=Tryz.prog) W 9 25 5 S Tryz.underlying9 Tryz.underlying25 Tryz.underlying5;have dK:=grownCap_ge w S.size 0 5;have kG:=Zbi w S (grownCap w S.size 0 5) (bytesRow S (grownCap w S.size 0 5)).size ((bytesRow S (grownCap w S.size 0 5)).size+1) (by rw[VM S _ dK]; exact dK);have HO:=Zg kG;have HT:=Zg hT;clear kG hT;go_enter Tryz.func50,Tryz.ntmps50;go_wp2
 clear dI;go_loopw [4,5] (fun p i wr=> ∃ k:Nat,k<=S.size/\i= .int .i64 k/\p= .bool (Zk1 S k)/\Own wr w.heap.size S.size (Zev S k)/\Below w.heap.size w wr) (fun _ i _=>S.size - (intOf i).toNat)
 case atStart=>exact⟨0,by omega,rfl,rfl,(Own.drew HO.out).congr fun j _=>(Zbh S j).symm,((Below.refl _ _).alloc (Nat.le_refl _) _).drew⟩
 case round =>
  obtain⟨k,hk,rfl,rfl,ae,aq⟩:=hrel;by_cases af:k<S.size
  ·have hc:=ae.cell af;rw[Zhp] at hc;have hz:=ae.frozen af;have az:=(Xx S k).1;have aC:=(Xx S k).2;have eH:=Zg ae;have HB:=Zg aq;have HD:=Zg (Zhw S k);clear ae aq;cases hp:Zk1 S k;all_goals
    rw[hp] at HD;clear hp;by_cases hu:65<=PlainAid.bt S k/\PlainAid.bt S k<=90
    ·have ux:=hu.1;have uy:=hu.2;have iU:(PlainAid.bt S k == 46)=false:=beq_eq_false_iff_ne.2 (by omega);have OS:(PlainAid.bt S k+32 == 46)=false:=beq_eq_false_iff_ne.2 (by omega);rw[iU] at HD;have HU:=Zg (show Zc7 S k=PlainAid.bt S k+32 by unfold Zc7 Zhh; rw[if_pos hu]);clear iU;go_wp2
     go_roundw
     case rel=>exact⟨k+1,by omega,by go_num,by rw[HD.out]; rfl,(eH.out.set af _).congr fun j _=>Zhq S k j _ HU.out,HB.out.setCell (Nat.le_refl _) _⟩
     case measure=>simp[intOf]; omega
    ·have HS:=Zg (show Zc7 S k=PlainAid.bt S k by unfold Zc7 Zhh; rw[if_neg hu]);by_cases ux:65<=PlainAid.bt S k
     ·have uy: ¬ PlainAid.bt S k<=90:=by omega
      have iU:(PlainAid.bt S k == 46)=false:=beq_eq_false_iff_ne.2 (by omega);rw[iU] at HD;go_wp2
      go_roundw
      case rel=>exact⟨k+1,by omega,by go_num,by rw[HD.out]; rfl,eH.out.congr fun j _=>VL S k j HS.out,HB.out⟩
      case measure=>simp[intOf]; omega
     ·cases iU:(PlainAid.bt S k == 46);all_goals
       rw[iU] at HD;go_wp2
       go_roundw
       case rel=>exact⟨k+1,by omega,by go_num,by rw[HD.out]; rfl,eH.out.congr fun j _=>VL S k j HS.out,HB.out⟩
       case measure=>simp[intOf]; omega
  ·obtain rfl:k=S.size:=by omega
   have Dd:=fun(c:Nat)=>show(convert 25 9 (.slice (some ⟨w.heap.size,0,none⟩) S.size c)).run Tryz.prog wr= .ok (.string (Zc8 S)) wr from
    YL (Zdr (f':=Zc7 S) ae fun i hi=>by unfold Zev; rw[if_pos hi])
   have ed:(Zc8 S).size<=140737488355328:=by rw[Jo]; exact hs
   by_cases hd:Vv S
   ·have rE:Zk1 S S.size=true:=(Zex S).2 hd;rw[rE];clear rE;go_wp2
    go_ret;exact⟨by rw[HT.out.1 hd]; rfl,aq⟩
   ·have rE:Zk1 S S.size=false:=by rw[Bool.eq_false_iff]; exact fun h=>hd ((Zex S).1 h)
    rw[rE];clear rE;have cJ:=fun(W:World)=>run_string_add_sum (P:=Tryz.prog) W (Zc8 S) Jn (by have:Jn.size=4:=rfl; omega);unfold Jn at cJ;go_wp2
    go_ret;exact⟨by rw[HT.out.2 hd]; rfl,aq⟩
end Go.Proofs.YtplgdpjbkdagfaaGreat
