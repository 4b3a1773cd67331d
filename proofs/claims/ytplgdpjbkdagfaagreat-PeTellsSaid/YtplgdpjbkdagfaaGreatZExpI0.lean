import Derived.Test.YtplgdpjbkdagfaaGreatZRPeX
import Derived.Test.YtplgdpjbkdagfaaGreatZOwnT
import Derived.Test.YtplgdpjbkdagfaaGreatZExpM
import Derived.Test.YtplgdpjbkdagfaaGreatZExpC
import Derived.Deep.RegionWith
import Derived.Test.YtplgdpjbkdagfaaGreatZNought
import Derived.Deep.Cut
import Derived.Test.YtplgdpjbkdagfaaGreatCopy
import Derived.Test.YtplgdpjbkdagfaaGreatZFold
namespace Go.Proofs.YtplgdpjbkdagfaaGreat
open List renaming setIfInBounds_toArray→Zd, set_cons_zero→Ze, set_cons_succ→Zf
open Lib renaming hid→Zg
open Go.ChangeShapes Go.WideShapes Go.ChangeAt Go.RowKit
set_option linter.unusedVariables false
set_option linter.unusedSimpArgs false
def sC (t:List Nat):List Value:=[.string (txt t)]
theorem Qt (t:List Nat):(sC t).length=1:=rfl
theorem SlT.st {w:World} {F:Option Addr} {fs:List (List Nat)} (h:SlT sC 1 w F fs) {k:Nat} (hk:k<fs.length): ∃ b off,F=some ⟨b,off,none⟩/\b<w.heap.size/\w.cell? ⟨b,off+k,none⟩=some (.string (txt fs[k])):=by
 rcases h with h|⟨b,off,rfl,af,hc⟩
 ·rw[h] at hk; simp at hk
 ·exact⟨b,off,rfl,af,by have:=hc k hk 0 _ (by simp[sC]; rfl); simpa using this⟩
def Jw (S:ByteArray) (k:Nat):Bool:=(List.range k).any fun j=>PlainAid.bt S j == 46
theorem Zdu (S:ByteArray) (k:Nat):Jw S (k+1)=(Jw S k||(PlainAid.bt S k == 46)):=by
 unfold Jw; rw[List.range_succ,List.any_append]; simp
theorem Zgr {s:List Nat} (h:Lb s):Jw (txt s) (txt s).size=s.contains 46:=by
 rw[Zk,Bool.eq_iff_iff];unfold Jw;rw[List.any_eq_true,List.contains_iff_mem];constructor
 ·rintro⟨j,hj,h1⟩;have r7:j<s.length:=by simpa using hj
  rw[Yb h r7,VS r7] at h1;have:s[j]=46:=by
   have:=eq_of_beq h1;omega
  rw[<-this]; exact List.getElem_mem r7
 ·intro h1;obtain⟨j,hj,h2⟩:=List.mem_iff_getElem.mp h1;refine⟨j,by simpa using hj,?_⟩;rw[Yb h hj,VS hj,h2];rfl
def Zgs (rows:Nat) (b:List Nat) (i:Nat) (s:List Nat):List Nat :=
 if s.contains 46 then ZW ((b++s)++[0]) (rows+4 * i) 4 b.length else ZW b (rows+4 * i) 4 (if s=[] then 0 else 64+i)
def atF (rows:Nat):List (List Nat)->Nat->List Nat->List Nat
 | [],_,b=>b
 | s::r,i,b=>atF rows r (i+1) (Zgs rows b i s)
def Zgt (r1 r2 n:Nat) (b:List Nat) (i:Nat) (s:List Nat):List Nat:=(ZW (ZW b (r1+4 * i) 4 b.length) (r2+2 * i) 2 (i % max n 1)++s)++[0]
def atN (r1 r2 n:Nat):List (List Nat)->Nat->List Nat->List Nat
 | [],_,b=>b
 | s::r,i,b=>atN r1 r2 n r (i+1) (Zgt r1 r2 n b i s)
def atH (start n m base:Nat):List Nat :=
 ZW (ZW (ZW (ZW (ZW (ZW (List.replicate (start+40+4 * n+6 * m) 0) (start+16) 4 base) (start+20) 4 n) (start+24) 4 m) (start+28) 4 (start+40)) (start+32) 4 (start+40+4 * n)) (start+36) 4 (start+40+4 * n+4 * m)
def atB (start:Nat) (fs:List (List Nat)) (m base:Nat):List Nat:=atF (start+40) fs 0 (atH start fs.length m base)
def atE (start:Nat) (fs ns:List (List Nat)) (base:Nat):List Nat:=atN (start+40+4 * fs.length) (start+40+4 * fs.length+4 * ns.length) fs.length ns 0 (atB start fs ns.length base)
theorem Zlo {t:List Nat} (h:Lb t):((txt t).toList == ([]:List UInt8))=decide (t=[]):=by
 rw[Bool.eq_iff_iff,beq_iff_eq,decide_eq_true_iff,ByteArray.toList_eq];constructor
 ·intro q;have h1:(txt t).size=0:=by
   have h2:=congrArg List.length q;rw[List.length_nil,Array.length_toList] at h2;exact h2
  rw[Zk] at h1;exact List.eq_nil_of_length_eq_zero h1
 ·intro q; subst q; rfl
theorem Zb6 (w:World):Src Tryz.prog 1 25 (.slice (some ⟨w.heap.size,0,none⟩) 1 1) 1 (Zs 1 (lF [0])) (w.alloc (.cells #[.int .u8 0] 5)) :=
 Wp (.inr ⟨w.heap.size,0,rfl,by simp,fun i hi=>by
  obtain rfl:i=0:=by omega
  simp[go_sem,lF]⟩)
def TxOk (s:List Nat):Prop:=Lb s/\s.length<=200
noncomputable def bodyA:Code:=(Tryz.f27.body).getD .skip
def QA (start:Nat) (Mp:Nat) (B3:List Nat) (w:World):Exit->Act->World->Prop :=
 bodyPost Tryz.prog Tryz.f27 fun e w'=> ∃ g c,e= .returned (.tuple #[.slice (some ⟨g,0,none⟩) B3.length c,.agg #[.int .i64 start,.int .i64 ((Mp:Int) - (start:Int))]])/\YG w' w.heap.size g c B3/\Below w.heap.size w w'
set_option maxRecDepth 100000
theorem Zlp {α :Type} (f:Nat-> α):(List.range 167).map f=(f 0::f 1::f 2::f 3::f 4::f 5::f 6::f 7::f 8::f 9::f 10::f 11::f 12::f 13::f 14::f 15::f 16::f 17::f 18::f 19::f 20::f 21::f 22::f 23::f 24::f 25::f 26::f 27::f 28::f 29::f 30::f 31::f 32::f 33::f 34::f 35::f 36::f 37::f 38::f 39::f 40::f 41::f 42::f 43::f 44::f 45::f 46::f 47::f 48::f 49::f 50::f 51::f 52::f 53::f 54::f 55::f 56::f 57::f 58::f 59::f 60::f 61::f 62::f 63::f 64::f 65::f 66::f 67::f 68::f 69::f 70::f 71::f 72::f 73::f 74::f 75::f 76::f 77::f 78::f 79::f 80::f 81::f 82::f 83::f 84::f 85::f 86::f 87::f 88::f 89::f 90::f 91::f 92::f 93::f 94::f 95::f 96::f 97::f 98::f 99::f 100::f 101::f 102::f 103::f 104::f 105::f 106::f 107::f 108::f 109::f 110::f 111::f 112::f 113::f 114::f 115::f 116::f 117::f 118::f 119::f 120::f 121::f 122::f 123::f 124::f 125::f 126::f 127::f 128::f 129::f 130::f 131::f 132::f 133::f 134::f 135::f 136::f 137::f 138::f 139::f 140::f 141::f 142::f 143::f 144::f 145::f 146::f 147::f 148::f 149::f 150::f 151::f 152::f 153::f 154::f 155::f 156::f 157::f 158::f 159::f 160::f 161::f 162::f 163::f 164::f 165::f 166::[]):=rfl
end Go.Proofs.YtplgdpjbkdagfaaGreat
namespace Go.Proofs.YtplgdpjbkdagfaaGreat
open List renaming setIfInBounds_toArray→Zd, set_cons_zero→Ze, set_cons_succ→Zf
open Lib renaming hid→Zg
set_option maxRecDepth 100000
open Go.ChangeShapes Go.WideShapes Go.ChangeAt Go.RowKit
set_option linter.unusedVariables false
set_option linter.unusedSimpArgs false
def Nums (w:World) (M:Option Addr) (ms:List Nat):Prop:=ms=[]\/ ∃ b off,M=some ⟨b,off,none⟩/\b<w.heap.size/\ ∀ i,i<ms.length->w.cell? ⟨b,off+i,none⟩=some (.int .i64 (ms.getD i 0:Nat))
theorem Nums.below {w w':World} {M:Option Addr} {ms:List Nat} (h:Nums w M ms) (hb:Below w.heap.size w w'):Nums w' M ms:=by
 rcases h with h|⟨b,off,rfl,af,hc⟩
 ·exact .inl h
 ·exact .inr ⟨b,off,rfl,Nat.lt_of_lt_of_le af hb.size,fun i hi=>(hb.cell (p:=⟨b,_,none⟩) af).trans (hc i hi)⟩
end Go.Proofs.YtplgdpjbkdagfaaGreat
namespace Go.Proofs.YtplgdpjbkdagfaaGreat
open List renaming setIfInBounds_toArray→Zd, set_cons_zero→Ze, set_cons_succ→Zf
open Lib renaming hid→Zg
set_option maxRecDepth 100000
namespace KeyEx
open Go.ChangeShapes Go.WideShapes Go.ChangeAt Go.RowKit
set_option linter.unusedVariables false
set_option linter.unusedSimpArgs false
theorem cat_data (A B:ByteArray):(A++B).data=A.data++B.data:=by simp
theorem bt_list (S:ByteArray) (i:Nat):PlainAid.bt S i=((S.data.toList[i]?.map fun c=>(c.toNat:Int)).getD 0):=by
 unfold PlainAid.bt;by_cases h:i<S.size
 ·have h2:i<S.data.size:=h;rw[dif_pos h,Array.getElem?_toList,Array.getElem?_eq_getElem h2];rfl
 ·have h2:S.data.size<=i:=Nat.le_of_not_lt h;rw[dif_neg h,Array.getElem?_toList,Array.getElem?_eq_none h2];rfl
theorem bt_cat (A B:ByteArray) (i:Nat):PlainAid.bt (A++B) i=if i<A.size then PlainAid.bt A i else PlainAid.bt B (i - A.size):=by
 rw[bt_list,bt_list,bt_list,cat_data,Array.toList_append];have hs:A.data.toList.length=A.size:=by simp
 by_cases h:i<A.size
 ·rw[if_pos h,List.getElem?_append_left (by omega)]
 ·rw[if_neg h,List.getElem?_append_right (by omega),hs]
end KeyEx
end Go.Proofs.YtplgdpjbkdagfaaGreat
namespace Go.Proofs.YtplgdpjbkdagfaaGreat
set_option maxHeartbeats 8000000
open List renaming setIfInBounds_toArray→Zd, set_cons_zero→Ze, set_cons_succ→Zf
open Lib renaming hid→Zg
set_option maxRecDepth 100000
open Go.ChangeShapes Go.WideShapes Go.ChangeAt Go.RowKit
set_option linter.unusedVariables false
set_option linter.unusedSimpArgs false
def Zm6 (c:Nat):Nat:=if 65<=c/\c<=90 then c+32 else c
def VJ (t:List Nat):List Nat:=if t.any (· == 46) then t.map Zm6 else t.map Zm6++[46,100,108,108]
theorem Ziy {t:List Nat} (h:Lb t):Lb (t.map Zm6):=by
 intro v hv;obtain⟨c,hc,rfl⟩:=List.mem_map.mp hv;have:=h c hc;unfold Zm6; split <;> omega
theorem Jx {t:List Nat} (h:Lb t):Lb (VJ t):=by
 unfold VJ;split
 ·exact Ziy h
 ·exact(Ziy h).append (fun v hv=>by simp at hv; omega)
theorem Zfd {t:List Nat} (h:Lb t):Zc8 (txt t)=txt (t.map Zm6):=by
 unfold Zc8;have e:txt (t.map Zm6)=ZB (lF (t.map Zm6)) 0 (txt t).size:=by rw[Zk]; unfold txt; rw[List.length_map]
 rw[e];refine ZA fun i hi=> ?_;rw[Zk] at hi;rw[Nat.zero_add];unfold Zc7;rw[WJ h hi];unfold Zhh lF;simp only[List.getD,List.getElem?_map,List.getElem?_eq_getElem hi,Option.map_some,Option.getD_some];unfold Zm6;split <;> split <;> omega
theorem Ziz {t:List Nat} (h:Lb t):Vv (txt t)↔t.any (· == 46)=true:=by
 unfold Vv;rw[Zk,List.any_eq_true];constructor
 ·rintro⟨i,hi,e⟩;rw[WJ h hi] at e;refine⟨t[i],List.getElem_mem hi,?_⟩;unfold lF at e;simp only[List.getD,List.getElem?_eq_getElem hi,Option.getD_some] at e;simp; omega
 ·rintro⟨v,hv,e⟩;obtain⟨i,hi,rfl⟩:=List.mem_iff_getElem.mp hv;refine⟨i,hi,?_⟩;rw[WJ h hi];unfold lF;simp only[List.getD,List.getElem?_eq_getElem hi,Option.getD_some];have:t[i]=46:=by simpa using e
  omega
theorem Zn3 {a b:List Nat}:txt (a++b)=txt a++txt b:=by
 unfold txt;rw[List.length_append,<-XY];congr 1
 ·exact ZA fun i hi=>by rw[Nat.zero_add,UK]; unfold VQ; rw[if_pos hi]
 ·exact ZA fun i hi=>by rw[Nat.zero_add,Nat.zero_add,UK]; unfold VQ; rw[if_neg (by omega)]; congr 1; omega
theorem Zdv {t:List Nat} (h:Lb t):Znm (txt t) (txt (VJ t)):=by
 unfold VJ;constructor
 ·intro hd;rw[if_pos ((Ziz h).1 hd),Zfd h]
 ·intro hd;rw[if_neg (fun k=>hd ((Ziz h).2 k)),Zn3,Zfd h];rfl
theorem Zi0 {a b:List Nat} (ha:Lb a) (hb:Lb b) (h:(txt a).toList=(txt b).toList):a=b:=by
 have e:txt a=txt b:=by
  unfold txt ZB at h ⊢;rw[Lib.strOfNums_toList,Lib.strOfNums_toList] at h;apply ByteArray.ext;apply Array.ext';exact h
 have hn:a.length=b.length:=by have:=congrArg ByteArray.size e; rwa [Zk,Zk] at this
 refine List.ext_getElem hn fun i h1 h2=> ?_;have e1:=WJ ha h1;rw[e,WJ hb h2] at e1;unfold lF at e1;simp only[List.getD,List.getElem?_eq_getElem h1,List.getElem?_eq_getElem h2,Option.getD_some] at e1;omega
def Yw (t:List Nat):List Nat:=match Xq t with|some p=>t.take p|none=>[]
theorem Jy {t:List Nat} (h:Lb t):Lb (Yw t):=by
 unfold Yw;split
 ·exact h.take _
 ·exact fun v hv=>by simp at hv
theorem Qu (t:List Nat):(Yw t).length<=t.length:=by
 unfold Yw;split
 ·rw[List.length_take]; omega
 ·simp
theorem Zdw (t:List Nat) (w:World) (h:Lb t) (hl:t.length<=1000000) :
 Calls Tryz.prog 51 #[.string (txt t)] w fun e w' =>
 WayQ (ZH t) (txt (Yw t)) e/\Below w.heap.size w w':=by
 rcases hp:Xq t with _|p
 ·refine(UQ t w h hl hp).mono ?_;rintro e w2 ⟨⟨D,S,O,B,rfl⟩,hb⟩;refine⟨.mk (fun hs=> ?_),hb⟩;unfold ZH at hs;rw[hp] at hs;cases hs
 ·have:Yw t=t.take p:=by unfold Yw; rw[hp]
  rw[this];exact JR t w h hl p hp
theorem Zi1 (t:List Nat) (w:World) (h:Lb t) (hl:t.length<=1000000) (ho:ZH t=true):Calls Tryz.prog 35 #[.string (txt t)] w fun e w' =>
 (∃ S O B,e= .returned (.tuple #[.string (txt (Yw t)),.agg #[.string S,.int .i64 O,.bool B],.bool true]))/\Below w.heap.size w w':=by
 have hz:(txt t).size<=140737488355300:=by rw[Zk]; omega
 rcases hd:Xq t with _|p
 ·unfold ZH at ho;rw[hd] at ho;cases ho
 ·have Me:Yw t=t.take p:=by unfold Yw; rw[hd]
  rw[Me];obtain⟨hp,iU,gq⟩:=WO hd;have e1:(txt t).extract 0 p=txt (t.take p):=by
   have:=XZ h 0 p (by omega);rwa [Nat.zero_add,List.drop_zero] at this
  have e2:(txt t).extract (p+1) (txt t).size=txt (t.drop (p+1)):=by
   have:=XZ h (p+1) (t.length - (p+1)) (by omega);rw[show p+1+(t.length - (p+1))=t.length by omega] at this;rw[Zk,this,List.take_of_length_le (by simp)]
  have nM:UB (txt t) (txt (t.take p)) (txt (t.drop (p+1))) p :=
   ⟨by rw[Zk]; exact hp,by rw[Yb h hp]; exact iU,fun j h1 h2=>by rw[Zk] at h2; rw[Yb h h2]; exact gq j h1 h2,e1,e2⟩
  have hs:(Un (t.take p)&&(Yu (t.drop (p+1))||((t.drop (p+1)).headD 0 == 35&&YT (t.drop (p+1)).tail)))=true:=by
   have:=ho;unfold ZH at this;rw[hd] at this;exact this
  rw[Bool.and_eq_true,Bool.or_eq_true,Bool.and_eq_true] at hs;have tK:=(Ww (h.take p)).2 hs.1;rcases hs.2 with hR|⟨zL,hO⟩
  ·refine(Zcq _ _ _ p w (by omega) nM tK ((XQ (h.drop _)).2 hR)).mono ?_;rintro e w' ⟨rfl,hw⟩;exact⟨⟨_,_,_,rfl⟩,hw⟩
  ·have fM:=h.drop (p+1);rcases hr:t.drop (p+1) with _|⟨c,r⟩
   ·rw[hr] at zL;simp at zL
   ·rw[hr] at nM zL hO fM;simp only[List.headD_cons,beq_iff_eq,List.tail_cons] at zL hO;subst zL;have tL:Lb r:=fun v hv=>fM v (List.mem_cons_of_mem _ hv);rw[Zfe] at nM;refine(Zbm _ _ _ p w (by omega) nM tK ((XR tL).2 hO)).mono ?_;rintro e w' ⟨rfl,hw⟩;exact⟨⟨_,_,_,rfl⟩,hw⟩
theorem Zlq (start n m rows n4 r1 m4 r2 Z:Nat) (ns:List (List Nat)) (ln:Nat) (N:Option Addr) (nc:Nat) (w wr:World) (aQ:start<=4200) (zI:m<=12) (zH:n<=12) (B3 b:List Nat) (g c:Nat)
 (EH:Hid (∀ W,Below w.heap.size w W->SlT sC 1 W N ns)) (EI:Hid (∀ s∈ns,TxOk s)) (Ci:Hid (m<=ns.length/\m<=ln)) (hU:Hid ((ns.take 12).length=m))
 (er:(start:Int)+40=(rows:Int)) (Ea:(4:Int) * (n:Int)=(n4:Int)) (Ig:(rows:Int)+(n4:Int)=(r1:Int)) (EJ:(4:Int) * (m:Int)=(m4:Int)) (Ih:(r1:Int)+(m4:Int)=(r2:Int)) (Mq:Hid (r1+6 * m=Z/\r2=r1+4 * m)) (Ii:Z<=4400)
 (HO:Hid (YG wr (w.heap.size+2) g c b)) (rW:Hid (Z<=b.length)) (Mr:b.length<=7000) (HB:Hid (Below w.heap.size w wr))
 (HX:Hid (wr.heap[w.heap.size]? =some (.cells #[.int .i64 0,.int .i64 0] 37 (0,0)))) (HY:Hid (wr.heap[w.heap.size+1]? =some (.cells #[.int .i64 start,.int .i64 0] 37 (0,0))))
 (aN:Hid (atN r1 r2 n (ns.take 12) 0 b=B3)) (a:Act)
 (ha:Has 167 [0,2,9,10,11,12,13,14] [.int .i64 start,.slice N ln nc,.pointer (some ⟨w.heap.size,0,none⟩),.int .i64 n,.int .i64 m,.pointer (some ⟨w.heap.size+1,0,none⟩),.slice (some ⟨g,0,none⟩) b.length c,.int .i64 rows] a):(Yc 12 bodyA).wp Tryz.prog (QA start b.length B3 w) a wr:=by
 obtain⟨u,rfl⟩:=Yt ha;simp only[Zlp,Xi,Zf,Ze];clear ha;conv=>arg 2; whnf
 have gN:wr.cell? ⟨w.heap.size+1,1,none⟩=some (.int .i64 0):=by rw[Zh HY.out]; rfl
 have Mf:wr.frozen? ⟨w.heap.size+1,1,none⟩=false:=frozen_of_row _ _ _ _ _ HY.out;obtain⟨zz,oo⟩: ∃ zz:Int,(b.length:Int) - (start:Int)=zz:=⟨_,rfl⟩;have Pm:=Zg (show zz<7001/\ -5000<zz from by omega);obtain⟨w9,ah⟩: ∃ w9,wr.setCell ⟨w.heap.size+1,1,none⟩ (.int .i64 zz)=w9:=⟨_,rfl⟩;replace HX:=Zg (show w9.heap[w.heap.size]? =some (.cells #[.int .i64 0,.int .i64 0] 37 (0,0)) from by rw[<-ah]; exact(heap_setCell_other wr _ _ _ (by simp)).trans HX.out);replace HO:=Zg (show YG w9 (w.heap.size+2) g c b from by
  rw[<-ah];refine HO.out.of_block (by simp) (heap_setCell_other wr _ _ _ ?_);have:=HO.out.le;show g≠w.heap.size+1
  omega)
 replace HY:=Zg (show w9.heap[w.heap.size+1]? =some (.cells #[.int .i64 start,.int .i64 zz] 37 (0,0)) from by rw[<-ah]; exact heap_setCell_same wr (w.heap.size+1) 1 _ _ _ HY.out);replace HB:=Zg (show Below w.heap.size w w9 from by rw[<-ah]; exact HB.out.setCell (p:=⟨w.heap.size+1,1,none⟩) (Nat.le_succ _) _);have q9:=Zg ah;clear ah;go_upto_region 28 with(fail)
 refine(congrArg _ q9.out).mpr ?_;clear gN Mf q9;go_wp2_with fail
 go_loopw [13,20] (fun v13 v20 wr=> ∃(j g c:Nat) (b':List Nat),j<=m/\v20= .int .i64 j/\v13= .slice (some ⟨g,0,none⟩) b'.length c/\YG wr (w.heap.size+2) g c b'/\Z<=b'.length/\b'.length<=7000+201 * j/\Below w.heap.size w wr/\wr.heap[w.heap.size]? =some (.cells #[.int .i64 0,.int .i64 0] 37 (0,0))/\wr.heap[w.heap.size+1]? =some (.cells #[.int .i64 start,.int .i64 zz] 37 (0,0))/\atN r1 r2 n ((ns.take 12).drop j) j b'=B3) (fun _ v20 _=>m - (intOf v20).toNat)
 case atStart=>exact⟨0,g,c,b,Nat.zero_le _,rfl,rfl,HO.out,rW.out,by omega,HB.out,HX.out,HY.out,aN.out⟩
 case round =>
  obtain⟨j,g,c,b',hj,rfl,rfl,ho,Mu,Mv,aq,hx,hy,br⟩:=hrel;replace HO:=Zg ho;replace HB:=Zg aq;replace HX:=Zg hx;replace HY:=Zg hy;replace aN:=Zg br;clear ho aq hx hy br;by_cases af:j<m
  ·have Ia:j<ns.length:=by have:=Ci.out; omega
   have ze:j<ln:=by have:=Ci.out; omega
   obtain⟨bn,off,rfl,gd,q0⟩:=(EH.out wr HB.out).st Ia;have ba:=EI.out ns[j] (List.getElem_mem Ia);have br:=aN.out;rw[List.drop_eq_getElem_cons (by have:=hU.out; omega),List.getElem_take] at br;obtain⟨s,tN⟩: ∃ s,ns[j]=s:=⟨_,rfl⟩;rw[tN] at br ba q0;simp only[atN,Zgt] at br;have vw:=Zg (fun W=>Wz (w:=W) s ba.1);obtain⟨T,hT⟩: ∃ T,txt s=T:=⟨_,rfl⟩;rw[hT] at q0 vw;have kI:=Zg ba;obtain⟨j4,Io⟩: ∃ q,4 * j=q:=⟨_,rfl⟩;obtain⟨p,yS⟩: ∃ q,r1+j4=q:=⟨_,rfl⟩;obtain⟨j2,tO⟩: ∃ q,2 * j=q:=⟨_,rfl⟩;obtain⟨q,dO⟩: ∃ q,r2+j2=q:=⟨_,rfl⟩;have Pn:(4:Int) * (j:Int)=(j4:Int):=by omega
   have ep:(r1:Int)+(j4:Int)=(p:Int):=by omega
   have Po:(2:Int) * (j:Int)=(j2:Int):=by omega
   have Pp:(r2:Int)+(j2:Int)=(q:Int):=by omega
   obtain⟨mx,Ck⟩: ∃ mx,max n 1=mx:=⟨_,rfl⟩;have Pq:max (n:Int) 1=(mx:Int):=by omega
   have Mg:mx≠0:=by omega
   have rH:Int.tmod (j:Int) (mx:Int)=((j % mx:Nat):Int):=rfl;obtain⟨rr,aY⟩: ∃ rr,j % mx=rr:=⟨_,rfl⟩;have Mh:rr<=12:=by have:=Nat.mod_le j mx; omega
   rw[aY] at rH;rw[Io,yS,tO,dO,Ck,aY] at br;have Ch:=Zg (show p+4<=Z/\q+2<=Z from by have:=Mq.out; omega);have dP:=Zp (b:=b') (o:=p) (n:=4) (by have:=Ch.out; omega) b'.length;have hp:=Xe (some ⟨g,0,none⟩) c b' p 4 (b'.length:Nat) b'.length wr HO.out.lb (by omega) HO.out.slB (by omega) (by omega) (by have:=Ch.out; omega) (ZZ (by omega)) (by omega);obtain⟨d1,hd1⟩: ∃ q,ZW b' p 4 b'.length=q:=⟨_,rfl⟩;rw[hd1] at hp dP br;clear hd1 Io yS tO dO Ck aY tN hT ba;have tM: ∀ W,Below wr.heap.size wr W->W.cell? ⟨bn,off+j,none⟩=some (.string T):=fun W hW=>(hW.cell (p:=⟨bn,off+j,none⟩) gd).trans q0;have Mi:=Zg tM;clear tM q0;go_wp2_with fail
   refine hp.mono ?_;rintro e w8 ⟨tc,Cl,rfl,ho,hw⟩;have Ib:=Zg hw;replace HO:=Zg (ho.weaken (base':=w.heap.size+2) (Zi HY.out));replace HX:=Zg ((hw.block w.heap.size (Zi HX.out)).trans HX.out);replace HY:=Zg ((hw.block (w.heap.size+1) (Zi HY.out)).trans HY.out);replace HB:=Zg (HB.out.trans (hw.mono HB.out.size));clear hp ho hw;have fw:=Zp (b:=d1) (o:=q) (n:=2) (by have:=Ch.out; omega) rr;have hp:=Xe (some ⟨tc,0,none⟩) Cl d1 q 2 (rr:Nat) rr w8 HO.out.lb (by omega) HO.out.slB (by omega) (by omega) (by have:=Ch.out; omega) (ZZ (by omega)) (by omega);obtain⟨d2,kj⟩: ∃ q',ZW d1 q 2 rr=q':=⟨_,rfl⟩;rw[kj] at hp fw br;rw[dP] at hp fw;clear kj;go_wp2_with fail
   refine hp.mono ?_;rintro e mP ⟨EK,Ip,rfl,ho,hw⟩;have q0:=Mi.out mP (Ib.out.trans (hw.mono Ib.out.size));replace HO:=Zg (ho.weaken (base':=w.heap.size+2) (Zi HY.out));replace HX:=Zg ((hw.block w.heap.size (Zi HX.out)).trans HX.out);replace HY:=Zg ((hw.block (w.heap.size+1) (Zi HY.out)).trans HY.out);replace HB:=Zg (HB.out.trans (hw.mono HB.out.size));have zg:=HO.out;clear hp ho hw;have dE:=kI.out.2;have bM:=Zg fw;clear zg;go_wp2_with (first
    | (at_builtin; refine YJ rfl (.tmp 157) (.tmp 161) 9 rfl (.string T) HO.out bM.out.symm rfl (vw.out _) kI.out.1 (by omega) (Zi HY.out) rfl rfl ?_; intro g5 c5 w5 ag gB; have cx:=Zg ag; have bp:=Zg gB; clear ag gB)
    | (at_builtin; refine YJ rfl (.tmp 162) (.tmp 163) 25 rfl (.slice (some ⟨w5.heap.size,0,none⟩) 1 1) (cx.out.alloc _) (by rw[List.length_append,bM.out]) (show 1=[0].length from rfl) (Zb6 w5) (fun v hv=>by simp at hv; omega) (by omega) (Nat.le_trans (Nat.le_trans (Zi HY.out) bp.out.size) (by simp)) rfl rfl ?_; intro g6 c6 w6 gD gE; have dk:=Zg gD; have cU:=Zg gE; clear gD gE)
    | fail)
   have hlen:(d2++s++[0]).length=b'.length+s.length+1:=by simp only[List.length_append,List.length_singleton,bM.out]
   have tH:w.heap.size+2<=w5.heap.size:=Nat.le_trans (Zi HY.out) bp.out.size;have iB:Below (w.heap.size+2) mP w6:=(bp.out.alloc tH _).trans cU.out;replace HX:=Zg ((iB.block w.heap.size (by omega)).trans HX.out);replace HY:=Zg ((iB.block (w.heap.size+1) (by omega)).trans HY.out);replace HB:=Zg (HB.out.trans (iB.mono (by omega)));clear tH iB q0;go_roundw
   case rel=>exact⟨j+1,g6,c6,d2++s++[0],by omega,by go_num,by rw[hlen],dk.out,by omega,by omega,HB.out,HX.out,HY.out,br⟩
   case measure=>simp[intOf]; omega
  ·obtain rfl:j=m:=by omega
   have br:=aN.out;rw[List.drop_eq_nil_of_le (by have:=hU.out; omega)] at br;have vF:b'=B3:=br;subst vF;have ox:wr.cell? ⟨w.heap.size+1,0,none⟩=some (.int .i64 start):=by rw[Zh HY.out]; rfl
   have gN:wr.cell? ⟨w.heap.size+1,1,none⟩=some (.int .i64 zz):=by rw[Zh HY.out]; rfl
   go_upto_region 34 with(fail)
   have HS:=Zg (show Below w.heap.size w wr.drew/\wr.drew.cell? ⟨w.heap.size+1,0,none⟩=some (.int .i64 start)/\wr.drew.cell? ⟨w.heap.size+1,1,none⟩=some (.int .i64 zz) from⟨HB.out.drew,ox,gN⟩);clear ox gN;refine wp_region_noPanic ?_;refine Zt (fun W=>Below w.heap.size w W/\W.cell? ⟨w.heap.size+1,0,none⟩=some (.int .i64 start)/\W.cell? ⟨w.heap.size+1,1,none⟩=some (.int .i64 zz)) (fun _=>True) 99 (by kernel_rfl) ?_;refine wU (i:=0) HS.out ?_;refine wU (i:=1) HS.out ?_ (hy:=by refine Or.inl ⟨by rfl,?_⟩; intro W aL; have mb:=aL.2.1; have dO:=aL.2.2; clear aL; go_simp; try with_reducible rfl);refine wU (i:=2) HS.out ?_;refine wO (i:=3) (fun K hK=> ?_);refine Yd rfl 37 _ _ rfl w.heap.size #[.int .i64 start,.int .i64 zz] ?_ ?_ 37 #[.int .i64 0,.int .i64 0] HX.out (by kernel_rfl) rfl (by simp[Value.oneCell']) ?_
   ·first|rfl|simp[Act.eval]
   ·first|rfl|simp[Act.eval]
   have aF:=Zg (show Below w.heap.size w (wr.drew.setRow w.heap.size #[.int .i64 start,.int .i64 zz])/\(wr.drew.setRow w.heap.size #[.int .i64 start,.int .i64 zz]).cell? ⟨w.heap.size+1,0,none⟩=some (.int .i64 start)/\(wr.drew.setRow w.heap.size #[.int .i64 start,.int .i64 zz]).cell? ⟨w.heap.size+1,1,none⟩=some (.int .i64 zz) from
    ⟨below_setRow HS.out.1 (Nat.le_refl _) _,(cell_setRow_other _ _ _ _ (by simp)).trans HS.out.2.1,(cell_setRow_other _ _ _ _ (by simp)).trans HS.out.2.2⟩)
   have ai:=Zg (setRow_heap wr.drew w.heap.size _ #[.int .i64 start,.int .i64 zz] _ _ HX.out);have di:=Zg (show YG (wr.drew.setRow w.heap.size #[.int .i64 start,.int .i64 zz]) w.heap.size g c b' from by
    refine(HO.out.weaken (base':=w.heap.size) (by omega)).of_block (by rw[size_setRow]; exact Nat.le_refl _) (setRow_other wr.drew _ _ _ ?_);have:=HO.out.le;omega)
   refine hK.out _ _ aF.out (fun _=>trivial) ?_;clear hK K;try simp only[Act.put,Zd,Ze,Zf]
   refine Zo (by kernel_rfl) ?_ _;refine NoPanic.normal ?_;generalize wr.drew.setRow w.heap.size #[.int .i64 start,.int .i64 zz]=w9 at *;have k0:w9.cell? ⟨w.heap.size,0,none⟩=some (.int .i64 start):=by rw[Zh ai.out]; rfl
   have k1:w9.cell? ⟨w.heap.size,1,none⟩=some (.int .i64 zz):=by rw[Zh ai.out]; rfl
   go_wp2_with fail
   refine bodyPost_ret (v:= .tuple #[.slice (some ⟨g,0,none⟩) b'.length c,.agg #[.int .i64 start,.int .i64 zz]]) (by simp[results,Tryz.results27,go_sem,k0,k1]) rfl ?_;exact⟨g,c,by rw[oo],di.out,aF.out.1⟩
theorem Zn4 (start base:Nat) (fs ns:List (List Nat)) (lf ln:Nat) (F N:Option Addr) (fc nc:Nat) (w:World) (aQ:start<=4200) (hF:SlT sC 1 w F fs) (hN:SlT sC 1 w N ns) (Il: ∀ s∈fs,TxOk s) (Im: ∀ s∈ns,TxOk s) (hb:base<4294967296) (Ms:min lf 12=min fs.length 12) (Mt:min ln 12=min ns.length 12) (ra:lf<=9223372036854775807) (jz:ln<=9223372036854775807)
 (B2 B3:List Nat) (my:atB start (fs.take 12) (min ln 12) base=B2) (nP:atE start (fs.take 12) (ns.take 12) base=B3) :
 Calls Tryz.prog 27 #[.int .i64 start,.slice F lf fc,.slice N ln nc,.int .i64 base] w fun e w' =>
  ∃ g c,e= .returned (.tuple #[.slice (some ⟨g,0,none⟩) B3.length c,.agg #[.int .i64 start,.int .i64 ((B2.length:Int) - (start:Int))]])/\YG w' w.heap.size g c B3/\Below w.heap.size w w':=by
 obtain⟨n,hn⟩: ∃ n,min lf 12=n:=⟨_,rfl⟩;obtain⟨m,hm⟩: ∃ m,min ln 12=m:=⟨_,rfl⟩;have Ic:min (lf:Int) 12=(n:Int):=by omega
 have Ie:min (ln:Int) 12=(m:Int):=by omega
 have zH:n<=12:=by omega
 have zI:m<=12:=by omega
 have oX:(fs.take 12).length=n:=by rw[List.length_take]; omega
 have ow:(ns.take 12).length=m:=by rw[List.length_take]; omega
 unfold atE at nP;rw[ow,oX] at nP;rw[hm] at my;rw[my] at nP;unfold atB at my;rw[oX] at my;unfold atH at my;have Mj:=Zg (fun W (hW:Below w.heap.size w W)=>hF.below hW);have EH:=Zg (fun W (hW:Below w.heap.size w W)=>hN.below hW);have Mk:=Zg Il;have EI:=Zg Im;have tE:=Zg (show n<=fs.length/\n<=lf by omega);have Ci:=Zg (show m<=ns.length/\m<=ln by omega);have zJ:=Zg oX;have hU:=Zg ow;obtain⟨rows,nN⟩: ∃ q,start+40=q:=⟨_,rfl⟩;obtain⟨n4,zj⟩: ∃ q,4 * n=q:=⟨_,rfl⟩;obtain⟨r1,uB⟩: ∃ q,rows+n4=q:=⟨_,rfl⟩;obtain⟨m6,BA⟩: ∃ q,6 * m=q:=⟨_,rfl⟩;obtain⟨m4,jE⟩: ∃ q,4 * m=q:=⟨_,rfl⟩;obtain⟨r2,gp⟩: ∃ q,r1+m4=q:=⟨_,rfl⟩;obtain⟨Z,hZ⟩: ∃ q,r1+m6=q:=⟨_,rfl⟩;rw[nN,zj,uB,BA,jE,gp,hZ] at my;rw[nN,zj,uB,jE,gp] at nP;have er:(start:Int)+40=(rows:Int):=by omega
 have Ea:(4:Int) * (n:Int)=(n4:Int):=by omega
 have Ig:(rows:Int)+(n4:Int)=(r1:Int):=by omega
 have Pr:(6:Int) * (m:Int)=(m6:Int):=by omega
 have EJ:(4:Int) * (m:Int)=(m4:Int):=by omega
 have Ih:(r1:Int)+(m4:Int)=(r2:Int):=by omega
 have eZ:(r1:Int)+(m6:Int)=(Z:Int):=by omega
 have Ii:Z<=4400:=by omega
 obtain⟨cg,cq⟩: ∃ q,start+16=q:=⟨_,rfl⟩;have kx:(start:Int)+16=(cg:Int):=by omega
 obtain⟨kp,kU⟩: ∃ q,start+20=q:=⟨_,rfl⟩;have Eb:(start:Int)+20=(kp:Int):=by omega
 obtain⟨kq,kV⟩: ∃ q,start+24=q:=⟨_,rfl⟩;have Ec:(start:Int)+24=(kq:Int):=by omega
 obtain⟨eG,eY⟩: ∃ q,start+28=q:=⟨_,rfl⟩;have ru:(start:Int)+28=(eG:Int):=by omega
 obtain⟨kr,kW⟩: ∃ q,start+32=q:=⟨_,rfl⟩;have Ed:(start:Int)+32=(kr:Int):=by omega
 obtain⟨jZ,kX⟩: ∃ q,start+36=q:=⟨_,rfl⟩;have Ee:(start:Int)+36=(jZ:Int):=by omega
 rw[cq,kU,kV,eY,kW,kX] at my;have HQ:=Zg (And.intro nN (And.intro zj (And.intro uB (And.intro BA (And.intro jE (And.intro gp hZ))))));have gO:=Zg (show jZ+4<=rows/\rows<=Z/\cg+4<=Z/\kp+4<=Z/\kq+4<=Z/\eG+4<=Z/\kr+4<=Z/\jZ+4<=Z from by omega);have aj:=Zg my;have aN:=Zg nP;clear Ms Mt nN zj uB BA jE gp hZ cq kU kV eY kW kX hn hm hF hN Il Im oX ow my nP;go_enter Tryz.func27,Tryz.ntmps27;go_upto_region 5 with(first
  | (at_make; refine Yk _ rfl (.tmp 36) (.tmp 36) 25 rfl 5 (.int .u8 0) 1 (by kernel_rfl) (by kernel_rfl) rfl .i64 .i64 Z (by simp[Act.eval,Act.put]) (by simp[Act.eval,Act.put]) (by omega) (by omega) ?_; intro w1 ao cG; have fg:=Zg ao; have cW:=Zg cG; clear ao cG)
  | fail)
 have qb:((w.alloc (.cells #[.int .i64 0,.int .i64 0] 37)).alloc (.cells #[.int .i64 start,.int .i64 0] 37)).heap.size=w.heap.size+2:=by simp
 have ao:=fg.out;have cG:=cW.out;rw[qb] at ao cG;have HX:=Zg (show w1.heap[w.heap.size]? =some (.cells #[.int .i64 0,.int .i64 0] 37 (0,0)) from(ao.block w.heap.size (by omega)).trans ((Below.heap_alloc _ _ w.heap.size (by simp)).trans (heap_alloc_new w _)));have HY:=Zg (show w1.heap[w.heap.size+1]? =some (.cells #[.int .i64 start,.int .i64 0] 37 (0,0)) from(ao.block (w.heap.size+1) (by omega)).trans (by
  have h:=heap_alloc_new (w.alloc (.cells #[.int .i64 0,.int .i64 0] 37)) (.cells #[.int .i64 start,.int .i64 0] 37);rwa [show(w.alloc (.cells #[.int .i64 0,.int .i64 0] 37)).heap.size=w.heap.size+1 by simp] at h))
 have HB:=Zg (show Below w.heap.size w w1 from(((Below.refl w.heap.size w).alloc (Nat.le_refl _) _).alloc (by simp) _).trans (ao.mono (by omega)));have HO:=Zg (YG.noughts (base:=w.heap.size+2) cG (Nat.le_refl _) (by omega));have lQ:(List.replicate Z 0).length=Z:=List.length_replicate;clear ao cG fg cW qb;generalize List.replicate Z 0=b0 at *;have hp:=Xe (some ⟨(w.heap.size+2),0,none⟩) Z b0 cg 4 (base:Nat) base w1 HO.out.lb (by omega) HO.out.slB (by omega) (by omega) (by have:=gO.out; omega) (ZZ (by omega)) (by omega);have dP:=Zp (b:=b0) (o:=cg) (n:=4) (by have:=gO.out; omega) base;obtain⟨b1,az⟩: ∃ q,ZW b0 cg 4 base=q:=⟨_,rfl⟩;rw[az] at hp dP;rw[lQ] at hp dP;have h:=aj.out;rw[az] at h;replace aj:=Zg h;clear h az lQ;go_wp2_with fail
 refine hp.mono ?_;rintro e w2 ⟨g1,c1,rfl,ho,hw⟩;replace HO:=Zg (ho.weaken (base':=w.heap.size+2) (Zi HY.out));replace HX:=Zg ((hw.block w.heap.size (Zi HX.out)).trans HX.out);replace HY:=Zg ((hw.block (w.heap.size+1) (Zi HY.out)).trans HY.out);replace HB:=Zg (HB.out.trans (hw.mono HB.out.size));clear hp ho hw;have hp:=Xe (some ⟨g1,0,none⟩) c1 b1 kp 4 (n:Nat) n w2 HO.out.lb (by omega) HO.out.slB (by omega) (by omega) (by have:=gO.out; omega) (ZZ (by omega)) (by omega);have fw:=Zp (b:=b1) (o:=kp) (n:=4) (by have:=gO.out; omega) n;obtain⟨b2,aC⟩: ∃ q,ZW b1 kp 4 n=q:=⟨_,rfl⟩;rw[aC] at hp fw;rw[dP] at hp fw;have h:=aj.out;rw[aC] at h;replace aj:=Zg h;clear h aC dP;go_wp2_with fail
 refine hp.mono ?_;rintro e w3 ⟨g2,c2,rfl,ho,hw⟩;replace HO:=Zg (ho.weaken (base':=w.heap.size+2) (Zi HY.out));replace HX:=Zg ((hw.block w.heap.size (Zi HX.out)).trans HX.out);replace HY:=Zg ((hw.block (w.heap.size+1) (Zi HY.out)).trans HY.out);replace HB:=Zg (HB.out.trans (hw.mono HB.out.size));clear hp ho hw;have hp:=Xe (some ⟨g2,0,none⟩) c2 b2 kq 4 (m:Nat) m w3 HO.out.lb (by omega) HO.out.slB (by omega) (by omega) (by have:=gO.out; omega) (ZZ (by omega)) (by omega);have gl:=Zp (b:=b2) (o:=kq) (n:=4) (by have:=gO.out; omega) m;obtain⟨b3,bJ⟩: ∃ q,ZW b2 kq 4 m=q:=⟨_,rfl⟩;rw[bJ] at hp gl;rw[fw] at hp gl;have h:=aj.out;rw[bJ] at h;replace aj:=Zg h;clear h bJ fw;go_wp2_with fail
 refine hp.mono ?_;rintro e w4 ⟨g3,c3,rfl,ho,hw⟩;replace HO:=Zg (ho.weaken (base':=w.heap.size+2) (Zi HY.out));replace HX:=Zg ((hw.block w.heap.size (Zi HX.out)).trans HX.out);replace HY:=Zg ((hw.block (w.heap.size+1) (Zi HY.out)).trans HY.out);replace HB:=Zg (HB.out.trans (hw.mono HB.out.size));clear hp ho hw;have hp:=Xe (some ⟨g3,0,none⟩) c3 b3 eG 4 (rows:Nat) rows w4 HO.out.lb (by omega) HO.out.slB (by omega) (by omega) (by have:=gO.out; omega) (ZZ (by omega)) (by omega);have iZ:=Zp (b:=b3) (o:=eG) (n:=4) (by have:=gO.out; omega) rows;obtain⟨b4,bP⟩: ∃ q,ZW b3 eG 4 rows=q:=⟨_,rfl⟩;rw[bP] at hp iZ;rw[gl] at hp iZ;have h:=aj.out;rw[bP] at h;replace aj:=Zg h;clear h bP gl;go_wp2_with fail
 refine hp.mono ?_;rintro e w5 ⟨g4,c4,rfl,ho,hw⟩;replace HO:=Zg (ho.weaken (base':=w.heap.size+2) (Zi HY.out));replace HX:=Zg ((hw.block w.heap.size (Zi HX.out)).trans HX.out);replace HY:=Zg ((hw.block (w.heap.size+1) (Zi HY.out)).trans HY.out);replace HB:=Zg (HB.out.trans (hw.mono HB.out.size));clear hp ho hw;have hp:=Xe (some ⟨g4,0,none⟩) c4 b4 kr 4 (r1:Nat) r1 w5 HO.out.lb (by omega) HO.out.slB (by omega) (by omega) (by have:=gO.out; omega) (ZZ (by omega)) (by omega);have nO:=Zp (b:=b4) (o:=kr) (n:=4) (by have:=gO.out; omega) r1;obtain⟨b5,cm⟩: ∃ q,ZW b4 kr 4 r1=q:=⟨_,rfl⟩;rw[cm] at hp nO;rw[iZ] at hp nO;have h:=aj.out;rw[cm] at h;replace aj:=Zg h;clear h cm iZ;go_wp2_with fail
 refine hp.mono ?_;rintro e w6 ⟨g5,c5,rfl,ho,hw⟩;replace HO:=Zg (ho.weaken (base':=w.heap.size+2) (Zi HY.out));replace HX:=Zg ((hw.block w.heap.size (Zi HX.out)).trans HX.out);replace HY:=Zg ((hw.block (w.heap.size+1) (Zi HY.out)).trans HY.out);replace HB:=Zg (HB.out.trans (hw.mono HB.out.size));clear hp ho hw;have hp:=Xe (some ⟨g5,0,none⟩) c5 b5 jZ 4 (r2:Nat) r2 w6 HO.out.lb (by omega) HO.out.slB (by omega) (by omega) (by have:=gO.out; omega) (ZZ (by omega)) (by omega);have oY:=Zp (b:=b5) (o:=jZ) (n:=4) (by have:=gO.out; omega) r2;obtain⟨b6,cF⟩: ∃ q,ZW b5 jZ 4 r2=q:=⟨_,rfl⟩;rw[cF] at hp oY;rw[nO] at hp oY;have h:=aj.out;rw[cF] at h;replace aj:=Zg h;clear h cF nO;go_wp2_with fail
 refine hp.mono ?_;rintro e w7 ⟨g6,c6,rfl,ho,hw⟩;replace HO:=Zg (ho.weaken (base':=w.heap.size+2) (Zi HY.out));replace HX:=Zg ((hw.block w.heap.size (Zi HX.out)).trans HX.out);replace HY:=Zg ((hw.block (w.heap.size+1) (Zi HY.out)).trans HY.out);replace HB:=Zg (HB.out.trans (hw.mono HB.out.size));clear hp ho hw;go_upto_region 11 with(fail)
 rename_i K2 qV K1 jG;have pW:=Zg qV;clear qV;go_wp2_with fail
 go_loopw [13,15] (fun v13 v15 wr=> ∃(i g c:Nat) (b:List Nat),i<=n/\v15= .int .i64 i/\v13= .slice (some ⟨g,0,none⟩) b.length c/\YG wr (w.heap.size+2) g c b/\Z<=b.length/\b.length<=4400+201 * i/\Below w.heap.size w wr/\wr.heap[w.heap.size]? =some (.cells #[.int .i64 0,.int .i64 0] 37 (0,0))/\wr.heap[w.heap.size+1]? =some (.cells #[.int .i64 start,.int .i64 0] 37 (0,0))/\atF rows ((fs.take 12).drop i) i b=B2) (fun _ v15 _=>n - (intOf v15).toNat)
 case atStart=>exact⟨0,g6,c6,b6,Nat.zero_le _,rfl,by rw[oY],HO.out,by omega,by omega,HB.out,HX.out,HY.out,aj.out⟩
 case round =>
  obtain⟨i,g,c,b,hi,rfl,rfl,ho,zu,Pu,aq,hx,hy,br⟩:=hrel;replace HO:=Zg ho;replace HB:=Zg aq;replace HX:=Zg hx;replace HY:=Zg hy;replace aj:=Zg br;have rW:=Zg zu;clear ho aq hx hy br;by_cases af:i<n
  ·have Ij:i<fs.length:=by have:=tE.out; omega
   have Ml:i<lf:=by have:=tE.out; omega
   obtain⟨bf,off,rfl,gd,q0⟩:=(Mj.out wr HB.out).st Ij;have ba:=Mk.out fs[i] (List.getElem_mem Ij);have br:=aj.out;rw[List.drop_eq_getElem_cons (by have:=zJ.out; omega),List.getElem_take] at br;obtain⟨s,tN⟩: ∃ s,fs[i]=s:=⟨_,rfl⟩;rw[tN] at br ba q0;simp only[atF] at br;replace aj:=Zg br;have qc:=Zgr ba.1;have j7:=Zlo ba.1;have Cj:=Zk s;obtain⟨i4,Ik⟩: ∃ q,4 * i=q:=⟨_,rfl⟩;obtain⟨o,ho⟩: ∃ q,rows+i4=q:=⟨_,rfl⟩;have Ps:(4:Int) * (i:Int)=(i4:Int):=by omega
   have eo:(rows:Int)+(i4:Int)=(o:Int):=by omega
   have ma:=Zg (show o+4<=Z from by have:=HQ.out; omega);have vw:=Zg (fun W=>Wz (w:=W) s ba.1);obtain⟨T,hT⟩: ∃ T,txt s=T:=⟨_,rfl⟩;rw[hT] at q0 qc j7 Cj vw;have kI:=Zg ba;have Mm:=Zg qc;have kY:=Zg j7;have Mn:=Zg Cj;have Mo:=Zg (And.intro Ik ho);have zK:T.size<=200:=by rw[Cj]; exact ba.2
   clear br ba qc j7 Cj Ik ho tN hT;have gb:=PlainAid.get_bt T;go_wp2_with fail
   go_loop [17,18] (fun v17 uH=> ∃ k:Nat,k<=T.size/\uH= .int .i64 k/\v17= .bool (Jw T k)) (fun _ uH=>T.size - (intOf uH).toNat)
   case atStart=>exact⟨0,Nat.zero_le _,rfl,rfl⟩
   case round =>
    obtain⟨k,hk,rfl,rfl⟩:=hrel;by_cases Pt:k<T.size
    ·have HD:=Zg (Zdu T k);cases hp:Jw T k;all_goals
      rw[hp] at HD;clear hp;go_wp2_with fail
      go_round
      case rel=>exact⟨k+1,by omega,by go_num,by rw[HD.out]; simp⟩
      case measure=>simp[intOf]; omega
    ·obtain rfl:k=T.size:=by omega
     rw[Mm.out];clear gb;have br:=aj.out;unfold Zgs at br;obtain⟨zM,zN⟩:=Mo.out;rw[zM,zN] at br;clear zM zN;cases hP:s.contains 46
     ·rw[hP] at br;simp only[Bool.false_eq_true,if_false] at br;by_cases oR:s=[]
      ·rw[if_pos oR] at br;have j7:=kY.out;rw[decide_eq_true oR] at j7;have hp:=Xe (some ⟨g,0,none⟩) c b o 4 (0:Nat) 0 wr HO.out.lb (by omega) HO.out.slB (by omega) (by omega) (by have:=ma.out; omega) (ZZ (by omega)) (by omega);have hl:=Zp (b:=b) (o:=o) (n:=4) (by have:=ma.out; omega) 0;obtain⟨b',dD⟩: ∃ q,ZW b o 4 0=q:=⟨_,rfl⟩;rw[dD] at hp hl br;replace aj:=Zg br;clear dD br hP oR;go_wp2_with fail
       refine hp.mono ?_;rintro e w8 ⟨g',c',rfl,ho,hw⟩;replace HO:=Zg (ho.weaken (base':=w.heap.size+2) (Zi HY.out));replace HX:=Zg ((hw.block w.heap.size (Zi HX.out)).trans HX.out);replace HY:=Zg ((hw.block (w.heap.size+1) (Zi HY.out)).trans HY.out);replace HB:=Zg (HB.out.trans (hw.mono HB.out.size));clear hp ho hw;go_wp2_with fail
       go_roundw
       case rel=>exact⟨i+1,g',c',b',by omega,by go_num,by rw[hl],HO.out,by omega,by omega,HB.out,HX.out,HY.out,aj.out⟩
       case measure=>simp[intOf]; omega
      ·rw[if_neg oR] at br;have j7:=kY.out;rw[decide_eq_false oR] at j7;obtain⟨v,hv⟩: ∃ v,64+i=v:=⟨_,rfl⟩;rw[hv] at br;have ev:(64:Int)+(i:Int)=(v:Int):=by omega
       have hp:=Xe (some ⟨g,0,none⟩) c b o 4 (v:Nat) v wr HO.out.lb (by omega) HO.out.slB (by omega) (by omega) (by have:=ma.out; omega) (ZZ (by omega)) (by omega);have hl:=Zp (b:=b) (o:=o) (n:=4) (by have:=ma.out; omega) v;obtain⟨b',dD⟩: ∃ q,ZW b o 4 v=q:=⟨_,rfl⟩;rw[dD] at hp hl br;replace aj:=Zg br;clear dD br hP oR hv;go_wp2_with fail
       refine hp.mono ?_;rintro e w8 ⟨g',c',rfl,ho,hw⟩;replace HO:=Zg (ho.weaken (base':=w.heap.size+2) (Zi HY.out));replace HX:=Zg ((hw.block w.heap.size (Zi HX.out)).trans HX.out);replace HY:=Zg ((hw.block (w.heap.size+1) (Zi HY.out)).trans HY.out);replace HB:=Zg (HB.out.trans (hw.mono HB.out.size));clear hp ho hw;go_wp2_with fail
       go_roundw
       case rel=>exact⟨i+1,g',c',b',by omega,by go_num,by rw[hl],HO.out,by omega,by omega,HB.out,HX.out,HY.out,aj.out⟩
       case measure=>simp[intOf]; omega
     ·rw[hP] at br;simp only[if_true] at br;have oR:s≠[]:=by intro q; rw[q] at hP; simp at hP
      have j7:=kY.out;rw[decide_eq_false oR] at j7;have eV:=Zg Mn.out;have gX:b.length<=6800:=by omega
      clear hP oR;go_wp2_with (first
       | (at_builtin; refine YJ rfl (.tmp 108) (.tmp 109) 9 rfl (.string T) HO.out rfl rfl (vw.out _) kI.out.1 (by have:=kI.out.2; omega) (Zi HY.out) rfl rfl ?_; intro g5 c5 w5 ag gB; have cx:=Zg ag; have bp:=Zg gB; clear ag gB)
       | (at_builtin; refine YJ rfl (.tmp 110) (.tmp 111) 25 rfl (.slice (some ⟨w5.heap.size,0,none⟩) 1 1) (cx.out.alloc _) (by rw[List.length_append]) (show 1=[0].length from rfl) (Zb6 w5) (fun v hv=>by simp at hv; omega) (by have:=kI.out.2; omega) (Nat.le_trans (Nat.le_trans (Zi HY.out) bp.out.size) (by simp)) rfl rfl ?_; intro g6 c6 w6 gD gE; have dk:=Zg gD; have cU:=Zg gE; clear gD gE)
       | fail)
      have hlen:(b++s++[0]).length=b.length+s.length+1:=by simp only[List.length_append,List.length_singleton]
      have dE:=kI.out.2;have hp:=Xe (some ⟨g6,0,none⟩) c6 (b++s++[0]) o 4 (b.length:Nat) b.length w6 dk.out.lb (by omega) dk.out.slB (by omega) (by omega) (by have:=ma.out; omega) (ZZ (by omega)) (by omega);have hl:=Zp (b:=b++s++[0]) (o:=o) (n:=4) (by have:=ma.out; omega) b.length;obtain⟨b',dD⟩: ∃ q,ZW (b++s++[0]) o 4 b.length=q:=⟨_,rfl⟩;rw[dD] at hp hl br;rw[hlen] at hp hl;replace aj:=Zg br;have tH:w.heap.size+2<=w5.heap.size:=Nat.le_trans (Zi HY.out) bp.out.size;have iB:Below (w.heap.size+2) wr w6:=(bp.out.alloc tH _).trans cU.out;replace HX:=Zg ((iB.block w.heap.size (by omega)).trans HX.out);replace HY:=Zg ((iB.block (w.heap.size+1) (by omega)).trans HY.out);replace HB:=Zg (HB.out.trans (iB.mono (by omega)));clear dD br tH iB hlen;refine hp.mono ?_;rintro e w8 ⟨g',c',rfl,ho,hw⟩;replace HO:=Zg (ho.weaken (base':=w.heap.size+2) (Zi HY.out));replace HX:=Zg ((hw.block w.heap.size (Zi HX.out)).trans HX.out);replace HY:=Zg ((hw.block (w.heap.size+1) (Zi HY.out)).trans HY.out);replace HB:=Zg (HB.out.trans (hw.mono HB.out.size));clear hp ho hw;go_wp2_with fail
      go_roundw
      case rel=>exact⟨i+1,g',c',b',by omega,by go_num,by rw[hl],HO.out,by omega,by omega,HB.out,HX.out,HY.out,aj.out⟩
      case measure=>simp[intOf]; omega
  ·obtain rfl:i=n:=by omega
   have br:=aj.out;rw[List.drop_eq_nil_of_le (by have:=zJ.out; omega)] at br;have vF:b=B2:=br;subst vF;clear br;go_wp2_with fail
   refine pW.out _ _ ?_;exact Zlq start i m rows n4 r1 m4 r2 Z ns ln N nc w wr aQ zI zH B3 b g c EH EI Ci hU er Ea Ig EJ Ih (Zg (by have:=HQ.out; omega)) Ii HO rW (by omega) HB HX HY aN _ ⟨rfl,rfl,rfl⟩
end Go.Proofs.YtplgdpjbkdagfaaGreat
