import Derived.Test.YtplgdpjbkdagfaaGreatZNought
import Derived.Test.YtplgdpjbkdagfaaGreatZDec
import Derived.Test.YtplgdpjbkdagfaaGreatZOwnT
import Derived.Laws.MakeOwn
import Derived.Deep.Cut
import Derived.Test.YtplgdpjbkdagfaaGreatZAwake1
import Derived.Deep.LoopGhost
import Derived.KernelRfl
namespace Go.Proofs.YtplgdpjbkdagfaaGreat
set_option maxHeartbeats 8000000
open Lib renaming hid→Zg
set_option maxRecDepth 100000
open Go.ChangeShapes Go.WideShapes Go.ChangeAt Go.RowKit
set_option linter.unusedVariables false
set_option linter.unusedSimpArgs false
theorem Yb {t:List Nat} (h:Lb t) {i:Nat} (hi:i<t.length):PlainAid.bt (txt t) i=lF t i:=WJ h hi
theorem VS {t:List Nat} {i:Nat} (hi:i<t.length):lF t i=(t[i]:Int):=by simp[lF,List.getD,hi]
theorem Jz {t:List Nat} (h:0<t.length):lF t 0=(t.headD 0:Nat):=by
 cases t with
 | nil=>simp at h
 | cons a r=>rfl
def Yu (t:List Nat):Bool:=decide (1<=t.length)&&decide (t.length<=60)&&(t.headD 0 != 35)&&t.all fun c=>decide (33<=c)&&decide (c<=126)
theorem XQ {t:List Nat} (h:Lb t):Um (txt t)↔Yu t=true:=by
 unfold Um Yu;rw[Zk];simp only[Bool.and_eq_true,decide_eq_true_eq,List.all_eq_true,and_assoc,bne_iff_ne,ne_eq];refine and_congr_right fun h1=>and_congr_right fun _=>and_congr ?_ ⟨fun k v hv=> ?_,fun k i hi=> ?_⟩
 ·rw[Yb h (by omega),Jz (by omega)]; omega
 ·obtain⟨i,hi,rfl⟩:=List.mem_iff_getElem.mp hv;have:=k i hi;rw[Yb h hi,VS hi] at this;omega
 ·rw[Yb h hi,VS hi];have:=k t[i] (List.getElem_mem hi);omega
theorem Zb7 (t:List Nat) (w:World) (h:Lb t) (hl:t.length<=9223372036854775807):Calls Tryz.prog 125 #[.string (txt t)] w fun e w'=>e= .returned (.bool (Yu t))/\w=w':=by
 by_cases k:Yu t=true
 ·rw[k]; exact Zbg _ w ((XQ h).2 k)
 ·rw[show Yu t=false by simpa using k];exact UZ _ w (by rw[Zk]; exact hl) (fun q=>k ((XQ h).1 q))
def YT (t:List Nat):Bool:=decide (1<=t.length)&&decide (t.length<=5)&&(t.headD 0 != 48||decide (t.length=1))&&(t.all fun c=>decide (48<=c)&&decide (c<=57))&&decide (YW (lF t) t.length<=65535)
theorem XR {t:List Nat} (h:Lb t):Zde (txt t)↔YT t=true:=by
 have hn:YW (PlainAid.bt (txt t)) (txt t).size=YW (lF t) t.length:=by
  rw[Zk]; exact WX _ fun i hi=>Yb h hi
 unfold YT;simp only[Bool.and_eq_true,decide_eq_true_eq,List.all_eq_true,Bool.or_eq_true,bne_iff_ne,ne_eq];constructor
 ·rintro⟨h1,h2,h3,h4,h5⟩;rw[hn] at h5;rw[Zk] at h1 h2 h3 h4;refine⟨⟨⟨⟨h1,h2⟩,?_⟩,fun v hv=> ?_⟩,h5⟩
  ·rw[Yb h (by omega),Jz (by omega)] at h3;by_cases c:t.headD 0=48
   ·right; exact h3 (by omega)
   ·left; exact c
  ·obtain⟨i,hi,rfl⟩:=List.mem_iff_getElem.mp hv;have:=h4 i hi;rw[Yb h hi,VS hi] at this;omega
 ·rintro⟨⟨⟨⟨h1,h2⟩,h3⟩,h4⟩,h5⟩;refine⟨by rw[Zk]; exact h1,by rw[Zk]; exact h2,fun q=> ?_,fun i hi=> ?_,by rw[hn]; exact h5⟩
  ·rw[Yb h (by omega),Jz (by omega)] at q;rw[Zk];exact h3.resolve_left (fun c=>c (by omega))
  ·rw[Zk] at hi;rw[Yb h hi,VS hi];have:=h4 t[i] (List.getElem_mem hi);omega
def Xq (t:List Nat):Option Nat:=(t.reverse.findIdx? (· == 46)).map fun k=>t.length - 1 - k
theorem UI {t:List Nat} (h:Xq t=none): ∀ i,i<t.length->lF t i≠46:=by
 intro i hi;unfold Xq at h;rw[Option.map_eq_none_iff,List.findIdx?_eq_none_iff] at h;have:=h t[i] (by simp);rw[VS hi];simp at this;omega
theorem WO {t:List Nat} {p:Nat} (h:Xq t=some p):p<t.length/\lF t p=46/\ ∀ j,p<j->j<t.length->lF t j≠46:=by
 unfold Xq at h;rw[Option.map_eq_some_iff] at h;obtain⟨k,hk,rfl⟩:=h;rw[List.findIdx?_eq_some_iff_getElem] at hk;obtain⟨jy,mu,yj⟩:=hk;rw[List.length_reverse] at jy;rw[List.getElem_reverse] at mu;refine⟨by omega,?_,fun j h1 h2=> ?_⟩
 ·rw[VS (by omega)];simp at mu;omega
 ·have:=yj (t.length - 1 - j) (by omega);rw[List.getElem_reverse] at this;rw[VS h2];simp only[show t.length - 1 - (t.length - 1 - j)=j by omega] at this;simp at this;omega
def ZH (t:List Nat):Bool :=
 match Xq t with
 | none=>false
 | some p=>Un (t.take p)&&(Yu (t.drop (p+1))||((t.drop (p+1)).headD 0 == 35&&YT (t.drop (p+1)).tail))
theorem XZ {t:List Nat} (h:Lb t) (o n:Nat) (hn:o+n<=t.length):(txt t).extract o (o+n)=txt ((t.drop o).take n):=by
 rw[Yq _ _ _ (by rw[Zk]; exact hn),<-Ja _ _ _ hn];exact ZA fun i hi=>Yb h (by omega)
theorem Zfe (r:List Nat):txt (35::r)=Wx++txt r:=by
 unfold txt;rw[List.length_cons,Nat.add_comm,<-XY];congr 1
 exact ZA fun i hi=>by
  rw[Nat.zero_add,Nat.zero_add,Nat.add_comm 1 i];rfl
theorem Zb8 (t:List Nat) (w:World) (h:Lb t) (hl:t.length<=1000000):Calls Tryz.prog 35 #[.string (txt t)] w fun e w' =>
 (∃ D S O B,e= .returned (.tuple #[.string D,.agg #[.string S,.int .i64 O,.bool B],.bool (ZH t)]))/\Below w.heap.size w w':=by
 have hz:(txt t).size<=140737488355300:=by rw[Zk]; omega
 rcases hd:Xq t with _|p
 ·have hs:ZH t=false:=by unfold ZH; rw[hd]
  rw[hs];refine(QD (txt t) w (by omega) (.inl ?_)).mono ?_
  ·rintro⟨i,hi,iU⟩;rw[Zk] at hi;rw[Yb h hi] at iU;exact UI hd i hi iU
  ·rintro e w' ⟨rfl,hw⟩;exact⟨⟨_,_,_,_,rfl⟩,hw⟩
 ·obtain⟨hp,iU,gq⟩:=WO hd;have e1:(txt t).extract 0 p=txt (t.take p):=by
   have:=XZ h 0 p (by omega);rwa [Nat.zero_add,List.drop_zero] at this
  have e2:(txt t).extract (p+1) (txt t).size=txt (t.drop (p+1)):=by
   have:=XZ h (p+1) (t.length - (p+1)) (by omega);rw[show p+1+(t.length - (p+1))=t.length by omega] at this;rw[Zk,this,List.take_of_length_le (by simp)]
  have nM:UB (txt t) (txt (t.take p)) (txt (t.drop (p+1))) p :=
   ⟨by rw[Zk]; exact hp,by rw[Yb h hp]; exact iU,fun j h1 h2=>by rw[Zk] at h2; rw[Yb h h2]; exact gq j h1 h2,e1,e2⟩
  have hs:ZH t=(Un (t.take p)&&(Yu (t.drop (p+1))||((t.drop (p+1)).headD 0 == 35&&YT (t.drop (p+1)).tail))):=by unfold ZH; rw[hd]
  by_cases hD:Un (t.take p)=true
  ·have tK:=(Ww (h.take p)).2 hD;by_cases hR:Yu (t.drop (p+1))=true
   ·rw[hs,hD,hR];refine(Zcq _ _ _ p w (by omega) nM tK ((XQ (h.drop _)).2 hR)).mono ?_;rintro e w' ⟨rfl,hw⟩;exact⟨⟨_,_,_,_,rfl⟩,hw⟩
   ·have oy: ¬ Um (txt (t.drop (p+1))):=fun q=>hR ((XQ (h.drop _)).1 q);have Cm:Yu (t.drop (p+1))=false:=by simpa using hR
    have fM:=h.drop (p+1);rcases hr:t.drop (p+1) with _|⟨c,r⟩
    ·rw[hr] at nM oy Cm;rw[hs,hr,hD,Cm];refine(UM _ _ _ p w (by omega) nM tK oy (.inl rfl)).mono ?_;rintro e w' ⟨rfl,hw⟩;exact⟨⟨_,_,_,_,rfl⟩,hw⟩
    ·rw[hr] at nM oy Cm fM;rw[hs,hr,hD,Cm];by_cases hc:c=35
     ·subst hc;have tL:Lb r:=fun v hv=>fM v (List.mem_cons_of_mem _ hv);rw[Zfe] at nM;by_cases hO:YT r=true
      ·have e3:(true&&(false||((35::r).headD 0 == 35&&YT (35::r).tail)))=true:=by simp[hO]
       rw[e3];refine(Zbm _ _ _ p w (by omega) nM tK ((XR tL).2 hO)).mono ?_;rintro e w' ⟨rfl,hw⟩;exact⟨⟨_,_,_,_,rfl⟩,hw⟩
      ·have e3:(true&&(false||((35::r).headD 0 == 35&&YT (35::r).tail)))=false:=by simpa using hO
       rw[e3];refine(Zdg _ _ _ p w (by omega) nM tK (fun q=>hO ((XR tL).1 q))).mono ?_;rintro e w' ⟨rfl,hw⟩;exact⟨⟨_,_,_,_,rfl⟩,hw⟩
     ·have e3:(true&&(false||((c::r).headD 0 == 35&&YT (c::r).tail)))=false:=by simp[hc]
      rw[e3];refine(UM _ _ _ p w (by omega) nM tK oy (.inr ?_)).mono ?_
      ·rw[Yb fM (by simp),Jz (by simp)];show(c:Int)≠35
       omega
      ·rintro e w' ⟨rfl,hw⟩;exact⟨⟨_,_,_,_,rfl⟩,hw⟩
  ·have Mw:Un (t.take p)=false:=by simpa using hD
   rw[hs,Mw];refine(QD (txt t) w (by omega) (.inr ⟨p,by rw[Zk]; exact hp,by rw[Yb h hp]; exact iU,nM.last,fun q=> ?_⟩)).mono ?_
   ·have e4:ZB (PlainAid.bt (txt t)) 0 p=txt (t.take p):=by
     have:=Yq (txt t) 0 p (by rw[Zk]; omega);rw[Nat.zero_add] at this;rw[<-this,e1]
    rw[e4] at q;exact hD ((Ww (h.take p)).1 q)
   ·rintro e w' ⟨rfl,hw⟩;exact⟨⟨_,_,_,_,rfl⟩,hw⟩
structure Rw where
 base:Nat
 funcs:Nat
 names:Nat
 atF:Nat
 atN:Nat
 atI:Nat
def Rw.cells (r:Rw):Array Value:= #[.int .i64 r.base,.int .i64 r.funcs,.int .i64 r.names,.int .i64 r.atF,.int .i64 r.atN,.int .i64 r.atI]
def inL (n ak len:Nat):Bool:=decide (len=0)||decide (ak+len<=n)
def Zgu (b:List Nat) (o:Nat):Rw:=⟨Yg (b.drop (o+16)) 4,Yg (b.drop (o+20)) 4,Yg (b.drop (o+24)) 4,Yg (b.drop (o+28)) 4,Yg (b.drop (o+32)) 4,Yg (b.drop (o+36)) 4⟩
def Rw.ok (r:Rw) (n:Nat):Bool:=decide (r.base<65536)&&decide (r.funcs<=256)&&decide (r.names<=256)&&decide (r.base+r.funcs<=65536)&&inL n r.atF (4 * r.funcs)&&inL n r.atN (4 * r.names)&&inL n r.atI (2 * r.names)
def Uv (b:List Nat) (rva size:Int):Option Rw :=
 if 40<=size/\0<=rva/\rva<=b.length - size then
  if(Zgu b rva.toNat).ok b.length then some (Zgu b rva.toNat) else none
 else none
abbrev FnV:=Nat × List Nat
def UJ (b:List Nat) (rva size v:Nat):Option FnV :=
 if v<rva\/size<=v - rva then(if v<b.length then some (v,[]) else none)
 else match YO b v 64 with
  | none=>none
  | some t=>if ZH t then some (0,t) else none
theorem Wa (A:Option Addr) (cap:Nat) (bs:List Nat) (o:Nat) (w:World) (hl:bs.length<=9223372036854775807) (hb:Lb bs) (h:o+4<=bs.length) (hs:SlB w A bs.length (lF bs)) :
 Calls Tryz.prog 132 #[.slice A bs.length cap,.int .i64 o] w fun e w'=>e= .returned (.int .i64 (Yg (bs.drop o) 4))/\w=w':=by
 have H:=Zg (QZ A cap bs o w hl hb h hs);clear hs hb;go_enter Tryz.func132,Tryz.ntmps132;go_wp2_with fail
 refine H.out.mono ?_;rintro e w' ⟨rfl,rfl⟩;go_wp2_with fail
 go_ret;exact⟨rfl,rfl⟩
theorem Uw (A:Option Addr) (len cap ak n:Nat) (w:World) (hl:len<=9223372036854775807) (hn:n<=1000000) :
 Calls Tryz.prog 133 #[.slice A len cap,.int .i64 ak,.int .i64 n] w fun e w'=>e= .returned (.bool (inL len ak n))/\w=w':=by
 have H:=Zg (ZV A len cap ak n (decide (ak+n<=len)) w hl (by omega) (by omega) (by rw[decide_eq_true_iff]; omega));by_cases c:n=0
 ·subst c;have:inL len ak 0=true:=by simp[inL]
  rw[this];clear H this;go_enter Tryz.func133,Tryz.ntmps133;go_wp2_with fail
  go_ret;exact⟨rfl,rfl⟩
 ·have:inL len ak n=decide (ak+n<=len):=by simp[inL,c]
  rw[this];have d:((n:Int) == 0)=false:=beq_eq_false_iff_ne.mpr (by omega);generalize decide (ak+n<=len)=B at *;clear this c;go_enter Tryz.func133,Tryz.ntmps133;go_wp2_with fail
  refine H.out.mono ?_;rintro e w' ⟨rfl,rfl⟩;go_wp2_with fail
  go_ret;exact⟨rfl,rfl⟩
def ReadF (r:Option FnV) (e:Ending):Prop:= ∃(x:Nat) (S:ByteArray) (ok:Bool),e= .returned (.tuple #[.agg #[.int .i64 x,.string S],.bool ok])/\(r=none->ok=false)/\(∀ f,r=some f->ok=true/\x=f.1/\S=txt f.2)
theorem YC {b:List Nat} (h:Lb b) {o most:Nat} {t:List Nat} (ht:YO b o most=some t):Lb t/\t.length<=most:=by
 obtain⟨_,h2,_,_,h5⟩:=Wl ht;exact⟨by rw[h5]; exact(h.drop o).take _,h2⟩
theorem Zgv (A:Option Addr) (cap:Nat) (bs:List Nat) (rva size v:Nat) (w:World) (hb:Lb bs) (hl:bs.length<=cap) (hc:cap<=9223372036854775807) (hs:SlB w A bs.length (lF bs)) (hr:rva<=9223372036854775807) (hz:size<=9223372036854775807) (hv:v<4294967296) :
 Calls Tryz.prog 134 #[.slice A bs.length cap,.agg #[.int .i64 rva,.int .i64 size],.int .i64 v] w fun e w'=>ReadF (UJ bs rva size v) e/\Below w.heap.size w w':=by
 have HS:=Zg (fun W (hW:Below w.heap.size w W)=>SlB.below hs hW);have bW:=Zg (fun W (hW:Below w.heap.size w W)=>WK A cap bs v 64 W hc hl (HS.out W hW));have fX:=Zg (fun t (ht:YO bs v 64=some t) W=>Zb8 t W (YC hb ht).1 (by have:=(YC hb ht).2; omega));have gd:bs.length<=9223372036854775807:=by omega
 obtain⟨R,hR⟩: ∃ R,UJ bs rva size v=R:=⟨_,rfl⟩;rw[hR];unfold UJ at hR;have LI:(v:Int)<4294967296:=by omega
 by_cases jn:v<rva\/size<=v - rva
 ·rw[if_pos jn] at hR;have hlen:decide ((v:Int)<(bs.length:Int))=decide (v<bs.length):=by rw[decide_eq_decide]; omega
  have oy:(R=none->decide (v<bs.length)=false)/\(∀ f,R=some f->decide (v<bs.length)=true/\v=f.1/\ByteArray.empty=txt f.2):=by
   by_cases c:v<bs.length
   ·rw[if_pos c] at hR; subst hR;exact⟨fun h=>absurd h (by simp),fun f hf=>by injection hf with hf; subst hf; exact⟨decide_eq_true c,rfl,rfl⟩⟩
   ·rw[if_neg c] at hR; subst hR;exact⟨fun _=>decide_eq_false c,fun f hf=>absurd hf (by simp)⟩
  have cd:=Zg oy;clear hR oy bW fX HS hs;rcases jn with h1|h1
  ·have d1:(v:Int)<(rva:Int):=by omega
   go_enter Tryz.func134,Tryz.ntmps134;go_wp2_with fail
   refine bodyPost_ret (v:= .tuple #[.agg #[.int .i64 v,.string ByteArray.empty],.bool (decide (v<bs.length))]) (by simp[results,Tryz.results134,go_sem]; rfl) rfl ⟨⟨_,_,_,rfl,cd.out.1,cd.out.2⟩,by go_grown⟩
  ·by_cases h2:v<rva
   ·have d1:(v:Int)<(rva:Int):=by omega
    go_enter Tryz.func134,Tryz.ntmps134;go_wp2_with fail
    refine bodyPost_ret (v:= .tuple #[.agg #[.int .i64 v,.string ByteArray.empty],.bool (decide (v<bs.length))]) (by simp[results,Tryz.results134,go_sem]; rfl) rfl ⟨⟨_,_,_,rfl,cd.out.1,cd.out.2⟩,by go_grown⟩
   ·have d1: ¬ (v:Int)<(rva:Int):=by omega
    have d2:(size:Int)<=(v:Int) - (rva:Int):=by omega
    go_enter Tryz.func134,Tryz.ntmps134;go_wp2_with fail
    refine bodyPost_ret (v:= .tuple #[.agg #[.int .i64 v,.string ByteArray.empty],.bool (decide (v<bs.length))]) (by simp[results,Tryz.results134,go_sem]; rfl) rfl ⟨⟨_,_,_,rfl,cd.out.1,cd.out.2⟩,by go_grown⟩
 ·rw[if_neg jn] at hR;have d1: ¬ (v:Int)<(rva:Int):=by omega
  have d2: ¬ (size:Int)<=(v:Int) - (rva:Int):=by omega
  clear jn HS hs;rcases ht:YO bs v 64 with _|t
  ·rw[ht] at bW hR;simp only at bW hR;subst hR;clear fX;go_enter Tryz.func134,Tryz.ntmps134;go_wp2_with (first|(refine(bW.out _ (by go_grown)).mono ?_; rintro e w' ⟨rfl,rfl⟩)|fail)
   refine bodyPost_ret (v:= .tuple #[.agg #[.int .i64 0,.string ByteArray.empty],.bool false]) (by simp[results,Tryz.results134,go_sem]; rfl) rfl ⟨⟨0,_,_,rfl,fun _=>rfl,fun f hf=>absurd hf (by simp)⟩,by go_grown⟩
  ·rw[ht] at bW hR;simp only at bW hR;have HP:=Zg (fX.out t ht);have HR:=Zg hR;clear fX hR ht;go_enter Tryz.func134,Tryz.ntmps134;go_wp2_with fail
   refine(bW.out _ (by go_grown)).mono ?_;rintro e w' ⟨rfl,rfl⟩;go_wp2_with fail
   refine(HP.out _).mono ?_;rintro e w2 ⟨⟨D,S,O,B,rfl⟩,aR⟩;have j8:=Zg ((((Below.refl w.heap.size w).alloc (Nat.le_refl _) (.cells #[.int .i64 rva,.int .i64 size] 37)).alloc (by simp) (.cells #[.int .i64 0,.string ByteArray.empty] 74)).trans (aR.mono (by simp; omega)));have cE:w2.heap[w.heap.size+1]? =some (.cells #[.int .i64 0,.string ByteArray.empty] 74 (0,0)):=(aR.block (w.heap.size+1) (by simp)).trans (by
    have h:=heap_alloc_new (w.alloc (.cells #[.int .i64 rva,.int .i64 size] 37)) (.cells #[.int .i64 0,.string ByteArray.empty] 74);rwa [show(w.alloc (.cells #[.int .i64 rva,.int .i64 size] 37)).heap.size=w.heap.size+1 by simp] at h)
   have ig:w2.cell? ⟨w.heap.size+1,0,none⟩=some (.int .i64 0):=by rw[cell_of_row _ _ _ _ _ _ cE]; rfl
   have fF:w2.cell? ⟨w.heap.size+1,1,none⟩=some (.string ByteArray.empty):=by rw[cell_of_row _ _ _ _ _ _ cE]; rfl
   have ik:w2.frozen? ⟨w.heap.size+1,0,none⟩=false:=frozen_of_row _ _ _ _ _ cE;have il:w2.frozen? ⟨w.heap.size+1,1,none⟩=false:=frozen_of_row _ _ _ _ _ cE;clear aR cE;go_wp2_with fail
   have k1:=World.cell?_setCell_same (w2.setCell ⟨w.heap.size+1,0,none⟩ (.int .i64 0)) _ (.string (txt t)) ((World.cell?_setCell_other w2 _ _ (.int .i64 0) (by intro q; injection q with _ q; cases q)).trans fF);have k0:=(World.cell?_setCell_other (w2.setCell ⟨w.heap.size+1,0,none⟩ (.int .i64 0)) ⟨w.heap.size+1,1,none⟩ ⟨w.heap.size+1,0,none⟩ (.string (txt t)) (by intro q; injection q with _ q; cases q)).trans (World.cell?_setCell_same w2 _ (.int .i64 0) ig);have lg:=Zg ((j8.out.setCell (p:=⟨w.heap.size+1,0,none⟩) (Nat.le_succ _) (.int .i64 0)).setCell (p:=⟨w.heap.size+1,1,none⟩) (Nat.le_succ _) (.string (txt t)));clear ig fF ik il;generalize (w2.setCell ⟨w.heap.size+1,0,none⟩ (.int .i64 0)).setCell ⟨w.heap.size+1,1,none⟩ (.string (txt t))=w3 at *;refine bodyPost_ret (v:= .tuple #[.agg #[.int .i64 0,.string (txt t)],.bool (ZH t)]) (by simp[results,Tryz.results134,go_sem,k0,k1]) rfl ⟨⟨0,_,_,rfl,fun h=> ?_,fun f hf=> ?_⟩,lg.out⟩
   ·have h1:=HR.out;rw[h] at h1;by_cases c:ZH t=true
    ·rw[if_pos c] at h1; exact absurd h1 (by simp)
    ·simpa using c
   ·have h1:=HR.out;rw[hf] at h1;by_cases c:ZH t=true
    ·rw[if_pos c] at h1; injection h1 with h1; subst h1; exact⟨c,rfl,rfl⟩
    ·rw[if_neg c] at h1; exact absurd h1 (by simp)
theorem ZQ (bs:List Nat) (o n:Nat) (w:World) (hb:Lb bs) (hl:bs.length<=9223372036854775807) (hn:n<=4) (h:o+n<=bs.length) :
 Calls Tryz.prog 72 #[.string (txt bs),.int .i64 o,.int .i64 n] w fun e w'=>e= .returned (.int .i64 (Yg (bs.drop o) n))/\w=w':=by
 have e1:rdF (PlainAid.bt (txt bs)) o n=((Yg (bs.drop o) n:Nat):Int):=by
  rw[<-Wv];exact Xd n o fun i hi=>Yb hb (by omega)
 have HR:=Zg (Vd (txt bs) o n w (by rw[Zk]; exact hl) (by omega) (by rw[Zk]; exact h));rw[e1] at HR;have hv:=ZG (hb.drop o) n;have hp:(256:Nat) ^ n<=4294967296:=by
  rcases(by omega:n=0\/n=1\/n=2\/n=3\/n=4) with rfl|rfl|rfl|rfl|rfl <;> decide
 have h1:Yg (bs.drop o) n<4294967296:=by omega
 clear hv hp e1;generalize Yg (bs.drop o) n=x at *;generalize txt bs=S at *;go_enter Tryz.func72,Tryz.ntmps72;go_wp2_with fail
 refine HR.out.mono ?_;rintro e u ⟨rfl,rfl⟩;go_wp2
 go_ret;exact⟨rfl,rfl⟩
theorem Xr (bs:List Nat) (o most:Nat) (w:World) (hb:Lb bs) (hl:bs.length<=9223372036854775807) :
 Calls Tryz.prog 75 #[.string (txt bs),.int .i64 o,.int .i64 most] w fun e w'=>e= .returned (match YO bs o most with|some t=> .tuple #[.string (txt t),.bool true]|none=> .tuple #[.string ByteArray.empty,.bool false])/\w=w':=by
 have hz:(txt bs).size<=9223372036854775807:=by rw[Zk]; exact hl
 rcases ht:YO bs o most with _|t
 ·by_cases hc:o<bs.length
  ·exact Ze6 (txt bs) o most w hz (by rw[Zk]; exact hc) fun i h1 h2=>by
    rw[Zk] at h1;rw[Yb hb h1];exact Qf ht i h1 (by omega)
  ·exact Zik (txt bs) o most w hz (by rw[Zk]; omega)
 ·obtain⟨h1,h2,h3,h4,h5⟩:=Wl ht;have e:ZB (PlainAid.bt (txt bs)) o t.length=txt t:=by
   rw[show ZB (PlainAid.bt (txt bs)) o t.length=ZB (lF bs) o t.length from ZA fun i hi=>Yb hb (by omega),Ja _ _ _ (by omega)];rw[<-h5]
  have k:=Zbz (txt bs) o t.length most w hz (by rw[Zk]; omega) (by omega) (by rw[Yb hb (by omega)]; exact h3) (fun i hi=>by rw[Yb hb (by omega)]; exact h4 i hi);rw[e] at k;exact k
theorem VT {S:ByteArray} (h:1<=S.size):(S.toList == ([]:List UInt8))=false:=by
 rw[Bool.eq_false_iff,ne_eq,beq_iff_eq,ByteArray.toList_eq];intro q;have h2:=congrArg List.length q;rw[List.length_nil,Array.length_toList] at h2;have:S.data.size=S.size:=rfl;omega
theorem Zan {S:ByteArray} (h:S.size<1):(S.toList == ([]:List UInt8))=true:=by
 rw[beq_iff_eq,ByteArray.toList_eq];refine List.eq_nil_of_length_eq_zero ?_;rw[Array.length_toList];have:S.data.size=S.size:=rfl;omega
theorem Qv {c:Int} (h:Vu c=true):(97<=c/\c<=122)\/(65<=c/\c<=90)\/(48<=c/\c<=57)\/c=46\/c=95\/c=45:=by
 simpa [Vu] using h
theorem Zi2 {c:Int} (h:Vu c=false): ¬ ((97<=c/\c<=122)\/(65<=c/\c<=90)\/(48<=c/\c<=57)\/c=46\/c=95\/c=45):=by
 simpa [Vu] using h
theorem Zi3 (S:ByteArray) (w:World) (h:WD S):Calls Tryz.prog 93 #[.string S] w fun e w'=>e= .returned (.bool true)/\w=w':=by
 obtain⟨h1,h2,h3⟩:=h;have gb:=PlainAid.get_bt S;have d1:=VT h1;have d2: ¬ (40:Int)<S.size:=by omega
 have H3:=Zg h3;clear h3;go_enter Tryz.func93,Tryz.ntmps93;go_wp2
 go_loop [3] (fun i=> ∃ k:Nat,k<=S.size/\i= .int .i64 k) (fun i=>S.size - (intOf i).toNat)
 case atStart=>exact⟨0,by omega,rfl⟩
 case round =>
  obtain⟨k,hk,rfl⟩:=hrel;by_cases af:k<S.size
  ·rcases Qv (H3.out k af) with⟨h4,h5⟩|⟨h4,h5⟩|⟨h4,h5⟩|h4|h4|h4;all_goals
    go_wp2
    go_round
    case rel=>exact⟨k+1,by omega,by go_num⟩
    case measure=>simp[intOf]; omega
  ·obtain rfl:k=S.size:=by omega
   go_wp2
   go_ret;exact⟨rfl,rfl⟩
theorem JA (P:Nat->Prop) [DecidablePred P] (n:Nat) (h: ¬ ∀ i,i<n->P i): ∃ z,z<n/\ ¬ P z/\ ∀ i,i<z->P i:=by
 by_cases hz: ∃ z,z<n/\ ¬ P z/\ ∀ i,i<z->P i
 ·exact hz
 ·exfalso;apply h;intro i;induction i using Nat.strongRecOn with
  | ind i ih =>
    intro hi;by_cases hb:P i
    ·exact hb
    ·exact absurd ⟨i,hi,hb,fun j hj=>ih j hj (by omega)⟩ hz
theorem Zlr (S:ByteArray) (w:World) (hs:S.size<=9223372036854775807) (h: ¬ WD S):Calls Tryz.prog 93 #[.string S] w fun e w'=>e= .returned (.bool false)/\w=w':=by
 by_cases h1:S.size<1
 ·have d1:=Zan h1;go_enter Tryz.func93,Tryz.ntmps93;go_wp2
  go_ret;exact⟨rfl,rfl⟩
 have d1:=VT (show 1<=S.size by omega);by_cases h2:40<S.size
 ·have d2:(40:Int)<S.size:=by omega
  go_enter Tryz.func93,Tryz.ntmps93;go_wp2
  go_ret;exact⟨rfl,rfl⟩
 obtain⟨z,bw,ed,lO⟩:=JA (fun i=>Vu (PlainAid.bt S i)=true) S.size (fun q=>h ⟨by omega,by omega,q⟩);have HZ:=Zg ed;have H3:=Zg lO;clear ed lO h;have gb:=PlainAid.get_bt S;have d2: ¬ (40:Int)<S.size:=by omega
 go_enter Tryz.func93,Tryz.ntmps93;go_wp2
 go_loop [3] (fun i=> ∃ k:Nat,k<=z/\i= .int .i64 k) (fun i=>z - (intOf i).toNat)
 case atStart=>exact⟨0,by omega,rfl⟩
 case round =>
  obtain⟨k,hk,rfl⟩:=hrel;have oN:k<S.size:=by omega
  by_cases af:k<z
  ·rcases Qv (H3.out k af) with⟨h4,h5⟩|⟨h4,h5⟩|⟨h4,h5⟩|h4|h4|h4;all_goals
    go_wp2
    go_round
    case rel=>exact⟨k+1,by omega,by go_num⟩
    case measure=>simp[intOf]; omega
  ·obtain rfl:k=z:=by omega
   have hf:=Zi2 (by simpa using HZ.out);have e1:(PlainAid.bt S k == 46)=false:=beq_eq_false_iff_ne.mpr (by omega);have e2:(PlainAid.bt S k == 95)=false:=beq_eq_false_iff_ne.mpr (by omega);have e3:(PlainAid.bt S k == 45)=false:=beq_eq_false_iff_ne.mpr (by omega);rcases(show PlainAid.bt S k<48\/(58<=PlainAid.bt S k/\PlainAid.bt S k<65)\/(91<=PlainAid.bt S k/\PlainAid.bt S k<97)\/122<PlainAid.bt S k by omega) with h4|⟨h4,h5⟩|⟨h4,h5⟩|h4;all_goals
    clear hf;go_wp2
   all_goals first
    | (go_ret; exact⟨rfl,rfl⟩)
    | (rename_i aX; simp at aX; omega)
theorem Zls (S:ByteArray) (w:World) (h:Um S):Calls Tryz.prog 92 #[.string S] w fun e w'=>e= .returned (.bool true)/\w=w':=by
 obtain⟨h1,h2,h0,h3⟩:=h;have gb:=PlainAid.get_bt S;have d1:=VT h1;have d2: ¬ (60:Int)<S.size:=by omega
 have d3:0<S.size:=by omega
 have d4:(PlainAid.bt S 0 == 35)=false:=by simpa using h0
 have H3:=Zg h3;clear h3 h0;go_enter Tryz.func92,Tryz.ntmps92;go_wp2
 go_loop [3] (fun i=> ∃ k:Nat,k<=S.size/\i= .int .i64 k) (fun i=>S.size - (intOf i).toNat)
 case atStart=>exact⟨0,by omega,rfl⟩
 case round =>
  obtain⟨k,hk,rfl⟩:=hrel;by_cases af:k<S.size
  ·have hf:=H3.out k af;have f1: ¬ PlainAid.bt S k<33:=by omega
   have f2: ¬ 126<PlainAid.bt S k:=by omega
   go_wp2
   go_round
   case rel=>exact⟨k+1,by omega,by go_num⟩
   case measure=>simp[intOf]; omega
  ·obtain rfl:k=S.size:=by omega
   go_wp2
   go_ret;exact⟨rfl,rfl⟩
theorem Zn5 (S:ByteArray) (w:World) (hs:S.size<=9223372036854775807) (h: ¬ Um S):Calls Tryz.prog 92 #[.string S] w fun e w'=>e= .returned (.bool false)/\w=w':=by
 by_cases h1:S.size<1
 ·have d1:=Zan h1;go_enter Tryz.func92,Tryz.ntmps92;go_wp2
  go_ret;exact⟨rfl,rfl⟩
 have d1:=VT (show 1<=S.size by omega);by_cases h2:60<S.size
 ·have d2:(60:Int)<S.size:=by omega
  go_enter Tryz.func92,Tryz.ntmps92;go_wp2
  go_ret;exact⟨rfl,rfl⟩
 have d2: ¬ (60:Int)<S.size:=by omega
 have gb:=PlainAid.get_bt S;have d3:0<S.size:=by omega
 by_cases h0:PlainAid.bt S 0=35
 ·have d4:(PlainAid.bt S 0 == 35)=true:=by simpa using h0
  clear h0;go_enter Tryz.func92,Tryz.ntmps92;go_wp2
  go_ret;exact⟨rfl,rfl⟩
 have d4:(PlainAid.bt S 0 == 35)=false:=by simpa using h0
 obtain⟨z,bw,ed,lO⟩:=JA (fun i=>33<=PlainAid.bt S i/\PlainAid.bt S i<=126) S.size (fun q=>h ⟨by omega,by omega,h0,q⟩);have HZ:=Zg ed;have H3:=Zg lO;clear ed lO h h0;go_enter Tryz.func92,Tryz.ntmps92;go_wp2
 go_loop [3] (fun i=> ∃ k:Nat,k<=z/\i= .int .i64 k) (fun i=>z - (intOf i).toNat)
 case atStart=>exact⟨0,by omega,rfl⟩
 case round =>
  obtain⟨k,hk,rfl⟩:=hrel;have oN:k<S.size:=by omega
  by_cases af:k<z
  ·have hf:=H3.out k af;have f1: ¬ PlainAid.bt S k<33:=by omega
   have f2: ¬ 126<PlainAid.bt S k:=by omega
   go_wp2
   go_round
   case rel=>exact⟨k+1,by omega,by go_num⟩
   case measure=>simp[intOf]; omega
  ·obtain rfl:k=z:=by omega
   by_cases f1:PlainAid.bt S k<33
   ·go_wp2
    go_ret;exact⟨rfl,rfl⟩
   ·have f2:126<PlainAid.bt S k:=by have:=HZ.out; omega
    go_wp2
    go_ret;exact⟨rfl,rfl⟩
theorem Ve (t:List Nat) (w:World) (h:Lb t) (hl:t.length<=9223372036854775807):Calls Tryz.prog 93 #[.string (txt t)] w fun e w'=>e= .returned (.bool (Un t))/\w=w':=by
 by_cases k:Un t=true
 ·rw[k]; exact Zi3 _ w ((Ww h).2 k)
 ·rw[show Un t=false by simpa using k];exact Zlr _ w (by rw[Zk]; exact hl) (fun q=>k ((Ww h).1 q))
theorem VU (t:List Nat) (w:World) (h:Lb t) (hl:t.length<=9223372036854775807):Calls Tryz.prog 92 #[.string (txt t)] w fun e w'=>e= .returned (.bool (Yu t))/\w=w':=by
 by_cases k:Yu t=true
 ·rw[k]; exact Zls _ w ((XQ h).2 k)
 ·rw[show Yu t=false by simpa using k];exact Zn5 _ w (by rw[Zk]; exact hl) (fun q=>k ((XQ h).1 q))
end Go.Proofs.YtplgdpjbkdagfaaGreat
namespace Go.Proofs.YtplgdpjbkdagfaaGreat
open Lib renaming hid→Zg
set_option maxRecDepth 100000
open Go
def nth:List Value->Nat->Option Value
 | [],_=>none
 | x::_,0=>some x
 | _::l,n+1=>nth l n
theorem Zm7: ∀(l:List Value) (k:Nat),k<l.length->nth l k=l[k]?
 | x::_,0,_=>rfl
 | x::l,k+1,h=>by
   show nth l k=_
   rw[Zm7 l k (by simpa using h)];simp
def at_ (l:List Value):List Nat->List (Option Value)
 | []=>[]
 | k::ks=>nth l k::at_ l ks
def sl (a:Act) (k:Nat):Value:=(nth a.tmps.toList k).getD default
theorem Zb9 (l:List Value) (d:List Deferred) (N:Nat) (h:l.length=N):l=(List.range N).map (sl ⟨⟨l⟩,d⟩):=by
 apply List.ext_getElem
 ·simp[h]
 ·intro i h1 h2;simp only[List.getElem_map,List.getElem_range];show l[i]=(nth l i).getD default
  rw[Zm7 l i h1,List.getElem?_eq_getElem h1];rfl
structure Zm8 (N:Nat) (ix:List Nat) (a a':Act):Prop where
 size:a'.tmps.toList.length=N
 dfr:a'.defers=[]
 low:at_ a'.tmps.toList ix=at_ a.tmps.toList ix
theorem Vz {P:Program} {s:Code} {K:Act->World->Prop} {Q':Exit->Act->World->Prop} {a:Act} {w:World} (N:Nat) (ix:List Nat) (R:(Nat->Value)->World->Prop)
 (first: ∀(J K':Act->World->Prop),(∀ a' w',(Zm8 N ix a a'/\R (sl a') w')->J a' w')->(∀ a' w',Met J a' w'->K' a' w')->s.wp P (Exit.then K' Q') a w)
 (rest: ∀ a' w',Zm8 N ix a a'->R (sl a') w'->K a' w'):s.wp P (Exit.then K Q') a w :=
 wp_cut (fun a' w'=>Zm8 N ix a a'/\R (sl a') w') (fun a' w' h=>rest a' w' h.1 h.2) first
theorem Ji {P:Program} {Q:Exit->Act->World->Prop} {a:Act} {w:World} {c:Code} (N:Nat) (ix:List Nat) (R:Nat->(Nat->Value)->World->Prop) (n₀:Nat)
 (h₀:Zm8 N ix a a) (h₁:R n₀ (sl a) w)
 (round: ∀ n a' w',Zm8 N ix a a'->R n (sl a') w'-> ∀(J:Nat->Act->World->Prop) (K:Act->World->Prop),(∀ k xW vG,(Zm8 N ix a xW/\R k (sl xW) vG)->J k xW vG)->(∀ xW vG,Handed J n xW vG->K xW vG)->c.wp P (Exit.then K Q) a' w') :
 (Code.loop c).wp P Q a w :=
 wp_loop_ghost_k (fun n a' w'=>Zm8 N ix a a'/\R n (sl a') w') n₀ ⟨h₀,h₁⟩ (fun n a' w' h J K hJ hK=>round n a' w' h.1 h.2 J K hJ hK)
def Yc:Nat->Code->Code
 | 0,c=>c
 | n+1,.seq _ b=>Yc n b
 | _,c=>c
def YF:Code->Code
 | .seq a _=>a
 | c=>c
def JB:Code->Code
 | .block _ c=>c
 | c=>c
def Zi4:Code->Code
 | .loop c=>c
 | c=>c
structure Has (N:Nat) (ix:List Nat) (vs:List Value) (a:Act):Prop where
 size:a.tmps.toList.length=N
 dfr:a.defers=[]
 low:at_ a.tmps.toList ix=vs.map some
def Xi:List Value->List Nat->List Value->List Value
 | l,i::is,v::vs=>Xi (l.set i v) is vs
 | l,_,_=>l
theorem Zi5: ∀ {l:List Value} {i:Nat} {v:Value},nth l i=some v->l.set i v=l
 | [],_,_,h=>by cases h
 | x::l,0,v,h=>by
   have h2:some x=some v:=h;injection h2 with h2;rw[h2]; rfl
 | x::l,n+1,v,h=>congrArg (x:: ·) (Zi5 (l:=l) h)
theorem Zdx: ∀(is:List Nat) (vs l:List Value),at_ l is=vs.map some->Xi l is vs=l
 | [],_,_,_=>by unfold Xi; rfl
 | _::_,[],_,h=>by cases h
 | i::is,v::vs,l,h=>by
   have h2:nth l i::at_ l is=some v::vs.map some:=h;injection h2 with h3 h4;unfold Xi;rw[Zi5 h3];exact Zdx is vs l h4
theorem Yt {N:Nat} {is:List Nat} {vs:List Value} {a:Act} (h:Has N is vs a): ∃ u:Nat->Value,a=⟨(Xi ((List.range N).map u) is vs).toArray,[]⟩:=by
 obtain⟨⟨l⟩,d⟩:=a;obtain⟨hs,hd,hl⟩:=h;have lM:l.length=N:=hs;have zO:d=[]:=hd;subst zO;have BD:at_ l is=vs.map some:=hl;refine⟨sl ⟨⟨l⟩,[]⟩,?_⟩;have key:=Zb9 l [] N lM;rw[<-key,Zdx is vs l BD]
theorem Zao {N:Nat} {is:List Nat} (vs:List Value) {a a':Act} (h:Zm8 N is a a') (e:at_ a.tmps.toList is=vs.map some): ∃ u:Nat->Value,sl a'=u/\a'=⟨(Xi ((List.range N).map u) is vs).toArray,[]⟩:=by
 obtain⟨⟨l⟩,d⟩:=a';obtain⟨hs,hd,hl⟩:=h;have lM:l.length=N:=hs;have zO:d=[]:=hd;subst zO;have BD:at_ l is=vs.map some:=hl.trans e;refine⟨sl ⟨⟨l⟩,[]⟩,rfl,?_⟩;have key:=Zb9 l [] N lM;rw[<-key,Zdx is vs l BD]
end Go.Proofs.YtplgdpjbkdagfaaGreat
