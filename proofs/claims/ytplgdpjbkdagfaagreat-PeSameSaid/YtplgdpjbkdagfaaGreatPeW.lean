import Derived.Test.YtplgdpjbkdagfaaGreatZRelParse
import Derived.Test.YtplgdpjbkdagfaaGreatZMd
import Derived.Test.YtplgdpjbkdagfaaGreatZPeC
import Derived.Test.YtplgdpjbkdagfaaGreatExpH
import Derived.Test.YtplgdpjbkdagfaaGreatZOwnT
import Derived.Deep.Cut
namespace Go.Proofs.YtplgdpjbkdagfaaGreat
open Lib renaming hid→Zg
open Go.ChangeShapes Go.WideShapes Go.ChangeAt Go.RowKit
set_option linter.unusedVariables false
set_option linter.unusedSimpArgs false
set_option maxRecDepth 100000
theorem Zjh {w:World} {L:Option Addr} {l:List Int} (h:SlT Ws 1 w L l) {i:Nat} (hi:i<l.length): ∃ b off,L=some ⟨b,off,none⟩∧b<w.heap.size∧w.cell? ⟨b,off+i,none⟩=some (.int .i64 l[i]):=by
 rcases h with h|⟨b,off,rfl,hlt,hc⟩
 ·rw[h] at hi; simp at hi
 ·exact⟨b,off,rfl,hlt,by have:=hc i hi 0 _ (by simp[Ws]; rfl); simpa using this⟩
theorem Wa (x:Int): ∃ y:Int,IntKind.u64.wrap x=y∧0≤y∧y≤18446744073709551615:=⟨x % 18446744073709551616,IntKind.wrap_u64 x,by omega,by omega⟩
set_option maxHeartbeats 4000000 in
theorem at11w (st:Nat) (hst:st≤400000) (base x:Int) (L:Option Addr) (cs:List Int) (cap:Nat) (w:World) (hL:SlT Ws 1 w L cs) (hm:cs.length≤9223372036854775807) :
 Calls Tryz.prog 31 #[.int .i64 st,.int .u64 base,.int .i64 x,.slice L cs.length cap] w fun e u=> ∃ g c n f,e= .returned (.slice (some ⟨g,0,none⟩) n c)∧st≤n∧n≤st+200∧YD u w.heap.size g n c f∧Below w.heap.size w u:=by
 have HLS:=Zg hL
 have HST:=Zg (And.intro hst hm)
 obtain⟨Z,hZ⟩: ∃ Z,st+48=Z:=⟨_,rfl⟩
 obtain⟨o1,ho1⟩: ∃ o,st+16=o:=⟨_,rfl⟩
 obtain⟨o2,ho2⟩: ∃ o,st+24=o:=⟨_,rfl⟩
 have e1:(st:Int)+48=(Z:Int):=by omega
 have e2:(st:Int)+16=(o1:Int):=by omega
 have e3:(st:Int)+24=(o2:Int):=by omega
 have w1:IntKind.i64.wrap (Z:Int)=(Z:Int):=by rw[IntKind.wrap_i64]; omega
 have w2:IntKind.i64.wrap (o1:Int)=(o1:Int):=by rw[IntKind.wrap_i64]; omega
 have w3:IntKind.i64.wrap (o2:Int)=(o2:Int):=by rw[IntKind.wrap_i64]; omega
 have w4:IntKind.u64.wrap (st:Int)=(st:Int):=by rw[IntKind.wrap_u64]; omega
 obtain⟨x1,hx1,_,_⟩:=Wa x
 obtain⟨v1,hv1,a1,b1⟩:=Wa (base+x1)
 obtain⟨x2,hx2,_,_⟩:=Wa (base+st)
 obtain⟨v2,hv2,a2,b2⟩:=Wa (x2+48)
 have HQ:=Zg (And.intro hZ (And.intro ho1 ho2))
 have HV:=Zg (And.intro (And.intro a1 b1) (And.intro a2 b2))
 clear hL hst hm hZ ho1 ho2 a1 b1 a2 b2
 go_enter Tryz.func31,Tryz.ntmps31
 go_wp2_with (at_make; refine Yz rfl (.tmp 12) (.tmp 12) rfl w.heap.size .i64 .i64 Z rfl rfl (by have:=HQ.out; have:=HST.out; omega) (Nat.le_refl _) ?_; intro w5 ho hb hs; have hcv:=YB (cap:=Z) ho.row; have HB5:=Zg hb; clear ho hb hs)
 obtain⟨S0,hS0⟩: ∃ S0,ZB (fun _=>0) 0 Z=S0:=⟨_,rfl⟩
 have HZ0:=Zg (show S0.size=Z by rw[←hS0]; exact Zt _ _ _)
 rw[hS0]
 clear hcv hS0
 refine(Uz S0 o1 8 v1 w5 (by rw[HZ0.out]; have:=HQ.out; have:=HST.out; omega) (by omega) (by omega) (by rw[HZ0.out]; have:=HQ.out; omega) HV.out.1.1 HV.out.1.2).mono ?_
 rintro e w6 ⟨rfl,hb6⟩
 obtain⟨S1,hS1⟩: ∃ S1,ZB (Xm (PlainAid.bt S0) o1 v1 8) 0 S0.size=S1:=⟨_,rfl⟩
 have HZ1:=Zg (show S1.size=Z by rw[←hS1,Zt]; exact HZ0.out)
 rw[hS1]
 have HB6:=Zg (HB5.out.trans (hb6.mono HB5.out.size))
 clear hS1 hb6 HZ0 HB5
 go_wp2_with fail
 refine(Uz S1 o2 8 v2 w6 (by rw[HZ1.out]; have:=HQ.out; have:=HST.out; omega) (by omega) (by omega) (by rw[HZ1.out]; have:=HQ.out; omega) HV.out.2.1 HV.out.2.2).mono ?_
 rintro e w7 ⟨rfl,hb7⟩
 obtain⟨S2,hS2⟩: ∃ S2,ZB (Xm (PlainAid.bt S1) o2 v2 8) 0 S1.size=S2:=⟨_,rfl⟩
 have HZ2:=Zg (show S2.size=Z by rw[←hS2,Zt]; exact HZ1.out)
 rw[hS2]
 have HB7:=Zg (HB6.out.trans (hb7.mono HB6.out.size))
 clear hS2 hb7 HZ1 HB6 hx1 hv1 hx2 hv2
 go_wp2_with fail
 go_loopw [9,10] (fun v9 o wr=> ∃(i:Nat) (S:ByteArray),i≤10∧i≤cs.length∧o= .int .i64 i∧v9= .string S∧S.size=Z+8 * i∧Below w.heap.size w wr) (fun _ o _=>10 - (intOf o).toNat)
 case atStart=>exact⟨0,S2,by omega,by omega,rfl,rfl,by rw[HZ2.out]; omega,HB7.out⟩
 case round =>
  obtain⟨i,S,hi,hic,rfl,rfl,hsz,hbw⟩:=hrel
  have HSZ:=Zg hsz
  have HBW:=Zg hbw
  have HI:=Zg (And.intro hi hic)
  have hlim:=HST.out
  have hq:=HQ.out
  clear hbw HB7 HZ2 hsz
  by_cases hlt:i<cs.length∧i<10
  ·obtain⟨bb,off,rfl,hbl,q4⟩:=Zjh (HLS.out.below HBW.out) hlt.1
   have HLT:=Zg hlt
   generalize cs[i]=v at *
   have g1:decide ((i:Int)<(cs.length:Int))=true:=decide_eq_true (by omega)
   have g2:decide ((i:Int)<10)=true:=decide_eq_true (by omega)
   have hz:(0:Int)≤(i:Int):=by omega
   have hzl:(i:Int)<(cs.length:Int):=by omega
   obtain⟨y1,hy1,_,_⟩:=Wa v
   obtain⟨y2,hy2,c1,c2⟩:=Wa (base+y1)
   have HBY:=Zg (fun W:World=>Yn y2 8 8 W c1 c2 (by omega))
   have ha1:=fun(W:World)=>run_string_add_sum (P:=Tryz.prog) W S (ZB (Yf y2) 0 8) (by rw[HSZ.out,Zt]; omega)
   have HS8:=Zg (show(S++ZB (Yf y2) 0 8).size=Z+8 * (i+1) by rw[ByteArray.size_append,HSZ.out,Zt]; omega)
   have hib:i<10:=hlt.2
   have hibz:(i:Int)<10:=by omega
   clear hlt hlim hq hi hic
   go_wp2_with (go_fit (HBY.out _); rintro e u ⟨rfl,hbu⟩)
   go_roundw
   case rel=>exact⟨i+1,_,by have:=HLT.out; omega,by have:=HLT.out; omega,by go_num,rfl,HS8.out,HBW.out.trans (hbu.mono HBW.out.size)⟩
   case measure=>have:=HLT.out; simp[intOf]; omega
  ·have ha2:=fun(W:World)=>run_string_add_sum (P:=Tryz.prog) W S (ZB (fun _=>0) 0 8) (by rw[HSZ.out,Zt]; omega)
   have HSE:=Zg (show S.size+(ZB (fun _=>0) 0 8).size=Z+8 * (i+1) by rw[HSZ.out,Zt]; omega)
   have hfin:(i:Int)=cs.length∨((i:Int)<cs.length∧(i:Int)=10):=by omega
   have HFB:=Zg (show Z=st+48∧i≤10 from⟨by omega,hi⟩)
   clear hlt hlim hq hic
   rcases hfin with hfin|⟨hf1,hf2⟩
   ·have g1:decide ((i:Int)<(cs.length:Int))=false:=decide_eq_false (by omega)
    have g1': ¬ (i:Int)<(cs.length:Int):=by omega
    clear hfin
    go_wp2_with (at_make; refine Yz rfl (.const (.int .i64 8)) (.const (.int .i64 8)) rfl w.heap.size .i64 .i64 8 rfl rfl (by omega) HBW.out.size ?_; intro w8 ho hb hs; have hcv5:=YB (cap:=8) ho.row; have HB8:=Zg (HBW.out.trans (hb.mono HBW.out.size)); obtain⟨C9,w9,hcv9,ho9,hw9⟩:=UG w8 (S++ZB (fun _=>0) 0 8) (by rw[ByteArray.size_append,HSE.out]; have:=HFB.out; have:=HST.out; omega); have HO9:=Zg (show YD w9 w8.heap.size w8.heap.size (S.size+(ZB (fun _=>0) 0 8).size) C9 (PlainAid.bt (S++ZB (fun _=>0) 0 8)) from by rw[←ByteArray.size_append]; exact ho9); have HB9:=Zg (HB8.out.trans (hw9.mono HB8.out.size)); clear ho hb hs ho9 hw9)
    go_ret
    exact⟨_,_,_,rfl,by rw[HSE.out]; have:=HFB.out; omega,by rw[HSE.out]; have:=HFB.out; omega,⟨_,HO9.out.weaken HB8.out.size⟩,HB9.out⟩
   ·have g1:decide ((i:Int)<(cs.length:Int))=true:=decide_eq_true hf1
    have g2:decide ((i:Int)<10)=false:=decide_eq_false (by omega)
    have g2': ¬ (i:Int)<10:=by omega
    clear hf2
    go_wp2_with (at_make; refine Yz rfl (.const (.int .i64 8)) (.const (.int .i64 8)) rfl w.heap.size .i64 .i64 8 rfl rfl (by omega) HBW.out.size ?_; intro w8 ho hb hs; have hcv5:=YB (cap:=8) ho.row; have HB8:=Zg (HBW.out.trans (hb.mono HBW.out.size)); obtain⟨C9,w9,hcv9,ho9,hw9⟩:=UG w8 (S++ZB (fun _=>0) 0 8) (by rw[ByteArray.size_append,HSE.out]; have:=HFB.out; have:=HST.out; omega); have HO9:=Zg (show YD w9 w8.heap.size w8.heap.size (S.size+(ZB (fun _=>0) 0 8).size) C9 (PlainAid.bt (S++ZB (fun _=>0) 0 8)) from by rw[←ByteArray.size_append]; exact ho9); have HB9:=Zg (HB8.out.trans (hw9.mono HB8.out.size)); clear ho hb hs ho9 hw9)
    go_ret
    exact⟨_,_,_,rfl,by rw[HSE.out]; have:=HFB.out; omega,by rw[HSE.out]; have:=HFB.out; omega,⟨_,HO9.out.weaken HB8.out.size⟩,HB9.out⟩
end Go.Proofs.YtplgdpjbkdagfaaGreat
