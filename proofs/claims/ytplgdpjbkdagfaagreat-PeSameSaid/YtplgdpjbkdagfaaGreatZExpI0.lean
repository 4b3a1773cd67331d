import Derived.Test.YtplgdpjbkdagfaaGreatExpH
import Derived.Test.YtplgdpjbkdagfaaGreatZOwnT
import Derived.Test.YtplgdpjbkdagfaaGreatZExpM
import Derived.Deep.RegionWith
import Derived.Test.YtplgdpjbkdagfaaGreatZRefB
namespace Go.Proofs.YtplgdpjbkdagfaaGreat
open List renaming getElem?_toArray→Za, getElem?_cons_succ→Zb, getElem?_cons_zero→Zc, setIfInBounds_toArray→Zd, set_cons_zero→Ze, set_cons_succ→Zf
open Lib renaming hid→Zg
open Go.ChangeShapes Go.WideShapes Go.ChangeAt Go.RowKit
set_option linter.unusedVariables false
set_option linter.unusedSimpArgs false
def sC (t:List Nat):List Value:=[.string (txt t)]
theorem SlT.st {w:World} {F:Option Addr} {fs:List (List Nat)} (h:SlT sC 1 w F fs) {k:Nat} (hk:k<fs.length): ∃ b off,F=some ⟨b,off,none⟩∧b<w.heap.size∧w.cell? ⟨b,off+k,none⟩=some (.string (txt fs[k])):=by
 rcases h with h|⟨b,off,rfl,hlt,hc⟩
 ·rw[h] at hk; simp at hk
 ·exact⟨b,off,rfl,hlt,by have:=hc k hk 0 _ (by simp[sC]; rfl); simpa using this⟩
def UO (S:ByteArray) (k:Nat):Bool:=(List.range k).any fun j=>PlainAid.bt S j == 46
theorem Za8 (S:ByteArray) (k:Nat):UO S (k+1)=(UO S k||(PlainAid.bt S k == 46)):=by
 unfold UO; rw[List.range_succ,List.any_append]; simp
theorem Zdk {s:List Nat} (h:Lb s):UO (txt s) (txt s).size=s.contains 46:=by
 rw[Zm,Bool.eq_iff_iff]
 unfold UO
 rw[List.any_eq_true,List.contains_iff_mem]
 constructor
 ·rintro⟨j,hj,h1⟩
  have hj':j<s.length:=by simpa using hj
  rw[Yr h hj',Vy hj'] at h1
  have:s[j]=46:=by
   have:=eq_of_beq h1
   omega
  rw[←this]; exact List.getElem_mem hj'
 ·intro h1
  obtain⟨j,hj,h2⟩:=List.mem_iff_getElem.mp h1
  refine⟨j,by simpa using hj,?_⟩
  rw[Yr h hj,Vy hj,h2]
  rfl
def Zdl (rows:Nat) (b:List Nat) (i:Nat) (s:List Nat):List Nat :=
 if s.contains 46 then ZQ ((b++s)++[0]) (rows+4 * i) 4 b.length else ZQ b (rows+4 * i) 4 (if s=[] then 0 else 64+i)
def atF (rows:Nat):List (List Nat)→Nat→List Nat→List Nat
 | [],_,b=>b
 | s::r,i,b=>atF rows r (i+1) (Zdl rows b i s)
def Zdm (r1 r2 n:Nat) (b:List Nat) (i:Nat) (s:List Nat):List Nat:=(ZQ (ZQ b (r1+4 * i) 4 b.length) (r2+2 * i) 2 (i % max n 1)++s)++[0]
def atN (r1 r2 n:Nat):List (List Nat)→Nat→List Nat→List Nat
 | [],_,b=>b
 | s::r,i,b=>atN r1 r2 n r (i+1) (Zdm r1 r2 n b i s)
def atH (start n m base:Nat):List Nat :=
 ZQ (ZQ (ZQ (ZQ (ZQ (ZQ (List.replicate (start+40+4 * n+6 * m) 0) (start+16) 4 base) (start+20) 4 n) (start+24) 4 m) (start+28) 4 (start+40)) (start+32) 4 (start+40+4 * n)) (start+36) 4 (start+40+4 * n+4 * m)
def atB (start:Nat) (fs:List (List Nat)) (m base:Nat):List Nat:=atF (start+40) fs 0 (atH start fs.length m base)
def atE (start:Nat) (fs ns:List (List Nat)) (base:Nat):List Nat:=atN (start+40+4 * fs.length) (start+40+4 * fs.length+4 * ns.length) fs.length ns 0 (atB start fs ns.length base)
theorem Zhd {t:List Nat} (h:Lb t):((txt t).toList == ([]:List UInt8))=decide (t=[]):=by
 rw[Bool.eq_iff_iff,beq_iff_eq,decide_eq_true_iff,ByteArray.toList_eq]
 constructor
 ·intro q
  have h1:(txt t).size=0:=by
   have h2:=congrArg List.length q
   rw[List.length_nil,Array.length_toList] at h2
   exact h2
  rw[Zm] at h1
  exact List.eq_nil_of_length_eq_zero h1
 ·intro q; subst q; rfl
theorem QM (w:World):Src Tryz.prog 1 25 (.slice (some ⟨w.heap.size,0,none⟩) 1 1) 1 (Zs 1 (lF [0])) (w.alloc (.cells #[.int .u8 0] 5)) :=
 Wn (.inr ⟨w.heap.size,0,rfl,by simp,fun i hi=>by
  obtain rfl:i=0:=by omega
  simp[go_sem,lF]⟩)
def TxOk (s:List Nat):Prop:=Lb s∧s.length≤200
noncomputable def bodyA:Code:=(Tryz.f27.body).getD .skip
def QA (start:Nat) (B2l:Nat) (B3:List Nat) (w:World):Exit→Act→World→Prop :=
 bodyPost Tryz.prog Tryz.f27 fun e w'=> ∃ g c,e= .returned (.tuple #[.slice (some ⟨g,0,none⟩) B3.length c,.agg #[.int .i64 start,.int .i64 ((B2l:Int) - (start:Int))]])∧YI w' w.heap.size g c B3∧Below w.heap.size w w'
set_option maxRecDepth 100000
theorem Zhe {α :Type} (f:Nat→ α):(List.range 167).map f=(f 0::f 1::f 2::f 3::f 4::f 5::f 6::f 7::f 8::f 9::f 10::f 11::f 12::f 13::f 14::f 15::f 16::f 17::f 18::f 19::f 20::f 21::f 22::f 23::f 24::f 25::f 26::f 27::f 28::f 29::f 30::f 31::f 32::f 33::f 34::f 35::f 36::f 37::f 38::f 39::f 40::f 41::f 42::f 43::f 44::f 45::f 46::f 47::f 48::f 49::f 50::f 51::f 52::f 53::f 54::f 55::f 56::f 57::f 58::f 59::f 60::f 61::f 62::f 63::f 64::f 65::f 66::f 67::f 68::f 69::f 70::f 71::f 72::f 73::f 74::f 75::f 76::f 77::f 78::f 79::f 80::f 81::f 82::f 83::f 84::f 85::f 86::f 87::f 88::f 89::f 90::f 91::f 92::f 93::f 94::f 95::f 96::f 97::f 98::f 99::f 100::f 101::f 102::f 103::f 104::f 105::f 106::f 107::f 108::f 109::f 110::f 111::f 112::f 113::f 114::f 115::f 116::f 117::f 118::f 119::f 120::f 121::f 122::f 123::f 124::f 125::f 126::f 127::f 128::f 129::f 130::f 131::f 132::f 133::f 134::f 135::f 136::f 137::f 138::f 139::f 140::f 141::f 142::f 143::f 144::f 145::f 146::f 147::f 148::f 149::f 150::f 151::f 152::f 153::f 154::f 155::f 156::f 157::f 158::f 159::f 160::f 161::f 162::f 163::f 164::f 165::f 166::[]):=rfl
theorem XU {a:Act} {v0 v2 v9 v10 v11 v12 v13 v14:Value} (h:Has 167 [0,2,9,10,11,12,13,14] [v0,v2,v9,v10,v11,v12,v13,v14] a): ∃ u:Nat→Value,a=⟨(v0::u 1::v2::u 3::u 4::u 5::u 6::u 7::u 8::v9::v10::v11::v12::v13::v14::u 15::u 16::u 17::u 18::u 19::u 20::u 21::u 22::u 23::u 24::u 25::u 26::u 27::u 28::u 29::u 30::u 31::u 32::u 33::u 34::u 35::u 36::u 37::u 38::u 39::u 40::u 41::u 42::u 43::u 44::u 45::u 46::u 47::u 48::u 49::u 50::u 51::u 52::u 53::u 54::u 55::u 56::u 57::u 58::u 59::u 60::u 61::u 62::u 63::u 64::u 65::u 66::u 67::u 68::u 69::u 70::u 71::u 72::u 73::u 74::u 75::u 76::u 77::u 78::u 79::u 80::u 81::u 82::u 83::u 84::u 85::u 86::u 87::u 88::u 89::u 90::u 91::u 92::u 93::u 94::u 95::u 96::u 97::u 98::u 99::u 100::u 101::u 102::u 103::u 104::u 105::u 106::u 107::u 108::u 109::u 110::u 111::u 112::u 113::u 114::u 115::u 116::u 117::u 118::u 119::u 120::u 121::u 122::u 123::u 124::u 125::u 126::u 127::u 128::u 129::u 130::u 131::u 132::u 133::u 134::u 135::u 136::u 137::u 138::u 139::u 140::u 141::u 142::u 143::u 144::u 145::u 146::u 147::u 148::u 149::u 150::u 151::u 152::u 153::u 154::u 155::u 156::u 157::u 158::u 159::u 160::u 161::u 162::u 163::u 164::u 165::u 166::[]).toArray,[]⟩:=by
 obtain⟨⟨l⟩,d⟩:=a
 obtain⟨hs,hd,hl⟩:=h
 have hs':l.length=167:=hs
 have hd':d=[]:=hd
 subst hd'
 simp only[at_,List.map_cons,List.map_nil,List.cons.injEq,and_true] at hl
 obtain⟨e0,e2,e9,e10,e11,e12,e13,e14⟩:=hl
 refine⟨sl ⟨⟨l⟩,[]⟩,?_⟩
 have key:=Zz l [] 167 hs'
 rw[Zhe] at key
 have u0:sl ⟨⟨l⟩,[]⟩ 0=v0:=by unfold sl; rw[e0]; rfl
 have u2:sl ⟨⟨l⟩,[]⟩ 2=v2:=by unfold sl; rw[e2]; rfl
 have u9:sl ⟨⟨l⟩,[]⟩ 9=v9:=by unfold sl; rw[e9]; rfl
 have u10:sl ⟨⟨l⟩,[]⟩ 10=v10:=by unfold sl; rw[e10]; rfl
 have u11:sl ⟨⟨l⟩,[]⟩ 11=v11:=by unfold sl; rw[e11]; rfl
 have u12:sl ⟨⟨l⟩,[]⟩ 12=v12:=by unfold sl; rw[e12]; rfl
 have u13:sl ⟨⟨l⟩,[]⟩ 13=v13:=by unfold sl; rw[e13]; rfl
 have u14:sl ⟨⟨l⟩,[]⟩ 14=v14:=by unfold sl; rw[e14]; rfl
 rw[←u0,←u2,←u9,←u10,←u11,←u12,←u13,←u14]
 exact congrArg (fun x=>(⟨⟨x⟩,[]⟩:Act)) key
end Go.Proofs.YtplgdpjbkdagfaaGreat
namespace Go.Proofs.YtplgdpjbkdagfaaGreat
open List renaming getElem?_toArray→Za, getElem?_cons_succ→Zb, getElem?_cons_zero→Zc, setIfInBounds_toArray→Zd, set_cons_zero→Ze, set_cons_succ→Zf
open Lib renaming hid→Zg
set_option maxRecDepth 100000
open Go.ChangeShapes Go.WideShapes Go.ChangeAt Go.RowKit
set_option linter.unusedVariables false
set_option linter.unusedSimpArgs false
set_option maxRecDepth 100000 in
set_option maxHeartbeats 8000000 in
theorem Zhf (start n m rows n4 r1 m4 r2 Z:Nat) (ns:List (List Nat)) (ln:Nat) (N:Option Addr) (nc:Nat) (w wr:World) (hst:start≤4200) (hm12:m≤12) (hn12:n≤12) (B3 b:List Nat) (g c:Nat)
 (HNT:Hid (∀ W,Below w.heap.size w W→SlT sC 1 W N ns)) (HNS:Hid (∀ s∈ns,TxOk s)) (HMN:Hid (m≤ns.length∧m≤ln)) (HLN:Hid ((ns.take 12).length=m))
 (er:(start:Int)+40=(rows:Int)) (en4:(4:Int) * (n:Int)=(n4:Int)) (er1:(rows:Int)+(n4:Int)=(r1:Int)) (em4:(4:Int) * (m:Int)=(m4:Int)) (er2:(r1:Int)+(m4:Int)=(r2:Int)) (HZQ:Hid (r1+6 * m=Z∧r2=r1+4 * m)) (hZb:Z≤4400)
 (HO:Hid (YI wr (w.heap.size+2) g c b)) (HBZ:Hid (Z≤b.length)) (hbm2:b.length≤7000) (HB:Hid (Below w.heap.size w wr))
 (HX:Hid (wr.heap[w.heap.size]? =some (.cells #[.int .i64 0,.int .i64 0] 37 (0,0)))) (HY:Hid (wr.heap[w.heap.size+1]? =some (.cells #[.int .i64 start,.int .i64 0] 37 (0,0))))
 (HB3:Hid (atN r1 r2 n (ns.take 12) 0 b=B3)) (a:Act)
 (ha:Has 167 [0,2,9,10,11,12,13,14] [.int .i64 start,.slice N ln nc,.pointer (some ⟨w.heap.size,0,none⟩),.int .i64 n,.int .i64 m,.pointer (some ⟨w.heap.size+1,0,none⟩),.slice (some ⟨g,0,none⟩) b.length c,.int .i64 rows] a):(ZY 12 bodyA).wp Tryz.prog (QA start b.length B3 w) a wr:=by
 obtain⟨u,rfl⟩:=XU ha
 clear ha
 conv=>arg 2; whnf
 have hy1:wr.cell? ⟨w.heap.size+1,1,none⟩=some (.int .i64 0):=by rw[Zh HY.out]; rfl
 have hyf:wr.frozen? ⟨w.heap.size+1,1,none⟩=false:=frozen_of_row _ _ _ _ _ HY.out
 obtain⟨zz,hzz⟩: ∃ zz:Int,(b.length:Int) - (start:Int)=zz:=⟨_,rfl⟩
 have HZZ:=Zg (show zz<7001∧ -5000<zz from by omega)
 obtain⟨w9,hw9⟩: ∃ w9,wr.setCell ⟨w.heap.size+1,1,none⟩ (.int .i64 zz)=w9:=⟨_,rfl⟩
 replace HX:=Zg (show w9.heap[w.heap.size]? =some (.cells #[.int .i64 0,.int .i64 0] 37 (0,0)) from by rw[←hw9]; exact(heap_setCell_other wr _ _ _ (by simp)).trans HX.out)
 replace HO:=Zg (show YI w9 (w.heap.size+2) g c b from by
  rw[←hw9]
  refine HO.out.of_block (by simp) (heap_setCell_other wr _ _ _ ?_)
  have:=HO.out.le
  show g≠w.heap.size+1
  omega)
 replace HY:=Zg (show w9.heap[w.heap.size+1]? =some (.cells #[.int .i64 start,.int .i64 zz] 37 (0,0)) from by rw[←hw9]; exact heap_setCell_same wr (w.heap.size+1) 1 _ _ _ HY.out)
 replace HB:=Zg (show Below w.heap.size w w9 from by rw[←hw9]; exact HB.out.setCell (p:=⟨w.heap.size+1,1,none⟩) (Nat.le_succ _) _)
 have HW9:=Zg hw9
 clear hw9
 go_upto_region 28 with(fail)
 refine(congrArg _ HW9.out).mpr ?_
 clear hy1 hyf HW9
 go_wp2_with fail
 go_loopw [13,20] (fun v13 v20 wr=> ∃(j g c:Nat) (b':List Nat),j≤m∧v20= .int .i64 j∧v13= .slice (some ⟨g,0,none⟩) b'.length c∧YI wr (w.heap.size+2) g c b'∧Z≤b'.length∧b'.length≤7000+201 * j∧Below w.heap.size w wr∧wr.heap[w.heap.size]? =some (.cells #[.int .i64 0,.int .i64 0] 37 (0,0))∧wr.heap[w.heap.size+1]? =some (.cells #[.int .i64 start,.int .i64 zz] 37 (0,0))∧atN r1 r2 n ((ns.take 12).drop j) j b'=B3) (fun _ v20 _=>m - (intOf v20).toNat)
 case atStart=>exact⟨0,g,c,b,Nat.zero_le _,rfl,rfl,HO.out,HBZ.out,by omega,HB.out,HX.out,HY.out,HB3.out⟩
 case round =>
  obtain⟨j,g,c,b',hj,rfl,rfl,ho,hbz',hbm',hbel,hx,hy,hat⟩:=hrel
  replace HO:=Zg ho
  replace HB:=Zg hbel
  replace HX:=Zg hx
  replace HY:=Zg hy
  replace HB3:=Zg hat
  clear ho hbel hx hy hat
  by_cases hlt:j<m
  ·have hjn:j<ns.length:=by have:=HMN.out; omega
   have hjl:j<ln:=by have:=HMN.out; omega
   obtain⟨bn,off,rfl,hbl,q0⟩:=(HNT.out wr HB.out).st hjn
   have hok:=HNS.out ns[j] (List.getElem_mem hjn)
   have hat:=HB3.out
   rw[List.drop_eq_getElem_cons (by have:=HLN.out; omega),List.getElem_take] at hat
   obtain⟨s,hse⟩: ∃ s,ns[j]=s:=⟨_,rfl⟩
   rw[hse] at hat hok q0
   simp only[atN,Zdm] at hat
   have HSX:=Zg (fun W=>Wu (w:=W) s hok.1)
   obtain⟨T,hT⟩: ∃ T,txt s=T:=⟨_,rfl⟩
   rw[hT] at q0 HSX
   have HOK:=Zg hok
   obtain⟨j4,hj4⟩: ∃ q,4 * j=q:=⟨_,rfl⟩
   obtain⟨p,hp1⟩: ∃ q,r1+j4=q:=⟨_,rfl⟩
   obtain⟨j2,hj2⟩: ∃ q,2 * j=q:=⟨_,rfl⟩
   obtain⟨q,hq1⟩: ∃ q,r2+j2=q:=⟨_,rfl⟩
   have ej4:(4:Int) * (j:Int)=(j4:Int):=by omega
   have ep:(r1:Int)+(j4:Int)=(p:Int):=by omega
   have ej2:(2:Int) * (j:Int)=(j2:Int):=by omega
   have eq':(r2:Int)+(j2:Int)=(q:Int):=by omega
   obtain⟨mx,hmx⟩: ∃ mx,max n 1=mx:=⟨_,rfl⟩
   have emx:max (n:Int) 1=(mx:Int):=by omega
   have hmx0:mx≠0:=by omega
   have erem:Int.tmod (j:Int) (mx:Int)=((j % mx:Nat):Int):=rfl
   obtain⟨rr,hrr⟩: ∃ rr,j % mx=rr:=⟨_,rfl⟩
   have hrrb:rr≤12:=by have:=Nat.mod_le j mx; omega
   rw[hrr] at erem
   rw[hj4,hp1,hj2,hq1,hmx,hrr] at hat
   have HPQ:=Zg (show p+4≤Z∧q+2≤Z from by have:=HZQ.out; omega)
   have hl1:=Zo (b:=b') (o:=p) (n:=4) (by have:=HPQ.out; omega) b'.length
   have hp:=Xf (some ⟨g,0,none⟩) c b' p 4 (b'.length:Nat) b'.length wr HO.out.lb (by omega) HO.out.slB (by omega) (by omega) (by have:=HPQ.out; omega) (ZU (by omega)) (by omega)
   obtain⟨d1,hd1⟩: ∃ q,ZQ b' p 4 b'.length=q:=⟨_,rfl⟩
   rw[hd1] at hp hl1 hat
   clear hd1 hj4 hp1 hj2 hq1 hmx hrr hse hT hok
   have hqs: ∀ W,Below wr.heap.size wr W→W.cell? ⟨bn,off+j,none⟩=some (.string T):=fun W hW=>(hW.cell (p:=⟨bn,off+j,none⟩) hbl).trans q0
   have HQS:=Zg hqs
   clear hqs q0
   go_wp2_with fail
   refine hp.mono ?_
   rintro e w8 ⟨g1',c1',rfl,ho,hw⟩
   have HW8:=Zg hw
   replace HO:=Zg (ho.weaken (base':=w.heap.size+2) (Zi HY.out))
   replace HX:=Zg ((hw.block w.heap.size (Zi HX.out)).trans HX.out)
   replace HY:=Zg ((hw.block (w.heap.size+1) (Zi HY.out)).trans HY.out)
   replace HB:=Zg (HB.out.trans (hw.mono HB.out.size))
   clear hp ho hw
   have hl2:=Zo (b:=d1) (o:=q) (n:=2) (by have:=HPQ.out; omega) rr
   have hp:=Xf (some ⟨g1',0,none⟩) c1' d1 q 2 (rr:Nat) rr w8 HO.out.lb (by omega) HO.out.slB (by omega) (by omega) (by have:=HPQ.out; omega) (ZU (by omega)) (by omega)
   obtain⟨d2,hd2⟩: ∃ q',ZQ d1 q 2 rr=q':=⟨_,rfl⟩
   rw[hd2] at hp hl2 hat
   rw[hl1] at hp hl2
   clear hd2
   go_wp2_with fail
   refine hp.mono ?_
   rintro e w10 ⟨g2',c2',rfl,ho,hw⟩
   have q0:=HQS.out w10 (HW8.out.trans (hw.mono HW8.out.size))
   replace HO:=Zg (ho.weaken (base':=w.heap.size+2) (Zi HY.out))
   replace HX:=Zg ((hw.block w.heap.size (Zi HX.out)).trans HX.out)
   replace HY:=Zg ((hw.block (w.heap.size+1) (Zi HY.out)).trans HY.out)
   replace HB:=Zg (HB.out.trans (hw.mono HB.out.size))
   have hoo:=HO.out
   clear hp ho hw
   have hsl:=HOK.out.2
   have HL2:=Zg hl2
   clear hoo
   go_wp2_with (first
    | (at_builtin; refine YP rfl (.tmp 157) (.tmp 161) 9 rfl (.string T) HO.out HL2.out.symm rfl (HSX.out _) HOK.out.1 (by omega) (Zi HY.out) rfl rfl ?_; intro g5 c5 w5 hown5 hbel5; have HO5:=Zg hown5; have HB5:=Zg hbel5; clear hown5 hbel5)
    | (at_builtin; refine YP rfl (.tmp 162) (.tmp 163) 25 rfl (.slice (some ⟨w5.heap.size,0,none⟩) 1 1) (HO5.out.alloc _) (by rw[List.length_append,HL2.out]) (show 1=[0].length from rfl) (QM w5) (fun v hv=>by simp at hv; omega) (by omega) (Nat.le_trans (Nat.le_trans (Zi HY.out) HB5.out.size) (by simp)) rfl rfl ?_; intro g6 c6 w6 hown6 hbel6; have HO6:=Zg hown6; have HB6:=Zg hbel6; clear hown6 hbel6)
    | fail)
   have hlen:(d2++s++[0]).length=b'.length+s.length+1:=by simp only[List.length_append,List.length_singleton,HL2.out]
   have hs5:w.heap.size+2≤w5.heap.size:=Nat.le_trans (Zi HY.out) HB5.out.size
   have hch:Below (w.heap.size+2) w10 w6:=(HB5.out.alloc hs5 _).trans HB6.out
   replace HX:=Zg ((hch.block w.heap.size (by omega)).trans HX.out)
   replace HY:=Zg ((hch.block (w.heap.size+1) (by omega)).trans HY.out)
   replace HB:=Zg (HB.out.trans (hch.mono (by omega)))
   clear hs5 hch q0
   go_roundw
   case rel=>exact⟨j+1,g6,c6,d2++s++[0],by omega,by go_num,by rw[hlen],HO6.out,by omega,by omega,HB.out,HX.out,HY.out,hat⟩
   case measure=>simp[intOf]; omega
  ·obtain rfl:j=m:=by omega
   have hat:=HB3.out
   rw[List.drop_eq_nil_of_le (by have:=HLN.out; omega)] at hat
   have hat':b'=B3:=hat
   subst hat'
   have hy0:wr.cell? ⟨w.heap.size+1,0,none⟩=some (.int .i64 start):=by rw[Zh HY.out]; rfl
   have hy1:wr.cell? ⟨w.heap.size+1,1,none⟩=some (.int .i64 zz):=by rw[Zh HY.out]; rfl
   go_upto_region 34 with(fail)
   have HS:=Zg (show Below w.heap.size w wr.drew∧wr.drew.cell? ⟨w.heap.size+1,0,none⟩=some (.int .i64 start)∧wr.drew.cell? ⟨w.heap.size+1,1,none⟩=some (.int .i64 zz) from⟨HB.out.drew,hy0,hy1⟩)
   clear hy0 hy1
   refine wp_region_noPanic ?_
   refine Zw (fun W=>Below w.heap.size w W∧W.cell? ⟨w.heap.size+1,0,none⟩=some (.int .i64 start)∧W.cell? ⟨w.heap.size+1,1,none⟩=some (.int .i64 zz)) (fun _=>True) 99 (by kernel_rfl) ?_
   refine wT (i:=0) (oi:= ?_) (v:= ?_) ?_ ?_ HS.out ?_
   rotate_left 2
   ·(simp only[Za,Zb,Zc]; rfl)
   ·(first|exact Or.inr ⟨by rfl,rfl⟩|(refine Or.inl ⟨by rfl,?_⟩; intro W hSw; clear hSw; go_simp; try with_reducible rfl))
   try simp only[Act.put,Zd,Ze,Zf]
   refine wT (i:=1) (oi:= ?_) (v:= ?_) ?_ ?_ HS.out ?_
   rotate_left 2
   ·(simp only[Za,Zb,Zc]; rfl)
   ·(first|exact Or.inr ⟨by rfl,rfl⟩|(refine Or.inl ⟨by rfl,?_⟩; intro W hSw; have hq0:=hSw.2.1; have hq1:=hSw.2.2; clear hSw; go_simp; try with_reducible rfl))
   try simp only[Act.put,Zd,Ze,Zf]
   refine wT (i:=2) (oi:= ?_) (v:= ?_) ?_ ?_ HS.out ?_
   rotate_left 2
   ·(simp only[Za,Zb,Zc]; rfl)
   ·(first|exact Or.inr ⟨by rfl,rfl⟩|(refine Or.inl ⟨by rfl,?_⟩; intro W hSw; clear hSw; go_simp; try with_reducible rfl))
   try simp only[Act.put,Zd,Ze,Zf]
   refine Zk (i:=3) (o:= ?_) (by kernel_rfl) ?_ (fun K hK=> ?_)
   rotate_left 1
   ·(simp only[Za,Zb,Zc]; rfl)
   refine Yi rfl 37 _ _ rfl w.heap.size #[.int .i64 start,.int .i64 zz] ?_ ?_ 37 #[.int .i64 0,.int .i64 0] HX.out (by kernel_rfl) rfl (by simp[Value.oneCell']) ?_
   ·first|rfl|simp[Act.eval]
   ·first|rfl|simp[Act.eval]
   have HS2:=Zg (show Below w.heap.size w (wr.drew.setRow w.heap.size #[.int .i64 start,.int .i64 zz])∧(wr.drew.setRow w.heap.size #[.int .i64 start,.int .i64 zz]).cell? ⟨w.heap.size+1,0,none⟩=some (.int .i64 start)∧(wr.drew.setRow w.heap.size #[.int .i64 start,.int .i64 zz]).cell? ⟨w.heap.size+1,1,none⟩=some (.int .i64 zz) from
    ⟨below_setRow HS.out.1 (Nat.le_refl _) _,(cell_setRow_other _ _ _ _ (by simp)).trans HS.out.2.1,(cell_setRow_other _ _ _ _ (by simp)).trans HS.out.2.2⟩)
   have HR9:=Zg (setRow_heap wr.drew w.heap.size _ #[.int .i64 start,.int .i64 zz] _ _ HX.out)
   have HO9:=Zg (show YI (wr.drew.setRow w.heap.size #[.int .i64 start,.int .i64 zz]) w.heap.size g c b' from by
    refine(HO.out.weaken (base':=w.heap.size) (by omega)).of_block (by rw[size_setRow]; exact Nat.le_refl _) (setRow_other wr.drew _ _ _ ?_)
    have:=HO.out.le
    omega)
   refine hK.out _ _ HS2.out (fun _=>trivial) ?_
   clear hK K
   try simp only[Act.put,Zd,Ze,Zf]
   refine Zp (by kernel_rfl) ?_ _
   refine NoPanic.normal ?_
   generalize wr.drew.setRow w.heap.size #[.int .i64 start,.int .i64 zz]=w9 at *
   have k0:w9.cell? ⟨w.heap.size,0,none⟩=some (.int .i64 start):=by rw[Zh HR9.out]; rfl
   have k1:w9.cell? ⟨w.heap.size,1,none⟩=some (.int .i64 zz):=by rw[Zh HR9.out]; rfl
   go_wp2_with fail
   refine bodyPost_ret (v:= .tuple #[.slice (some ⟨g,0,none⟩) b'.length c,.agg #[.int .i64 start,.int .i64 zz]]) (by simp[results,Tryz.results27,go_sem,k0,k1]) rfl ?_
   exact⟨g,c,by rw[hzz],HO9.out,HS2.out.1⟩
set_option maxRecDepth 100000 in
set_option maxHeartbeats 8000000 in
theorem Zi4 (start base:Nat) (fs ns:List (List Nat)) (lf ln:Nat) (F N:Option Addr) (fc nc:Nat) (w:World) (hst:start≤4200) (hF:SlT sC 1 w F fs) (hN:SlT sC 1 w N ns) (hfs: ∀ s∈fs,TxOk s) (hns: ∀ s∈ns,TxOk s) (hb:base<4294967296) (hLf:min lf 12=min fs.length 12) (hLn:min ln 12=min ns.length 12) (hfl:lf≤9223372036854775807) (hnl:ln≤9223372036854775807)
 (B2 B3:List Nat) (hB2:atB start (fs.take 12) (min ln 12) base=B2) (hB3:atE start (fs.take 12) (ns.take 12) base=B3) :
 Calls Tryz.prog 27 #[.int .i64 start,.slice F lf fc,.slice N ln nc,.int .i64 base] w fun e w' =>
  ∃ g c,e= .returned (.tuple #[.slice (some ⟨g,0,none⟩) B3.length c,.agg #[.int .i64 start,.int .i64 ((B2.length:Int) - (start:Int))]])∧YI w' w.heap.size g c B3∧Below w.heap.size w w':=by
 obtain⟨n,hn⟩: ∃ n,min lf 12=n:=⟨_,rfl⟩
 obtain⟨m,hm⟩: ∃ m,min ln 12=m:=⟨_,rfl⟩
 have hmin1:min (lf:Int) 12=(n:Int):=by omega
 have hmin2:min (ln:Int) 12=(m:Int):=by omega
 have hn12:n≤12:=by omega
 have hm12:m≤12:=by omega
 have hlf:(fs.take 12).length=n:=by rw[List.length_take]; omega
 have hln:(ns.take 12).length=m:=by rw[List.length_take]; omega
 unfold atE at hB3
 rw[hln,hlf] at hB3
 rw[hm] at hB2
 rw[hB2] at hB3
 unfold atB at hB2
 rw[hlf] at hB2
 unfold atH at hB2
 have HFT:=Zg (fun W (hW:Below w.heap.size w W)=>hF.below hW)
 have HNT:=Zg (fun W (hW:Below w.heap.size w W)=>hN.below hW)
 have HFS:=Zg hfs
 have HNS:=Zg hns
 have HNF:=Zg (show n≤fs.length∧n≤lf by omega)
 have HMN:=Zg (show m≤ns.length∧m≤ln by omega)
 have HLF:=Zg hlf
 have HLN:=Zg hln
 obtain⟨rows,hrows⟩: ∃ q,start+40=q:=⟨_,rfl⟩
 obtain⟨n4,hn4⟩: ∃ q,4 * n=q:=⟨_,rfl⟩
 obtain⟨r1,hr1⟩: ∃ q,rows+n4=q:=⟨_,rfl⟩
 obtain⟨m6,hm6⟩: ∃ q,6 * m=q:=⟨_,rfl⟩
 obtain⟨m4,hm4⟩: ∃ q,4 * m=q:=⟨_,rfl⟩
 obtain⟨r2,hr2⟩: ∃ q,r1+m4=q:=⟨_,rfl⟩
 obtain⟨Z,hZ⟩: ∃ q,r1+m6=q:=⟨_,rfl⟩
 rw[hrows,hn4,hr1,hm6,hm4,hr2,hZ] at hB2
 rw[hrows,hn4,hr1,hm4,hr2] at hB3
 have er:(start:Int)+40=(rows:Int):=by omega
 have en4:(4:Int) * (n:Int)=(n4:Int):=by omega
 have er1:(rows:Int)+(n4:Int)=(r1:Int):=by omega
 have em6:(6:Int) * (m:Int)=(m6:Int):=by omega
 have em4:(4:Int) * (m:Int)=(m4:Int):=by omega
 have er2:(r1:Int)+(m4:Int)=(r2:Int):=by omega
 have eZ:(r1:Int)+(m6:Int)=(Z:Int):=by omega
 have hZb:Z≤4400:=by omega
 obtain⟨o16,ho16⟩: ∃ q,start+16=q:=⟨_,rfl⟩
 have eo16:(start:Int)+16=(o16:Int):=by omega
 obtain⟨o20,ho20⟩: ∃ q,start+20=q:=⟨_,rfl⟩
 have eo20:(start:Int)+20=(o20:Int):=by omega
 obtain⟨o24,ho24⟩: ∃ q,start+24=q:=⟨_,rfl⟩
 have eo24:(start:Int)+24=(o24:Int):=by omega
 obtain⟨o28,ho28⟩: ∃ q,start+28=q:=⟨_,rfl⟩
 have eo28:(start:Int)+28=(o28:Int):=by omega
 obtain⟨o32,ho32⟩: ∃ q,start+32=q:=⟨_,rfl⟩
 have eo32:(start:Int)+32=(o32:Int):=by omega
 obtain⟨o36,ho36⟩: ∃ q,start+36=q:=⟨_,rfl⟩
 have eo36:(start:Int)+36=(o36:Int):=by omega
 rw[ho16,ho20,ho24,ho28,ho32,ho36] at hB2
 have HQ:=Zg (And.intro hrows (And.intro hn4 (And.intro hr1 (And.intro hm6 (And.intro hm4 (And.intro hr2 hZ))))))
 have HO36:=Zg (show o36+4≤rows∧rows≤Z∧o16+4≤Z∧o20+4≤Z∧o24+4≤Z∧o28+4≤Z∧o32+4≤Z∧o36+4≤Z from by omega)
 have HB2:=Zg hB2
 have HB3:=Zg hB3
 clear hLf hLn hrows hn4 hr1 hm6 hm4 hr2 hZ ho16 ho20 ho24 ho28 ho32 ho36 hn hm hF hN hfs hns hlf hln hB2 hB3
 go_enter Tryz.func27,Tryz.ntmps27
 go_upto_region 5 with(first
  | (at_make; refine Yu _ rfl (.tmp 36) (.tmp 36) 25 rfl 5 (.int .u8 0) 1 (by kernel_rfl) (by kernel_rfl) rfl .i64 .i64 Z (by simp[Act.eval,Act.put]) (by simp[Act.eval,Act.put]) (by omega) (by omega) ?_; intro w1 hw1 ho1; have HW1:=Zg hw1; have HO1:=Zg ho1; clear hw1 ho1)
  | fail)
 have hsz0:((w.alloc (.cells #[.int .i64 0,.int .i64 0] 37)).alloc (.cells #[.int .i64 start,.int .i64 0] 37)).heap.size=w.heap.size+2:=by simp
 have hw1:=HW1.out
 have ho1:=HO1.out
 rw[hsz0] at hw1 ho1
 have HX:=Zg (show w1.heap[w.heap.size]? =some (.cells #[.int .i64 0,.int .i64 0] 37 (0,0)) from(hw1.block w.heap.size (by omega)).trans ((Below.heap_alloc _ _ w.heap.size (by simp)).trans (heap_alloc_new w _)))
 have HY:=Zg (show w1.heap[w.heap.size+1]? =some (.cells #[.int .i64 start,.int .i64 0] 37 (0,0)) from(hw1.block (w.heap.size+1) (by omega)).trans (by
  have h:=heap_alloc_new (w.alloc (.cells #[.int .i64 0,.int .i64 0] 37)) (.cells #[.int .i64 start,.int .i64 0] 37)
  rwa [show(w.alloc (.cells #[.int .i64 0,.int .i64 0] 37)).heap.size=w.heap.size+1 by simp] at h))
 have HB:=Zg (show Below w.heap.size w w1 from(((Below.refl w.heap.size w).alloc (Nat.le_refl _) _).alloc (by simp) _).trans (hw1.mono (by omega)))
 have HO:=Zg (YI.noughts (base:=w.heap.size+2) ho1 (Nat.le_refl _) (by omega))
 have hl0:(List.replicate Z 0).length=Z:=List.length_replicate
 clear hw1 ho1 HW1 HO1 hsz0
 generalize List.replicate Z 0=b0 at *
 have hp:=Xf (some ⟨(w.heap.size+2),0,none⟩) Z b0 o16 4 (base:Nat) base w1 HO.out.lb (by omega) HO.out.slB (by omega) (by omega) (by have:=HO36.out; omega) (ZU (by omega)) (by omega)
 have hl1:=Zo (b:=b0) (o:=o16) (n:=4) (by have:=HO36.out; omega) base
 obtain⟨b1,hb1⟩: ∃ q,ZQ b0 o16 4 base=q:=⟨_,rfl⟩
 rw[hb1] at hp hl1
 rw[hl0] at hp hl1
 have h:=HB2.out
 rw[hb1] at h
 replace HB2:=Zg h
 clear h hb1 hl0
 go_wp2_with fail
 refine hp.mono ?_
 rintro e w2 ⟨g1,c1,rfl,ho,hw⟩
 replace HO:=Zg (ho.weaken (base':=w.heap.size+2) (Zi HY.out))
 replace HX:=Zg ((hw.block w.heap.size (Zi HX.out)).trans HX.out)
 replace HY:=Zg ((hw.block (w.heap.size+1) (Zi HY.out)).trans HY.out)
 replace HB:=Zg (HB.out.trans (hw.mono HB.out.size))
 clear hp ho hw
 have hp:=Xf (some ⟨g1,0,none⟩) c1 b1 o20 4 (n:Nat) n w2 HO.out.lb (by omega) HO.out.slB (by omega) (by omega) (by have:=HO36.out; omega) (ZU (by omega)) (by omega)
 have hl2:=Zo (b:=b1) (o:=o20) (n:=4) (by have:=HO36.out; omega) n
 obtain⟨b2,hb2⟩: ∃ q,ZQ b1 o20 4 n=q:=⟨_,rfl⟩
 rw[hb2] at hp hl2
 rw[hl1] at hp hl2
 have h:=HB2.out
 rw[hb2] at h
 replace HB2:=Zg h
 clear h hb2 hl1
 go_wp2_with fail
 refine hp.mono ?_
 rintro e w3 ⟨g2,c2,rfl,ho,hw⟩
 replace HO:=Zg (ho.weaken (base':=w.heap.size+2) (Zi HY.out))
 replace HX:=Zg ((hw.block w.heap.size (Zi HX.out)).trans HX.out)
 replace HY:=Zg ((hw.block (w.heap.size+1) (Zi HY.out)).trans HY.out)
 replace HB:=Zg (HB.out.trans (hw.mono HB.out.size))
 clear hp ho hw
 have hp:=Xf (some ⟨g2,0,none⟩) c2 b2 o24 4 (m:Nat) m w3 HO.out.lb (by omega) HO.out.slB (by omega) (by omega) (by have:=HO36.out; omega) (ZU (by omega)) (by omega)
 have hl3:=Zo (b:=b2) (o:=o24) (n:=4) (by have:=HO36.out; omega) m
 obtain⟨b3,hb3⟩: ∃ q,ZQ b2 o24 4 m=q:=⟨_,rfl⟩
 rw[hb3] at hp hl3
 rw[hl2] at hp hl3
 have h:=HB2.out
 rw[hb3] at h
 replace HB2:=Zg h
 clear h hb3 hl2
 go_wp2_with fail
 refine hp.mono ?_
 rintro e w4 ⟨g3,c3,rfl,ho,hw⟩
 replace HO:=Zg (ho.weaken (base':=w.heap.size+2) (Zi HY.out))
 replace HX:=Zg ((hw.block w.heap.size (Zi HX.out)).trans HX.out)
 replace HY:=Zg ((hw.block (w.heap.size+1) (Zi HY.out)).trans HY.out)
 replace HB:=Zg (HB.out.trans (hw.mono HB.out.size))
 clear hp ho hw
 have hp:=Xf (some ⟨g3,0,none⟩) c3 b3 o28 4 (rows:Nat) rows w4 HO.out.lb (by omega) HO.out.slB (by omega) (by omega) (by have:=HO36.out; omega) (ZU (by omega)) (by omega)
 have hl4:=Zo (b:=b3) (o:=o28) (n:=4) (by have:=HO36.out; omega) rows
 obtain⟨b4,hb4⟩: ∃ q,ZQ b3 o28 4 rows=q:=⟨_,rfl⟩
 rw[hb4] at hp hl4
 rw[hl3] at hp hl4
 have h:=HB2.out
 rw[hb4] at h
 replace HB2:=Zg h
 clear h hb4 hl3
 go_wp2_with fail
 refine hp.mono ?_
 rintro e w5 ⟨g4,c4,rfl,ho,hw⟩
 replace HO:=Zg (ho.weaken (base':=w.heap.size+2) (Zi HY.out))
 replace HX:=Zg ((hw.block w.heap.size (Zi HX.out)).trans HX.out)
 replace HY:=Zg ((hw.block (w.heap.size+1) (Zi HY.out)).trans HY.out)
 replace HB:=Zg (HB.out.trans (hw.mono HB.out.size))
 clear hp ho hw
 have hp:=Xf (some ⟨g4,0,none⟩) c4 b4 o32 4 (r1:Nat) r1 w5 HO.out.lb (by omega) HO.out.slB (by omega) (by omega) (by have:=HO36.out; omega) (ZU (by omega)) (by omega)
 have hl5:=Zo (b:=b4) (o:=o32) (n:=4) (by have:=HO36.out; omega) r1
 obtain⟨b5,hb5⟩: ∃ q,ZQ b4 o32 4 r1=q:=⟨_,rfl⟩
 rw[hb5] at hp hl5
 rw[hl4] at hp hl5
 have h:=HB2.out
 rw[hb5] at h
 replace HB2:=Zg h
 clear h hb5 hl4
 go_wp2_with fail
 refine hp.mono ?_
 rintro e w6 ⟨g5,c5,rfl,ho,hw⟩
 replace HO:=Zg (ho.weaken (base':=w.heap.size+2) (Zi HY.out))
 replace HX:=Zg ((hw.block w.heap.size (Zi HX.out)).trans HX.out)
 replace HY:=Zg ((hw.block (w.heap.size+1) (Zi HY.out)).trans HY.out)
 replace HB:=Zg (HB.out.trans (hw.mono HB.out.size))
 clear hp ho hw
 have hp:=Xf (some ⟨g5,0,none⟩) c5 b5 o36 4 (r2:Nat) r2 w6 HO.out.lb (by omega) HO.out.slB (by omega) (by omega) (by have:=HO36.out; omega) (ZU (by omega)) (by omega)
 have hl6:=Zo (b:=b5) (o:=o36) (n:=4) (by have:=HO36.out; omega) r2
 obtain⟨b6,hb6⟩: ∃ q,ZQ b5 o36 4 r2=q:=⟨_,rfl⟩
 rw[hb6] at hp hl6
 rw[hl5] at hp hl6
 have h:=HB2.out
 rw[hb6] at h
 replace HB2:=Zg h
 clear h hb6 hl5
 go_wp2_with fail
 refine hp.mono ?_
 rintro e w7 ⟨g6,c6,rfl,ho,hw⟩
 replace HO:=Zg (ho.weaken (base':=w.heap.size+2) (Zi HY.out))
 replace HX:=Zg ((hw.block w.heap.size (Zi HX.out)).trans HX.out)
 replace HY:=Zg ((hw.block (w.heap.size+1) (Zi HY.out)).trans HY.out)
 replace HB:=Zg (HB.out.trans (hw.mono HB.out.size))
 clear hp ho hw
 go_upto_region 11 with(fail)
 rename_i K2 hK2 K1 hK1
 have HK2:=Zg hK2
 clear hK2
 go_wp2_with fail
 go_loopw [13,15] (fun v13 v15 wr=> ∃(i g c:Nat) (b:List Nat),i≤n∧v15= .int .i64 i∧v13= .slice (some ⟨g,0,none⟩) b.length c∧YI wr (w.heap.size+2) g c b∧Z≤b.length∧b.length≤4400+201 * i∧Below w.heap.size w wr∧wr.heap[w.heap.size]? =some (.cells #[.int .i64 0,.int .i64 0] 37 (0,0))∧wr.heap[w.heap.size+1]? =some (.cells #[.int .i64 start,.int .i64 0] 37 (0,0))∧atF rows ((fs.take 12).drop i) i b=B2) (fun _ v15 _=>n - (intOf v15).toNat)
 case atStart=>exact⟨0,g6,c6,b6,Nat.zero_le _,rfl,by rw[hl6],HO.out,by omega,by omega,HB.out,HX.out,HY.out,HB2.out⟩
 case round =>
  obtain⟨i,g,c,b,hi,rfl,rfl,ho,hbz,hbm,hbel,hx,hy,hat⟩:=hrel
  replace HO:=Zg ho
  replace HB:=Zg hbel
  replace HX:=Zg hx
  replace HY:=Zg hy
  replace HB2:=Zg hat
  have HBZ:=Zg hbz
  clear ho hbel hx hy hat
  by_cases hlt:i<n
  ·have hif:i<fs.length:=by have:=HNF.out; omega
   have hifl:i<lf:=by have:=HNF.out; omega
   obtain⟨bf,off,rfl,hbl,q0⟩:=(HFT.out wr HB.out).st hif
   have hok:=HFS.out fs[i] (List.getElem_mem hif)
   have hat:=HB2.out
   rw[List.drop_eq_getElem_cons (by have:=HLF.out; omega),List.getElem_take] at hat
   obtain⟨s,hse⟩: ∃ s,fs[i]=s:=⟨_,rfl⟩
   rw[hse] at hat hok q0
   simp only[atF] at hat
   replace HB2:=Zg hat
   have hpall:=Zdk hok.1
   have hnil:=Zhd hok.1
   have htz:=Zm s
   obtain⟨i4,hi4⟩: ∃ q,4 * i=q:=⟨_,rfl⟩
   obtain⟨o,ho⟩: ∃ q,rows+i4=q:=⟨_,rfl⟩
   have ei4:(4:Int) * (i:Int)=(i4:Int):=by omega
   have eo:(rows:Int)+(i4:Int)=(o:Int):=by omega
   have HOB:=Zg (show o+4≤Z from by have:=HQ.out; omega)
   have HSX:=Zg (fun W=>Wu (w:=W) s hok.1)
   obtain⟨T,hT⟩: ∃ T,txt s=T:=⟨_,rfl⟩
   rw[hT] at q0 hpall hnil htz HSX
   have HOK:=Zg hok
   have HPA:=Zg hpall
   have HNI:=Zg hnil
   have HTZ:=Zg htz
   have HIO:=Zg (And.intro hi4 ho)
   have hTs:T.size≤200:=by rw[htz]; exact hok.2
   clear hat hok hpall hnil htz hi4 ho hse hT
   have gb:=PlainAid.get_bt T
   go_wp2_with fail
   go_loop [17,18] (fun v17 v18=> ∃ k:Nat,k≤T.size∧v18= .int .i64 k∧v17= .bool (UO T k)) (fun _ v18=>T.size - (intOf v18).toNat)
   case atStart=>exact⟨0,Nat.zero_le _,rfl,rfl⟩
   case round =>
    obtain⟨k,hk,rfl,rfl⟩:=hrel
    by_cases hlk:k<T.size
    ·have HD:=Zg (Za8 T k)
     cases hp:UO T k
     all_goals
      rw[hp] at HD
      clear hp
      go_wp2_with fail
      go_round
      case rel=>exact⟨k+1,by omega,by go_num,by rw[HD.out]; simp⟩
      case measure=>simp[intOf]; omega
    ·obtain rfl:k=T.size:=by omega
     rw[HPA.out]
     clear gb
     have hat:=HB2.out
     unfold Zdl at hat
     obtain⟨hio1,hio2⟩:=HIO.out
     rw[hio1,hio2] at hat
     clear hio1 hio2
     cases hP:s.contains 46
     ·rw[hP] at hat
      simp only[Bool.false_eq_true,if_false] at hat
      by_cases hsn:s=[]
      ·rw[if_pos hsn] at hat
       have hnil:=HNI.out
       rw[decide_eq_true hsn] at hnil
       have hp:=Xf (some ⟨g,0,none⟩) c b o 4 (0:Nat) 0 wr HO.out.lb (by omega) HO.out.slB (by omega) (by omega) (by have:=HOB.out; omega) (ZU (by omega)) (by omega)
       have hl:=Zo (b:=b) (o:=o) (n:=4) (by have:=HOB.out; omega) 0
       obtain⟨b',hb'⟩: ∃ q,ZQ b o 4 0=q:=⟨_,rfl⟩
       rw[hb'] at hp hl hat
       replace HB2:=Zg hat
       clear hb' hat hP hsn
       go_wp2_with fail
       refine hp.mono ?_
       rintro e w8 ⟨g',c',rfl,ho,hw⟩
       replace HO:=Zg (ho.weaken (base':=w.heap.size+2) (Zi HY.out))
       replace HX:=Zg ((hw.block w.heap.size (Zi HX.out)).trans HX.out)
       replace HY:=Zg ((hw.block (w.heap.size+1) (Zi HY.out)).trans HY.out)
       replace HB:=Zg (HB.out.trans (hw.mono HB.out.size))
       clear hp ho hw
       go_wp2_with fail
       go_roundw
       case rel=>exact⟨i+1,g',c',b',by omega,by go_num,by rw[hl],HO.out,by omega,by omega,HB.out,HX.out,HY.out,HB2.out⟩
       case measure=>simp[intOf]; omega
      ·rw[if_neg hsn] at hat
       have hnil:=HNI.out
       rw[decide_eq_false hsn] at hnil
       obtain⟨v,hv⟩: ∃ v,64+i=v:=⟨_,rfl⟩
       rw[hv] at hat
       have ev:(64:Int)+(i:Int)=(v:Int):=by omega
       have hp:=Xf (some ⟨g,0,none⟩) c b o 4 (v:Nat) v wr HO.out.lb (by omega) HO.out.slB (by omega) (by omega) (by have:=HOB.out; omega) (ZU (by omega)) (by omega)
       have hl:=Zo (b:=b) (o:=o) (n:=4) (by have:=HOB.out; omega) v
       obtain⟨b',hb'⟩: ∃ q,ZQ b o 4 v=q:=⟨_,rfl⟩
       rw[hb'] at hp hl hat
       replace HB2:=Zg hat
       clear hb' hat hP hsn hv
       go_wp2_with fail
       refine hp.mono ?_
       rintro e w8 ⟨g',c',rfl,ho,hw⟩
       replace HO:=Zg (ho.weaken (base':=w.heap.size+2) (Zi HY.out))
       replace HX:=Zg ((hw.block w.heap.size (Zi HX.out)).trans HX.out)
       replace HY:=Zg ((hw.block (w.heap.size+1) (Zi HY.out)).trans HY.out)
       replace HB:=Zg (HB.out.trans (hw.mono HB.out.size))
       clear hp ho hw
       go_wp2_with fail
       go_roundw
       case rel=>exact⟨i+1,g',c',b',by omega,by go_num,by rw[hl],HO.out,by omega,by omega,HB.out,HX.out,HY.out,HB2.out⟩
       case measure=>simp[intOf]; omega
     ·rw[hP] at hat
      simp only[if_true] at hat
      have hsn:s≠[]:=by intro q; rw[q] at hP; simp at hP
      have hnil:=HNI.out
      rw[decide_eq_false hsn] at hnil
      have HSZ:=Zg HTZ.out
      have hbs:b.length≤6800:=by omega
      clear hP hsn
      go_wp2_with (first
       | (at_builtin; refine YP rfl (.tmp 108) (.tmp 109) 9 rfl (.string T) HO.out rfl rfl (HSX.out _) HOK.out.1 (by have:=HOK.out.2; omega) (Zi HY.out) rfl rfl ?_; intro g5 c5 w5 hown5 hbel5; have HO5:=Zg hown5; have HB5:=Zg hbel5; clear hown5 hbel5)
       | (at_builtin; refine YP rfl (.tmp 110) (.tmp 111) 25 rfl (.slice (some ⟨w5.heap.size,0,none⟩) 1 1) (HO5.out.alloc _) (by rw[List.length_append]) (show 1=[0].length from rfl) (QM w5) (fun v hv=>by simp at hv; omega) (by have:=HOK.out.2; omega) (Nat.le_trans (Nat.le_trans (Zi HY.out) HB5.out.size) (by simp)) rfl rfl ?_; intro g6 c6 w6 hown6 hbel6; have HO6:=Zg hown6; have HB6:=Zg hbel6; clear hown6 hbel6)
       | fail)
      have hlen:(b++s++[0]).length=b.length+s.length+1:=by simp only[List.length_append,List.length_singleton]
      have hsl:=HOK.out.2
      have hp:=Xf (some ⟨g6,0,none⟩) c6 (b++s++[0]) o 4 (b.length:Nat) b.length w6 HO6.out.lb (by omega) HO6.out.slB (by omega) (by omega) (by have:=HOB.out; omega) (ZU (by omega)) (by omega)
      have hl:=Zo (b:=b++s++[0]) (o:=o) (n:=4) (by have:=HOB.out; omega) b.length
      obtain⟨b',hb'⟩: ∃ q,ZQ (b++s++[0]) o 4 b.length=q:=⟨_,rfl⟩
      rw[hb'] at hp hl hat
      rw[hlen] at hp hl
      replace HB2:=Zg hat
      have hs5:w.heap.size+2≤w5.heap.size:=Nat.le_trans (Zi HY.out) HB5.out.size
      have hch:Below (w.heap.size+2) wr w6:=(HB5.out.alloc hs5 _).trans HB6.out
      replace HX:=Zg ((hch.block w.heap.size (by omega)).trans HX.out)
      replace HY:=Zg ((hch.block (w.heap.size+1) (by omega)).trans HY.out)
      replace HB:=Zg (HB.out.trans (hch.mono (by omega)))
      clear hb' hat hs5 hch hlen
      refine hp.mono ?_
      rintro e w8 ⟨g',c',rfl,ho,hw⟩
      replace HO:=Zg (ho.weaken (base':=w.heap.size+2) (Zi HY.out))
      replace HX:=Zg ((hw.block w.heap.size (Zi HX.out)).trans HX.out)
      replace HY:=Zg ((hw.block (w.heap.size+1) (Zi HY.out)).trans HY.out)
      replace HB:=Zg (HB.out.trans (hw.mono HB.out.size))
      clear hp ho hw
      go_wp2_with fail
      go_roundw
      case rel=>exact⟨i+1,g',c',b',by omega,by go_num,by rw[hl],HO.out,by omega,by omega,HB.out,HX.out,HY.out,HB2.out⟩
      case measure=>simp[intOf]; omega
  ·obtain rfl:i=n:=by omega
   have hat:=HB2.out
   rw[List.drop_eq_nil_of_le (by have:=HLF.out; omega)] at hat
   have hat':b=B2:=hat
   subst hat'
   clear hat
   go_wp2_with fail
   refine HK2.out _ _ ?_
   exact Zhf start i m rows n4 r1 m4 r2 Z ns ln N nc w wr hst hm12 hn12 B3 b g c HNT HNS HMN HLN er en4 er1 em4 er2 (Zg (by have:=HQ.out; omega)) hZb HO HBZ (by omega) HB HX HY HB3 _ ⟨rfl,rfl,rfl⟩
end Go.Proofs.YtplgdpjbkdagfaaGreat
