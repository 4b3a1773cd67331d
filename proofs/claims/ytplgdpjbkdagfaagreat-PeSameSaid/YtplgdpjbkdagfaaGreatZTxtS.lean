import Derived.Test.YtplgdpjbkdagfaaGreatZExpD
import Derived.Test.YtplgdpjbkdagfaaGreatZExpI0
import Derived.Test.YtplgdpjbkdagfaaGreatPeW
namespace Go.Proofs.YtplgdpjbkdagfaaGreat
open List renaming getElem?_toArray→Za, getElem?_cons_succ→Zb, getElem?_cons_zero→Zc, setIfInBounds_toArray→Zd, set_cons_zero→Ze, set_cons_succ→Zf
open Lib renaming hid→Zg
set_option maxRecDepth 100000
open Go.ChangeShapes Go.WideShapes Go.ChangeAt Go.RowKit
set_option linter.unusedVariables false
set_option linter.unusedSimpArgs false
def byt (S:ByteArray):List Nat:=S.data.toList.map UInt8.toNat
theorem JD (S:ByteArray):Lb (byt S):=by
 intro v hv
 obtain⟨x,_,rfl⟩:=List.mem_map.mp hv
 have:=x.toNat_lt
 omega
theorem Wv (S:ByteArray):(byt S).length=S.size:=by
 unfold byt
 rw[List.length_map,Array.length_toList]; rfl
theorem Qk (S:ByteArray):txt (byt S)=S:=by
 have h:=Uw (JD S)
 have h2:(byt S).map UInt8.ofNat=S.data.toList:=by
  unfold byt
  rw[List.map_map]
  have:(UInt8.ofNat ∘ UInt8.toNat)=id:=by funext x; simp
  rw[this,List.map_id]
 rw[h2,ByteArray.toList_eq] at h
 exact ByteArray.ext (Array.toList_inj.mp h)
def Zfr (w:World) (F:Option Addr) (n:Nat) (Sx:Nat→ByteArray):Prop:=n=0∨ ∃ b off,F=some ⟨b,off,none⟩∧b<w.heap.size∧ ∀ i,i<n→w.cell? ⟨b,off+i,none⟩=some (.string (Sx i))
theorem Zfr.below {w w':World} {F:Option Addr} {n:Nat} {Sx:Nat→ByteArray} (h:Zfr w F n Sx) (hb:Below w.heap.size w w'):Zfr w' F n Sx:=by
 rcases h with h|⟨b,off,hF,hlt,hc⟩
 ·exact .inl h
 ·exact .inr ⟨b,off,hF,Nat.lt_of_lt_of_le hlt hb.size,fun i hi=>(hb.cell (p:=⟨b,off+i,none⟩) hlt).trans (hc i hi)⟩
def Uk (n:Nat) (Sx:Nat→ByteArray):List (List Nat):=(List.range (min n 12)).map fun i=>byt (Sx i)
theorem Ql (n:Nat) (Sx:Nat→ByteArray):min n 12=(Uk n Sx).length:=by simp[Uk]
theorem Zfr.fst {w:World} {F:Option Addr} {n:Nat} {Sx:Nat→ByteArray} (h:Zfr w F n Sx):SlT sC 1 w F (Uk n Sx):=by
 rcases h with h|⟨b,off,hF,hlt,hc⟩
 ·subst h; exact .inl (by simp[Uk])
 ·refine .inr ⟨b,off,hF,hlt,fun i hi j u hu=> ?_⟩
  have hi':i<min n 12:=by rw[Ql n Sx]; exact hi
  rcases j with _|j
  ·simp[sC,Uk,Qk] at hu
   subst hu
   have:=hc i (by omega)
   simpa using this
  ·simp[sC] at hu
theorem Zfs {n:Nat} {Sx:Nat→ByteArray} (h: ∀ j,j<12→j<n→(Sx j).size≤100): ∀ s∈Uk n Sx,TxOk s:=by
 intro s hs
 obtain⟨i,hi,rfl⟩:=List.mem_map.mp hs
 have hi':i<min n 12:=by simpa using hi
 exact⟨JD _,by rw[Wv]; have:=h i (by omega) (by omega); omega⟩
theorem Zft (w:World):Src Tryz.prog 1 25 (.slice (some ⟨w.heap.size,0,none⟩) 1 1) 1 (Zs 1 (lF [0])) (w.alloc (.cells #[.int .u8 0] 5)) :=
 Wn (.inr ⟨w.heap.size,0,rfl,by simp,fun i hi=>by
  obtain rfl:i=0:=by omega
  simp[go_sem,lF]⟩)
def bX (x:ByteArray × Int):List Value:=[.string x.1,.int .i64 x.2]
theorem Zfu {w:World} {L:Option Addr} {l:List (ByteArray × Int)} (h:SlT bX 2 w L l) {i:Nat} (hi:i<l.length): ∃ b off,L=some ⟨b,off,none⟩∧b<w.heap.size∧w.cell? ⟨b,off+i * 2,none⟩=some (.string l[i].1)∧w.cell? ⟨b,off+i * 2+1,none⟩=some (.int .i64 l[i].2):=by
 rcases h with h|⟨b,off,rfl,hlt,hc⟩
 ·rw[h] at hi; simp at hi
 ·exact⟨b,off,rfl,hlt,by have:=hc i hi 0 _ (by simp[bX]; rfl); simpa using this,by have:=hc i hi 1 _ (by simp[bX]; rfl); rwa [←Nat.add_assoc] at this⟩
set_option maxHeartbeats 4000000 in
theorem at9w (st:Nat) (hst:st≤400000) (A:Option Addr) (l:List (ByteArray × Int)) (cap:Nat) (w:World) (hl:SlT bX 2 w A l) (h34:l.length≤34) (hx: ∀ x∈l,x.1.size≤60) :
 Calls Tryz.prog 32 #[.int .i64 st,.slice A l.length cap,.slice none 0 0] w fun e u=> ∃ g c n f,e= .returned (.slice (some ⟨g,0,none⟩) n c)∧st≤n∧n≤st+4000∧YD u w.heap.size g n c f∧Below w.heap.size w u:=by
 have HLT:=Zg (fun W (hW:Below w.heap.size w W)=>hl.below hW)
 have HX:=Zg hx
 obtain⟨N,hN⟩: ∃ N,l.length=N:=⟨_,rfl⟩
 rw[hN] at h34 ⊢
 have hmin:min (N:Int) 34=(N:Int):=by omega
 obtain⟨q8,hq8⟩: ∃ q,8 * N=q:=⟨_,rfl⟩
 obtain⟨z1,hz1⟩: ∃ z,st+q8=z:=⟨_,rfl⟩
 obtain⟨Z,hZ⟩: ∃ z,z1+8=z:=⟨_,rfl⟩
 have e0:8 * (N:Int)=(q8:Int):=by omega
 have e1:(st:Int)+(q8:Int)=(z1:Int):=by omega
 have e2:(z1:Int)+8=(Z:Int):=by omega
 have wq:IntKind.i64.wrap (q8:Int)=(q8:Int):=by rw[IntKind.wrap_i64]; omega
 have wz1:IntKind.i64.wrap (z1:Int)=(z1:Int):=by rw[IntKind.wrap_i64]; omega
 have wz:IntKind.i64.wrap (Z:Int)=(Z:Int):=by rw[IntKind.wrap_i64]; omega
 have HQ:=Zg (show Z=st+8 * N+8 by omega)
 have HN:=Zg (And.intro hN (And.intro h34 hst))
 clear hl hx hq8 hz1 hZ hN h34 hst
 go_enter Tryz.func32,Tryz.ntmps32
 go_wp2_with (at_make; refine Yu _ rfl (.tmp 20) (.tmp 20) 25 rfl 5 (.int .u8 0) 1 (by kernel_rfl) (by kernel_rfl) rfl .i64 .i64 Z (by simp[Act.eval,Act.put]) (by simp[Act.eval,Act.put]) (by have:=HQ.out; have:=HN.out; omega) (by have:=HQ.out; have:=HN.out; omega) ?_; intro w1 hw1 ho1)
 have HO:=Zg (YI.noughts (base:=w.heap.size) ho1 (Nat.le_refl _) (by have:=HQ.out; have:=HN.out; omega))
 have HB:=Zg hw1
 clear hw1 ho1 e0 e1 e2 wq wz1 wz
 go_loopw [8,9] (fun v8 v9 wr=> ∃(i g c:Nat) (b:List Nat),i≤N∧v9= .int .i64 i∧v8= .slice (some ⟨g,0,none⟩) b.length c∧YI wr w.heap.size g c b∧Z≤b.length∧b.length≤Z+61 * i∧Below w.heap.size w wr) (fun _ v9 _=>N - (intOf v9).toNat)
 case atStart=>exact⟨0,w.heap.size,Z,_,Nat.zero_le _,rfl,by rw[List.length_replicate],HO.out,by rw[List.length_replicate]; exact Nat.le_refl _,by rw[List.length_replicate]; omega,HB.out⟩
 case round =>
  obtain⟨i,g,c,b,hi,rfl,rfl,hown,hzb,hbz,hbel⟩:=hrel
  replace HO:=Zg hown
  have HBW:=Zg hbel
  clear hown hbel HB
  have HNN:=HN.out
  have HQQ:=HQ.out
  by_cases hlt:i<N
  ·have hil:i<l.length:=by omega
   obtain⟨bl,off,rfl,hbl,q0,q1⟩:=Zfu (HLT.out wr HBW.out) hil
   have hxo:=HX.out _ (List.getElem_mem hil)
   generalize hxe:l[i]=x at *
   obtain⟨xs,xn⟩:=x
   simp only at q0 q1 hxo
   have HXE:=Zg hxe
   have HXO:=Zg hxo
   obtain⟨q,hq⟩: ∃ q,8 * i=q:=⟨_,rfl⟩
   obtain⟨o1,ho1⟩: ∃ o,st+q=o:=⟨_,rfl⟩
   obtain⟨s4,hs4⟩: ∃ o,st+4=o:=⟨_,rfl⟩
   obtain⟨s6,hs6⟩: ∃ o,st+6=o:=⟨_,rfl⟩
   obtain⟨o2,ho2⟩: ∃ o,s4+q=o:=⟨_,rfl⟩
   obtain⟨o3,ho3⟩: ∃ o,s6+q=o:=⟨_,rfl⟩
   have e8:8 * (i:Int)=(q:Int):=by omega
   have e1:(st:Int)+(q:Int)=(o1:Int):=by omega
   have e4:(st:Int)+4=(s4:Int):=by omega
   have e6:(st:Int)+6=(s6:Int):=by omega
   have e2:(s4:Int)+(q:Int)=(o2:Int):=by omega
   have e3:(s6:Int)+(q:Int)=(o3:Int):=by omega
   have w8:IntKind.i64.wrap (q:Int)=(q:Int):=by rw[IntKind.wrap_i64]; omega
   have w1:IntKind.i64.wrap (o1:Int)=(o1:Int):=by rw[IntKind.wrap_i64]; omega
   have w4:IntKind.i64.wrap (s4:Int)=(s4:Int):=by rw[IntKind.wrap_i64]; omega
   have w6:IntKind.i64.wrap (s6:Int)=(s6:Int):=by rw[IntKind.wrap_i64]; omega
   have w2:IntKind.i64.wrap (o2:Int)=(o2:Int):=by rw[IntKind.wrap_i64]; omega
   have w3:IntKind.i64.wrap (o3:Int)=(o3:Int):=by rw[IntKind.wrap_i64]; omega
   obtain⟨V,hV⟩: ∃ V:Nat,(xn % 18446744073709551616)=V:=⟨(xn % 18446744073709551616).toNat,by omega⟩
   have wx:IntKind.u64.wrap xn=(V:Int):=by rw[IntKind.wrap_u64]; exact hV
   have hVb:V≤18446744073709551615:=by omega
   obtain⟨ln,hln⟩: ∃ ln,b.length - st=ln:=⟨_,rfl⟩
   have hln1:(b.length:Int) - (st:Int)=(ln:Int):=by omega
   have wln:IntKind.u64.wrap (ln:Int)=(ln:Int):=by rw[IntKind.wrap_u64]; omega
   have wln2:IntKind.i64.wrap (ln:Int)=(ln:Int):=by rw[IntKind.wrap_i64]; omega
   have hL1:=Zo (b:=b) (o:=o1) (n:=4) (by omega) V
   have hLb1:=UQ HO.out.lb o1 4 V
   have HP1:=Zg (fun W=>VC b o1 4 V W HO.out.lb (by omega) (by omega) (by omega) (by omega) hVb)
   obtain⟨b1,hb1⟩: ∃ r,ZQ b o1 4 V=r:=⟨_,rfl⟩
   rw[hb1] at hL1 hLb1 HP1
   have hL2:=Zo (b:=b1) (o:=o2) (n:=2) (by omega) ln
   have hLb2:=UQ hLb1 o2 2 ln
   have HP2:=Zg (fun W=>VC b1 o2 2 ln W hLb1 (by omega) (by omega) (by omega) (by omega) (by omega))
   obtain⟨b2,hb2⟩: ∃ r,ZQ b1 o2 2 ln=r:=⟨_,rfl⟩
   rw[hb2] at hL2 hLb2 HP2
   have hL3:=Zo (b:=b2) (o:=o3) (n:=2) (by omega) 0
   have hLb3:=UQ hLb2 o3 2 0
   have HP3:=Zg (fun W=>VC b2 o3 2 0 W hLb2 (by omega) (by omega) (by omega) (by omega) (by omega))
   obtain⟨b3,hb3⟩: ∃ r,ZQ b2 o3 2 0=r:=⟨_,rfl⟩
   rw[hb3] at hL3 hLb3 HP3
   have HL3:=Zg (show b3.length=b.length by omega)
   have HLB3:=Zg hLb3
   have HCV:=Zg (fun W=>UR W b3 hLb3 (by omega))
   have HBZ:=Zg (show b.length≤500000∧Z≤b.length∧b.length≤Z+61 * i∧i<N from by omega)
   clear hq ho1 hs4 hs6 ho2 ho3 hV hVb hln hL1 hLb1 hb1 hL2 hLb2 hb2 hL3 hLb3 hb3 hzb hbz hxe hi hxo HNN HQQ
   go_upto_region 6 with(fail)
   have HSTR:=Zg (fun W (hW:Below wr.heap.size wr W)=>show(convert 25 9 (.slice (some ⟨g,0,none⟩) b.length c)).run Tryz.prog W= .ok (.string (txt b)) W from YB (cap:=c) (HO.out.below hW).row)
   have HQ1:=Zg (fun W (hW:Below wr.heap.size wr W)=>(hW.cell (p:=⟨bl,off+i * 2+1,none⟩) hbl).trans q1)
   have HS:=Zg (show Below wr.heap.size wr wr.drew from(Below.refl _ _).drew)
   refine wp_region_noPanic ?_
   refine Zw (fun W=>Below wr.heap.size wr W) (fun _=>True) 99 (by kernel_rfl) ?_
   refine wT (i:=0) (oi:= ?_) (v:= ?_) ?_ ?_ HS.out ?_
   rotate_left 2
   ·(simp only[Za,Zb,Zc]; rfl)
   ·(first|exact Or.inr ⟨by rfl,rfl⟩|(refine Or.inl ⟨by rfl,?_⟩; intro W hSw; clear hSw; go_simp; try with_reducible rfl))
   try simp only[Act.put,Zd,Ze,Zf]
   refine wT (i:=1) (oi:= ?_) (v:= ?_) ?_ ?_ HS.out ?_
   rotate_left 2
   ·(simp only[Za,Zb,Zc]; rfl)
   ·(first|exact Or.inr ⟨by rfl,rfl⟩|(refine Or.inl ⟨by rfl,?_⟩; intro W hSw; have hq:=HSTR.out W hSw; clear hSw; go_simp; try with_reducible rfl))
   try simp only[Act.put,Zd,Ze,Zf]
   refine wT (i:=2) (oi:= ?_) (v:= ?_) ?_ ?_ HS.out ?_
   rotate_left 2
   ·(simp only[Za,Zb,Zc]; rfl)
   ·(first|exact Or.inr ⟨by rfl,rfl⟩|(refine Or.inl ⟨by rfl,?_⟩; intro W hSw; clear hSw; go_simp; try with_reducible rfl))
   try simp only[Act.put,Zd,Ze,Zf]
   refine wT (i:=3) (oi:= ?_) (v:= ?_) ?_ ?_ HS.out ?_
   rotate_left 2
   ·(simp only[Za,Zb,Zc]; rfl)
   ·(first|exact Or.inr ⟨by rfl,rfl⟩|(refine Or.inl ⟨by rfl,?_⟩; intro W hSw; clear hSw; go_simp; try with_reducible rfl))
   try simp only[Act.put,Zd,Ze,Zf]
   refine wT (i:=4) (oi:= ?_) (v:= ?_) ?_ ?_ HS.out ?_
   rotate_left 2
   ·(simp only[Za,Zb,Zc]; rfl)
   ·(first|exact Or.inr ⟨by rfl,rfl⟩|(refine Or.inl ⟨by rfl,?_⟩; intro W hSw; clear hSw; go_simp; try with_reducible rfl))
   try simp only[Act.put,Zd,Ze,Zf]
   refine wT (i:=5) (oi:= ?_) (v:= ?_) ?_ ?_ HS.out ?_
   rotate_left 2
   ·(simp only[Za,Zb,Zc]; rfl)
   ·(first|exact Or.inr ⟨by rfl,rfl⟩|(refine Or.inl ⟨by rfl,?_⟩; intro W hSw; clear hSw; go_simp; try with_reducible rfl))
   try simp only[Act.put,Zd,Ze,Zf]
   refine wT (i:=6) (oi:= ?_) (v:= ?_) ?_ ?_ HS.out ?_
   rotate_left 2
   ·(simp only[Za,Zb,Zc]; rfl)
   ·(first|exact Or.inr ⟨by rfl,rfl⟩|(refine Or.inl ⟨by rfl,?_⟩; intro W hSw; clear hSw; go_simp; try with_reducible rfl))
   try simp only[Act.put,Zd,Ze,Zf]
   refine wT (i:=7) (oi:= ?_) (v:= ?_) ?_ ?_ HS.out ?_
   rotate_left 2
   ·(simp only[Za,Zb,Zc]; rfl)
   ·(first|exact Or.inr ⟨by rfl,rfl⟩|(refine Or.inl ⟨by rfl,?_⟩; intro W hSw; clear hSw; go_simp; try with_reducible rfl))
   try simp only[Act.put,Zd,Ze,Zf]
   refine wT (i:=8) (oi:= ?_) (v:= ?_) ?_ ?_ HS.out ?_
   rotate_left 2
   ·(simp only[Za,Zb,Zc]; rfl)
   ·(first|exact Or.inr ⟨by rfl,rfl⟩|(refine Or.inl ⟨by rfl,?_⟩; intro W hSw; clear hSw; go_simp; try with_reducible rfl))
   try simp only[Act.put,Zd,Ze,Zf]
   refine wT (i:=9) (oi:= ?_) (v:= ?_) ?_ ?_ HS.out ?_
   rotate_left 2
   ·(simp only[Za,Zb,Zc]; rfl)
   ·(first|exact Or.inr ⟨by rfl,rfl⟩|(refine Or.inl ⟨by rfl,?_⟩; intro W hSw; clear hSw; go_simp; try with_reducible rfl))
   try simp only[Act.put,Zd,Ze,Zf]
   refine wT (i:=10) (oi:= ?_) (v:= ?_) ?_ ?_ HS.out ?_
   rotate_left 2
   ·(simp only[Za,Zb,Zc]; rfl)
   ·(first|exact Or.inr ⟨by rfl,rfl⟩|(refine Or.inl ⟨by rfl,?_⟩; intro W hSw; have hq:=HQ1.out W hSw; clear hSw; go_simp; try with_reducible rfl))
   try simp only[Act.put,Zd,Ze,Zf]
   refine wT (i:=11) (oi:= ?_) (v:= ?_) ?_ ?_ HS.out ?_
   rotate_left 2
   ·(simp only[Za,Zb,Zc]; rfl)
   ·(first|exact Or.inr ⟨by rfl,rfl⟩|(refine Or.inl ⟨by rfl,?_⟩; intro W hSw; clear hSw; go_simp; try with_reducible rfl))
   try simp only[Act.put,Zd,Ze,Zf]
   refine Zk (i:=12) (o:= ?_) (by kernel_rfl) ?_ (fun K hK=> ?_)
   rotate_left 1
   ·(simp only[Za,Zb,Zc]; rfl)
   go_simp
   go_at_call 78
   refine(HP1.out _).mono ?_
   rintro e w2 ⟨rfl,hw2⟩
   have HS2:=Zg (HS.out.trans (hw2.mono HS.out.size))
   clear hw2
   refine hK.out _ _ HS2.out (fun _=>trivial) ?_
   clear hK K
   try simp only[Act.put,Zd,Ze,Zf]
   refine wT (i:=13) (oi:= ?_) (v:= ?_) ?_ ?_ HS2.out ?_
   rotate_left 2
   ·(simp only[Za,Zb,Zc]; rfl)
   ·(first|exact Or.inr ⟨by rfl,rfl⟩|(refine Or.inl ⟨by rfl,?_⟩; intro W hSw; clear hSw; go_simp; try with_reducible rfl))
   try simp only[Act.put,Zd,Ze,Zf]
   refine wT (i:=14) (oi:= ?_) (v:= ?_) ?_ ?_ HS2.out ?_
   rotate_left 2
   ·(simp only[Za,Zb,Zc]; rfl)
   ·(first|exact Or.inr ⟨by rfl,rfl⟩|(refine Or.inl ⟨by rfl,?_⟩; intro W hSw; clear hSw; go_simp; try with_reducible rfl))
   try simp only[Act.put,Zd,Ze,Zf]
   refine wT (i:=15) (oi:= ?_) (v:= ?_) ?_ ?_ HS2.out ?_
   rotate_left 2
   ·(simp only[Za,Zb,Zc]; rfl)
   ·(first|exact Or.inr ⟨by rfl,rfl⟩|(refine Or.inl ⟨by rfl,?_⟩; intro W hSw; clear hSw; go_simp; try with_reducible rfl))
   try simp only[Act.put,Zd,Ze,Zf]
   refine wT (i:=16) (oi:= ?_) (v:= ?_) ?_ ?_ HS2.out ?_
   rotate_left 2
   ·(simp only[Za,Zb,Zc]; rfl)
   ·(first|exact Or.inr ⟨by rfl,rfl⟩|(refine Or.inl ⟨by rfl,?_⟩; intro W hSw; clear hSw; go_simp; try with_reducible rfl))
   try simp only[Act.put,Zd,Ze,Zf]
   refine wT (i:=17) (oi:= ?_) (v:= ?_) ?_ ?_ HS2.out ?_
   rotate_left 2
   ·(simp only[Za,Zb,Zc]; rfl)
   ·(first|exact Or.inr ⟨by rfl,rfl⟩|(refine Or.inl ⟨by rfl,?_⟩; intro W hSw; clear hSw; go_simp; try with_reducible rfl))
   try simp only[Act.put,Zd,Ze,Zf]
   refine Zp (by kernel_rfl) ?_ _
   refine NoPanic.normal ?_
   replace HBW:=Zg (HBW.out.trans (HS2.out.mono HBW.out.size))
   clear HSTR HQ1 HS HS2 HP1 q1 q0 hbl
   go_wp2_with fail
   refine(HP2.out _).mono ?_
   rintro e w3' ⟨rfl,hw3⟩
   replace HBW:=Zg (HBW.out.trans (hw3.mono HBW.out.size))
   clear hw3 HP2
   have g0:decide ((i:Int)<0)=false:=decide_eq_false (by omega)
   go_wp2_with fail
   refine(HP3.out _).mono ?_
   rintro e w4' ⟨rfl,hw4⟩
   replace HBW:=Zg (HBW.out.trans (hw4.mono HBW.out.size))
   clear hw4 HP3
   obtain⟨C,w5,hcv,hoc,hw5⟩:=HCV.out w4'
   have HOC:=Zg (hoc.weaken (base':=w.heap.size) HBW.out.size)
   have HBC:=Zg (HBW.out.trans (hw5.mono HBW.out.size))
   obtain⟨bl',off',hAe,hbl',q0',q1'⟩:=Zfu (HLT.out w5 HBC.out) (show i<l.length by have:=HBZ.out; have:=HN.out.1; omega)
   injection hAe with hAe
   injection hAe with hAe1 hAe2
   subst hAe1 hAe2
   rw[HXE.out] at q0'
   simp only at q0'
   have HSX:=Zg (fun W=>by have h:=Wu (w:=W) (byt xs) (JD xs); rw[Qk,Wv] at h; exact h)
   have hxl:=HXO.out
   clear hoc hw5 q1' HCV
   go_wp2_with (first
    | (at_builtin; refine YP rfl (.tmp 80) (.tmp 85) 9 rfl (.string xs) HOC.out rfl (Wv xs).symm (HSX.out _) (JD xs) (by have:=HL3.out; have:=HBZ.out; omega) HBC.out.size rfl rfl ?_; intro g5 cap5 w6 hown5 hbel5; have HO5:=Zg hown5; have HB5:=Zg hbel5; clear hown5 hbel5)
    | (at_builtin; refine YP rfl (.tmp 86) (.tmp 87) 25 rfl (.slice (some ⟨w6.heap.size,0,none⟩) 1 1) (HO5.out.alloc _) (by rw[List.length_append,Wv]) (show 1=[0].length from rfl) (Zft w6) (fun v hv=>by simp at hv; omega) (by have:=HL3.out; have:=HBZ.out; omega) (Nat.le_trans (Nat.le_trans HBC.out.size HB5.out.size) (by simp)) rfl rfl ?_; intro g6 cap6 w7 hown6 hbel6; have HO6:=Zg hown6; have HB6:=Zg hbel6; clear hown6 hbel6)
    | fail)
   go_roundw
   case rel =>
    have hs5:=HBC.out.trans HB5.out
    have hlen:(b3++byt xs++[0]).length=b3.length+xs.size+1:=by simp only[List.length_append,List.length_singleton,Wv]
    have h1:=HL3.out
    have h2:=HBZ.out
    exact⟨i+1,g6,cap6,b3++byt xs++[0],by omega,by go_num,by rw[hlen],HO6.out,by rw[hlen]; omega,by rw[hlen]; omega,(hs5.alloc hs5.size _).trans HB6.out⟩
   case measure=>have:=HBZ.out; simp[intOf]; omega
  ·obtain rfl:i=N:=by omega
   have HFB:=Zg (show st≤b.length∧b.length≤st+4000 from by omega)
   clear hzb hbz HNN HQQ
   go_wp2_with fail
   go_ret
   exact⟨g,c,b.length,lF b,rfl,HFB.out.1,HFB.out.2,⟨HO.out.le,HO.out.lt,HO.out.row,HO.out.lb.b255,HO.out.len,HO.out.most,HO.out.wr⟩,HBW.out⟩
end Go.Proofs.YtplgdpjbkdagfaaGreat
