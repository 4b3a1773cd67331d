import Derived.Test.YtplgdpjbkdagfaaGreatZRelParse
import Derived.Test.YtplgdpjbkdagfaaGreatZHdrA
import Derived.Test.YtplgdpjbkdagfaaGreatRefPut
namespace Go.Proofs.YtplgdpjbkdagfaaGreat
open Lib renaming hid→Zg
set_option maxRecDepth 100000
open Go.ChangeShapes Go.WideShapes Go.ChangeAt Go.RowKit
set_option linter.unusedVariables false
set_option linter.unusedSimpArgs false
def ent (x:YX):List Int:=[(x.1 % 16 * 4096+x.2 % 4096) % 256,(x.1 % 16 * 4096+x.2 % 4096) / 256]
def le4 (v:Int):List Int:=listF (fun i=>Yf v (0+i)) 4
def Zc8 (p:Int):List YX→Nat
 | []=>0
 | x::l=>if x.2 / 4096=p then Zc8 p l+1 else 0
def pad (r:List Int):List Int:=if r.length % 4≠0 then r++[0,0] else r
def JI (p:Int) (r:List Int):List Int:=le4 (p * 4096)++le4 (8+(r.length:Int))++r
def VP (l:List YX):Nat→Nat→List Int
 | 0,_=>[]
 | F+1,i =>
   match l[i]? with
   | none=>[]
   | some x =>
     JI (x.2 / 4096) (pad (((l.drop i).take (Zc8 (x.2 / 4096) (l.drop i))).flatMap ent))++VP l F (i+Zc8 (x.2 / 4096) (l.drop i))
def Um (n:Nat):List Int:=listF (fun i=>((i:Int) * i+3) % 256) n
theorem JJ (n:Nat):(Um n).length=n:=VG _ _
theorem Zbo (p:Int): ∀(l:List YX) (n:Nat),n≤l.length→(∀ j (h:j<l.length),j<n→l[j].2 / 4096=p)→(∀ h:n<l.length,l[n].2 / 4096≠p)→Zc8 p l=n
 | [],n,h,_,_=>by simp at h; subst h; rfl
 | x::l,0,_,_,h=>by
   have:=h (by simp)
   unfold Zc8
   rw[if_neg (by simpa using this)]
 | x::l,n+1,h0,h1,h2=>by
   unfold Zc8
   rw[if_pos (by have:=h1 0 (by simp) (by omega); simpa using this),Zbo p l n (by simpa using h0) (fun j h hj=>by have:=h1 (j+1) (by simpa using h) (by omega); simpa using this) (fun h=>by have:=h2 (by simpa using h); simpa using this)]
theorem ZI (v:Int):(le4 v).length=4:=by simp[le4,VG]
theorem XB (v:Int):Zq (Yf v):=fun i=>UW v i
theorem Zit (v:Int):Bs (le4 v):=Bs.listF (fun i=>UW v (0+i)) 4
theorem ent_bs (x:YX):Bs (ent x):=fun b hb=>by
 simp[ent] at hb
 rcases hb with rfl|rfl <;> omega
theorem or_ent (x y:Int):bits .or .i64 (x % 16 * 4096) (y % 4096)=x % 16 * 4096+y % 4096:=by
 obtain⟨a,ha⟩: ∃ a:Nat,x % 16=a:=⟨(x % 16).toNat,by omega⟩
 obtain⟨b,hb⟩: ∃ b:Nat,y % 4096=b:=⟨(y % 4096).toNat,by omega⟩
 rw[ha,hb]
 have h:=i64_or (a * 4096) b (by omega) (by omega)
 have e:a * 4096 ||| b=a * 4096+b:=by
  have:=Nat.two_pow_add_eq_or_of_lt (show b<2 ^ 12 by omega) a
  rw[show a * 4096=2 ^ 12 * a by omega]
  omega
 rw[e] at h
 rw[show(a:Int) * 4096=((a * 4096:Nat):Int) by omega,h]
 omega
theorem and_15 (n:Int):bits .and .i64 n 15=n % 16:=Xw n 4 (by omega)
def MadeR (w w':World) (l:List YX) (n:Nat) (e:Ending):Prop :=
 ∃ A cap,e= .returned (.tuple #[.slice A (n+(VP l (l.length+1) 0).length) cap,.agg #[.int .i64 n,.int .i64 (VP l (l.length+1) 0).length]]) ∧
   YA w' w.heap.size (.slice A (n+(VP l (l.length+1) 0).length) cap) (Um n++VP l (l.length+1) 0)∧Below w.heap.size w w'
set_option maxRecDepth 100000 in
set_option maxHeartbeats 1000000 in
theorem Zbp (L:Option Addr) (l:List YX) (lc n:Nat) (w:World) (hL:SlT Wh 2 w L l) (hll:l.length≤60) (hn:n≤300000) (hr: ∀ x∈l,0≤x.2∧x.2<16777216) :
 Calls Tryz.prog 29 #[.slice L l.length lc,.int .i64 n] w fun e w'=>MadeR w w' l n e:=by
 have HLS:=Zg hL
 have HR:=Zg hr
 clear hL hr
 go_enter Tryz.func29,Tryz.ntmps29
 go_wp2_with (at_make; refine Jl rfl (.tmp 14) (.tmp 14) rfl w.heap.size .i64 .i64 n (by simp[Act.eval,Act.put]) (by simp[Act.eval,Act.put]) (by omega) (by simp) ?_; intro w1 hw1 hb1 hs1)
 have hsz:(w.alloc (.cells #[.int .i64 0,.int .i64 0] 37)).heap.size=w.heap.size+1:=by simp
 have hT:=(Wb w (.int .i64 0) (.int .i64 0) 37).below hb1 (by rw[hsz]; omega)
 have hbel:Below w.heap.size w w1:=((Below.refl w.heap.size w).alloc (Nat.le_refl _) (.cells #[.int .i64 0,.int .i64 0] 37)).trans (hb1.mono (by rw[hsz]; omega))
 rw[hsz] at hw1 hs1
 have HT:=Zg hT
 have HB:=Zg hbel
 have HW:=Zg hw1
 have HS:=Zg hs1
 clear hT hbel hw1 hs1 hb1 hsz
 go_loopw [18] (fun o wr=> ∃(i:Nat) (bs:List Int),i≤n∧o= .int .i64 i∧YA wr w.heap.size (.slice (some ⟨w.heap.size+1,0,none⟩) n n) bs∧(∀ j,j<n→bs[j]? =some (if j<i then((j:Int) * j+3) % 256 else 0))∧Own wr w.heap.size 2 (fun i=>if i=0 then .int .i64 0 else .int .i64 0)∧Below w.heap.size w wr∧wr.heap.size=w.heap.size+1+1) (fun o _=>n - (intOf o).toNat)
 case atStart=>exact⟨0,List.replicate n 0,by omega,rfl,HW.out,fun j hj=>by simp[List.getElem?_replicate,hj],HT.out,HB.out,HS.out⟩
 case round =>
  obtain⟨i,bs,hi,rfl,hw1,hbs,hT,hbel,hs1⟩:=hrel
  clear HT HB HW HS
  have HT:=Zg hT
  have HB:=Zg hbel
  have HW:=Zg hw1
  have HS:=Zg hs1
  have HBS:=Zg hbs
  clear hT hbel hw1 hs1 hbs
  by_cases hlt:i<n
  ·have hlen:=HW.out.slice.1
   have ho:Own wr (w.heap.size+1) n (fun i=> .int .u8 (VX bs i)):=by
    rcases HW.out.slice.2.2.2.2 with h|⟨g,hg,_,h⟩
    ·omega
    ·injection hg with hg
     injection hg with hg
     rw[hg]; exact h
   have c0:=ho.cell (i:=i) hlt
   have z0:=ho.frozen (i:=i) hlt
   have hii:(i:Int) * i≤90000000000:=by
    have:i * i≤300000 * 300000:=Nat.mul_le_mul (by omega) (by omega)
    have h2:((i * i:Nat):Int)≤90000000000:=by omega
    rwa [Int.natCast_mul] at h2
   have hi0:0≤(i:Int) * i:=Int.mul_nonneg (by omega) (by omega)
   have HST:=Zg (HW.out.stored i (((i:Int) * i+3) % 256))
   clear ho hlen
   go_wp2_with fail
   go_roundw
   case rel=>exact⟨i+1,bs.set i (((i:Int) * i+3) % 256),by omega,by go_num,HST.out.1,fun j hj=>by
    rw[List.getElem?_set]
    by_cases e:i=j
    ·subst e
     rw[if_pos rfl,if_pos (by have:=HW.out.slice.1; omega),if_pos (by omega)]
    ·rw[if_neg e,HBS.out j hj]
     by_cases e2:j<i
     ·rw[if_pos e2,if_pos (by omega)]
     ·rw[if_neg e2,if_neg (by omega)],HT.out.of_block (Below.heap_setCell _ _ _ _ (by simp)) (by simp[World.setCell]),HB.out.setCell (by simp) _,by simp[World.setCell]; exact HS.out⟩
   case measure=>simp[intOf]; omega
  ·obtain rfl:i=n:=by omega
   have hbs:bs=Um i:=by
    apply List.ext_getElem?
    intro j
    have hlen:=HW.out.slice.1
    by_cases hj:j<i
    ·rw[HBS.out j hj,if_pos hj]
     simp[Um,listF,hj]
    ·rw[List.getElem?_eq_none (by omega),List.getElem?_eq_none (by simp[Um,listF]; omega)]
   subst hbs
   obtain⟨W0,hW0⟩: ∃ W0:World,wr=W0:=⟨_,rfl⟩
   subst hW0
   clear HBS hlt hi
   go_wp2_with fail
   obtain⟨T,hT⟩: ∃ T,VP l (l.length+1) 0=T:=⟨_,rfl⟩
   have HTT:=Zg hT
   have hBs:wr.heap.size=w.heap.size+1+1:=HS.out
   have HBs:=Zg hBs
   clear hT hBs
   obtain⟨W0,hW0⟩: ∃ W0:World,W0=wr:=⟨_,rfl⟩
   have HW0:=Zg hW0
   go_loopw [8,9] (fun v8 v9 wr=> ∃(k F:Nat) (bs:List Int) (A:Option Addr) (cap:Nat),k≤l.length∧l.length<k+F∧bs.length≤12 * k∧v9= .int .i64 k∧v8= .slice A bs.length cap∧YA wr W0.heap.size (.slice A bs.length cap) bs∧Below W0.heap.size W0 wr∧bs++VP l F k=T) (fun _ v9 _=>l.length - (intOf v9).toNat)
   case atStart=>exact⟨0,l.length+1,[],none,0,by omega,by omega,by simp,rfl,rfl,YA.nil _ _,by rw[hW0]; exact Below.refl _ _,by simpa using HTT.out⟩
   case round =>
    obtain⟨k,F,bs,A,cap,hk,hF,hbl,rfl,rfl,how,hbe,hsp⟩:=hrel
    subst hW0
    obtain⟨wo,rfl⟩: ∃ wo:World,wo=wr:=⟨_,rfl⟩
    have HOW:=Zg how
    have HBE:=Zg hbe
    have HSP:=Zg hsp
    clear how hbe hsp
    obtain⟨F,rfl⟩: ∃ F',F=F'+1:=⟨F - 1,by omega⟩
    by_cases hlt:k<l.length
    ·have hk60:k<60:=by omega
     have HL2:=Zg (show SlT Wh 2 wo L l from HLS.out.below (HB.out.trans (HBE.out.mono HB.out.size)))
     obtain⟨b,off,rfl,hbl2,q0,q1⟩:=HL2.out.site hlt
     have hx:=HR.out l[k] (List.getElem_mem hlt)
     have hsp:=HSP.out
     unfold VP at hsp
     rw[List.getElem?_eq_getElem hlt] at hsp
     simp only at hsp
     obtain⟨p,hp⟩: ∃ p,l[k].2 / 4096=p:=⟨_,rfl⟩
     rw[hp] at hsp
     have HP:=Zg hp
     have HSQ:=Zg hsp
     clear hsp HSP
     generalize hxx:l[k]=x at *
     obtain⟨kd,rv⟩:=x
     simp only at q0 q1 hp hx
     obtain⟨x0,x1⟩:=hx
     have hp0:0≤p:=by omega
     have hp1:p<4096:=by omega
     have HXX:=Zg hxx
     clear hxx
     go_wp2_with fail
     go_loopw [11,12] (fun v11 v12 wr=> ∃(j:Nat) (row:List Int) (A:Option Addr) (cap:Nat),k≤j∧j≤l.length∧row.length=2 * (j - k)∧v12= .int .i64 j∧v11= .slice A row.length cap∧YA wr wo.heap.size (.slice A row.length cap) row∧Below wo.heap.size wo wr∧row=((l.drop k).take (j - k)).flatMap ent∧ ∀ q (h:q<l.length),k≤q→q<j→l[q].2 / 4096=p) (fun _ v12 _=>l.length - (intOf v12).toNat)
     case atStart=>exact⟨k,[],none,0,by omega,by omega,by simp,rfl,rfl,YA.nil _ _,Below.refl _ _,by simp,fun q h h1 h2=>by omega⟩
     case round =>
      obtain⟨j,row,A',cap',hkj,hj,hrl,rfl,rfl,how,hbe,hrow,hpg⟩:=hrel
      have HOWR:=Zg how
      have HBER:=Zg hbe
      have HROW:=Zg hrow
      have HPG:=Zg hpg
      have HRL:=Zg hrl
      have hrl2:row.length≤120:=by omega
      clear how hbe hrow hpg hrl
      by_cases hlt2:j<l.length
      ·have hj60:j<60:=by omega
       obtain⟨b',off',hbb,hbl3,s0,s1⟩:=(HL2.out.below HBER.out).site hlt2
       injection hbb with hbb
       injection hbb with hbb1 hbb2
       subst hbb1 hbb2
       have hy:=HR.out l[j] (List.getElem_mem hlt2)
       have HYE:=Zg (show(l.drop k).take (j+1 - k)=(l.drop k).take (j - k)++[l[j]] by
        rw[show j+1 - k=(j - k)+1 by omega,List.take_succ_eq_append_getElem (by simp; omega)]
        simp[show k+(j - k)=j by omega])
       have HYP:=Zg (show ∀ y,l[j]=y→ ∀ h:y.2 / 4096=p,∀ q (h:q<l.length),k≤q→q<j+1→l[q].2 / 4096=p from fun y hy h q hq h1 h2=>by
        by_cases e:q=j
        ·subst e; rw[hy]; exact h
        ·exact HPG.out q hq h1 (by omega))
       have HYN:=Zg (show ∀ y,l[j]=y→ ¬ y.2 / 4096=p→ ∀ h:j<l.length,l[j].2 / 4096≠p from fun y hy h _=>by rw[hy]; exact h)
       obtain⟨y,hyy⟩: ∃ y,l[j]=y:=⟨_,rfl⟩
       rw[hyy] at s0 s1 hy HYE
       have HYY:=Zg hyy
       clear hyy
       obtain⟨kd2,rv2⟩:=y
       simp only at s0 s1 hy
       obtain⟨y0,y1⟩:=hy
       by_cases d:rv2 / 4096=p
       ·have hY:=HYP.out _ HYY.out d
        have HY:=Zg hY
        clear hY
        have e1:(rv2 / 4096 == p)=true:=by simpa using d
        have ha:=and_15 kd2
        have hb:=Zcv rv2
        have ho:=or_ent kd2 rv2
        have hz:(0:Int)≤(j:Int):=by omega
        have hzl:(j:Int)<(l.length:Int):=by omega
        clear d
        go_wp2_with fail
        go_quiet (fail)
        have hbase:=Zg HBER.out.size
        have HOW2:=Zg ((HOWR.out.drewN nq).alloc (.cells ((ent (kd2,rv2)).map (Value.int .u8)).toArray 5))
        go_wp2_with (at_builtin; refine ZD rfl (.tmp 77) (.tmp 83) 25 rfl wo.heap.size _ row rfl HOW2.out _ rfl (ent (kd2,rv2)) (Zbf (wr.drewN nq) (ent (kd2,rv2)) 2) (by simp[ent]; omega) (by have:=hbase.out; simp; omega) ?_; intro A3 cap3 w3 hown3 hg3 hat3)
        have HO3:=Zg hown3
        have HB3:=Zg (HOW2.out.grew ((belD HBER.out nq).alloc (by have:=hbase.out; simpa using this) (.cells ((ent (kd2,rv2)).map (Value.int .u8)).toArray 5)) (Nat.le_refl _) (by have:=hbase.out; simp; omega) hg3)
        clear hown3 hg3 hat3
        go_roundw
        case rel=>exact⟨j+1,row++ent (kd2,rv2),A3,cap3,by omega,by omega,by rw[List.length_append,HRL.out]; simp[ent]; omega,by go_num,by rw[List.length_append],by rw[List.length_append]; exact HO3.out,HB3.out,by rw[HYE.out,List.flatMap_append,←HROW.out]; simp,HY.out⟩
        case measure=>simp[intOf]; omega
       ·have HN:=Zg (HYN.out _ HYY.out d)
        have e1:(rv2 / 4096 == p)=false:=by simpa using d
        have hz:(0:Int)≤(j:Int):=by omega
        have hzl:(j:Int)<(l.length:Int):=by omega
        have HRUN:=Zg (Zbo p (l.drop k) (j - k) (by simp; omega) (fun q h hq=>by have:=HPG.out (k+q) (by simp at h; omega) (by omega) (by omega); simpa using this) (fun h=>by have:=HN.out hlt2; simpa [show k+(j - k)=j by omega] using this))
        have HJK:=Zg (show k<j by
         rcases Nat.lt_or_ge k j with h|h
         ·exact h
         ·exfalso
          obtain rfl:j=k:=by omega
          exact HN.out hlt (by rw[HXX.out]; exact HP.out))
        clear d
        have hrun:=HRUN.out
        have hsq:=HSQ.out
        rw[hrun,show k+(j - k)=j by omega,←HROW.out] at hsq
        have HSR:=Zg hsq
        have hjk:k<j:=HJK.out
        clear hrun hsq HSQ HRUN
        have hBO:=Zg HBER.out.size
        have hB0:=Zg HBE.out.size
        have hrl:=HRL.out
        by_cases hp4:row.length % 4=0
        ·have hpad:pad row=row:=by unfold pad; rw[if_neg (by omega)]
         rw[hpad] at HSR
         have hm4:((row.length:Int) % 4 != 0)=false:=by simp; omega
         have HOWR2:=HOWR
         have HBER2:=HBER
         have hr2:row.length≤122:=by omega
         have hr12:8+row.length≤12 * (j - k):=by omega
         have HR12:=Zg hr12
         clear hpad HOWR HBER hp4 hrl hr12
         go_wp2_with fail
         generalize wr=ws at *
         go_wp2_with fail
         go_fit (Yn (p * 4096) 4 4 ws (by omega) (by omega) (by decide))
         rintro e w4 ⟨rfl,hb4⟩
         have HR4:=Zg (HOWR2.out.below hb4)
         have HBE4:=Zg (HBER2.out.trans (hb4.mono HBER2.out.size))
         have HO4:=Zg (HOW.out.below (HBER2.out.trans (hb4.mono HBER2.out.size)))
         have hs4:=Zg (show W0.heap.size≤w4.heap.size from Nat.le_trans HBE.out.size (HBER2.out.trans (hb4.mono HBER2.out.size)).size)
         have HW4:=Zg (HBE.out.trans ((HBER2.out.trans (hb4.mono HBER2.out.size)).mono HBE.out.size))
         clear hb4
         go_wp2_with (at_builtin; refine ZD rfl (.tmp 94) (.tmp 98) 9 rfl W0.heap.size _ bs rfl HO4.out _ rfl (le4 (p * 4096)) (XY (XB _) 0 4) (by rw[ZI]; omega) hs4.out ?_; intro A5 cap5 w5 hown5 hg5 hat5)
         have HN5:=Zg (show ∀ k,(Value.slice A5 (bs.length+(le4 (p * 4096)).length) cap5).ownBlock=some k→ ∀ k',(Value.slice A' row.length cap').ownBlock=some k'→k≠k' from fun k hk k' hk'=>by
          have h2:=HR4.out.lt k' hk'
          rcases hat5 with h|h
          ·have h3:=HOW.out.lt k (h ▸ hk)
           omega
          ·rw[h] at hk
           injection hk with hk
           omega)
         have HR5:=Zg (HR4.out.grown hg5 (fun k' hk' h=>by
          have h2:=HR4.out.lt k' hk'
          have h3:=HOW.out.lt k' h
          omega))
         have HO5:=Zg hown5
         have HW5:=Zg (HO4.out.grew HW4.out (Nat.le_refl _) hs4.out hg5)
         clear hown5 hg5 hat5 HR4 HO4 HW4
         go_wp2_with fail
         go_fit (Yn (8+(row.length:Int)) 4 4 w5 (by omega) (by omega) (by decide))
         rintro e w6 ⟨rfl,hb6⟩
         have HR6:=Zg (HR5.out.below hb6)
         have HO6:=Zg (HO5.out.below hb6)
         have HW6:=Zg (HW5.out.trans (hb6.mono HW5.out.size))
         have hs6:=Zg (HW6.out.size)
         clear hb6 HR5 HO5 HW5
         go_wp2_with (first|(at_builtin; refine ZD rfl (.tmp 99) (.tmp 104) 9 rfl W0.heap.size _ (bs++le4 (p * 4096)) (by simp[Act.eval,Act.put]) HO6.out _ rfl (le4 (8+(row.length:Int))) (XY (XB _) 0 4) (by rw[List.length_append,ZI,ZI]; omega) hs6.out ?_; intro A7 cap7 w7 hown7 hg7 hat7)|(at_builtin; refine ZD rfl (.tmp 105) (.tmp 106) 25 rfl W0.heap.size _ (bs++le4 (p * 4096)++le4 (8+(row.length:Int))) (by simp[Act.eval,Act.put]) hown7 _ rfl row (US (HR6.out.grown hg7 (fun k' hk' h=>HN5.out _ h k' hk' rfl))) (by rw[List.length_append,List.length_append,ZI,ZI]; omega) (Nat.le_trans hs6.out hg7.size) ?_; intro A9 cap9 w9 hown9 hg9 hat9))
         have HW9:=Zg (hown7.grew (HO6.out.grew HW6.out (Nat.le_refl _) hs6.out hg7) (Nat.le_refl _) (Nat.le_trans hs6.out hg7.size) hg9)
         have HO9:=Zg hown9
         have HJ:=Zg hj
         clear hown7 hg7 hat7 hown9 hg9 hat9
         try go_wp2_with fail
         go_roundw
         case rel=>exact⟨j,F,bs++le4 (p * 4096)++le4 (8+(row.length:Int))++row,A9,cap9,HJ.out,by omega,by have:=HR12.out; simp only[List.length_append,ZI] at this ⊢; omega,rfl,by simp only[List.length_append,ZI],by have:=HO9.out; simp only[List.length_append,ZI] at this ⊢; exact this,HW9.out,by rw[←HSR.out]; simp[JI,List.append_assoc]⟩
         case measure=>simp[intOf]; omega
        ·have hpad:pad row=row++[0,0]:=by unfold pad; rw[if_pos hp4]
         rw[hpad] at HSR
         have hm4:((row.length:Int) % 4 != 0)=true:=by simp; omega
         have hr12:8+(row++[0,0]).length≤12 * (j - k):=by rw[List.length_append]; simp; omega
         have HR12:=Zg hr12
         have HOW2:=Zg (HOWR.out.alloc (.cells (([0,0]:List Int).map (Value.int .u8)).toArray 5))
         have hr2:(row++[0,0]).length≤122:=by rw[List.length_append]; simp; omega
         have hlen2:row.length+([0,0]:List Int).length=(row++[0,0]).length:=by rw[List.length_append]
         clear hpad hp4 hrl hr12
         go_wp2_with (at_builtin; refine ZD rfl (.tmp 91) (.tmp 92) 25 rfl wo.heap.size _ row rfl HOW2.out _ rfl [0,0] (Zbf wr [0,0] 2) (by simp; omega) (by have:=hBO.out; simp; omega) ?_; intro A3 cap3 w3 hown3 hg3 hat3; simp only[hlen2] at hown3 ⊢; clear hlen2; generalize row++[0,0]=row2 at *)
         have HOWR2:=Zg hown3
         have HBER2:=Zg (HOW2.out.grew (HBER.out.alloc hBO.out (.cells (([0,0]:List Int).map (Value.int .u8)).toArray 5)) (Nat.le_refl _) (by have:=hBO.out; simp; omega) hg3)
         clear hown3 hg3 hat3 HOW2 HOWR HBER
         generalize w3=ws at *
         go_wp2_with fail
         go_fit (Yn (p * 4096) 4 4 ws (by omega) (by omega) (by decide))
         rintro e w4 ⟨rfl,hb4⟩
         have HR4:=Zg (HOWR2.out.below hb4)
         have HBE4:=Zg (HBER2.out.trans (hb4.mono HBER2.out.size))
         have HO4:=Zg (HOW.out.below (HBER2.out.trans (hb4.mono HBER2.out.size)))
         have hs4:=Zg (show W0.heap.size≤w4.heap.size from Nat.le_trans HBE.out.size (HBER2.out.trans (hb4.mono HBER2.out.size)).size)
         have HW4:=Zg (HBE.out.trans ((HBER2.out.trans (hb4.mono HBER2.out.size)).mono HBE.out.size))
         clear hb4
         go_wp2_with (at_builtin; refine ZD rfl (.tmp 94) (.tmp 98) 9 rfl W0.heap.size _ bs rfl HO4.out _ rfl (le4 (p * 4096)) (XY (XB _) 0 4) (by rw[ZI]; omega) hs4.out ?_; intro A5 cap5 w5 hown5 hg5 hat5)
         have HN5:=Zg (show ∀ k,(Value.slice A5 (bs.length+(le4 (p * 4096)).length) cap5).ownBlock=some k→ ∀ k',(Value.slice A3 row2.length cap3).ownBlock=some k'→k≠k' from fun k hk k' hk'=>by
          have h2:=HR4.out.lt k' hk'
          rcases hat5 with h|h
          ·have h3:=HOW.out.lt k (h ▸ hk)
           omega
          ·rw[h] at hk
           injection hk with hk
           omega)
         have HR5:=Zg (HR4.out.grown hg5 (fun k' hk' h=>by
          have h2:=HR4.out.lt k' hk'
          have h3:=HOW.out.lt k' h
          omega))
         have HO5:=Zg hown5
         have HW5:=Zg (HO4.out.grew HW4.out (Nat.le_refl _) hs4.out hg5)
         clear hown5 hg5 hat5 HR4 HO4 HW4
         go_wp2_with fail
         go_fit (Yn (8+(row2.length:Int)) 4 4 w5 (by omega) (by omega) (by decide))
         rintro e w6 ⟨rfl,hb6⟩
         have HR6:=Zg (HR5.out.below hb6)
         have HO6:=Zg (HO5.out.below hb6)
         have HW6:=Zg (HW5.out.trans (hb6.mono HW5.out.size))
         have hs6:=Zg (HW6.out.size)
         clear hb6 HR5 HO5 HW5
         go_wp2_with (first|(at_builtin; refine ZD rfl (.tmp 99) (.tmp 104) 9 rfl W0.heap.size _ (bs++le4 (p * 4096)) (by simp[Act.eval,Act.put]) HO6.out _ rfl (le4 (8+(row2.length:Int))) (XY (XB _) 0 4) (by rw[List.length_append,ZI,ZI]; omega) hs6.out ?_; intro A7 cap7 w7 hown7 hg7 hat7)|(at_builtin; refine ZD rfl (.tmp 105) (.tmp 106) 25 rfl W0.heap.size _ (bs++le4 (p * 4096)++le4 (8+(row2.length:Int))) (by simp[Act.eval,Act.put]) hown7 _ rfl row2 (US (HR6.out.grown hg7 (fun k' hk' h=>HN5.out _ h k' hk' rfl))) (by rw[List.length_append,List.length_append,ZI,ZI]; omega) (Nat.le_trans hs6.out hg7.size) ?_; intro A9 cap9 w9 hown9 hg9 hat9))
         have HW9:=Zg (hown7.grew (HO6.out.grew HW6.out (Nat.le_refl _) hs6.out hg7) (Nat.le_refl _) (Nat.le_trans hs6.out hg7.size) hg9)
         have HO9:=Zg hown9
         have HJ:=Zg hj
         clear hown7 hg7 hat7 hown9 hg9 hat9
         try go_wp2_with fail
         go_roundw
         case rel=>exact⟨j,F,bs++le4 (p * 4096)++le4 (8+(row2.length:Int))++row2,A9,cap9,HJ.out,by omega,by have:=HR12.out; simp only[List.length_append,ZI] at this ⊢; omega,rfl,by simp only[List.length_append,ZI],by have:=HO9.out; simp only[List.length_append,ZI] at this ⊢; exact this,HW9.out,by rw[←HSR.out]; simp[JI,List.append_assoc]⟩
         case measure=>simp[intOf]; omega
      ·have HRUN:=Zg (Zbo p (l.drop k) (j - k) (by simp; omega) (fun q h hq=>by have:=HPG.out (k+q) (by simp at h; omega) (by omega) (by omega); simpa using this) (fun h=>by simp at h; omega))
       have HJK:=Zg (show k<j by omega)
       have hrun:=HRUN.out
       have hsq:=HSQ.out
       rw[hrun,show k+(j - k)=j by omega,←HROW.out] at hsq
       have HSR:=Zg hsq
       have hjk:k<j:=HJK.out
       clear hrun hsq HSQ HRUN
       have hBO:=Zg HBER.out.size
       have hB0:=Zg HBE.out.size
       have hrl:=HRL.out
       by_cases hp4:row.length % 4=0
       ·have hpad:pad row=row:=by unfold pad; rw[if_neg (by omega)]
        rw[hpad] at HSR
        have hm4:((row.length:Int) % 4 != 0)=false:=by simp; omega
        have HOWR2:=HOWR
        have HBER2:=HBER
        have hr2:row.length≤122:=by omega
        have hr12:8+row.length≤12 * (j - k):=by omega
        have HR12:=Zg hr12
        clear hpad HOWR HBER hp4 hrl hr12
        go_wp2_with fail
        generalize wr=ws at *
        go_wp2_with fail
        go_fit (Yn (p * 4096) 4 4 ws (by omega) (by omega) (by decide))
        rintro e w4 ⟨rfl,hb4⟩
        have HR4:=Zg (HOWR2.out.below hb4)
        have HBE4:=Zg (HBER2.out.trans (hb4.mono HBER2.out.size))
        have HO4:=Zg (HOW.out.below (HBER2.out.trans (hb4.mono HBER2.out.size)))
        have hs4:=Zg (show W0.heap.size≤w4.heap.size from Nat.le_trans HBE.out.size (HBER2.out.trans (hb4.mono HBER2.out.size)).size)
        have HW4:=Zg (HBE.out.trans ((HBER2.out.trans (hb4.mono HBER2.out.size)).mono HBE.out.size))
        clear hb4
        go_wp2_with (at_builtin; refine ZD rfl (.tmp 94) (.tmp 98) 9 rfl W0.heap.size _ bs rfl HO4.out _ rfl (le4 (p * 4096)) (XY (XB _) 0 4) (by rw[ZI]; omega) hs4.out ?_; intro A5 cap5 w5 hown5 hg5 hat5)
        have HN5:=Zg (show ∀ k,(Value.slice A5 (bs.length+(le4 (p * 4096)).length) cap5).ownBlock=some k→ ∀ k',(Value.slice A' row.length cap').ownBlock=some k'→k≠k' from fun k hk k' hk'=>by
         have h2:=HR4.out.lt k' hk'
         rcases hat5 with h|h
         ·have h3:=HOW.out.lt k (h ▸ hk)
          omega
         ·rw[h] at hk
          injection hk with hk
          omega)
        have HR5:=Zg (HR4.out.grown hg5 (fun k' hk' h=>by
         have h2:=HR4.out.lt k' hk'
         have h3:=HOW.out.lt k' h
         omega))
        have HO5:=Zg hown5
        have HW5:=Zg (HO4.out.grew HW4.out (Nat.le_refl _) hs4.out hg5)
        clear hown5 hg5 hat5 HR4 HO4 HW4
        go_wp2_with fail
        go_fit (Yn (8+(row.length:Int)) 4 4 w5 (by omega) (by omega) (by decide))
        rintro e w6 ⟨rfl,hb6⟩
        have HR6:=Zg (HR5.out.below hb6)
        have HO6:=Zg (HO5.out.below hb6)
        have HW6:=Zg (HW5.out.trans (hb6.mono HW5.out.size))
        have hs6:=Zg (HW6.out.size)
        clear hb6 HR5 HO5 HW5
        go_wp2_with (first|(at_builtin; refine ZD rfl (.tmp 99) (.tmp 104) 9 rfl W0.heap.size _ (bs++le4 (p * 4096)) (by simp[Act.eval,Act.put]) HO6.out _ rfl (le4 (8+(row.length:Int))) (XY (XB _) 0 4) (by rw[List.length_append,ZI,ZI]; omega) hs6.out ?_; intro A7 cap7 w7 hown7 hg7 hat7)|(at_builtin; refine ZD rfl (.tmp 105) (.tmp 106) 25 rfl W0.heap.size _ (bs++le4 (p * 4096)++le4 (8+(row.length:Int))) (by simp[Act.eval,Act.put]) hown7 _ rfl row (US (HR6.out.grown hg7 (fun k' hk' h=>HN5.out _ h k' hk' rfl))) (by rw[List.length_append,List.length_append,ZI,ZI]; omega) (Nat.le_trans hs6.out hg7.size) ?_; intro A9 cap9 w9 hown9 hg9 hat9))
        have HW9:=Zg (hown7.grew (HO6.out.grew HW6.out (Nat.le_refl _) hs6.out hg7) (Nat.le_refl _) (Nat.le_trans hs6.out hg7.size) hg9)
        have HO9:=Zg hown9
        have HJ:=Zg hj
        clear hown7 hg7 hat7 hown9 hg9 hat9
        try go_wp2_with fail
        go_roundw
        case rel=>exact⟨j,F,bs++le4 (p * 4096)++le4 (8+(row.length:Int))++row,A9,cap9,HJ.out,by omega,by have:=HR12.out; simp only[List.length_append,ZI] at this ⊢; omega,rfl,by simp only[List.length_append,ZI],by have:=HO9.out; simp only[List.length_append,ZI] at this ⊢; exact this,HW9.out,by rw[←HSR.out]; simp[JI,List.append_assoc]⟩
        case measure=>simp[intOf]; omega
       ·have hpad:pad row=row++[0,0]:=by unfold pad; rw[if_pos hp4]
        rw[hpad] at HSR
        have hm4:((row.length:Int) % 4 != 0)=true:=by simp; omega
        have hr12:8+(row++[0,0]).length≤12 * (j - k):=by rw[List.length_append]; simp; omega
        have HR12:=Zg hr12
        have HOW2:=Zg (HOWR.out.alloc (.cells (([0,0]:List Int).map (Value.int .u8)).toArray 5))
        have hr2:(row++[0,0]).length≤122:=by rw[List.length_append]; simp; omega
        have hlen2:row.length+([0,0]:List Int).length=(row++[0,0]).length:=by rw[List.length_append]
        clear hpad hp4 hrl hr12
        go_wp2_with (at_builtin; refine ZD rfl (.tmp 91) (.tmp 92) 25 rfl wo.heap.size _ row rfl HOW2.out _ rfl [0,0] (Zbf wr [0,0] 2) (by simp; omega) (by have:=hBO.out; simp; omega) ?_; intro A3 cap3 w3 hown3 hg3 hat3; simp only[hlen2] at hown3 ⊢; clear hlen2; generalize row++[0,0]=row2 at *)
        have HOWR2:=Zg hown3
        have HBER2:=Zg (HOW2.out.grew (HBER.out.alloc hBO.out (.cells (([0,0]:List Int).map (Value.int .u8)).toArray 5)) (Nat.le_refl _) (by have:=hBO.out; simp; omega) hg3)
        clear hown3 hg3 hat3 HOW2 HOWR HBER
        generalize w3=ws at *
        go_wp2_with fail
        go_fit (Yn (p * 4096) 4 4 ws (by omega) (by omega) (by decide))
        rintro e w4 ⟨rfl,hb4⟩
        have HR4:=Zg (HOWR2.out.below hb4)
        have HBE4:=Zg (HBER2.out.trans (hb4.mono HBER2.out.size))
        have HO4:=Zg (HOW.out.below (HBER2.out.trans (hb4.mono HBER2.out.size)))
        have hs4:=Zg (show W0.heap.size≤w4.heap.size from Nat.le_trans HBE.out.size (HBER2.out.trans (hb4.mono HBER2.out.size)).size)
        have HW4:=Zg (HBE.out.trans ((HBER2.out.trans (hb4.mono HBER2.out.size)).mono HBE.out.size))
        clear hb4
        go_wp2_with (at_builtin; refine ZD rfl (.tmp 94) (.tmp 98) 9 rfl W0.heap.size _ bs rfl HO4.out _ rfl (le4 (p * 4096)) (XY (XB _) 0 4) (by rw[ZI]; omega) hs4.out ?_; intro A5 cap5 w5 hown5 hg5 hat5)
        have HN5:=Zg (show ∀ k,(Value.slice A5 (bs.length+(le4 (p * 4096)).length) cap5).ownBlock=some k→ ∀ k',(Value.slice A3 row2.length cap3).ownBlock=some k'→k≠k' from fun k hk k' hk'=>by
         have h2:=HR4.out.lt k' hk'
         rcases hat5 with h|h
         ·have h3:=HOW.out.lt k (h ▸ hk)
          omega
         ·rw[h] at hk
          injection hk with hk
          omega)
        have HR5:=Zg (HR4.out.grown hg5 (fun k' hk' h=>by
         have h2:=HR4.out.lt k' hk'
         have h3:=HOW.out.lt k' h
         omega))
        have HO5:=Zg hown5
        have HW5:=Zg (HO4.out.grew HW4.out (Nat.le_refl _) hs4.out hg5)
        clear hown5 hg5 hat5 HR4 HO4 HW4
        go_wp2_with fail
        go_fit (Yn (8+(row2.length:Int)) 4 4 w5 (by omega) (by omega) (by decide))
        rintro e w6 ⟨rfl,hb6⟩
        have HR6:=Zg (HR5.out.below hb6)
        have HO6:=Zg (HO5.out.below hb6)
        have HW6:=Zg (HW5.out.trans (hb6.mono HW5.out.size))
        have hs6:=Zg (HW6.out.size)
        clear hb6 HR5 HO5 HW5
        go_wp2_with (first|(at_builtin; refine ZD rfl (.tmp 99) (.tmp 104) 9 rfl W0.heap.size _ (bs++le4 (p * 4096)) (by simp[Act.eval,Act.put]) HO6.out _ rfl (le4 (8+(row2.length:Int))) (XY (XB _) 0 4) (by rw[List.length_append,ZI,ZI]; omega) hs6.out ?_; intro A7 cap7 w7 hown7 hg7 hat7)|(at_builtin; refine ZD rfl (.tmp 105) (.tmp 106) 25 rfl W0.heap.size _ (bs++le4 (p * 4096)++le4 (8+(row2.length:Int))) (by simp[Act.eval,Act.put]) hown7 _ rfl row2 (US (HR6.out.grown hg7 (fun k' hk' h=>HN5.out _ h k' hk' rfl))) (by rw[List.length_append,List.length_append,ZI,ZI]; omega) (Nat.le_trans hs6.out hg7.size) ?_; intro A9 cap9 w9 hown9 hg9 hat9))
        have HW9:=Zg (hown7.grew (HO6.out.grew HW6.out (Nat.le_refl _) hs6.out hg7) (Nat.le_refl _) (Nat.le_trans hs6.out hg7.size) hg9)
        have HO9:=Zg hown9
        have HJ:=Zg hj
        clear hown7 hg7 hat7 hown9 hg9 hat9
        try go_wp2_with fail
        go_roundw
        case rel=>exact⟨j,F,bs++le4 (p * 4096)++le4 (8+(row2.length:Int))++row2,A9,cap9,HJ.out,by omega,by have:=HR12.out; simp only[List.length_append,ZI] at this ⊢; omega,rfl,by simp only[List.length_append,ZI],by have:=HO9.out; simp only[List.length_append,ZI] at this ⊢; exact this,HW9.out,by rw[←HSR.out]; simp[JI,List.append_assoc]⟩
        case measure=>simp[intOf]; omega
    ·obtain rfl:k=l.length:=by omega
     have hsp:=HSP.out
     unfold VP at hsp
     rw[List.getElem?_eq_none (Nat.le_refl _)] at hsp
     simp only[List.append_nil] at hsp
     have HSR:=Zg hsp
     have HWB:=Zg (HW.out.below HBE.out)
     have hsz2:=Zg (show w.heap.size+1+1≤wo.heap.size by have:=HBE.out.size; have:=HBs.out; omega)
     have HT2:=Zg (HT.out.below HBE.out (by have:=HBs.out; omega))
     have HBO:=Zg (HB.out.trans (HBE.out.mono (by have:=HBs.out; omega)))
     have hal:(Um i).length+bs.length=i+bs.length:=by rw[JJ]
     clear hsp HSP hlt
     go_wp2_with (at_builtin; refine ZD rfl (.tmp 109) (.tmp 110) 25 rfl w.heap.size (.slice (some ⟨w.heap.size+1,0,none⟩) i i) (Um i) rfl HWB.out _ rfl bs (US HOW.out) (by rw[JJ]; omega) (by have:=hsz2.out; omega) ?_; intro A9 cap9 w9 hown9 hg9 hat9; simp only[hal] at hown9 hat9 ⊢; clear hal; have ht9:=HT2.out.grown hg9 (by simp[Value.ownBlock]); have o0:=ht9.cell (i:=0) (by omega); have o1:=ht9.cell (i:=1) (by omega); have z0:=ht9.frozen (i:=0) (by omega); have z1:=ht9.frozen (i:=1) (by omega); simp only[if_pos,if_neg,Nat.one_ne_zero] at o0 o1; have HT9:=Zg ht9; clear ht9)
     have hne: ∀ k,(Value.slice A9 (i+bs.length) cap9).ownBlock=some k→w.heap.size≠k:=fun k hk=>by
      rcases hat9 with h|h
      ·rw[h] at hk; injection hk with hk; rw[←hk]; simp
      ·rw[h] at hk; injection hk with hk; have:=hsz2.out; omega
     have hX:=((HT9.out.set (i:=0) (by omega) (.int .i64 i)).set (i:=1) (by omega) (.int .i64 bs.length))
     have c0:=hX.cell (i:=0) (by omega)
     have c1:=hX.cell (i:=1) (by omega)
     simp only[if_pos,if_neg,Nat.one_ne_zero,Nat.zero_ne_one,if_true,if_false] at c0 c1
     have HF1:=Zg (HBO.out.grown hg9 (by have:=hsz2.out; omega) (fun k hk=>by injection hk with hk; subst hk; simp))
     have hown10:=(hown9.of_block (w':=(w9.setCell ⟨w.heap.size,0,none⟩ (.int .i64 i)).setCell ⟨w.heap.size,1,none⟩ (.int .i64 bs.length)) (fun k hk=>by
      rw[Below.heap_setCell _ _ _ _ (Ne.symm (hne k hk)),Below.heap_setCell _ _ _ _ (Ne.symm (hne k hk))]))
     try go_wp2
     exact bodyPost_ret (v:= .tuple #[.slice A9 (i+bs.length) cap9,.agg #[.int .i64 i,.int .i64 bs.length]]) (by simp[results,Tryz.results29,go_sem,c0,c1]) rfl ⟨A9,cap9,by rw[HTT.out,←HSR.out],by rw[HTT.out,←HSR.out]; exact hown10,(HF1.out.setCell (by simp) _).setCell (by simp) _⟩
def Far (l:List YX):Prop:=l.Pairwise fun x y=>x.2+Yb x.1≤y.2∨y.2+Yb y.1≤x.2
def Kinds (n:Nat) (l:List YX):Prop:= ∀ x∈l,(x.1=3∨x.1=10)∧0≤x.2∧x.2+Yb x.1≤n
def numOf (x:YX):Int:=x.1 % 16 * 4096+x.2 % 4096
def enc (v:Int):List Int:=[v % 256,v / 256]
theorem Zbq: ∀(vs:List Int),(vs.flatMap enc).length=2 * vs.length
 | []=>rfl
 | v::vs=>by rw[List.flatMap_cons,List.length_append,Zbq vs,List.length_cons]; simp[enc]; omega
theorem Zgc (xs:List YX):xs.flatMap ent=(xs.map numOf).flatMap enc:=by
 rw[List.flatMap_map]
 rfl
def vsOf (xs:List YX):List Int:=xs.map numOf++(if xs.length % 2=1 then[0] else[])
theorem Zjy (xs:List YX):pad (xs.flatMap ent)=(vsOf xs).flatMap enc:=by
 have hl:(xs.flatMap ent).length=2 * xs.length:=by rw[Zgc,Zbq,List.length_map]
 unfold pad vsOf
 rw[List.flatMap_append,hl,Zgc]
 by_cases h:xs.length % 2=1
 ·rw[if_pos (by omega),if_pos h]; rfl
 ·rw[if_neg (by omega),if_neg h]; simp
theorem Zh2 (xs:List YX):2 * (vsOf xs).length % 4=0∧(vsOf xs).length≤xs.length+1:=by
 unfold vsOf
 rw[List.length_append,List.length_map]
 split <;> simp <;> omega
theorem Zam (p:Int): ∀(l:List YX),Zc8 p l≤l.length∧ ∀ x∈l.take (Zc8 p l),x.2 / 4096=p
 | []=>⟨Nat.le_refl _,fun x h=>by simp[Zc8] at h⟩
 | y::l=>by
   have ih:=Zam p l
   unfold Zc8
   by_cases h:y.2 / 4096=p
   ·rw[if_pos h]
    refine⟨by simp; omega,fun x hx=> ?_⟩
    rw[List.take_succ_cons,List.mem_cons] at hx
    rcases hx with rfl|hx
    ·exact h
    ·exact ih.2 x hx
   ·rw[if_neg h]
    exact⟨by omega,fun x hx=>by simp at hx⟩
theorem Zh3 {p:Int} {x:YX} {l:List YX} (h:x.2 / 4096=p):1≤Zc8 p (x::l):=by
 unfold Zc8
 rw[if_pos h]
 omega
end Go.Proofs.YtplgdpjbkdagfaaGreat
