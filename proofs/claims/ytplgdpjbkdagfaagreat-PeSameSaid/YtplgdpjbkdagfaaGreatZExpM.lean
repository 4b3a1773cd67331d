import Derived.Test.YtplgdpjbkdagfaaGreatZMd
import Derived.Test.YtplgdpjbkdagfaaGreatZDec
import Derived.BigRegion
import Derived.ChangeAlike
import Derived.Test.YtplgdpjbkdagfaaGreatZOwnT
import Derived.Laws.MakeOwn
import Derived.Deep.Cut
import Derived.Test.YtplgdpjbkdagfaaGreatZMem
import Derived.Deep.AppendSrc
import Derived.Test.YtplgdpjbkdagfaaGreatZStoreRow
import Derived.Laws.CopyOwn
namespace Go.Proofs.YtplgdpjbkdagfaaGreat
set_option maxRecDepth 100000
open Go.ChangeShapes Go.WideShapes Go.ChangeAt Go.RowKit
set_option linter.unusedVariables false
set_option linter.unusedSimpArgs false
theorem Yr {t:List Nat} (h:Lb t) {i:Nat} (hi:i<t.length):PlainAid.bt (txt t) i=lF t i:=JF h hi
theorem Vy {t:List Nat} {i:Nat} (hi:i<t.length):lF t i=(t[i]:Int):=by simp[lF,List.getD,hi]
theorem JZ {t:List Nat} (h:0<t.length):lF t 0=(t.headD 0:Nat):=by
 cases t with
 | nil=>simp at h
 | cons a r=>rfl
def Xx (t:List Nat):Bool:=decide (1≤t.length)&&decide (t.length≤60)&&(t.headD 0 != 35)&&t.all fun c=>decide (33≤c)&&decide (c≤126)
theorem QN {t:List Nat} (h:Lb t):Zhy (txt t)↔Xx t=true:=by
 unfold Zhy Xx
 rw[Zm]
 simp only[Bool.and_eq_true,decide_eq_true_eq,List.all_eq_true,and_assoc,bne_iff_ne,ne_eq]
 refine and_congr_right fun h1=>and_congr_right fun _=>and_congr ?_ ⟨fun k v hv=> ?_,fun k i hi=> ?_⟩
 ·rw[Yr h (by omega),JZ (by omega)]; omega
 ·obtain⟨i,hi,rfl⟩:=List.mem_iff_getElem.mp hv
  have:=k i hi
  rw[Yr h hi,Vy hi] at this
  omega
 ·rw[Yr h hi,Vy hi]
  have:=k t[i] (List.getElem_mem hi)
  omega
def XN (t:List Nat):Bool:=decide (1≤t.length)&&decide (t.length≤5)&&(t.headD 0 != 48||decide (t.length=1))&&(t.all fun c=>decide (48≤c)&&decide (c≤57))&&decide (XW (lF t) t.length≤65535)
theorem Vz {t:List Nat} (h:Lb t):OrdOk (txt t)↔XN t=true:=by
 have hn:XW (PlainAid.bt (txt t)) (txt t).size=XW (lF t) t.length:=by
  rw[Zm]; exact WP _ fun i hi=>Yr h hi
 unfold XN
 simp only[Bool.and_eq_true,decide_eq_true_eq,List.all_eq_true,Bool.or_eq_true,bne_iff_ne,ne_eq]
 constructor
 ·rintro⟨h1,h2,h3,h4,h5⟩
  rw[hn] at h5
  rw[Zm] at h1 h2 h3 h4
  refine⟨⟨⟨⟨h1,h2⟩,?_⟩,fun v hv=> ?_⟩,h5⟩
  ·rw[Yr h (by omega),JZ (by omega)] at h3
   by_cases c:t.headD 0=48
   ·right; exact h3 (by omega)
   ·left; exact c
  ·obtain⟨i,hi,rfl⟩:=List.mem_iff_getElem.mp hv
   have:=h4 i hi
   rw[Yr h hi,Vy hi] at this
   omega
 ·rintro⟨⟨⟨⟨h1,h2⟩,h3⟩,h4⟩,h5⟩
  refine⟨by rw[Zm]; exact h1,by rw[Zm]; exact h2,fun q=> ?_,fun i hi=> ?_,by rw[hn]; exact h5⟩
  ·rw[Yr h (by omega),JZ (by omega)] at q
   rw[Zm]
   exact h3.resolve_left (fun c=>c (by omega))
  ·rw[Zm] at hi
   rw[Yr h hi,Vy hi]
   have:=h4 t[i] (List.getElem_mem hi)
   omega
def WE (t:List Nat):Option Nat:=(t.reverse.findIdx? (· == 46)).map fun k=>t.length - 1 - k
theorem QO {t:List Nat} (h:WE t=none): ∀ i,i<t.length→lF t i≠46:=by
 intro i hi
 unfold WE at h
 rw[Option.map_eq_none_iff,List.findIdx?_eq_none_iff] at h
 have:=h t[i] (by simp)
 rw[Vy hi]
 simp at this
 omega
theorem QP {t:List Nat} {p:Nat} (h:WE t=some p):p<t.length∧lF t p=46∧ ∀ j,p<j→j<t.length→lF t j≠46:=by
 unfold WE at h
 rw[Option.map_eq_some_iff] at h
 obtain⟨k,hk,rfl⟩:=h
 rw[List.findIdx?_eq_some_iff_getElem] at hk
 obtain⟨hkl,hk0,hkn⟩:=hk
 rw[List.length_reverse] at hkl
 rw[List.getElem_reverse] at hk0
 refine⟨by omega,?_,fun j h1 h2=> ?_⟩
 ·rw[Vy (by omega)]
  simp at hk0
  omega
 ·have:=hkn (t.length - 1 - j) (by omega)
  rw[List.getElem_reverse] at this
  rw[Vy h2]
  simp only[show t.length - 1 - (t.length - 1 - j)=j by omega] at this
  simp at this
  omega
def XO (t:List Nat):Bool :=
 match WE t with
 | none=>false
 | some p=>Zc4 (t.take p)&&(Xx (t.drop (p+1))||((t.drop (p+1)).headD 0 == 35&&XN (t.drop (p+1)).tail))
theorem UB {t:List Nat} (h:Lb t) (o n:Nat) (hn:o+n≤t.length):(txt t).extract o (o+n)=txt ((t.drop o).take n):=by
 rw[YF _ _ _ (by rw[Zm]; exact hn),←Qr _ _ _ hn]
 exact ZH fun i hi=>Yr h (by omega)
structure Rw where
 base:Nat
 funcs:Nat
 names:Nat
 atF:Nat
 atN:Nat
 atI:Nat
def inL (n at' len:Nat):Bool:=decide (len=0)||decide (at'+len≤n)
def Zhg (b:List Nat) (o:Nat):Rw:=⟨YS (b.drop (o+16)) 4,YS (b.drop (o+20)) 4,YS (b.drop (o+24)) 4,YS (b.drop (o+28)) 4,YS (b.drop (o+32)) 4,YS (b.drop (o+36)) 4⟩
def Rw.ok (r:Rw) (n:Nat):Bool:=decide (r.base<65536)&&decide (r.funcs≤256)&&decide (r.names≤256)&&decide (r.base+r.funcs≤65536)&&inL n r.atF (4 * r.funcs)&&inL n r.atN (4 * r.names)&&inL n r.atI (2 * r.names)
def Zdn (b:List Nat) (rva size:Int):Option Rw :=
 if 40≤size∧0≤rva∧rva≤b.length - size then
  if(Zhg b rva.toNat).ok b.length then some (Zhg b rva.toNat) else none
 else none
abbrev FnV:=Nat × List Nat
def Zin (b:List Nat) (rva size v:Nat):Option FnV :=
 if v<rva∨size≤v - rva then(if v<b.length then some (v,[]) else none)
 else match XV b v 64 with
  | none=>none
  | some t=>if XO t then some (0,t) else none
theorem XP {b:List Nat} (h:Lb b) {o most:Nat} {t:List Nat} (ht:XV b o most=some t):Lb t∧t.length≤most:=by
 obtain⟨_,h2,_,_,h5⟩:=JG ht
 exact⟨by rw[h5]; exact(h.drop o).take _,h2⟩
section
variable {α :Type} {C: α →List Value} {sz:Nat}
theorem Zi5 {P:Program} {w:World} {A:Option Addr} {l:List α} {tx e:TypeId} (hk:P.underlying tx=some (.slice e)) (c:Nat) (hC: ∀ x,(C x).length=sz) (hC1: ∀ x,∀ u∈C x,u.oneCell'=true) (h:SlT C sz w A l) :
 Src P sz tx (.slice A l.length c) l.length (l.flatMap C) w:=by
 have h1: ∀ u∈l.flatMap C,u.oneCell'=true:=fun u hu=>by
  obtain⟨x,_,hx⟩:=List.mem_flatMap.mp hu
  exact hC1 x u hx
 rcases h with rfl|⟨b,off,rfl,hlt,hc⟩
 ·rcases A with _|ad
  ·exact Src.ofNil w hk c
  ·exact Src.ofSlice w hk ad 0 c [] (by simp) (fun j u hu=>by simp at hu) (fun u hu=>by simp at hu)
 ·refine Src.ofSlice w hk ⟨b,off,none⟩ l.length c (l.flatMap C) (WF hC l) (fun j u hu=> ?_) h1
  have hsz:0<sz∨sz=0:=by omega
  have hj:j<(l.flatMap C).length:=by
   rcases Nat.lt_or_ge j (l.flatMap C).length with h|h
   ·exact h
   ·rw[List.getElem?_eq_none h] at hu; cases hu
  rw[WF hC] at hj
  have hs0:0<sz:=by rcases hsz with h|h; exact h; subst h; omega
  have hi:j / sz<l.length:=Nat.div_lt_of_lt_mul (by rwa [Nat.mul_comm])
  have hm:j % sz<sz:=Nat.mod_lt _ hs0
  have e1:j / sz * sz+j % sz=j:=by rw[Nat.mul_comm]; exact Nat.div_add_mod j sz
  have hg:=VB hC l (j / sz) (j % sz) hi hm
  rw[e1,hu] at hg
  have:=hc (j / sz) hi (j % sz) u hg.symm
  rw[e1] at this
  have hadd:(⟨b,off,none⟩:Addr).add j=⟨b,off+j,none⟩:=by unfold Addr.add; split <;> simp_all
  rw[hadd]
  exact this
theorem Zdo (w:World) (g:Nat):w.grownBy w (some g):=⟨rfl,rfl,rfl,Nat.le_refl _,fun _ _ _=>rfl⟩
theorem Yy {P:Program} {w:World} {ops:Array Oper} {rest:List Oper} {o:Oper} {a:Act} {Q:Exit→Act→World→Prop} (hgd:o.guard=none) (s x:Operand) (t:TypeId)
 (ho:o.op= .call { callee:= .builtin .append,args:= #[s,x],argTypes:= #[t,t] })
 (base:Nat) (e:TypeId) (z:Value) (bytes:Nat) (ht:P.underlying t=some (.slice e)) (hinfo:(P.info? e).map (fun i=>(i.zero,i.size,i.bytes))=some (some z,sz,bytes)) (hzs:z.cells.size=sz) (hsz:0<sz) (hC: ∀ x,(C x).length=sz) (hC1: ∀ x,∀ u∈C x,u.oneCell'=true)
 (g cap:Nat) (l:List α) (hv:a.eval s= .slice (some ⟨g,0,none⟩) l.length cap) (hown:ZR C sz w base e (.slice (some ⟨g,0,none⟩) l.length cap) l) (A:Option Addr) (m c:Nat) (xs:List α) (hm:m=xs.length) (hX:a.eval x= .slice A m c) (hs:SlT C sz w A xs)
 (h63:l.length+xs.length≤maxLen) (hbytes:(l.length+xs.length) * bytes≤140737488355328) (hbase:base≤w.heap.size)
 (hK: ∀ g' cap' w',ZR C sz w' base e (.slice (some ⟨g',0,none⟩) (l.length+xs.length) cap') (l++xs)→w.grownBy w' (some g)→wpList P ops Q rest (a.put o.dst (.slice (some ⟨g',0,none⟩) (l.length+xs.length) cap')) w') :
 wpList P ops Q (o::rest) a w:=by
 obtain⟨i0,hi,hz0,hz1,hz2⟩:=info_parts hinfo
 subst hm
 rcases Nat.eq_zero_or_pos xs.length with h0|h0
 ·obtain rfl:=List.eq_nil_of_length_eq_zero h0
  have hsr:=Zi5 (P:=P) (c:=c) ht hC hC1 hs
  obtain⟨A',cap',hvv,hlc,_,_⟩:=hown.form
  injection hvv with _ _ hvv
  subst hvv
  have hr:=run_append_room_src (P:=P) w t t o.type e i0 ht hi g 0 l.length cap (.slice A [].length c) 0 [] (by rw[hz1]; exact hsr) (by omega) (fun j hj=>by simp at hj) (fun j hj=>by simp at hj)
  refine wpList_plain hgd fun K hK'=> ?_
  unfold Oper.wp execOp
  simp only[ho,resolve,invoke,builtin,Sem.run_bind,Sem.run_pure,Result.andThen_ok,List.map_toArray,List.map_cons,List.map_nil,hv,hX,hr]
  exact hK' _ _ (hK g cap _ (by rw[List.append_nil]; exact hown) (Zdo w g))
 ·rcases hs with h|⟨b,off,rfl,hlt,hc⟩
  ·rw[h] at h0; simp at h0
  ·refine wpList_append_lies w hgd s x t ho base e i0 z sz bytes ht hi hz0 hz1 hz2 hzs hsz _ l.length (l.flatMap C) hv hown ⟨b,off,none⟩ xs.length c (xs.flatMap C) hX (WF hC xs) (fun j u hu=> ?_) (fun u hu=>by
    obtain⟨y,_,hy⟩:=List.mem_flatMap.mp hu
    exact hC1 y u hy) h0 h63 hbytes hbase _ rfl ?_
   ·have hj:j<(xs.flatMap C).length:=by
     rcases Nat.lt_or_ge j (xs.flatMap C).length with h|h
     ·exact h
     ·rw[List.getElem?_eq_none h] at hu; cases hu
    rw[WF hC] at hj
    have hi':j / sz<xs.length:=Nat.div_lt_of_lt_mul (by rwa [Nat.mul_comm])
    have hm':j % sz<sz:=Nat.mod_lt _ hsz
    have e1:j / sz * sz+j % sz=j:=by rw[Nat.mul_comm]; exact Nat.div_add_mod j sz
    have hg:=VB hC xs (j / sz) (j % sz) hi' hm'
    rw[e1,hu] at hg
    have:=hc (j / sz) hi' (j % sz) u hg.symm
    rw[e1] at this
    have hadd:(⟨b,off,none⟩:Addr).add j=⟨b,off+j,none⟩:=by unfold Addr.add; split <;> simp_all
    rw[hadd]
    exact this
   ·intro g' cap' w' hown' hg hat _
    refine hK g' cap' w' ?_ hg
    unfold ZR
    rw[List.length_append,List.flatMap_append]
    exact hown'
end
section
variable {α :Type} {C: α →List Value} {sz:Nat}
theorem ZR.blk {w:World} {base:Nat} {e:TypeId} {l:List α} {g cap:Nat} (h:ZR C sz w base e (.slice (some ⟨g,0,none⟩) l.length cap) l): ∃ cur,w.heap[g]? =some (.cells cur e (0,0)):=by
 rcases h.2 with⟨h1,h2⟩|⟨g',cap',cur,h1,hb,hh,h2,h3,h4,h5⟩
 ·injection h1 with h1; exact absurd h1 (by simp)
 ·injection h1 with h1 _ _
  injection h1 with h1
  injection h1 with h1
  subst h1
  exact⟨cur,hh⟩
end
theorem SlT.setT {α :Type} {C: α →List Value} {sz:Nat} {w:World} {g:Nat} {l:List α} (h:SlT C sz w (some ⟨g,0,none⟩) l) (k j0:Nat) (hk:k<l.length) (hj:j0<sz) (v:Value) (y: α) (hC: ∀ x,(C x).length=sz)
 (hy0:(C y)[j0]? =some v) (hy: ∀ j,j≠j0→(C y)[j]? =(C l[k])[j]?):SlT C sz (w.setCell ⟨g,k * sz+j0,none⟩ v) (some ⟨g,0,none⟩) (l.set k y):=by
 rcases h with h|⟨b,off,e,hlt,hc⟩
 ·rw[h] at hk; simp at hk
 ·injection e with e
  injection e with e1 e2
  subst e1 e2
  refine .inr ⟨g,0,rfl,by rw[World.size_setCell]; exact hlt,fun i hi j u hu=> ?_⟩
  rw[List.length_set] at hi
  rw[List.getElem_set] at hu
  have hsome:=hc k hk j0 _ (List.getElem?_eq_getElem (by rw[hC]; exact hj))
  rw[Nat.zero_add] at hsome ⊢
  by_cases e:i=k
  ·subst e
   rw[if_pos rfl] at hu
   by_cases e:j=j0
   ·subst e
    rw[hy0] at hu
    injection hu with hu
    subst hu
    exact World.cell?_setCell_same w _ v hsome
   ·rw[World.cell?_setCell_other w _ _ v (by intro q; injection q with _ q; omega)]
    rw[hy j e] at hu
    have:=hc i hk j u hu
    rwa [Nat.zero_add] at this
  ·rw[if_neg (Ne.symm e)] at hu
   have hjl:j<sz:=by rw[←hC (l[i])]; exact(List.getElem?_eq_some_iff.1 hu).1
   rw[World.cell?_setCell_other w _ _ v (by
    intro q
    injection q with _ q
    rcases Nat.lt_or_ge i k with q1|q1
    ·have:(i+1) * sz≤k * sz:=Nat.mul_le_mul_right _ q1
     rw[Nat.add_mul] at this; omega
    ·have:(k+1) * sz≤i * sz:=Nat.mul_le_mul_right _ (by omega)
     rw[Nat.add_mul] at this; omega)]
   have:=hc i hi j u hu
   rwa [Nat.zero_add] at this
section
variable {α :Type} {C: α →List Value} {sz:Nat}
end
def gC (x:FnV):List Value:=[.int .i64 x.1,.string (txt x.2)]
theorem Ui (x:FnV):(gC x).length=2:=rfl
theorem Jy (x:FnV): ∀ u∈gC x,u.oneCell'=true:=by
 intro u hu
 simp[gC] at hu
 rcases hu with rfl|rfl <;> rfl
theorem WT:(Tryz.prog.info? 74).map (fun i=>(i.zero,i.size,i.bytes))=some (some (.agg #[.int .i64 0,.string ByteArray.empty]),2,24):=by kernel_rfl
def Wz (b:List Nat) (rva size at':Nat):Nat→Nat→List FnV→Option (List FnV)
 | 0,_,acc=>some acc
 | k+1,i,acc=>match Zin b rva size (YS (b.drop (at'+4 * i)) 4) with
   | none=>none
   | some f=>Wz b rva size at' k (i+1) (acc++[f])
theorem VA (x:Nat) (t:List Nat) (w:World): ∀ j u,(gC (x,t))[j]? =some u→(w.alloc (.cells #[.int .i64 x,.string (txt t)] 74)).cell? ⟨w.heap.size,j,none⟩=some u:=by
 intro j u hu
 rcases j with _|_|j
 ·simp[gC] at hu; subst hu; simp[go_sem]
 ·simp[gC] at hu; subst hu; simp[go_sem]
 ·simp[gC] at hu
end Go.Proofs.YtplgdpjbkdagfaaGreat
