import Derived.Test.YtplgdpjbkdagfaaGreatApp
import Derived.Test.YtplgdpjbkdagfaaGreatZMem
import Derived.Laws.Tables
import Derived.Deep.RegionHeld3
namespace Go.Proofs.YtplgdpjbkdagfaaGreat
set_option maxRecDepth 100000
open Go.ChangeShapes Go.WideShapes Go.ChangeAt Go.RowKit
set_option linter.unusedVariables false
set_option linter.unusedSimpArgs false
section
variable {α :Type} {C: α →List Value} {sz:Nat}
theorem WF (hC: ∀ x,(C x).length=sz): ∀(l:List α),(l.flatMap C).length=l.length * sz
 | []=>by simp
 | x::l=>by rw[List.flatMap_cons,List.length_append,WF hC l,hC,List.length_cons,Nat.add_mul]; omega
theorem VB (hC: ∀ x,(C x).length=sz): ∀(l:List α) (i j:Nat) (hi:i<l.length),j<sz→(l.flatMap C)[i * sz+j]? =(C l[i])[j]?
 | [],i,j,hi,_=>by simp at hi
 | x::l,0,j,_,hj=>by
   rw[List.flatMap_cons,List.getElem?_append_left (by rw[hC]; omega)]
   simp
 | x::l,i+1,j,hi,hj=>by
   rw[List.flatMap_cons,List.getElem?_append_right (by rw[hC,Nat.add_mul]; omega),hC,show(i+1) * sz+j - sz=i * sz+j by rw[Nat.add_mul]; omega]
   rw[VB hC l i j (by simpa using hi) hj]
   rfl
def ZR (C: α →List Value) (sz:Nat) (w:World) (base:Nat) (e:TypeId) (v:Value) (l:List α):Prop:=w.ownsRow base e sz v l.length (l.flatMap C)
def SlT (C: α →List Value) (sz:Nat) (w:World) (A:Option Addr) (l:List α):Prop :=
 l=[]∨ ∃ b off,A=some ⟨b,off,none⟩∧b<w.heap.size∧ ∀(i:Nat) (hi:i<l.length) (j:Nat) (v:Value),(C l[i])[j]? =some v→w.cell? ⟨b,off+(i * sz+j),none⟩=some v
theorem ZR.nil (w:World) (base:Nat) (e:TypeId):ZR C sz w base e (.slice none 0 0) []:=World.ownsRow_nil w base e sz
theorem ZR.made (w:World) (base:Nat) (hb:base≤w.heap.size) (e:TypeId):ZR C sz (w.alloc (.cells #[] e)) base e (.slice (some ⟨w.heap.size,0,none⟩) 0 0) [] :=
 ⟨by simp,.inr ⟨w.heap.size,0,#[],rfl,hb,heap_alloc_new w _,Nat.le_refl _,by omega,by simp,by simp⟩⟩
theorem ZR.form {w:World} {base:Nat} {e:TypeId} {v:Value} {l:List α} (h:ZR C sz w base e v l) :
 ∃ A cap,v= .slice A l.length cap∧l.length≤cap∧cap≤maxLen∧(l=[]∨ ∃ g,A=some ⟨g,0,none⟩∧base≤g∧g<w.heap.size):=by
 rcases h.2 with⟨h1,h2⟩|⟨g,cap,cur,h1,hb,hh,h2,h3,_⟩
 ·exact⟨none,0,by rw[h1,h2],by omega,by omega,.inl (List.eq_nil_of_length_eq_zero h2)⟩
 ·exact⟨_,cap,h1,h2,h3,.inr ⟨g,rfl,hb,by
   rcases Nat.lt_or_ge g w.heap.size with hlt|hge
   ·exact hlt
   ·rw[Array.getElem?_eq_none hge] at hh; cases hh⟩⟩
theorem ZR.cell {w:World} {base:Nat} {e:TypeId} {l:List α} {g cap:Nat} (hC: ∀ x,(C x).length=sz) (h:ZR C sz w base e (.slice (some ⟨g,0,none⟩) l.length cap) l) (i:Nat) (hi:i<l.length) (j:Nat) (v:Value) (hv:(C l[i])[j]? =some v) :
 w.cell? ⟨g,i * sz+j,none⟩=some v:=by
 have hj:j<sz:=by rw[←hC l[i]]; exact(List.getElem?_eq_some_iff.1 hv).1
 rcases h.2 with⟨h1,h2⟩|⟨g',cap',cur,h1,hb,hh,h2,h3,h4,h5⟩
 ·omega
 ·injection h1 with h1 _ _
  injection h1 with h1
  injection h1 with h1
  subst h1
  rw[cell_of_row w g (i * sz+j) cur e (0,0) hh]
  have h6:=VB hC l i j hi hj
  rw[←h5,hv] at h6
  have h7:i * sz+j<l.length * sz:=by
   have:(i+1) * sz≤l.length * sz:=Nat.mul_le_mul_right _ hi
   rw[Nat.add_mul] at this
   omega
  rw[List.getElem?_take,if_pos h7] at h6
  simpa using h6
theorem ZR.sl {w:World} {base:Nat} {e:TypeId} {l:List α} {A:Option Addr} {cap:Nat} (hC: ∀ x,(C x).length=sz) (h:ZR C sz w base e (.slice A l.length cap) l):SlT C sz w A l:=by
 obtain⟨A',cap',hv,_,_,hl|⟨g,hA,hb,hlt⟩⟩:=h.form
 ·exact .inl hl
 ·injection hv with hv _ _
  subst hv hA
  exact .inr ⟨g,0,rfl,hlt,fun i hi j v hv=>by rw[Nat.zero_add]; exact h.cell hC i hi j v hv⟩
theorem SlT.keep {w w':World} {A:Option Addr} {l:List α} (h:SlT C sz w A l) (hs:w.heap.size≤w'.heap.size) (hb: ∀ b,A.map (·.block)=some b→w'.heap[b]? =w.heap[b]?):SlT C sz w' A l:=by
 rcases h with h|⟨b,off,rfl,hlt,hc⟩
 ·exact .inl h
 ·exact .inr ⟨b,off,rfl,by omega,fun i hi j v hv=>(World.cell?_of_block (a:=⟨b,_,none⟩) (hb b rfl)).trans (hc i hi j v hv)⟩
theorem SlT.below {w w':World} {A:Option Addr} {l:List α} (h:SlT C sz w A l) (hb:Below w.heap.size w w'):SlT C sz w' A l:=by
 rcases h with h|⟨b,off,rfl,hlt,hc⟩
 ·exact .inl h
 ·exact .inr ⟨b,off,rfl,Nat.lt_of_lt_of_le hlt hb.size,fun i hi j v hv=>(hb.cell (p:=⟨b,_,none⟩) hlt).trans (hc i hi j v hv)⟩
theorem ZR.of_block {w w':World} {base:Nat} {e:TypeId} {v:Value} {l:List α} (h:ZR C sz w base e v l) (hb: ∀ k,v.ownBlock=some k→w'.heap[k]? =w.heap[k]?):ZR C sz w' base e v l:=by
 refine⟨h.1,?_⟩
 rcases h.2 with h2|⟨g,cap,cur,hv,hg,hh,r⟩
 ·exact Or.inl h2
 ·exact Or.inr ⟨g,cap,cur,hv,hg,by rw[hb g (by rw[hv]; rfl)]; exact hh,r⟩
theorem ZR.lt {w:World} {base:Nat} {e:TypeId} {v:Value} {l:List α} (h:ZR C sz w base e v l): ∀ k,v.ownBlock=some k→base≤k∧k<w.heap.size:=World.ownsRow.lt h
theorem ZR.below {w w':World} {base:Nat} {e:TypeId} {v:Value} {l:List α} (h:ZR C sz w base e v l) (hb:Below w.heap.size w w'):ZR C sz w' base e v l :=
 h.of_block fun k hk=>hb.block k (h.lt k hk).2
theorem ZR.grown {w w':World} {base:Nat} {e:TypeId} {v:Value} {l:List α} {row:Option Nat} (h:ZR C sz w base e v l) (hb:w.grownBy w' row) (hne: ∀ k,v.ownBlock=some k→row≠some k):ZR C sz w' base e v l :=
 h.of_block fun k hk=>hb.block k (h.lt k hk).2 (fun e=>hne k hk e.symm)
theorem ZR.alloc {w:World} {base:Nat} {e:TypeId} {v:Value} {l:List α} (h:ZR C sz w base e v l) (o:Obj):ZR C sz (w.alloc o) base e v l:=h.below ((Below.refl _ _).alloc (Nat.le_refl _) o)
theorem ZR.drew {w:World} {base:Nat} {e:TypeId} {v:Value} {l:List α} (h:ZR C sz w base e v l):ZR C sz w.drew base e v l:=h
theorem ZR.grew {w w':World} {B base:Nat} {e:TypeId} {v:Value} {l:List α} {a:World} (h:ZR C sz w base e v l) (hb:Below B a w) (hB:B≤base) (hs:B≤w.heap.size) (hg:w.grownBy w' v.ownBlock):Below B a w' :=
 hb.trans ⟨hg.os,hg.tape,hg.output,hg.size,fun k hk=>hg.block k (by omega) (fun e=>by have:=(h.lt k e.symm).1; omega)⟩
theorem Zv {P:Program} {w:World} {ops:Array Oper} {rest:List Oper} {o:Oper} {a:Act} {Q:Exit→Act→World→Prop} (hgd:o.guard=none) (s x:Operand) (t:TypeId)
 (ho:o.op= .call { callee:= .builtin .append,args:= #[s,x],argTypes:= #[t,t] })
 (base:Nat) (e:TypeId) (z:Value) (bytes:Nat) (ht:P.underlying t=some (.slice e)) (hinfo:(P.info? e).map (fun i=>(i.zero,i.size,i.bytes))=some (some z,sz,bytes)) (hzs:z.cells.size=sz) (hsz:0<sz) (hC: ∀ x,(C x).length=sz) (hC1: ∀ x,∀ u∈C x,u.oneCell'=true)
 (v:Value) (l:List α) (hv:a.eval s=v) (hown:ZR C sz w base e v l) (g:Nat) (c:Nat) (hX:a.eval x= .slice (some ⟨g,0,none⟩) 1 c) (y: α) (hy: ∀ j u,(C y)[j]? =some u→w.cell? ⟨g,j,none⟩=some u)
 (h63:l.length+1≤maxLen) (hbytes:(l.length+1) * bytes≤140737488355328) (hbase:base≤w.heap.size)
 (hK: ∀ g' cap w',ZR C sz w' base e (.slice (some ⟨g',0,none⟩) (l.length+1) cap) (l++[y])→w.grownBy w' v.ownBlock→(v.ownBlock=some g'∨g'=w.heap.size)→wpList P ops Q rest (a.put o.dst (.slice (some ⟨g',0,none⟩) (l.length+1) cap)) w') :
 wpList P ops Q (o::rest) a w:=by
 obtain⟨i0,hi,hz0,hz1,hz2⟩:=info_parts hinfo
 refine wpList_append_lies w hgd s x t ho base e i0 z sz bytes ht hi hz0 hz1 hz2 hzs hsz v l.length (l.flatMap C) hv hown ⟨g,0,none⟩ 1 c (C y) hX (by rw[hC,Nat.one_mul]) (fun j u hu=> ?_) (hC1 y) (by omega) h63 hbytes hbase _ rfl ?_
 ·have hadd:(⟨g,0,none⟩:Addr).add j=⟨g,j,none⟩:=by unfold Addr.add; split <;> simp_all
  rw[hadd]
  exact hy j u hu
 ·intro g' cap w' hown' hg hat _
  refine hK g' cap w' ?_ hg hat
  unfold ZR
  rw[List.length_append,List.flatMap_append]
  simpa using hown'
end
def Za1 (w:World) (base:Nat) (e:TypeId) (v:Value) (xs:List Value):Prop:=w.ownsRow base e 1 v xs.length xs
theorem Za1.nil (w:World) (base:Nat) (e:TypeId):Za1 w base e (.slice none 0 0) []:=World.ownsRow_nil w base _ 1
theorem Za1.of_block {w w':World} {base:Nat} {e:TypeId} {v:Value} {xs:List Value} (h:Za1 w base e v xs) (hs:w.heap.size≤w'.heap.size) (hb: ∀ k,v.ownBlock=some k→w'.heap[k]? =w.heap[k]?):Za1 w' base e v xs:=by
 refine⟨h.1,?_⟩
 rcases h.2 with h2|⟨g,cap,cur,hv,hg,hh,r⟩
 ·exact Or.inl h2
 ·exact Or.inr ⟨g,cap,cur,hv,hg,by rw[hb g (by rw[hv]; rfl)]; exact hh,r⟩
theorem Za1.lt {w:World} {base:Nat} {e:TypeId} {v:Value} {xs:List Value} (h:Za1 w base e v xs): ∀ k,v.ownBlock=some k→base≤k∧k<w.heap.size:=World.ownsRow.lt h
theorem Za1.below {w w':World} {base:Nat} {e:TypeId} {v:Value} {xs:List Value} (h:Za1 w base e v xs) (hb:Below w.heap.size w w'):Za1 w' base e v xs :=
 h.of_block hb.size fun k hk=>hb.block k (h.lt k hk).2
theorem Za1.alloc {w:World} {base:Nat} {e:TypeId} {v:Value} {xs:List Value} (h:Za1 w base e v xs) (o:Obj):Za1 (w.alloc o) base e v xs:=h.below ((Below.refl _ _).alloc (Nat.le_refl _) o)
theorem Za1.drew {w:World} {base:Nat} {e:TypeId} {v:Value} {xs:List Value} (h:Za1 w base e v xs):Za1 w.drew base e v xs:=h
end Go.Proofs.YtplgdpjbkdagfaaGreat
namespace Go.Proofs.YtplgdpjbkdagfaaGreat
set_option maxRecDepth 100000
set_option linter.unusedVariables false
set_option linter.unusedSimpArgs false
section
variable {P:Program} {ops:Array Oper} {Q:Exit→Act→World→Prop} {md:Region.Mode} {S R:World→Prop} {k:Nat}
def Xe (P:Program) (md:Region.Mode) (ops:Array Oper) (Q:Exit→Act→World→Prop) (S R:World→Prop) (k:Nat):Nat→Array Bool→Act→World→Prop
 | 0,listed,a,w=>Region.ready md ops listed=[]∧Q .normal a w
 | fuel+1,listed,a,w =>
   (Region.ready md ops listed=[]→Q .normal a w) ∧
   ∀ i∈Region.ready md ops listed,wpOp P ops Q i (fun a' w'=>(S w'∧((listed.setIfInBounds i true).getD k true=false→R w'))∧Xe P md ops Q S R k fuel (listed.setIfInBounds i true) a' w') a w
theorem Jz: ∀(fuel:Nat) (listed:Array Bool) (a:Act) (w:World),Xe P md ops Q S R k fuel listed a w→wpAny P md ops Q fuel listed a w
 | 0,_,_,_,h=>h
 | fuel+1,_,_,_,h=>⟨h.1,fun i hi=>wpOp_mono (fun a' w' h'=>Jz fuel _ a' w' h'.2) (h.2 i hi)⟩
theorem QQ {T:World→Prop} {I:Array Bool→Prop} {i:Nat} {oi:Oper} {v:Value} (hi:ops[i]? =some oi) (hsel: ∀(j:Nat) (o:Oper) cs b,ops[j]? =some o→o.op≠ .select cs b)
 (hQ: ∀ c a w,Q (.panic c) (a.put oi.dst v) w→Q (.panic c) a w) (hik:i≠k)
 (hT: ∀ l w,I l→S w→(l.getD k true=false→R w)→T w)
 (hI: ∀ l j,I l→i∈Region.ready md ops l→j∈Region.ready md ops l→j≠i→I (l.setIfInBounds j true)) :
 ∀(fuel:Nat) (listed:Array Bool) (a:Act) (w:World),I listed →
  (∀ j oj,ops[j]? =some oj→j≠i→listed.getD j true=false→(∀ e∈oj.after,Region.binds md e=true→e.on≠i)→oi.apart ops oj=true) →
  i∈Region.ready md ops listed→YieldsIf P ops T oi v a→S w→(listed.getD k true=false→R w) →
  Xe P md ops Q S R k fuel (listed.setIfInBounds i true) (a.put oi.dst v) w→Xe P md ops Q S R k (fuel+1) listed a w:=by
 have hset: ∀ l:Array Bool,(l.setIfInBounds i true).getD k true=l.getD k true:=fun l=>getD_set_ne true hik
 intro fuel
 induction fuel with
 | zero =>
   intro listed a w hIl _ hr hy hS hR H
   refine⟨fun h=>(by rw[h] at hr; cases hr),fun j hj=> ?_⟩
   by_cases hji:j=i
   ·subst hji; exact hy.wpOp hi (hT listed w hIl hS hR) ⟨⟨hS,by rw[hset]; exact hR⟩,H⟩
   ·have:=ready_mono hj hji
    rw[H.1] at this
    cases this
 | succ fuel ih =>
   intro listed a w hIl hfree hr hy hS hR H
   refine⟨fun h=>(by rw[h] at hr; cases hr),fun j hj=> ?_⟩
   by_cases hji:j=i
   ·subst hji; exact hy.wpOp hi (hT listed w hIl hS hR) ⟨⟨hS,by rw[hset]; exact hR⟩,H⟩
   ·have h1:=H.2 j (ready_mono hj hji)
    obtain⟨hjun,oj,hoj,hall⟩:=mem_ready.1 hj
    have hnot: ∀ e∈oj.after,Region.binds md e=true→e.on≠i:=fun e he hb heq=>by
     have h1:=hall e he hb
     have h0:=(mem_ready.1 hr).1
     rw[heq] at h1
     rcases Nat.lt_or_ge i listed.size with h'|h'
     ·simp[h'] at h0 h1; rw[h0] at h1; cases h1
     ·simp[Array.getElem?_eq_none h'] at h1
    have h2:=wpOp_putIf hoj (hfree j oj hoj hji hjun hnot) (fun cs b=>hsel i oi cs b hi) (fun cs b=>hsel j oj cs b hoj) hQ hy h1
    have hfree': ∀ k ok,ops[k]? =some ok→k≠i→(listed.setIfInBounds j true).getD k true=false →
     (∀ e∈ok.after,Region.binds md e=true→e.on≠i)→oi.apart ops ok=true:=fun k ok hk hki hun hno=>by
     refine hfree k ok hk hki ?_ hno
     by_cases hjk:j=k
     ·subst hjk; exact hjun
     ·rw[getD_set_ne true hjk] at hun; exact hun
    refine wpOp_mono (fun a' w' h3=> ?_) h2
    have hsw:(listed.setIfInBounds i true).setIfInBounds j true=(listed.setIfInBounds j true).setIfInBounds i true:=Array.setIfInBounds_comm _ _ (Ne.symm hji)
    have hR':(listed.setIfInBounds j true).getD k true=false→R w':=fun e=>h3.2.1.2 (by rw[hsw,hset]; exact e)
    refine⟨⟨h3.2.1.1,hR'⟩,ih (listed.setIfInBounds j true) a' w' (hI _ _ hIl hr hj hji) hfree' (ready_mono hr (Ne.symm hji)) h3.1 h3.2.1.1 hR' ?_⟩
    rw[←hsw]
    exact h3.2.2
theorem Za9 {i:Nat} {oi:Oper} {v:Value} {fuel:Nat} {listed:Array Bool} {a:Act} {w:World} (hi:ops[i]? =some oi)
 (hs:Region.noSelect ops=true) (hf:Region.free md ops listed i=true) (hr:(Region.ready md ops listed).contains i=true)
 (hQ: ∀ c a w,Q (.panic c) (a.put oi.dst v) w→Q (.panic c) a w) (hik:i≠k) (hy:YieldsIf P ops S oi v a) (hS:S w) (hR:listed.getD k true=false→R w)
 (h:Xe P md ops Q S R k fuel (listed.setIfInBounds i true) (a.put oi.dst v) w):Xe P md ops Q S R k (fuel+1) listed a w :=
 QQ (T:=S) (I:=fun _=>True) hi (Region.noSelect_spec hs) hQ hik (fun _ _ _ h _=>h) (fun _ _ _ _ _ _=>trivial) fuel listed a w trivial (Region.free_spec hi hf) (by simpa using hr) hy hS hR h
theorem wT {i:Nat} {oi:Oper} {v:Value} {fuel:Nat} {listed:Array Bool} {a:Act} {w:World} (hi:ops[i]? =some oi) (hy:YieldsIf P ops S oi v a) (hS:S w) (h:Xe P md ops Q S R k fuel (listed.setIfInBounds i true) (a.put oi.dst v) w) (hs:Region.noSelect ops=true:=by kernel_rfl) (hf:Region.free md ops listed i=true:=by kernel_rfl) (hr:(Region.ready md ops listed).contains i=true:=by kernel_rfl) (hQ: ∀ c a w,Q (.panic c) (a.put oi.dst v) w→Q (.panic c) a w:=by exact fun _ _ _ h=>h) (hik:i≠k:=by decide) (hR:listed.getD k true=false→R w:=by exact fun _=>trivial):Xe P md ops Q S R k (fuel+1) listed a w:=
 Za9 hi hs hf hr hQ hik hy hS hR h
theorem Zk {i:Nat} {o:Oper} {fuel:Nat} {listed:Array Bool} {a:Act} {w:World} (hr:Region.ready md ops listed=[i]) (ho:ops[i]? =some o)
 (h: ∀ K':Act→World→Prop,Shut (∀ a w,S w→((listed.setIfInBounds i true).getD k true=false→R w)→Xe P md ops Q S R k fuel (listed.setIfInBounds i true) a w→K' a w)→if Region.wanted o (yielded ops a.tmps)=true then Oper.wp P o a w K' Q else K' (a.put o.dst undef) w) :
 Xe P md ops Q S R k (fuel+1) listed a w :=
 ⟨fun h0=>absurd (hr ▸ h0) (by simp),fun j hj=>by
   rw[hr,List.mem_singleton] at hj
   subst hj
   exact wpOp_step ho (fun K' hK=>h K' (fun a w hS hR hW=>hK a w ⟨⟨hS,hR⟩,hW⟩))⟩
theorem Zp {listed:Array Bool} {a:Act} {w:World} (hr:Region.ready md ops listed=[]) (h:Q .normal a w) :
 ∀ fuel,Xe P md ops Q S R k fuel listed a w
 | 0=>⟨hr,h⟩
 | _+1=>⟨fun _=>h,by rw[hr]; simp⟩
theorem Zw (S R:World→Prop) (k:Nat) {id:Nat} {a:Act} {w:World} (hm:P.follows .mixedOrders=true)
 (h:Xe P .any ops Q S R k ops.size (Array.replicate ops.size false) a w.drew):(Code.region id ops true).wp P Q a w :=
 wp_region_any hm (Jz _ _ _ _ h)
theorem Wj {T:World→Prop} {o:Oper} {a:Act} (ty:TypeId) (x:Operand) (g:Nat) (t:TypeId) (cs:Array Value) (fr:Nat × Nat) (hgd:o.guard=none) (ho:o.op= .load ty x)
 (hx:a.eval x= .pointer (some ⟨g,0,none⟩)) (hg: ∀ W,T W→W.heap[g]? =some (.cells cs t fr))
 (hu:(match P.underlying ty with|some (.struct _)=>true|some (.array _ _)=>true|_=>false)=true) (hi:(P.info? ty).map (·.size)=some cs.size) :
 YieldsIf P ops T o (.agg cs) a:=by
 refine Or.inl ⟨by simp[Region.wanted,hgd],fun w hw=> ?_⟩
 obtain⟨d,hd,hd'⟩: ∃ d,P.underlying ty=some d∧(match d with| .struct _| .array _ _=>true|_=>false)=true:=by
  cases h:P.underlying ty with
  | none=>rw[h] at hu; cases hu
  | some d=>exact⟨d,rfl,by rw[h] at hu; cases d <;> first|rfl|exact hu⟩
 unfold execOp
 simp only[ho,hx,Instr.loadAt,Instr.sureAddr,Sem.run_bind,Sem.run_pure,Result.andThen_ok,run_loadVar_row w g t ty cs fr d (hg w hw) hd (by cases d <;> first|rfl|exact hd') hi]
theorem Zhh {Y:Act→Prop} {j:Nat} {oj:Oper} {K:Act→World→Prop} {a:Act} {w:World} (hj:ops[j]? =some oj) (h1: ∀ u,Y (a.put oj.dst u)) (h2: ∀ d u,Y (({ a with defers:=d::a.defers }:Act).put oj.dst u))
 (h:wpOp P ops Q j K a w):wpOp P ops Q j (fun a' w'=>Y a'∧K a' w') a w:=by
 unfold wpOp at *
 simp only[hj] at *
 by_cases hw:Region.wanted oj (yielded ops a.tmps)=true
 ·rw[if_pos hw] at h ⊢
  rcases h with h|h
  ·left
   unfold Oper.wp at *
   revert h
   generalize (execOp a.eval oj).run P w=r
   intro h
   cases r with
   | ok n w' =>
     cases n with
     | value u=>exact⟨h1 u,h⟩
     | skip=>exact⟨h1 _,h⟩
     | defer d=>exact⟨h2 d _,h⟩
     | enter f args =>
       refine Calls.mono h fun e w'' he=> ?_
       cases e with
       | returned u=>exact⟨h1 u,he⟩
       | panicked c=>exact he
       | outgrown=>exact he
     | row row args=>exact Rows.mono h fun u w'' he=>⟨h1 u,he⟩
     | _=>exact h
   | halt x w'=>cases x <;> exact h
  ·exact .inr h
 ·rw[if_neg hw] at h ⊢
  exact⟨h1 _,h⟩
def XD (P:Program) (ops:Array Oper) (S:World→Prop) (o:Oper) (v:Value) (a:Act):Prop :=
 Region.wanted o (yielded ops a.tmps)=true∧ ∀ w,S w→ ∃ f args,(execOp a.eval o).run P w= .ok (.enter f args) w∧Calls P f args w fun e w'=>e= .returned v∧w=w'
theorem XD.of_same {o:Oper} {v:Value} {a a':Act} {S:World→Prop} (hy:XD P ops S o v a) (he:execOp a'.eval o=execOp a.eval o)
 (hw:Region.wanted o (yielded ops a'.tmps)=Region.wanted o (yielded ops a.tmps)):XD P ops S o v a':=by
 unfold XD at *
 rw[he,hw]
 exact hy
theorem XD.wpOp {i:Nat} {o:Oper} {v:Value} {a:Act} (hi:ops[i]? =some o) (hy:XD P ops S o v a) {K:Act→World→Prop} {w:World} (hS:S w) (h:K (a.put o.dst v) w):wpOp P ops Q i K a w:=by
 unfold Go.wpOp
 obtain⟨hw,hv⟩:=hy
 obtain⟨f,args,hr,hc⟩:=hv w hS
 simp only[hi,hw,if_true]
 left
 unfold Oper.wp
 rw[hr]
 refine Calls.mono hc ?_
 rintro e w' ⟨rfl,rfl⟩
 exact h
theorem Ze2 {j:Nat} {oi oj:Oper} {v:Value} (hj:ops[j]? =some oj) (hap:oi.apart ops oj=true)
 (hsi: ∀ cs b,oi.op≠ .select cs b) (hsj: ∀ cs b,oj.op≠ .select cs b) (hQ: ∀ c a w,Q (.panic c) (a.put oi.dst v) w→Q (.panic c) a w) {K:Act→World→Prop} {a:Act} {w:World}
 (hy:XD P ops S oi v a) (h:wpOp P ops Q j K (a.put oi.dst v) w):wpOp P ops Q j (fun a' w'=>XD P ops S oi v a'∧K (a'.put oi.dst v) w') a w:=by
 obtain⟨_,_,h3⟩:=Oper.apart_spec hap
 have hF:YieldsIf P ops (fun _=>False) oi v a:= .inl ⟨hy.1,fun _ h=>h.elim⟩
 have h':=wpOp_putIf hj hap hsi hsj hQ hF h
 have h'':=Zhh (Y:=XD P ops S oi v) hj
  (fun u=>hy.of_same (execOp_put oi hsi a oj.dst u h3) (wanted_put oi a oj.dst u h3))
  (fun d u=>(show XD P ops S oi v ({ a with defers:=d::a.defers }:Act) from hy.of_same rfl rfl).of_same (execOp_put oi hsi _ oj.dst u h3) (wanted_put oi _ oj.dst u h3)) h'
 exact wpOp_mono (fun a' w' q=>⟨q.1,q.2.2⟩) h''
theorem Qa {T:World→Prop} {I:Array Bool→Prop} {i:Nat} {oi:Oper} {v:Value} (hi:ops[i]? =some oi) (hsel: ∀(j:Nat) (o:Oper) cs b,ops[j]? =some o→o.op≠ .select cs b)
 (hQ: ∀ c a w,Q (.panic c) (a.put oi.dst v) w→Q (.panic c) a w) (hik:i≠k)
 (hT: ∀ l w,I l→S w→(l.getD k true=false→R w)→T w)
 (hI: ∀ l j,I l→i∈Region.ready md ops l→j∈Region.ready md ops l→j≠i→I (l.setIfInBounds j true)) :
 ∀(fuel:Nat) (listed:Array Bool) (a:Act) (w:World),I listed →
  (∀ j oj,ops[j]? =some oj→j≠i→listed.getD j true=false→(∀ e∈oj.after,Region.binds md e=true→e.on≠i)→oi.apart ops oj=true) →
  i∈Region.ready md ops listed→XD P ops T oi v a→S w→(listed.getD k true=false→R w) →
  Xe P md ops Q S R k fuel (listed.setIfInBounds i true) (a.put oi.dst v) w→Xe P md ops Q S R k (fuel+1) listed a w:=by
 have hset: ∀ l:Array Bool,(l.setIfInBounds i true).getD k true=l.getD k true:=fun l=>getD_set_ne true hik
 intro fuel
 induction fuel with
 | zero =>
   intro listed a w hIl _ hr hy hS hR H
   refine⟨fun h=>(by rw[h] at hr; cases hr),fun j hj=> ?_⟩
   by_cases hji:j=i
   ·subst hji; exact hy.wpOp hi (hT listed w hIl hS hR) ⟨⟨hS,by rw[hset]; exact hR⟩,H⟩
   ·have:=ready_mono hj hji
    rw[H.1] at this
    cases this
 | succ fuel ih =>
   intro listed a w hIl hfree hr hy hS hR H
   refine⟨fun h=>(by rw[h] at hr; cases hr),fun j hj=> ?_⟩
   by_cases hji:j=i
   ·subst hji; exact hy.wpOp hi (hT listed w hIl hS hR) ⟨⟨hS,by rw[hset]; exact hR⟩,H⟩
   ·have h1:=H.2 j (ready_mono hj hji)
    obtain⟨hjun,oj,hoj,hall⟩:=mem_ready.1 hj
    have hnot: ∀ e∈oj.after,Region.binds md e=true→e.on≠i:=fun e he hb heq=>by
     have h1:=hall e he hb
     have h0:=(mem_ready.1 hr).1
     rw[heq] at h1
     rcases Nat.lt_or_ge i listed.size with h'|h'
     ·simp[h'] at h0 h1; rw[h0] at h1; cases h1
     ·simp[Array.getElem?_eq_none h'] at h1
    have h2:=Ze2 hoj (hfree j oj hoj hji hjun hnot) (fun cs b=>hsel i oi cs b hi) (fun cs b=>hsel j oj cs b hoj) hQ hy h1
    have hfree': ∀ k ok,ops[k]? =some ok→k≠i→(listed.setIfInBounds j true).getD k true=false →
     (∀ e∈ok.after,Region.binds md e=true→e.on≠i)→oi.apart ops ok=true:=fun k ok hk hki hun hno=>by
     refine hfree k ok hk hki ?_ hno
     by_cases hjk:j=k
     ·subst hjk; exact hjun
     ·rw[getD_set_ne true hjk] at hun; exact hun
    refine wpOp_mono (fun a' w' h3=> ?_) h2
    have hsw:(listed.setIfInBounds i true).setIfInBounds j true=(listed.setIfInBounds j true).setIfInBounds i true:=Array.setIfInBounds_comm _ _ (Ne.symm hji)
    have hR':(listed.setIfInBounds j true).getD k true=false→R w':=fun e=>h3.2.1.2 (by rw[hsw,hset]; exact e)
    refine⟨⟨h3.2.1.1,hR'⟩,ih (listed.setIfInBounds j true) a' w' (hI _ _ hIl hr hj hji) hfree' (ready_mono hr (Ne.symm hji)) h3.1 h3.2.1.1 hR' ?_⟩
    rw[←hsw]
    exact h3.2.2
theorem ZX {i:Nat} {oi:Oper} {v:Value} {fuel:Nat} {listed:Array Bool} {a:Act} {w:World} (hi:ops[i]? =some oi)
 (hs:Region.noSelect ops=true) (hf:Region.free md ops listed i=true) (hr:(Region.ready md ops listed).contains i=true)
 (hQ: ∀ c a w,Q (.panic c) (a.put oi.dst v) w→Q (.panic c) a w) (hik:i≠k) (hy:XD P ops S oi v a) (hS:S w) (hR:listed.getD k true=false→R w)
 (h:Xe P md ops Q S R k fuel (listed.setIfInBounds i true) (a.put oi.dst v) w):Xe P md ops Q S R k (fuel+1) listed a w :=
 Qa (T:=S) (I:=fun _=>True) hi (Region.noSelect_spec hs) hQ hik (fun _ _ _ h _=>h) (fun _ _ _ _ _ _=>trivial) fuel listed a w trivial (Region.free_spec hi hf) (by simpa using hr) hy hS hR h
theorem Wk {i j:Nat} {o o2:Oper} {fuel:Nat} {listed:Array Bool} {a:Act} {w:World} (hr:Region.ready md ops listed=[i,j]) (ho:ops[i]? =some o) (ho2:ops[j]? =some o2)
 (h: ∀ K':Act→World→Prop,Shut (∀ a w,S w→((listed.setIfInBounds i true).getD k true=false→R w)→Xe P md ops Q S R k fuel (listed.setIfInBounds i true) a w→K' a w)→if Region.wanted o (yielded ops a.tmps)=true then Oper.wp P o a w K' Q else K' (a.put o.dst undef) w)
 (h2: ∀ K':Act→World→Prop,Shut (∀ a w,S w→((listed.setIfInBounds j true).getD k true=false→R w)→Xe P md ops Q S R k fuel (listed.setIfInBounds j true) a w→K' a w)→if Region.wanted o2 (yielded ops a.tmps)=true then Oper.wp P o2 a w K' Q else K' (a.put o2.dst undef) w) :
 Xe P md ops Q S R k (fuel+1) listed a w :=
 ⟨fun h0=>absurd (hr ▸ h0) (by simp),fun q hq=>by
   rw[hr] at hq
   rcases List.mem_cons.1 hq with e|hq
   ·subst e; exact wpOp_step ho (fun K' hK=>h K' (fun a w hS hR hW=>hK a w ⟨⟨hS,hR⟩,hW⟩))
   ·rw[List.mem_singleton] at hq
    subst hq; exact wpOp_step ho2 (fun K' hK=>h2 K' (fun a w hS hR hW=>hK a w ⟨⟨hS,hR⟩,hW⟩))⟩
end
end Go.Proofs.YtplgdpjbkdagfaaGreat
