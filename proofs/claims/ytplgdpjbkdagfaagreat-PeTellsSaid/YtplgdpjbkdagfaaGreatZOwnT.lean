import Derived.Test.YtplgdpjbkdagfaaGreatApp
import Derived.Test.YtplgdpjbkdagfaaGreatZMem
import Derived.Laws.Tables
import Derived.Deep.RegionHeld3
namespace Go.Proofs.YtplgdpjbkdagfaaGreat
set_option maxRecDepth 100000
open Go.ChangeShapes Go.WideShapes Go.ChangeAt Go.RowKit
set_option linter.unusedVariables false
set_option linter.unusedSimpArgs false
section
variable {α :Type} {C: α ->List Value} {sz:Nat}
theorem Zca (hC: ∀ x,(C x).length=sz): ∀(l:List α) (i j:Nat) (hi:i<l.length),j<sz->(l.flatMap C)[i * sz+j]? =(C l[i])[j]?
 | [],i,j,hi,_=>by simp at hi
 | x::l,0,j,_,hj=>by
   rw[List.flatMap_cons,List.getElem?_append_left (by rw[hC]; omega)];simp
 | x::l,i+1,j,hi,hj=>by
   rw[List.flatMap_cons,List.getElem?_append_right (by rw[hC,Nat.add_mul]; omega),hC,show(i+1) * sz+j - sz=i * sz+j by rw[Nat.add_mul]; omega];rw[Zca hC l i j (by simpa using hi) hj];rfl
def ZJ (C: α ->List Value) (sz:Nat) (w:World) (base:Nat) (e:TypeId) (v:Value) (l:List α):Prop:=w.ownsRow base e sz v l.length (l.flatMap C)
def SlT (C: α ->List Value) (sz:Nat) (w:World) (A:Option Addr) (l:List α):Prop :=
 l=[]\/ ∃ b off,A=some ⟨b,off,none⟩/\b<w.heap.size/\ ∀(i:Nat) (hi:i<l.length) (j:Nat) (v:Value),(C l[i])[j]? =some v->w.cell? ⟨b,off+(i * sz+j),none⟩=some v
theorem ZJ.nil (w:World) (base:Nat) (e:TypeId):ZJ C sz w base e (.slice none 0 0) []:=World.ownsRow_nil w base e sz
theorem ZJ.made (w:World) (base:Nat) (hb:base<=w.heap.size) (e:TypeId):ZJ C sz (w.alloc (.cells #[] e)) base e (.slice (some ⟨w.heap.size,0,none⟩) 0 0) [] :=
 ⟨by simp,.inr ⟨w.heap.size,0,#[],rfl,hb,heap_alloc_new w _,Nat.le_refl _,by omega,by simp,by simp⟩⟩
theorem ZJ.form {w:World} {base:Nat} {e:TypeId} {v:Value} {l:List α} (h:ZJ C sz w base e v l) :
 ∃ A cap,v= .slice A l.length cap/\l.length<=cap/\cap<=maxLen/\(l=[]\/ ∃ g,A=some ⟨g,0,none⟩/\base<=g/\g<w.heap.size):=by
 rcases h.2 with⟨h1,h2⟩|⟨g,cap,cur,h1,hb,hh,h2,h3,_⟩
 ·exact⟨none,0,by rw[h1,h2],by omega,by omega,.inl (List.eq_nil_of_length_eq_zero h2)⟩
 ·exact⟨_,cap,h1,h2,h3,.inr ⟨g,rfl,hb,by
   rcases Nat.lt_or_ge g w.heap.size with af|gK
   ·exact af
   ·rw[Array.getElem?_eq_none gK] at hh; cases hh⟩⟩
theorem ZJ.cell {w:World} {base:Nat} {e:TypeId} {l:List α} {g cap:Nat} (hC: ∀ x,(C x).length=sz) (h:ZJ C sz w base e (.slice (some ⟨g,0,none⟩) l.length cap) l) (i:Nat) (hi:i<l.length) (j:Nat) (v:Value) (hv:(C l[i])[j]? =some v) :
 w.cell? ⟨g,i * sz+j,none⟩=some v:=by
 have hj:j<sz:=by rw[<-hC l[i]]; exact(List.getElem?_eq_some_iff.1 hv).1
 rcases h.2 with⟨h1,h2⟩|⟨g',aA,cur,h1,hb,hh,h2,h3,h4,h5⟩
 ·omega
 ·injection h1 with h1 _ _;injection h1 with h1;injection h1 with h1;subst h1;rw[cell_of_row w g (i * sz+j) cur e (0,0) hh];have h6:=Zca hC l i j hi hj;rw[<-h5,hv] at h6;have h7:i * sz+j<l.length * sz:=by
   have:(i+1) * sz<=l.length * sz:=Nat.mul_le_mul_right _ hi;rw[Nat.add_mul] at this;omega
  rw[List.getElem?_take,if_pos h7] at h6;simpa using h6
theorem ZJ.sl {w:World} {base:Nat} {e:TypeId} {l:List α} {A:Option Addr} {cap:Nat} (hC: ∀ x,(C x).length=sz) (h:ZJ C sz w base e (.slice A l.length cap) l):SlT C sz w A l:=by
 obtain⟨A',aA,hv,_,_,hl|⟨g,hA,hb,af⟩⟩:=h.form
 ·exact .inl hl
 ·injection hv with hv _ _;subst hv hA;exact .inr ⟨g,0,rfl,af,fun i hi j v hv=>by rw[Nat.zero_add]; exact h.cell hC i hi j v hv⟩
theorem SlT.keep {w w':World} {A:Option Addr} {l:List α} (h:SlT C sz w A l) (hs:w.heap.size<=w'.heap.size) (hb: ∀ b,A.map (·.block)=some b->w'.heap[b]? =w.heap[b]?):SlT C sz w' A l:=by
 rcases h with h|⟨b,off,rfl,af,hc⟩
 ·exact .inl h
 ·exact .inr ⟨b,off,rfl,by omega,fun i hi j v hv=>(World.cell?_of_block (a:=⟨b,_,none⟩) (hb b rfl)).trans (hc i hi j v hv)⟩
theorem SlT.below {w w':World} {A:Option Addr} {l:List α} (h:SlT C sz w A l) (hb:Below w.heap.size w w'):SlT C sz w' A l:=by
 rcases h with h|⟨b,off,rfl,af,hc⟩
 ·exact .inl h
 ·exact .inr ⟨b,off,rfl,Nat.lt_of_lt_of_le af hb.size,fun i hi j v hv=>(hb.cell (p:=⟨b,_,none⟩) af).trans (hc i hi j v hv)⟩
theorem ZJ.of_block {w w':World} {base:Nat} {e:TypeId} {v:Value} {l:List α} (h:ZJ C sz w base e v l) (hb: ∀ k,v.ownBlock=some k->w'.heap[k]? =w.heap[k]?):ZJ C sz w' base e v l:=by
 refine⟨h.1,?_⟩;rcases h.2 with h2|⟨g,cap,cur,hv,hg,hh,r⟩
 ·exact Or.inl h2
 ·exact Or.inr ⟨g,cap,cur,hv,hg,by rw[hb g (by rw[hv]; rfl)]; exact hh,r⟩
theorem ZJ.lt {w:World} {base:Nat} {e:TypeId} {v:Value} {l:List α} (h:ZJ C sz w base e v l): ∀ k,v.ownBlock=some k->base<=k/\k<w.heap.size:=World.ownsRow.lt h
theorem ZJ.below {w w':World} {base:Nat} {e:TypeId} {v:Value} {l:List α} (h:ZJ C sz w base e v l) (hb:Below w.heap.size w w'):ZJ C sz w' base e v l :=
 h.of_block fun k hk=>hb.block k (h.lt k hk).2
theorem ZJ.grown {w w':World} {base:Nat} {e:TypeId} {v:Value} {l:List α} {row:Option Nat} (h:ZJ C sz w base e v l) (hb:w.grownBy w' row) (bK: ∀ k,v.ownBlock=some k->row≠some k):ZJ C sz w' base e v l :=
 h.of_block fun k hk=>hb.block k (h.lt k hk).2 (fun e=>bK k hk e.symm)
theorem ZJ.alloc {w:World} {base:Nat} {e:TypeId} {v:Value} {l:List α} (h:ZJ C sz w base e v l) (o:Obj):ZJ C sz (w.alloc o) base e v l:=h.below ((Below.refl _ _).alloc (Nat.le_refl _) o)
theorem ZJ.drew {w:World} {base:Nat} {e:TypeId} {v:Value} {l:List α} (h:ZJ C sz w base e v l):ZJ C sz w.drew base e v l:=h
theorem ZJ.grew {w w':World} {B base:Nat} {e:TypeId} {v:Value} {l:List α} {a:World} (h:ZJ C sz w base e v l) (hb:Below B a w) (hB:B<=base) (hs:B<=w.heap.size) (hg:w.grownBy w' v.ownBlock):Below B a w' :=
 hb.trans ⟨hg.os,hg.tape,hg.output,hg.size,fun k hk=>hg.block k (by omega) (fun e=>by have:=(h.lt k e.symm).1; omega)⟩
theorem Zq {P:Program} {w:World} {ops:Array Oper} {rest:List Oper} {o:Oper} {a:Act} {Q:Exit->Act->World->Prop} (eu:o.guard=none) (s x:Operand) (t:TypeId)
 (ho:o.op= .call { callee:= .builtin .append,args:= #[s,x],argTypes:= #[t,t] })
 (base:Nat) (e:TypeId) (z:Value) (bytes:Nat) (ht:P.underlying t=some (.slice e)) (lj:(P.info? e).map (fun i=>(i.zero,i.size,i.bytes))=some (some z,sz,bytes)) (r9:z.cells.size=sz) (aT:0<sz) (hC: ∀ x,(C x).length=sz) (tq: ∀ x,∀ u∈C x,u.oneCell'=true)
 (v:Value) (l:List α) (hv:a.eval s=v) (ae:ZJ C sz w base e v l) (g:Nat) (c:Nat) (hX:a.eval x= .slice (some ⟨g,0,none⟩) 1 c) (y: α) (hy: ∀ j u,(C y)[j]? =some u->w.cell? ⟨g,j,none⟩=some u)
 (n9:l.length+1<=maxLen) (fJ:(l.length+1) * bytes<=140737488355328) (aH:base<=w.heap.size)
 (hK: ∀ g' cap w',ZJ C sz w' base e (.slice (some ⟨g',0,none⟩) (l.length+1) cap) (l++[y])->w.grownBy w' v.ownBlock->(v.ownBlock=some g'\/g'=w.heap.size)->wpList P ops Q rest (a.put o.dst (.slice (some ⟨g',0,none⟩) (l.length+1) cap)) w') :
 wpList P ops Q (o::rest) a w:=by
 obtain⟨i0,hi,dQ,bw,ed⟩:=info_parts lj;refine wpList_append_lies w eu s x t ho base e i0 z sz bytes ht hi dQ bw ed r9 aT v l.length (l.flatMap C) hv ae ⟨g,0,none⟩ 1 c (C y) hX (by rw[hC,Nat.one_mul]) (fun j u hu=> ?_) (tq y) (by omega) n9 fJ aH _ rfl ?_
 ·have cJ:(⟨g,0,none⟩:Addr).add j=⟨g,j,none⟩:=by unfold Addr.add; split <;> simp_all
  rw[cJ];exact hy j u hu
 ·intro g' cap w' gA hg br _;refine hK g' cap w' ?_ hg br;unfold ZJ;rw[List.length_append,List.flatMap_append];simpa using gA
end
def Zdb (w:World) (base:Nat) (e:TypeId) (v:Value) (xs:List Value):Prop:=w.ownsRow base e 1 v xs.length xs
theorem Zdb.nil (w:World) (base:Nat) (e:TypeId):Zdb w base e (.slice none 0 0) []:=World.ownsRow_nil w base _ 1
theorem Zdb.of_block {w w':World} {base:Nat} {e:TypeId} {v:Value} {xs:List Value} (h:Zdb w base e v xs) (hs:w.heap.size<=w'.heap.size) (hb: ∀ k,v.ownBlock=some k->w'.heap[k]? =w.heap[k]?):Zdb w' base e v xs:=by
 refine⟨h.1,?_⟩;rcases h.2 with h2|⟨g,cap,cur,hv,hg,hh,r⟩
 ·exact Or.inl h2
 ·exact Or.inr ⟨g,cap,cur,hv,hg,by rw[hb g (by rw[hv]; rfl)]; exact hh,r⟩
theorem Zdb.lt {w:World} {base:Nat} {e:TypeId} {v:Value} {xs:List Value} (h:Zdb w base e v xs): ∀ k,v.ownBlock=some k->base<=k/\k<w.heap.size:=World.ownsRow.lt h
theorem Zdb.below {w w':World} {base:Nat} {e:TypeId} {v:Value} {xs:List Value} (h:Zdb w base e v xs) (hb:Below w.heap.size w w'):Zdb w' base e v xs :=
 h.of_block hb.size fun k hk=>hb.block k (h.lt k hk).2
theorem Zdb.alloc {w:World} {base:Nat} {e:TypeId} {v:Value} {xs:List Value} (h:Zdb w base e v xs) (o:Obj):Zdb (w.alloc o) base e v xs:=h.below ((Below.refl _ _).alloc (Nat.le_refl _) o)
theorem Zdb.drew {w:World} {base:Nat} {e:TypeId} {v:Value} {xs:List Value} (h:Zdb w base e v xs):Zdb w.drew base e v xs:=h
end Go.Proofs.YtplgdpjbkdagfaaGreat
namespace Go.Proofs.YtplgdpjbkdagfaaGreat
set_option maxRecDepth 100000
set_option linter.unusedVariables false
set_option linter.unusedSimpArgs false
section
variable {P:Program} {ops:Array Oper} {Q:Exit->Act->World->Prop} {md:Region.Mode} {S R:World->Prop} {k:Nat}
def YI (P:Program) (md:Region.Mode) (ops:Array Oper) (Q:Exit->Act->World->Prop) (S R:World->Prop) (k:Nat):Nat->Array Bool->Act->World->Prop
 | 0,ab,a,w=>Region.ready md ops ab=[]/\Q .normal a w
 | fuel+1,ab,a,w =>
   (Region.ready md ops ab=[]->Q .normal a w) /\
   ∀ i∈Region.ready md ops ab,wpOp P ops Q i (fun a' w'=>(S w'/\((ab.setIfInBounds i true).getD k true=false->R w'))/\YI P md ops Q S R k fuel (ab.setIfInBounds i true) a' w') a w
theorem Qw: ∀(fuel:Nat) (ab:Array Bool) (a:Act) (w:World),YI P md ops Q S R k fuel ab a w->wpAny P md ops Q fuel ab a w
 | 0,_,_,_,h=>h
 | fuel+1,_,_,_,h=>⟨h.1,fun i hi=>wpOp_mono (fun a' w' h'=>Qw fuel _ a' w' h'.2) (h.2 i hi)⟩
theorem Zcb {T:World->Prop} {I:Array Bool->Prop} {i:Nat} {oi:Oper} {v:Value} (hi:ops[i]? =some oi) (qd: ∀(j:Nat) (o:Oper) cs b,ops[j]? =some o->o.op≠ .select cs b)
 (hQ: ∀ c a w,Q (.panic c) (a.put oi.dst v) w->Q (.panic c) a w) (jD:i≠k)
 (hT: ∀ l w,I l->S w->(l.getD k true=false->R w)->T w)
 (hI: ∀ l j,I l->i∈Region.ready md ops l->j∈Region.ready md ops l->j≠i->I (l.setIfInBounds j true)) :
 ∀(fuel:Nat) (ab:Array Bool) (a:Act) (w:World),I ab ->
  (∀ j oj,ops[j]? =some oj->j≠i->ab.getD j true=false->(∀ e∈oj.after,Region.binds md e=true->e.on≠i)->oi.apart ops oj=true) ->
  i∈Region.ready md ops ab->YieldsIf P ops T oi v a->S w->(ab.getD k true=false->R w) ->
  YI P md ops Q S R k fuel (ab.setIfInBounds i true) (a.put oi.dst v) w->YI P md ops Q S R k (fuel+1) ab a w:=by
 have iu: ∀ l:Array Bool,(l.setIfInBounds i true).getD k true=l.getD k true:=fun l=>getD_set_ne true jD;intro fuel;induction fuel with
 | zero =>
   intro ab a w r8 _ hr hy hS hR H;refine⟨fun h=>(by rw[h] at hr; cases hr),fun j hj=> ?_⟩;by_cases j9:j=i
   ·subst j9; exact hy.wpOp hi (hT ab w r8 hS hR) ⟨⟨hS,by rw[iu]; exact hR⟩,H⟩
   ·have:=ready_mono hj j9;rw[H.1] at this;cases this
 | succ fuel ih =>
   intro ab a w r8 lh hr hy hS hR H;refine⟨fun h=>(by rw[h] at hr; cases hr),fun j hj=> ?_⟩;by_cases j9:j=i
   ·subst j9; exact hy.wpOp hi (hT ab w r8 hS hR) ⟨⟨hS,by rw[iu]; exact hR⟩,H⟩
   ·have h1:=H.2 j (ready_mono hj j9);obtain⟨qe,oj,vI,bu⟩:=mem_ready.1 hj;have vH: ∀ e∈oj.after,Region.binds md e=true->e.on≠i:=fun e he hb heq=>by
     have h1:=bu e he hb;have h0:=(mem_ready.1 hr).1;rw[heq] at h1;rcases Nat.lt_or_ge i ab.size with h'|h'
     ·simp[h'] at h0 h1; rw[h0] at h1; cases h1
     ·simp[Array.getElem?_eq_none h'] at h1
    have h2:=wpOp_putIf vI (lh j oj vI j9 qe vH) (fun cs b=>qd i oi cs b hi) (fun cs b=>qd j oj cs b vI) hQ hy h1;have mQ: ∀ k ok,ops[k]? =some ok->k≠i->(ab.setIfInBounds j true).getD k true=false ->
     (∀ e∈ok.after,Region.binds md e=true->e.on≠i)->oi.apart ops ok=true:=fun k ok hk EL zP mc=>by
     refine lh k ok hk EL ?_ mc;by_cases tP:j=k
     ·subst tP; exact qe
     ·rw[getD_set_ne true tP] at zP; exact zP
    refine wpOp_mono (fun a' w' h3=> ?_) h2;have mF:(ab.setIfInBounds i true).setIfInBounds j true=(ab.setIfInBounds j true).setIfInBounds i true:=Array.setIfInBounds_comm _ _ (Ne.symm j9);have oy:(ab.setIfInBounds j true).getD k true=false->R w':=fun e=>h3.2.1.2 (by rw[mF,iu]; exact e);refine⟨⟨h3.2.1.1,oy⟩,ih (ab.setIfInBounds j true) a' w' (hI _ _ r8 hr hj j9) mQ (ready_mono hr (Ne.symm j9)) h3.1 h3.2.1.1 oy ?_⟩;rw[<-mF];exact h3.2.2
theorem JC {i:Nat} {oi:Oper} {v:Value} {fuel:Nat} {ab:Array Bool} {a:Act} {w:World} (hi:ops[i]? =some oi)
 (hs:Region.noSelect ops=true) (hf:Region.free md ops ab i=true) (hr:(Region.ready md ops ab).contains i=true)
 (hQ: ∀ c a w,Q (.panic c) (a.put oi.dst v) w->Q (.panic c) a w) (jD:i≠k) (hy:YieldsIf P ops S oi v a) (hS:S w) (hR:ab.getD k true=false->R w)
 (h:YI P md ops Q S R k fuel (ab.setIfInBounds i true) (a.put oi.dst v) w):YI P md ops Q S R k (fuel+1) ab a w :=
 Zcb (T:=S) (I:=fun _=>True) hi (Region.noSelect_spec hs) hQ jD (fun _ _ _ h _=>h) (fun _ _ _ _ _ _=>trivial) fuel ab a w trivial (Region.free_spec hi hf) (by simpa using hr) hy hS hR h
theorem wT {i:Nat} {oi:Oper} {v:Value} {fuel:Nat} {ab:Array Bool} {a:Act} {w:World} (hi:ops[i]? =some oi) (hy:YieldsIf P ops S oi v a) (hS:S w) (h:YI P md ops Q S R k fuel (ab.setIfInBounds i true) (a.put oi.dst v) w) (hs:Region.noSelect ops=true:=by kernel_rfl) (hf:Region.free md ops ab i=true:=by kernel_rfl) (hr:(Region.ready md ops ab).contains i=true:=by kernel_rfl) (hQ: ∀ c a w,Q (.panic c) (a.put oi.dst v) w->Q (.panic c) a w:=by exact fun _ _ _ h=>h) (jD:i≠k:=by decide) (hR:ab.getD k true=false->R w:=by exact fun _=>trivial):YI P md ops Q S R k (fuel+1) ab a w:=
 JC hi hs hf hr hQ jD hy hS hR h
theorem Zgw {i:Nat} {o:Oper} {fuel:Nat} {ab:Array Bool} {a:Act} {w:World} (hr:Region.ready md ops ab=[i]) (ho:ops[i]? =some o)
 (h: ∀ K':Act->World->Prop,Shut (∀ a w,S w->((ab.setIfInBounds i true).getD k true=false->R w)->YI P md ops Q S R k fuel (ab.setIfInBounds i true) a w->K' a w)->if Region.wanted o (yielded ops a.tmps)=true then Oper.wp P o a w K' Q else K' (a.put o.dst undef) w) :
 YI P md ops Q S R k (fuel+1) ab a w :=
 ⟨fun h0=>absurd (hr ▸ h0) (by simp),fun j hj=>by
   rw[hr,List.mem_singleton] at hj;subst hj;exact wpOp_step ho (fun K' hK=>h K' (fun a w hS hR hW=>hK a w ⟨⟨hS,hR⟩,hW⟩))⟩
theorem wU {P:Program} {md:Region.Mode} {ops:Array Oper} {Q:Exit->Act->World->Prop} {S R:World->Prop} {k:Nat} {i:Nat} {oi:Oper} {v:Value} {fuel:Nat} {ab l':Array Bool} {a a':Act} {w:World} (hS:S w) (h:YI P md ops Q S R k fuel l' a' w)
 (hi:ops[i]? =some oi:=by(simp only[List.getElem?_toArray,List.getElem?_cons_succ,List.getElem?_cons_zero]; rfl))
 (hy:YieldsIf P ops S oi v a:=by(first|exact Or.inr ⟨by rfl,rfl⟩|(refine Or.inl ⟨by rfl,?_⟩; intro W aL; clear aL; go_simp; try with_reducible rfl)))
 (hl:ab.setIfInBounds i true=l':=by(first|(simp only[List.setIfInBounds_toArray,List.set_cons_zero,List.set_cons_succ]; rfl)|rfl))
 (ha:a.put oi.dst v=a':=by(first|(simp only[Act.put,List.setIfInBounds_toArray,List.set_cons_zero,List.set_cons_succ]; rfl)|rfl))
 (hs:Region.noSelect ops=true:=by kernel_rfl) (hf:Region.free md ops ab i=true:=by kernel_rfl) (hr:(Region.ready md ops ab).contains i=true:=by kernel_rfl)
 (hQ: ∀ c a w,Q (.panic c) (a.put oi.dst v) w->Q (.panic c) a w:=by exact fun _ _ _ h=>h) (jD:i≠k:=by decide) (hR:ab.getD k true=false->R w:=by exact fun _=>trivial):YI P md ops Q S R k (fuel+1) ab a w:=by
 subst hl ha;exact JC hi hs hf hr hQ jD hy hS hR h
theorem wO {P:Program} {md:Region.Mode} {ops:Array Oper} {Q:Exit->Act->World->Prop} {S R:World->Prop} {k:Nat} {i:Nat} {o:Oper} {fuel:Nat} {ab:Array Bool} {a:Act} {w:World}
 (h: ∀ K':Act->World->Prop,Shut (∀ a w,S w->((ab.setIfInBounds i true).getD k true=false->R w)->YI P md ops Q S R k fuel (ab.setIfInBounds i true) a w->K' a w)->if Region.wanted o (yielded ops a.tmps)=true then Oper.wp P o a w K' Q else K' (a.put o.dst undef) w)
 (ho:ops[i]? =some o:=by(simp only[List.getElem?_toArray,List.getElem?_cons_succ,List.getElem?_cons_zero]; rfl)) (hr:Region.ready md ops ab=[i]:=by kernel_rfl):YI P md ops Q S R k (fuel+1) ab a w :=
 Zgw hr ho h
theorem Zo {ab:Array Bool} {a:Act} {w:World} (hr:Region.ready md ops ab=[]) (h:Q .normal a w) :
 ∀ fuel,YI P md ops Q S R k fuel ab a w
 | 0=>⟨hr,h⟩
 | _+1=>⟨fun _=>h,by rw[hr]; simp⟩
theorem Zt (S R:World->Prop) (k:Nat) {id:Nat} {a:Act} {w:World} (hm:P.follows .mixedOrders=true)
 (h:YI P .any ops Q S R k ops.size (Array.replicate ops.size false) a w.drew):(Code.region id ops true).wp P Q a w :=
 wp_region_any hm (Qw _ _ _ _ h)
theorem Wr {T:World->Prop} {o:Oper} {a:Act} (ty:TypeId) (x:Operand) (g:Nat) (t:TypeId) (cs:Array Value) (fr:Nat × Nat) (eu:o.guard=none) (ho:o.op= .load ty x)
 (hx:a.eval x= .pointer (some ⟨g,0,none⟩)) (hg: ∀ W,T W->W.heap[g]? =some (.cells cs t fr))
 (hu:(match P.underlying ty with|some (.struct _)=>true|some (.array _ _)=>true|_=>false)=true) (hi:(P.info? ty).map (·.size)=some cs.size) :
 YieldsIf P ops T o (.agg cs) a:=by
 refine Or.inl ⟨by simp[Region.wanted,eu],fun w hw=> ?_⟩;obtain⟨d,hd,zO⟩: ∃ d,P.underlying ty=some d/\(match d with| .struct _| .array _ _=>true|_=>false)=true:=by
  cases h:P.underlying ty with
  | none=>rw[h] at hu; cases hu
  | some d=>exact⟨d,rfl,by rw[h] at hu; cases d <;> first|rfl|exact hu⟩
 unfold execOp;simp only[ho,hx,Instr.loadAt,Instr.sureAddr,Sem.run_bind,Sem.run_pure,Result.andThen_ok,run_loadVar_row w g t ty cs fr d (hg w hw) hd (by cases d <;> first|rfl|exact zO) hi]
theorem Zlt {Y:Act->Prop} {j:Nat} {oj:Oper} {K:Act->World->Prop} {a:Act} {w:World} (hj:ops[j]? =some oj) (h1: ∀ u,Y (a.put oj.dst u)) (h2: ∀ d u,Y (({ a with defers:=d::a.defers }:Act).put oj.dst u))
 (h:wpOp P ops Q j K a w):wpOp P ops Q j (fun a' w'=>Y a'/\K a' w') a w:=by
 unfold wpOp at *;simp only[hj] at *;by_cases hw:Region.wanted oj (yielded ops a.tmps)=true
 ·rw[if_pos hw] at h ⊢;rcases h with h|h
  ·left;unfold Oper.wp at *;revert h
   generalize (execOp a.eval oj).run P w=r;intro h;cases r with
   | ok n w' =>
     cases n with
     | value u=>exact⟨h1 u,h⟩
     | skip=>exact⟨h1 _,h⟩
     | defer d=>exact⟨h2 d _,h⟩
     | enter f args =>
       refine Calls.mono h fun e vG he=> ?_;cases e with
       | returned u=>exact⟨h1 u,he⟩
       | panicked c=>exact he
       | outgrown=>exact he
     | row row args=>exact Rows.mono h fun u vG he=>⟨h1 u,he⟩
     | _=>exact h
   | halt x w'=>cases x <;> exact h
  ·exact .inr h
 ·rw[if_neg hw] at h ⊢;exact⟨h1 _,h⟩
def XD (P:Program) (ops:Array Oper) (S:World->Prop) (o:Oper) (v:Value) (a:Act):Prop :=
 Region.wanted o (yielded ops a.tmps)=true/\ ∀ w,S w-> ∃ f args,(execOp a.eval o).run P w= .ok (.enter f args) w/\Calls P f args w fun e w'=>e= .returned v/\w=w'
theorem XD.of_same {o:Oper} {v:Value} {a a':Act} {S:World->Prop} (hy:XD P ops S o v a) (he:execOp a'.eval o=execOp a.eval o)
 (hw:Region.wanted o (yielded ops a'.tmps)=Region.wanted o (yielded ops a.tmps)):XD P ops S o v a':=by
 unfold XD at *;rw[he,hw];exact hy
theorem XD.wpOp {i:Nat} {o:Oper} {v:Value} {a:Act} (hi:ops[i]? =some o) (hy:XD P ops S o v a) {K:Act->World->Prop} {w:World} (hS:S w) (h:K (a.put o.dst v) w):wpOp P ops Q i K a w:=by
 unfold Go.wpOp;obtain⟨hw,hv⟩:=hy;obtain⟨f,args,hr,hc⟩:=hv w hS;simp only[hi,hw,if_true];left;unfold Oper.wp;rw[hr];refine Calls.mono hc ?_;rintro e w' ⟨rfl,rfl⟩;exact h
theorem Zi6 {j:Nat} {oi oj:Oper} {v:Value} (hj:ops[j]? =some oj) (Iq:oi.apart ops oj=true)
 (EM: ∀ cs b,oi.op≠ .select cs b) (Mx: ∀ cs b,oj.op≠ .select cs b) (hQ: ∀ c a w,Q (.panic c) (a.put oi.dst v) w->Q (.panic c) a w) {K:Act->World->Prop} {a:Act} {w:World}
 (hy:XD P ops S oi v a) (h:wpOp P ops Q j K (a.put oi.dst v) w):wpOp P ops Q j (fun a' w'=>XD P ops S oi v a'/\K (a'.put oi.dst v) w') a w:=by
 obtain⟨_,_,h3⟩:=Oper.apart_spec Iq;have hF:YieldsIf P ops (fun _=>False) oi v a:= .inl ⟨hy.1,fun _ h=>h.elim⟩;have h':=wpOp_putIf hj Iq EM Mx hQ hF h;have BZ:=Zlt (Y:=XD P ops S oi v) hj
  (fun u=>hy.of_same (execOp_put oi EM a oj.dst u h3) (wanted_put oi a oj.dst u h3))
  (fun d u=>(show XD P ops S oi v ({ a with defers:=d::a.defers }:Act) from hy.of_same rfl rfl).of_same (execOp_put oi EM _ oj.dst u h3) (wanted_put oi _ oj.dst u h3)) h'
 exact wpOp_mono (fun a' w' q=>⟨q.1,q.2.2⟩) BZ
theorem Zap {T:World->Prop} {I:Array Bool->Prop} {i:Nat} {oi:Oper} {v:Value} (hi:ops[i]? =some oi) (qd: ∀(j:Nat) (o:Oper) cs b,ops[j]? =some o->o.op≠ .select cs b)
 (hQ: ∀ c a w,Q (.panic c) (a.put oi.dst v) w->Q (.panic c) a w) (jD:i≠k)
 (hT: ∀ l w,I l->S w->(l.getD k true=false->R w)->T w)
 (hI: ∀ l j,I l->i∈Region.ready md ops l->j∈Region.ready md ops l->j≠i->I (l.setIfInBounds j true)) :
 ∀(fuel:Nat) (ab:Array Bool) (a:Act) (w:World),I ab ->
  (∀ j oj,ops[j]? =some oj->j≠i->ab.getD j true=false->(∀ e∈oj.after,Region.binds md e=true->e.on≠i)->oi.apart ops oj=true) ->
  i∈Region.ready md ops ab->XD P ops T oi v a->S w->(ab.getD k true=false->R w) ->
  YI P md ops Q S R k fuel (ab.setIfInBounds i true) (a.put oi.dst v) w->YI P md ops Q S R k (fuel+1) ab a w:=by
 have iu: ∀ l:Array Bool,(l.setIfInBounds i true).getD k true=l.getD k true:=fun l=>getD_set_ne true jD;intro fuel;induction fuel with
 | zero =>
   intro ab a w r8 _ hr hy hS hR H;refine⟨fun h=>(by rw[h] at hr; cases hr),fun j hj=> ?_⟩;by_cases j9:j=i
   ·subst j9; exact hy.wpOp hi (hT ab w r8 hS hR) ⟨⟨hS,by rw[iu]; exact hR⟩,H⟩
   ·have:=ready_mono hj j9;rw[H.1] at this;cases this
 | succ fuel ih =>
   intro ab a w r8 lh hr hy hS hR H;refine⟨fun h=>(by rw[h] at hr; cases hr),fun j hj=> ?_⟩;by_cases j9:j=i
   ·subst j9; exact hy.wpOp hi (hT ab w r8 hS hR) ⟨⟨hS,by rw[iu]; exact hR⟩,H⟩
   ·have h1:=H.2 j (ready_mono hj j9);obtain⟨qe,oj,vI,bu⟩:=mem_ready.1 hj;have vH: ∀ e∈oj.after,Region.binds md e=true->e.on≠i:=fun e he hb heq=>by
     have h1:=bu e he hb;have h0:=(mem_ready.1 hr).1;rw[heq] at h1;rcases Nat.lt_or_ge i ab.size with h'|h'
     ·simp[h'] at h0 h1; rw[h0] at h1; cases h1
     ·simp[Array.getElem?_eq_none h'] at h1
    have h2:=Zi6 vI (lh j oj vI j9 qe vH) (fun cs b=>qd i oi cs b hi) (fun cs b=>qd j oj cs b vI) hQ hy h1;have mQ: ∀ k ok,ops[k]? =some ok->k≠i->(ab.setIfInBounds j true).getD k true=false ->
     (∀ e∈ok.after,Region.binds md e=true->e.on≠i)->oi.apart ops ok=true:=fun k ok hk EL zP mc=>by
     refine lh k ok hk EL ?_ mc;by_cases tP:j=k
     ·subst tP; exact qe
     ·rw[getD_set_ne true tP] at zP; exact zP
    refine wpOp_mono (fun a' w' h3=> ?_) h2;have mF:(ab.setIfInBounds i true).setIfInBounds j true=(ab.setIfInBounds j true).setIfInBounds i true:=Array.setIfInBounds_comm _ _ (Ne.symm j9);have oy:(ab.setIfInBounds j true).getD k true=false->R w':=fun e=>h3.2.1.2 (by rw[mF,iu]; exact e);refine⟨⟨h3.2.1.1,oy⟩,ih (ab.setIfInBounds j true) a' w' (hI _ _ r8 hr hj j9) mQ (ready_mono hr (Ne.symm j9)) h3.1 h3.2.1.1 oy ?_⟩;rw[<-mF];exact h3.2.2
theorem Zz {i:Nat} {oi:Oper} {v:Value} {fuel:Nat} {ab:Array Bool} {a:Act} {w:World} (hi:ops[i]? =some oi)
 (hs:Region.noSelect ops=true) (hf:Region.free md ops ab i=true) (hr:(Region.ready md ops ab).contains i=true)
 (hQ: ∀ c a w,Q (.panic c) (a.put oi.dst v) w->Q (.panic c) a w) (jD:i≠k) (hy:XD P ops S oi v a) (hS:S w) (hR:ab.getD k true=false->R w)
 (h:YI P md ops Q S R k fuel (ab.setIfInBounds i true) (a.put oi.dst v) w):YI P md ops Q S R k (fuel+1) ab a w :=
 Zap (T:=S) (I:=fun _=>True) hi (Region.noSelect_spec hs) hQ jD (fun _ _ _ h _=>h) (fun _ _ _ _ _ _=>trivial) fuel ab a w trivial (Region.free_spec hi hf) (by simpa using hr) hy hS hR h
theorem XM {i j:Nat} {o o2:Oper} {fuel:Nat} {ab:Array Bool} {a:Act} {w:World} (hr:Region.ready md ops ab=[i,j]) (ho:ops[i]? =some o) (dJ:ops[j]? =some o2)
 (h: ∀ K':Act->World->Prop,Shut (∀ a w,S w->((ab.setIfInBounds i true).getD k true=false->R w)->YI P md ops Q S R k fuel (ab.setIfInBounds i true) a w->K' a w)->if Region.wanted o (yielded ops a.tmps)=true then Oper.wp P o a w K' Q else K' (a.put o.dst undef) w)
 (h2: ∀ K':Act->World->Prop,Shut (∀ a w,S w->((ab.setIfInBounds j true).getD k true=false->R w)->YI P md ops Q S R k fuel (ab.setIfInBounds j true) a w->K' a w)->if Region.wanted o2 (yielded ops a.tmps)=true then Oper.wp P o2 a w K' Q else K' (a.put o2.dst undef) w) :
 YI P md ops Q S R k (fuel+1) ab a w :=
 ⟨fun h0=>absurd (hr ▸ h0) (by simp),fun q hq=>by
   rw[hr] at hq;rcases List.mem_cons.1 hq with e|hq
   ·subst e; exact wpOp_step ho (fun K' hK=>h K' (fun a w hS hR hW=>hK a w ⟨⟨hS,hR⟩,hW⟩))
   ·rw[List.mem_singleton] at hq;subst hq; exact wpOp_step dJ (fun K' hK=>h2 K' (fun a w hS hR hW=>hK a w ⟨⟨hS,hR⟩,hW⟩))⟩
end
end Go.Proofs.YtplgdpjbkdagfaaGreat
