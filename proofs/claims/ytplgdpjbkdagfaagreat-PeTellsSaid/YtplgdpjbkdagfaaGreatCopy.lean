import Derived.Test.YtplgdpjbkdagfaaGreatZMem
import Derived.Laws.IdiomCopy
import Derived.Laws.OwnMore
import Derived.OwnWalk
import Derived.Deep.Upon
import Derived.Deep.RegionLaw
namespace Go.Proofs.YtplgdpjbkdagfaaGreat
set_option maxRecDepth 100000
open Go.ChangeShapes Go.WideShapes Go.ChangeAt Go.RowKit
set_option linter.unusedVariables false
set_option linter.unusedSimpArgs false
theorem Xp (g:Nat): ∀(vs:List Value) (o:Nat) (w:World),(w.setCells g o vs).os=w.os/\(w.setCells g o vs).tape=w.tape/\(w.setCells g o vs).output=w.output/\(w.setCells g o vs).heap.size=w.heap.size
 | [],_,_=>⟨rfl,rfl,rfl,rfl⟩
 | v::r,o,w=>by
   obtain⟨h1,h2,h3,h4⟩:=Xp g r (o+1) (w.setCell ⟨g,o,none⟩ v);refine⟨h1.trans rfl,h2.trans rfl,h3.trans rfl,h4.trans (by simp[World.setCell])⟩
theorem US (w:World) (g o:Nat) (vs:List Value):w.grownBy (w.setCells g o vs) (some g):=by
 obtain⟨h1,h2,h3,h4⟩:=Xp g vs o w;exact⟨h1,h2,h3,Nat.le_of_eq h4.symm,fun i hi bK=>World.heap_setCells_other w g o vs hi (fun e=>bK (by rw[e]))⟩
theorem Own.setCells {w:World} {g n:Nat} {f:Nat->Value} (h:Own w g n f) (o k:Nat) (c:Nat->Value) (hk:o+k<=n) :
 Own (w.setCells g o ((List.range k).map c)) g n (fun q=>if o<=q/\q<o+k then c (q - o) else f q):=by
 refine⟨by rw[(Xp g _ o w).2.2.2]; exact h.1,fun q hq=>⟨?_,?_⟩⟩
 ·by_cases e:o<=q/\q<o+k
  ·have h2:=World.cell?_setCells_in g ((List.range k).map c) o w (fun j hj=>by rw[h.cell (i:=o+j) (by simp at hj; omega)]; rfl) (q - o) (by simp; omega);rw[show o+(q - o)=q by omega] at h2;rw[h2];simp[e]
  ·rw[World.cell?_setCells_out g _ o w ⟨g,q,none⟩ (fun _ _=>by simp; omega),h.cell hq];simp only[if_neg e]
 ·rw[World.frozen?_setCells]; exact h.frozen hq
theorem Zah {P:Program} {ops:Array Oper} {o:Oper} {a:Act} {w:World} {K:Act->World->Prop} {Q:Exit->Act->World->Prop} {E:Prop} (eu:o.guard=none) (d s:Operand) (dT sT:TypeId)
 (ho:o.op= .call { callee:= .builtin .copy,args:= #[d,s],argTypes:= #[dT,sT] }) (elem:TypeId) (hu:P.underlying dT=some (.slice elem)) (aT:(P.info? elem).map (·.size)=some 1)
 (g off vg yY:Nat) (b2 jk:Nat) (iD yZ:Nat) (hd:a.eval d= .slice (some ⟨g,off,none⟩) vg yY) (hs:a.eval s= .slice (some ⟨b2,jk,none⟩) iD yZ)
 (k n:Nat) (f:Nat->Value) (c:Nat->Value) (hk:k=Nat.min iD vg) (ae:Own w g n f) (vh:off+k<=n)
 (DU: ∀ j,j<k->w.cell? ⟨b2,jk+j,none⟩=some (c j)) (h1: ∀ j,(c j).oneCell'=true)
 (h: ∀ w',w.grownBy w' (some g)->Own w' g n (fun q=>if off<=q/\q<off+k then c (q - off) else f q)->K (a.put o.dst (goInt k)) w') :
 if Region.wanted o (yielded ops a.tmps)=true then Oper.wp P o a w K Q else E:=by
 have hw:Region.wanted o (yielded ops a.tmps)=true:=by simp[Region.wanted,eu]
 rw[if_pos hw];have cJ: ∀ j,(⟨b2,jk,none⟩:Addr).add j=⟨b2,jk+j,none⟩:=fun j=>by unfold Addr.add; split <;> simp_all
 have bG:=run_copy_cells (P:=P) w dT sT o.type elem g off vg yY ⟨b2,jk,none⟩ iD yZ ((List.range k).map c) hu aT (by simpa using hk)
  (fun j v hj=>by
    rw[cJ];simp only[List.getElem?_map,Option.map_eq_some_iff] at hj;obtain⟨j2,h2,rfl⟩:=hj;obtain⟨h3,rfl⟩:=List.getElem?_eq_some_iff.1 h2;simpa using DU j (by simpa using h3))
  (fun j hj=>by rw[ae.cell (i:=off+j) (by simp at hj; omega)]; rfl) (fun j hj=>ae.frozen (i:=off+j) (by simp at hj; omega)) (fun v hv=>by simp at hv; obtain⟨j,_,rfl⟩:=hv; exact h1 j)
 unfold Oper.wp;simp[execOp,ho,resolve,invoke,builtin,hd,hs,bG,Result.andThen];exact h _ (US w g off _) (ae.setCells off k c vh)
theorem Ze4 (w:World) (e:TypeId) (n:Nat) (z:Value) (hz:z.cells= #[z]):Own (w.alloc (.cells (madeCells z.cells n) e)) w.heap.size n (fun _=>z):=by
 refine⟨by simp,fun i hi=>⟨?_,by simp[go_sem]⟩⟩;have h:(madeCells z.cells n)[i]? =some z:=by
  simp[madeCells,hi,hz,Nat.mod_one]
 generalize madeCells z.cells n=cs at h;simp[go_sem,h]
theorem Yk {P:Program} (w:World) {ops:Array Oper} {rest:List Oper} {o:Oper} {a:Act} {Q:Exit->Act->World->Prop}
 (hg:o.guard=none) (l c:Operand) (t:TypeId) (vi:o.op=Op.makeSlice t l c)
 (e:TypeId) (z:Value) (bytes:Nat) (h1:P.underlying t=some (.slice e)) (h2:(P.info? e).map (fun i=>(i.zero,i.size,i.bytes))=some (some z,1,bytes)) (hz:z.cells= #[z])
 (kl kc:IntKind) (n:Nat) (hl:a.eval l= .int kl n) (hc:a.eval c= .int kc n) (b2:bytes * n<=281474976710656) (b3:n<=9223372036854775807)
 (hK: ∀ w',Below w.heap.size w w'->Own w' w.heap.size n (fun _=>z)->wpList P ops Q rest (a.put o.dst (.slice (some ⟨w.heap.size,0,none⟩) n n)) w') :
 wpList P ops Q (o::rest) a w:=by
 obtain⟨i,hi,oo⟩:=Option.map_eq_some_iff.1 h2;simp only[Prod.mk.injEq] at oo;obtain⟨z1,z2,z3⟩:=oo;refine wpList_plain hg fun K kS=> ?_;have eM:(i.bytes:Int) * (n:Int)<=281474976710656:=by
  have h:((bytes * n:Nat):Int)<=281474976710656:=by omega
  rw[z3];rwa [Int.natCast_mul] at h
 have bG:=run_make (P:=P) w t e i z h1 hi z1 kl kc n n (by omega) (Int.le_refl _) eM (by omega);rw[z2] at bG;simp only[Int.toNat_natCast,Nat.mul_one] at bG;unfold Oper.wp;simp[execOp,vi,hl,hc,bG,Result.andThen];exact kS _ _ (hK _ ((Below.refl w.heap.size w).alloc (Nat.le_refl _) _) (Ze4 w e n z hz))
end Go.Proofs.YtplgdpjbkdagfaaGreat
