import Derived.Maps.AppendAt
import Derived.Deep.AppendLies
import Derived.Deep.AppendSrc
import Derived.Deep.OwnRows
import Derived.Deep.Upon
import Derived.Lib.LazyBuf
import Derived.OwnWalk
namespace Go.Proofs.YtplgdpjbkdagfaaGreat
set_option maxRecDepth 100000
open Go.RowKit
set_option linter.unusedVariables false
set_option linter.unusedSimpArgs false
section
variable {P:Program} (w:World)
theorem Zd2 (base:Nat) (t tx ty e:TypeId) (i:TypeInfo) (z:Value) (bytes:Nat) (ht:P.underlying t=some (.slice e)) (hi:P.info? e=some i) (hz:i.zero=some z)
 (iI:i.size=1) (Ff:i.bytes=bytes) (r9:z.cells.size=1)
 (v:Value) (n:Nat) (xs:List Value) (ae:w.ownsRow base e 1 v n xs) (x:Value) (m:Nat) (news:List Value) (hs:Src P 1 tx x m news w)
 (n9:n+m<=maxLen) (fJ:(n+m) * bytes<=140737488355328) (aH:base<=w.heap.size) :
 ∃ v' w',(Builtin.append_ #[t,tx] ty #[v,x]).run P w= .ok v' w'/\w'.ownsRow base e 1 v' (n+m) (xs++news)/\w.grownBy w' v.ownBlock /\
   (v'= .slice none 0 0↔v= .slice none 0 0/\m=0)/\(v'.ownBlock=v.ownBlock\/v'.ownBlock=some w.heap.size):=by
 subst Ff;have lM:Src P i.size tx x m news w:=by rw[iI]; exact hs
 have Fe:n+m<=9223372036854775807:=by simp only[maxLen] at n9; omega
 have jz:news.length=m:=by rw[hs.newsLen,Nat.mul_one]
 have vx:xs.length=n:=by rw[ae.1,Nat.mul_one]
 have hlen:(xs++news).length=(n+m) * 1:=by rw[List.length_append,vx,jz,Nat.mul_one]
 have grown: ∀(old:Nat),old<n+m-> ∀(row:Option Nat),
  (w.drew.alloc (.cells ((xs++news).toArray++Builtin.zeroCells z.cells (grownCap w (n+m) old e - (n+m))) e)).ownsRow base e 1
    (.slice (some ⟨w.heap.size,0,none⟩) (n+m) (grownCap w (n+m) old e)) (n+m) (xs++news) /\
  w.grownBy (w.drew.alloc (.cells ((xs++news).toArray++Builtin.zeroCells z.cells (grownCap w (n+m) old e - (n+m))) e)) row:=by
  intro old ho row;have gK:=grownCap_ge w (n+m) old e;have gL:grownCap w (n+m) old e<=maxLen:=grownCap_le_maxLen w (n+m) old e n9;refine⟨⟨hlen,.inr ⟨w.heap.size,_,_,rfl,aH,heap_alloc_new w.drew _,gK,gL,?_,?_⟩⟩,⟨rfl,rfl,rfl,by simp,fun k hk _=>heap_alloc_old w.drew _ k hk⟩⟩
  ·simp only[Array.size_append,List.size_toArray,size_zeroCells,r9,List.length_append,vx,jz];omega
  ·simp only[Array.toList_append];rw[<-hlen];exact List.take_left
 rcases ae.2 with⟨rfl,rfl⟩|⟨g,cap,cur,rfl,MP,hg,PI,gL,bm,z'⟩
 ·have hx:xs=[]:=List.eq_nil_of_length_eq_zero vx;subst hx;by_cases hm:m=0
  ·subst hm;have hn:news=[]:=List.eq_nil_of_length_eq_zero jz;subst hn;refine⟨.slice none 0 0,w,?_,World.ownsRow_nil w base e 1,⟨rfl,rfl,rfl,Nat.le_refl _,fun _ _ _=>rfl⟩,by simp,Or.inl rfl⟩;rw[run_append_nothing w t tx ty e i ht hi none 0 0 (Nat.le_refl _) x lM]
  ·have hr:=run_append_grow_src (P:=P) w t tx ty e i z ht hi hz none 0 0 [] (by simp[Builtin.firstCells]) x m news lM (by omega) (by omega) (growslice_fits (by omega) fJ);have z7:=grown 0 (by omega) (Value.ownBlock (.slice none 0 0));exact⟨_,_,hr,z7.1,z7.2,by simp[hm],Or.inr rfl⟩
 ·have holds: ∀ j u,xs[j]? =some u->w.cell? ((⟨g,0,none⟩:Addr).add j)=some u:=ae.cells (g:=g) rfl;by_cases cQ:n+m<=cap
  ·have cE:w.rowIs g e cap (fun j=>cur[j]?.getD default):=⟨cur,hg,by omega,fun j hj=>by show cur[j]? =some (cur[j]?.getD default); rw[Array.getElem?_eq_getElem (by omega)]; rfl⟩;have hr:=run_append_room_src (P:=P) w t tx ty e i ht hi g 0 n cap x m news lM cQ
    (fun j hj=>by rw[iI,Nat.mul_one,Nat.zero_add,cE.cell (by omega)]; rfl) (fun j hj=>by rw[iI,Nat.mul_one,Nat.zero_add]; exact cE.frozen _)
   rw[iI,Nat.mul_one,Nat.zero_add] at hr;have z8:=rowIs_setCells (b:=g) news n w _ cE;obtain⟨c,hb,hn,hc⟩:=z8;refine⟨_,_,hr,⟨hlen,.inr ⟨g,cap,c,rfl,MP,hb,cQ,gL,by omega,?_⟩⟩,⟨?_,?_,?_,?_,?_⟩,by simp,Or.inl rfl⟩
   ·apply List.ext_getElem?;intro j;rcases Nat.lt_or_ge j (n+m) with hj|hj
    ·rw[List.getElem?_take_of_lt (by omega),Array.getElem?_toList,hc j (by omega)];show some (if n<=j/\j<n+news.length then news[j - n]?.getD default else cur[j]?.getD default)=_
     rcases Nat.lt_or_ge j n with h1|h1
     ·rw[if_neg (by omega),List.getElem?_append_left (by omega)];have h2:xs[j]? =cur[j]? :=by rw[<-z',List.getElem?_take_of_lt (by omega),Array.getElem?_toList]
      rw[h2,Array.getElem?_eq_getElem (by omega)]; rfl
     ·rw[if_pos (by omega),List.getElem?_append_right (by omega),vx,List.getElem?_eq_getElem (by omega)]; rfl
    ·rw[List.getElem?_eq_none (by rw[List.length_take]; omega),List.getElem?_eq_none (by rw[List.length_append]; omega)]
   ·exact World.os_setCells w g n news
   ·exact(below_setCells (Nat.zero_le g) news n w (Below.refl 0 w)).tape
   ·exact World.output_setCells w g n news
   ·exact(below_setCells (Nat.zero_le g) news n w (Below.refl 0 w)).size
   ·intro k hk bK;exact World.heap_setCells_other w g n news hk (fun e=>bK (by rw[e]; rfl))
  ·have hr:=run_append_grow_src (P:=P) w t tx ty e i z ht hi hz (some ⟨g,0,none⟩) n cap xs (by rw[iI]; exact run_firstCells_some w.drew 1 n ⟨g,0,none⟩ n cap xs ae.1 (by simpa using holds)) x m news lM (by omega) (by omega) (growslice_fits (by omega) fJ);have z7:=grown cap (by omega) (Value.ownBlock (.slice (some ⟨g,0,none⟩) n cap));exact⟨_,_,hr,z7.1,z7.2,by simp,Or.inr rfl⟩
theorem JY {ops:Array Oper} {rest:List Oper} {o:Oper} {a:Act} {Q:Exit->Act->World->Prop} (eu:o.guard=none) (s x:Operand) (t tx:TypeId)
 (ho:o.op= .call { callee:= .builtin .append,args:= #[s,x],argTypes:= #[t,tx] })
 (base:Nat) (e:TypeId) (i:TypeInfo) (z:Value) (bytes:Nat) (ht:P.underlying t=some (.slice e)) (hi:P.info? e=some i) (hz:i.zero=some z)
 (iI:i.size=1) (Ff:i.bytes=bytes) (r9:z.cells.size=1)
 (v:Value) (n:Nat) (xs:List Value) (hv:a.eval s=v) (ae:w.ownsRow base e 1 v n xs) (X:Value) (hX:a.eval x=X) (m:Nat) (news:List Value) (hs:Src P 1 tx X m news w)
 (n9:n+m<=maxLen) (fJ:(n+m) * bytes<=140737488355328) (aH:base<=w.heap.size)
 (h: ∀ v' w',w'.ownsRow base e 1 v' (n+m) (xs++news)->w.grownBy w' v.ownBlock->(v'= .slice none 0 0↔v= .slice none 0 0/\m=0)->(v'.ownBlock=v.ownBlock\/v'.ownBlock=some w.heap.size)->wpList P ops Q rest (a.put o.dst v') w') :
 wpList P ops Q (o::rest) a w:=by
 refine wpList_plain eu fun K hK=> ?_;obtain⟨v',w',hr,h2,h3,h4,h5⟩:=Zd2 (P:=P) w base t tx o.type e i z bytes ht hi hz iI Ff r9 v n xs ae X m news hs n9 fJ aH;unfold Oper.wp execOp;simp only[ho,resolve,invoke,builtin,Sem.run_bind,Sem.run_pure,Result.andThen_ok,List.map_toArray,List.map_cons,List.map_nil,hv,hX,hr];exact hK _ _ (h v' w' h2 h3 h4 h5)
end
end Go.Proofs.YtplgdpjbkdagfaaGreat
