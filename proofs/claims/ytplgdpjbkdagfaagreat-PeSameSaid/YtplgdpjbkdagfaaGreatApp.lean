import Derived.Maps.AppendAt
import Derived.Deep.AppendLies
import Derived.Deep.AppendSrc
import Derived.Deep.OwnRows
import Derived.Deep.Upon
import Derived.Lib.LazyBuf
import Derived.OwnWalk
namespace Go.Proofs.YtplgdpjbkdagfaaGreat
set_option maxRecDepth 100000
open Go.RowKit
set_option linter.unusedVariables false
set_option linter.unusedSimpArgs false
section
variable {P:Program} (w:World)
theorem Zbb (base:Nat) (t tx ty e:TypeId) (i:TypeInfo) (z:Value) (bytes:Nat) (ht:P.underlying t=some (.slice e)) (hi:P.info? e=some i) (hz:i.zero=some z)
 (hsize:i.size=1) (hby:i.bytes=bytes) (hzs:z.cells.size=1)
 (v:Value) (n:Nat) (xs:List Value) (hown:w.ownsRow base e 1 v n xs) (x:Value) (m:Nat) (news:List Value) (hs:Src P 1 tx x m news w)
 (h63:n+m≤maxLen) (hbytes:(n+m) * bytes≤140737488355328) (hbase:base≤w.heap.size) :
 ∃ v' w',(Builtin.append_ #[t,tx] ty #[v,x]).run P w= .ok v' w'∧w'.ownsRow base e 1 v' (n+m) (xs++news)∧w.grownBy w' v.ownBlock ∧
   (v'= .slice none 0 0↔v= .slice none 0 0∧m=0)∧(v'.ownBlock=v.ownBlock∨v'.ownBlock=some w.heap.size):=by
 subst hby
 have hs':Src P i.size tx x m news w:=by rw[hsize]; exact hs
 have hsmall:n+m≤9223372036854775807:=by simp only[maxLen] at h63; omega
 have hnl:news.length=m:=by rw[hs.newsLen,Nat.mul_one]
 have hxl:xs.length=n:=by rw[hown.1,Nat.mul_one]
 have hlen:(xs++news).length=(n+m) * 1:=by rw[List.length_append,hxl,hnl,Nat.mul_one]
 have grown: ∀(old:Nat),old<n+m→ ∀(row:Option Nat),
  (w.drew.alloc (.cells ((xs++news).toArray++Builtin.zeroCells z.cells (grownCap w (n+m) old e - (n+m))) e)).ownsRow base e 1
    (.slice (some ⟨w.heap.size,0,none⟩) (n+m) (grownCap w (n+m) old e)) (n+m) (xs++news) ∧
  w.grownBy (w.drew.alloc (.cells ((xs++news).toArray++Builtin.zeroCells z.cells (grownCap w (n+m) old e - (n+m))) e)) row:=by
  intro old ho row
  have hge:=grownCap_ge w (n+m) old e
  have hcm:grownCap w (n+m) old e≤maxLen:=grownCap_le_maxLen w (n+m) old e h63
  refine⟨⟨hlen,.inr ⟨w.heap.size,_,_,rfl,hbase,heap_alloc_new w.drew _,hge,hcm,?_,?_⟩⟩,⟨rfl,rfl,rfl,by simp,fun k hk _=>heap_alloc_old w.drew _ k hk⟩⟩
  ·simp only[Array.size_append,List.size_toArray,size_zeroCells,hzs,List.length_append,hxl,hnl]
   omega
  ·simp only[Array.toList_append]
   rw[←hlen]
   exact List.take_left
 rcases hown.2 with⟨rfl,rfl⟩|⟨g,cap,cur,rfl,hbg,hg,hnc,hcm,hcs,htake⟩
 ·have hx:xs=[]:=List.eq_nil_of_length_eq_zero hxl
  subst hx
  by_cases hm:m=0
  ·subst hm
   have hn:news=[]:=List.eq_nil_of_length_eq_zero hnl
   subst hn
   refine⟨.slice none 0 0,w,?_,World.ownsRow_nil w base e 1,⟨rfl,rfl,rfl,Nat.le_refl _,fun _ _ _=>rfl⟩,by simp,Or.inl rfl⟩
   rw[run_append_nothing w t tx ty e i ht hi none 0 0 (Nat.le_refl _) x hs']
  ·have hr:=run_append_grow_src (P:=P) w t tx ty e i z ht hi hz none 0 0 [] (by simp[Builtin.firstCells]) x m news hs' (by omega) (by omega) (growslice_fits (by omega) hbytes)
   have hgr:=grown 0 (by omega) (Value.ownBlock (.slice none 0 0))
   exact⟨_,_,hr,hgr.1,hgr.2,by simp[hm],Or.inr rfl⟩
 ·have holds: ∀ j u,xs[j]? =some u→w.cell? ((⟨g,0,none⟩:Addr).add j)=some u:=hown.cells (g:=g) rfl
  by_cases hroom:n+m≤cap
  ·have hrow:w.rowIs g e cap (fun j=>cur[j]?.getD default):=⟨cur,hg,by omega,fun j hj=>by show cur[j]? =some (cur[j]?.getD default); rw[Array.getElem?_eq_getElem (by omega)]; rfl⟩
   have hr:=run_append_room_src (P:=P) w t tx ty e i ht hi g 0 n cap x m news hs' hroom
    (fun j hj=>by rw[hsize,Nat.mul_one,Nat.zero_add,hrow.cell (by omega)]; rfl) (fun j hj=>by rw[hsize,Nat.mul_one,Nat.zero_add]; exact hrow.frozen _)
   rw[hsize,Nat.mul_one,Nat.zero_add] at hr
   have hrow2:=rowIs_setCells (b:=g) news n w _ hrow
   obtain⟨c,hb,hn,hc⟩:=hrow2
   refine⟨_,_,hr,⟨hlen,.inr ⟨g,cap,c,rfl,hbg,hb,hroom,hcm,by omega,?_⟩⟩,⟨?_,?_,?_,?_,?_⟩,by simp,Or.inl rfl⟩
   ·apply List.ext_getElem?
    intro j
    rcases Nat.lt_or_ge j (n+m) with hj|hj
    ·rw[List.getElem?_take_of_lt (by omega),Array.getElem?_toList,hc j (by omega)]
     show some (if n≤j∧j<n+news.length then news[j - n]?.getD default else cur[j]?.getD default)=_
     rcases Nat.lt_or_ge j n with h1|h1
     ·rw[if_neg (by omega),List.getElem?_append_left (by omega)]
      have h2:xs[j]? =cur[j]? :=by rw[←htake,List.getElem?_take_of_lt (by omega),Array.getElem?_toList]
      rw[h2,Array.getElem?_eq_getElem (by omega)]; rfl
     ·rw[if_pos (by omega),List.getElem?_append_right (by omega),hxl,List.getElem?_eq_getElem (by omega)]; rfl
    ·rw[List.getElem?_eq_none (by rw[List.length_take]; omega),List.getElem?_eq_none (by rw[List.length_append]; omega)]
   ·exact World.os_setCells w g n news
   ·exact(below_setCells (Nat.zero_le g) news n w (Below.refl 0 w)).tape
   ·exact World.output_setCells w g n news
   ·exact(below_setCells (Nat.zero_le g) news n w (Below.refl 0 w)).size
   ·intro k hk hne
    exact World.heap_setCells_other w g n news hk (fun e=>hne (by rw[e]; rfl))
  ·have hr:=run_append_grow_src (P:=P) w t tx ty e i z ht hi hz (some ⟨g,0,none⟩) n cap xs (by rw[hsize]; exact run_firstCells_some w.drew 1 n ⟨g,0,none⟩ n cap xs hown.1 (by simpa using holds)) x m news hs' (by omega) (by omega) (growslice_fits (by omega) hbytes)
   have hgr:=grown cap (by omega) (Value.ownBlock (.slice (some ⟨g,0,none⟩) n cap))
   exact⟨_,_,hr,hgr.1,hgr.2,by simp,Or.inr rfl⟩
theorem Jk {ops:Array Oper} {rest:List Oper} {o:Oper} {a:Act} {Q:Exit→Act→World→Prop} (hgd:o.guard=none) (s x:Operand) (t tx:TypeId)
 (ho:o.op= .call { callee:= .builtin .append,args:= #[s,x],argTypes:= #[t,tx] })
 (base:Nat) (e:TypeId) (i:TypeInfo) (z:Value) (bytes:Nat) (ht:P.underlying t=some (.slice e)) (hi:P.info? e=some i) (hz:i.zero=some z)
 (hsize:i.size=1) (hby:i.bytes=bytes) (hzs:z.cells.size=1)
 (v:Value) (n:Nat) (xs:List Value) (hv:a.eval s=v) (hown:w.ownsRow base e 1 v n xs) (X:Value) (hX:a.eval x=X) (m:Nat) (news:List Value) (hs:Src P 1 tx X m news w)
 (h63:n+m≤maxLen) (hbytes:(n+m) * bytes≤140737488355328) (hbase:base≤w.heap.size)
 (h: ∀ v' w',w'.ownsRow base e 1 v' (n+m) (xs++news)→w.grownBy w' v.ownBlock→(v'= .slice none 0 0↔v= .slice none 0 0∧m=0)→(v'.ownBlock=v.ownBlock∨v'.ownBlock=some w.heap.size)→wpList P ops Q rest (a.put o.dst v') w') :
 wpList P ops Q (o::rest) a w:=by
 refine wpList_plain hgd fun K hK=> ?_
 obtain⟨v',w',hr,h2,h3,h4,h5⟩:=Zbb (P:=P) w base t tx o.type e i z bytes ht hi hz hsize hby hzs v n xs hown X m news hs h63 hbytes hbase
 unfold Oper.wp execOp
 simp only[ho,resolve,invoke,builtin,Sem.run_bind,Sem.run_pure,Result.andThen_ok,List.map_toArray,List.map_cons,List.map_nil,hv,hX,hr]
 exact hK _ _ (h v' w' h2 h3 h4 h5)
end
end Go.Proofs.YtplgdpjbkdagfaaGreat
