import Derived.Test.YtplgdpjbkdagfaaGreatZOwnT
import Derived.Laws.CopyOwn
import Derived.Laws.Tables
import Derived.Test.YtplgdpjbkdagfaaGreatZHdrD
import Derived.Test.YtplgdpjbkdagfaaGreatZPMap
import Derived.Deep.MidRow
import Derived.Deep.Cut
namespace Go.Proofs.YtplgdpjbkdagfaaGreat
open List renaming getElem?_toArray→Za, getElem?_cons_succ→Zb, getElem?_cons_zero→Zc, setIfInBounds_toArray→Zd, set_cons_zero→Ze, set_cons_succ→Zf
open Lib renaming hid→Zg
set_option maxRecDepth 100000
open Go.ChangeShapes Go.WideShapes Go.ChangeAt Go.RowKit
set_option linter.unusedVariables false
theorem Zi {w:World} {b:Nat} {c:Obj} (h:w.heap[b]? =some c):b<w.heap.size:=by
 rcases Nat.lt_or_ge b w.heap.size with h'|h'
 ·exact h'
 ·rw[Array.getElem?_eq_none h'] at h; cases h
theorem Yi {P:Program} {ops:Array Oper} {o:Oper} {a:Act} {w:World} {K:Act→World→Prop} {Q:Exit→Act→World→Prop} {E:Prop} (hgd:o.guard=none) (ty:TypeId) (x y:Operand) (ho:o.op= .store ty x y)
 (g:Nat) (cells:Array Value) (hx:a.eval x= .pointer (some ⟨g,0,none⟩)) (hy:a.eval y= .agg cells)
 (t:TypeId) (old:Array Value) (hg:w.heap[g]? =some (.cells old t (0,0))) (hi:(P.info? ty).map (·.size)=some cells.size)
 (hold:old.size=cells.size) (h1:cells.all (·.oneCell')=true)
 (h:K (a.put o.dst undef) (w.setRow g cells)):if Region.wanted o (yielded ops a.tmps)=true then Oper.wp P o a w K Q else E:=by
 rw[if_pos (by simp[Region.wanted,hgd])]
 exact wp_store_row ty x y ho g cells hx hy t old hg hi hold h1 h
theorem Zh {w:World} {g j:Nat} {cells:Array Value} {t:TypeId} {fr:Nat × Nat} (h:w.heap[g]? =some (.cells cells t fr)):w.cell? ⟨g,j,none⟩=cells[j]? :=by
 simp[World.cell?,h]
end Go.Proofs.YtplgdpjbkdagfaaGreat
namespace Go.Proofs.YtplgdpjbkdagfaaGreat
open List renaming getElem?_toArray→Za, getElem?_cons_succ→Zb, getElem?_cons_zero→Zc, setIfInBounds_toArray→Zd, set_cons_zero→Ze, set_cons_succ→Zf
open Lib renaming hid→Zg
open Go.ChangeShapes Go.WideShapes Go.ChangeAt Go.RowKit
set_option linter.unusedVariables false
set_option linter.unusedSimpArgs false
set_option maxRecDepth 100000
structure PeV where
 hd:Nat→Value
 img:Value
 e0:Value
 e1:Value
 e2:Value
 im:Value
 de:Value
 bo:Value
 re:Value
 t0:Value
 t1:Value
 t2:Value
def peF (x:PeV) (j:Nat):Value :=
 if j<39 then x.hd j else if j=39 then x.img else if j=40 then x.e0 else if j=41 then x.e1 else if j=42 then x.e2 else if j=43 then x.im else if j=44 then x.de else if j=45 then x.bo else if j=46 then x.re else if j=47 then x.t0 else if j=48 then x.t1 else x.t2
def YV (w:World) (P:Nat) (x:PeV):Prop:=Own w P 50 (peF x)
theorem Xy (x:PeV) {j:Nat} (h:j<39):peF x j=x.hd j:=if_pos h
section
variable {w:World} {P:Nat} {x:PeV}
theorem Zja (x y:PeV) (k:Nat) (v:Value) (hv:peF y k=v) (ho: ∀ j,j<50→j≠k→peF y j=peF x j): ∀ j,j<50→(if j=k then v else peF x j)=peF y j:=fun j hj=>by
 by_cases e:j=k
 ·rw[if_pos e,e,hv]
 ·rw[if_neg e,ho j hj e]
theorem YV.put (h:YV w P x) (k:Nat) (hk:k<50) (v:Value) (y:PeV) (hv:peF y k=v) (ho: ∀ j,j<50→j≠k→peF y j=peF x j):YV (w.setCell ⟨P,k,none⟩ v) P y :=
 (Own.set h (i:=k) hk v).congr (Zja x y k v hv ho)
theorem YV.im (h:YV w P x) (v:Value):YV (w.setCell ⟨P,43,none⟩ v) P { x with im:=v }:=h.put 43 (by omega) v _ rfl (fun j hj hn=>by
 unfold peF; simp only[if_neg hn])
theorem YV.de (h:YV w P x) (v:Value):YV (w.setCell ⟨P,44,none⟩ v) P { x with de:=v }:=h.put 44 (by omega) v _ rfl (fun j hj hn=>by
 unfold peF; simp only[if_neg hn])
theorem YV.bo (h:YV w P x) (v:Value):YV (w.setCell ⟨P,45,none⟩ v) P { x with bo:=v }:=h.put 45 (by omega) v _ rfl (fun j hj hn=>by
 unfold peF; simp only[if_neg hn])
theorem YV.re (h:YV w P x) (v:Value):YV (w.setCell ⟨P,46,none⟩ v) P { x with re:=v }:=h.put 46 (by omega) v _ rfl (fun j hj hn=>by
 unfold peF; simp only[if_neg hn])
theorem YV.ex (h:YV w P x) (a b c:Value):YV (w.setCells P 40 [a,b,c]) P { x with e0:=a,e1:=b,e2:=c }:=by
 have h1:=h.put 40 (by omega) a { x with e0:=a } rfl (fun j hj hn=>by unfold peF; simp only[if_neg hn])
 have h2:=h1.put 41 (by omega) b { x with e0:=a,e1:=b } rfl (fun j hj hn=>by unfold peF; simp only[if_neg hn])
 exact h2.put 42 (by omega) c { x with e0:=a,e1:=b,e2:=c } rfl (fun j hj hn=>by unfold peF; simp only[if_neg hn])
theorem YV.tl (h:YV w P x) (a b c:Value):YV (w.setCells P 47 [a,b,c]) P { x with t0:=a,t1:=b,t2:=c }:=by
 have h1:=h.put 47 (by omega) a { x with t0:=a } rfl (fun j hj hn=>by unfold peF; simp only[if_neg hn])
 have h2:=h1.put 48 (by omega) b { x with t0:=a,t1:=b } rfl (fun j hj hn=>by unfold peF; simp only[if_neg hn])
 refine h2.put 49 (by omega) c { x with t0:=a,t1:=b,t2:=c } rfl (fun j hj hn=> ?_)
 unfold peF
 rcases(by omega:j<39∨j=39∨j=40∨j=41∨j=42∨j=43∨j=44∨j=45∨j=46∨j=47∨j=48) with h|rfl|rfl|rfl|rfl|rfl|rfl|rfl|rfl|rfl|rfl <;> simp[*]
theorem YV.there (h:YV w P x) (o n:Nat) (hn:o+n≤50):w.there P o n:=fun j hj=>by
 rw[Own.cell h (i:=o+j) (by omega)]
 exact⟨rfl,Own.frozen h (by omega)⟩
theorem YV.kept {w':World} {R:Nat→Prop} (h:YV w P x) (hk:Xg R w w') (hR:R P):YV w' P x:=hk.own h hR
end
def ZM (base:Nat) (S:World→Prop) (W:World):Prop:= ∀ W2,(∀ k,base≤k→k<W.heap.size→W2.heap[k]? =W.heap[k]?)→W.heap.size≤W2.heap.size→S W2
theorem ZM.now {base:Nat} {S:World→Prop} {W:World} (h:ZM base S W):S W:=h W (fun _ _ _=>rfl) (Nat.le_refl _)
theorem ZM.on {base:Nat} {S:World→Prop} {W W2:World} (h:ZM base S W) (hk: ∀ k,base≤k→k<W.heap.size→W2.heap[k]? =W.heap[k]?) (hs:W.heap.size≤W2.heap.size):ZM base S W2 :=
 fun W3 h3 s3=>h W3 (fun k a b=>(h3 k a (by omega)).trans (hk k a b)) (by omega)
theorem ZM.less {base base':Nat} {S:World→Prop} {W:World} (h:ZM base S W) (hb:base'≤base):ZM base' S W:=fun W2 hk hs=>h W2 (fun k a b=>hk k (by omega) b) hs
theorem ZM.const {base:Nat} {S:World→Prop} {W:World} (h: ∀ W,S W):ZM base S W:=fun W2 _ _=>h W2
abbrev Qb (P:Nat) (w W:World):Prop:=Xg (fun k=>k<w.heap.size∧k≠P) w W
theorem Wd {P:Program} {ops:Array Oper} {o:Oper} {a:Act} {w:World} {K:Act→World→Prop} {Q:Exit→Act→World→Prop} {E:Prop} (hgd:o.guard=none) (ty:TypeId) (x y:Operand) (ho:o.op= .store ty x y)
 (b off:Nat) (cells:Array Value) (hx:a.eval x= .pointer (some ⟨b,off,none⟩)) (hy:a.eval y= .agg cells) (ht:w.there b off cells.size) (hi:(P.info? ty).map (·.size)=some cells.size) (h1:cells.all (·.oneCell')=true)
 (h:K (a.put o.dst undef) (w.setCells b off cells.toList)):if Region.wanted o (yielded ops a.tmps)=true then Oper.wp P o a w K Q else E:=by
 rw[if_pos (by simp[Region.wanted,hgd])]
 exact wp_store_mid ty x y ho b off cells hx hy ht hi h1 h
theorem QR (ty:TypeId) (ad:Addr) (v:Value) (h:v.oneCell'=true):storeVar ty ad v=storeVar ty ad (.agg #[v]):=by cases v <;> first|rfl|(simp[Value.oneCell'] at h)
theorem Xz {P:Program} {ops:Array Oper} {o:Oper} {a:Act} {w:World} {K:Act→World→Prop} {Q:Exit→Act→World→Prop} {E:Prop} (hgd:o.guard=none) (ty:TypeId) (x y:Operand) (ho:o.op= .store ty x y)
 (b off:Nat) (v:Value) (hx:a.eval x= .pointer (some ⟨b,off,none⟩)) (hy:a.eval y=v) (ht:w.there b off 1) (hi:(P.info? ty).map (·.size)=some 1) (h1:v.oneCell'=true)
 (h:K (a.put o.dst undef) (w.setCell ⟨b,off,none⟩ v)):if Region.wanted o (yielded ops a.tmps)=true then Oper.wp P o a w K Q else E:=by
 rw[if_pos (by simp[Region.wanted,hgd])]
 have hs:=run_storeVar_mid (P:=P) w b off ty #[v] ht hi (by simp[h1])
 rw[←QR ty _ v h1] at hs
 unfold Oper.wp execOp
 simp only[ho,hx,hy,Instr.storeAt,Instr.sureAddr,Sem.run_bind,Sem.run_pure,Result.andThen_ok,hs]
 exact h
def QS (f:Nat) (args:Array Value) (P:Nat) (w:World) (er:Int) (S:Value→World→Prop):Prop :=
 ∀ W,Qb P w W→w.heap.size≤W.heap.size→Calls Tryz.prog f args W fun e W'=> ∃ v,e= .returned (.tuple #[v,.int .i64 er])∧v.oneCell'=true∧Below W.heap.size W W'∧ZM W.heap.size (S v) W'
def Ze7 (f:Nat) (args:Array Value) (P:Nat) (w:World) (er:Int) (S:Value→Value→Value→World→Prop):Prop :=
 ∀ W,Qb P w W→w.heap.size≤W.heap.size→Calls Tryz.prog f args W fun e W'=> ∃ a b c,e= .returned (.tuple #[.agg #[a,b,c],.int .i64 er])∧(a.oneCell'=true∧b.oneCell'=true∧c.oneCell'=true)∧Below W.heap.size W W'∧ZM W.heap.size (S a b c) W'
def Zio (rv sz:Nat→Int) (j:Nat):Value:=if j % 2=0 then .int .i64 (rv (j / 2)) else .int .i64 (sz (j / 2))
structure Zef (w:World) (P:Nat) (x:PeV) (D:Nat) (rv sz:Nat→Int) (W:World) (y:PeV):Prop where
 kept:Qb P w W
 pe:YV W P y
 hd:y.hd=x.hd
 img:y.img=x.img
 dd:Own W D 32 (Zio rv sz)
 ddw:w.heap.size≤D
namespace Zef
variable {w:World} {P:Nat} {x:PeV} {D:Nat} {rv sz:Nat→Int} {W W':World} {y:PeV}
theorem below (h:Zef w P x D rv sz W y) (hb:Below W.heap.size W W'):Zef w P x D rv sz W' y :=
 ⟨h.kept.trans (Xg.of_below hb (fun k hk=>Nat.lt_of_lt_of_le hk.1 h.kept.size)),Own.of_block h.pe (hb.block P h.pe.1) hb.size,h.hd,h.img,h.dd.of_block (hb.block D h.dd.1) hb.size,h.ddw⟩
theorem drew (h:Zef w P x D rv sz W y):Zef w P x D rv sz W.drew y:=h.below (Below.refl _ _).drew
theorem img39 (h:Zef w P x D rv sz W y):W.cell? ⟨P,39,none⟩=some x.img:=by rw[Own.cell h.pe (i:=39) (by omega),←h.img]; rfl
theorem base0 (h:Zef w P x D rv sz W y) {b:Int} (hb:x.hd 0= .int .u64 b):W.cell? ⟨P,0,none⟩=some (.int .u64 b):=by
 rw[Own.cell h.pe (i:=0) (by omega),Xy _ (by omega),h.hd,hb]
theorem dir (h:Zef w P x D rv sz W y) (i:Nat) (hi:i<16):W.rangeAt D (2 * i) [.int .i64 (rv i),.int .i64 (sz i)]:=fun j v hv=>by
 rcases j with _|_|j
 ·simp at hv; subst hv
  rw[Nat.add_zero,h.dd.cell (i:=2 * i) (by omega)]
  unfold Zio; rw[if_pos (by omega),show 2 * i / 2=i by omega]
 ·simp at hv; subst hv
  rw[h.dd.cell (i:=2 * i+(0+1)) (by omega)]
  unfold Zio; rw[if_neg (by omega),show(2 * i+(0+1)) / 2=i by omega]
 ·simp at hv
theorem wrote (h:Zef w P x D rv sz W y) (hP:P<w.heap.size) {y':PeV} (hk:Xg (fun k=>k≠P) W W') (hp:YV W' P y') (h1:y'.hd=y.hd) (h2:y'.img=y.img):Zef w P x D rv sz W' y' :=
 ⟨h.kept.trans (hk.mono (fun k hk=>hk.2)),hp,h1.trans h.hd,h2.trans h.img,hk.own h.dd (by have:=h.ddw; omega),h.ddw⟩
end Zef
theorem YQ (W:World) (P o:Nat) (v:Value):Xg (fun k=>k≠P) W (W.setCell ⟨P,o,none⟩ v):=(Xg.refl _ W).setCell (p:=⟨P,o,none⟩) (fun e=>e rfl) v
theorem WU (W:World) (P o:Nat) (a b c:Value):Xg (fun k=>k≠P) W (W.setCells P o [a,b,c]) :=
 ((YQ W P o a).trans (YQ _ P (o+1) b)).trans (YQ _ P (o+1+1) c)
theorem ZM.below {base:Nat} {S:World→Prop} {W W2:World} (h:ZM base S W) (hb:Below W.heap.size W W2):ZM base S W2:=h.on (fun k _ hk=>hb.block k hk) hb.size
theorem ZM.wrote {base P:Nat} {S:World→Prop} {W W2:World} (h:ZM base S W) (hP:P<base) (hk:Xg (fun k=>k≠P) W W2):ZM base S W2:=h.on (fun k hb _=>hk.block k (by omega)) hk.size
def ZK (e1 e2 e3 e4 e5 e6:Int):Int:=if e1≠0 then e1 else if e2≠0 then e2 else if e3≠0 then e3 else if e4≠0 then e4 else if e5≠0 then e5 else e6
theorem Zcn (e1 e2 e3 e4 e5 e6:Int) (h1: ¬ e1=0):ZK e1 e2 e3 e4 e5 e6=e1:=by unfold ZK; rw[if_pos h1]
theorem Zco (e1 e2 e3 e4 e5 e6:Int) (h1:e1=0) (h2: ¬ e2=0):ZK e1 e2 e3 e4 e5 e6=e2:=by unfold ZK; rw[if_neg (fun h=>h h1),if_pos h2]
theorem Zcp (e1 e2 e3 e4 e5 e6:Int) (h1:e1=0) (h2:e2=0) (h3: ¬ e3=0):ZK e1 e2 e3 e4 e5 e6=e3:=by unfold ZK; rw[if_neg (fun h=>h h1),if_neg (fun h=>h h2),if_pos h3]
theorem Zcq (e1 e2 e3 e4 e5 e6:Int) (h1:e1=0) (h2:e2=0) (h3:e3=0) (h4: ¬ e4=0):ZK e1 e2 e3 e4 e5 e6=e4:=by unfold ZK; rw[if_neg (fun h=>h h1),if_neg (fun h=>h h2),if_neg (fun h=>h h3),if_pos h4]
theorem Zcr (e1 e2 e3 e4 e5 e6:Int) (h1:e1=0) (h2:e2=0) (h3:e3=0) (h4:e4=0) (h5: ¬ e5=0):ZK e1 e2 e3 e4 e5 e6=e5:=by unfold ZK; rw[if_neg (fun h=>h h1),if_neg (fun h=>h h2),if_neg (fun h=>h h3),if_neg (fun h=>h h4),if_pos h5]
theorem Qc (e1 e2 e3 e4 e5 e6:Int) (h1:e1=0) (h2:e2=0) (h3:e3=0) (h4:e4=0) (h5:e5=0):ZK e1 e2 e3 e4 e5 e6=e6:=by unfold ZK; rw[if_neg (fun h=>h h1),if_neg (fun h=>h h2),if_neg (fun h=>h h3),if_neg (fun h=>h h4),if_neg (fun h=>h h5)]
structure DirsQ (w:World) (P:Nat) (x:PeV) (SE:Value→Value→Value→World→Prop) (SI SR:Value→World→Prop) (ST:Value→Value→Value→World→Prop) (SB SD:Value→World→Prop) (u:World) (y:PeV):Prop where
 pe:YV u P y
 hd:y.hd=x.hd
 img:y.img=x.img
 e:ZM w.heap.size (SE y.e0 y.e1 y.e2) u
 i:ZM w.heap.size (SI y.im) u
 r:ZM w.heap.size (SR y.re) u
 t:ZM w.heap.size (ST y.t0 y.t1 y.t2) u
 b:ZM w.heap.size (SB y.bo) u
 d:ZM w.heap.size (SD y.de) u
 ones:(y.e0.oneCell'=true∧y.e1.oneCell'=true∧y.e2.oneCell'=true)∧y.im.oneCell'=true∧y.re.oneCell'=true∧(y.t0.oneCell'=true∧y.t1.oneCell'=true∧y.t2.oneCell'=true)∧y.bo.oneCell'=true∧y.de.oneCell'=true
set_option maxHeartbeats 8000000 in
theorem Zhk (w:World) (P:Nat) (x:PeV) (h:YV w P x) (rv sz:Nat→Int) (hd: ∀ i,i<16→x.hd (6+2 * i)= .int .i64 (rv i)∧x.hd (6+2 * i+1)= .int .i64 (sz i)) (base:Int) (hb:x.hd 0= .int .u64 base)
 (eE eI eR eT eB eD:Int) (SE:Value→Value→Value→World→Prop) (SI SR:Value→World→Prop) (ST:Value→Value→Value→World→Prop) (SB SD:Value→World→Prop)
 (hE:Ze7 79 #[x.img,.agg #[.int .i64 (rv 0),.int .i64 (sz 0)]] P w eE SE)
 (hI:QS 80 #[x.img,.agg #[.int .i64 (rv 1),.int .i64 (sz 1)]] P w eI SI)
 (hR:QS 81 #[x.img,.agg #[.int .i64 (rv 5),.int .i64 (sz 5)]] P w eR SR)
 (hT:Ze7 82 #[x.img,.agg #[.int .i64 (rv 9),.int .i64 (sz 9)],.int .u64 base] P w eT ST)
 (hB:QS 83 #[x.img,.agg #[.int .i64 (rv 11),.int .i64 (sz 11)]] P w eB SB)
 (hD:QS 84 #[x.img,.agg #[.int .i64 (rv 13),.int .i64 (sz 13)]] P w eD SD)
 : Calls Tryz.prog 33 #[.pointer (some ⟨P,0,none⟩)] w fun e u=>e= .returned (.int .i64 (ZK eE eI eR eT eB eD))∧Qb P w u∧(ZK eE eI eR eT eB eD=0→ ∃ y,DirsQ w P x SE SI SR ST SB SD u y):=by
 have hP:P<w.heap.size:=h.1
 have HE:=Zg hE
 have HI:=Zg hI
 have HR:=Zg hR
 have HT:=Zg hT
 have HB:=Zg hB
 have HD:=Zg hD
 have HP:=Zg hP
 have HH:=Zg h
 have HDI:=Zg hd
 have HBA:=Zg hb
 clear hE hI hR hT hB hD hP h hd hb
 have hrg:w.rangeAt P 6 ((List.range 32).map (Zio rv sz)):=fun j v hv=>by
  have hj:j<32:=by
   rcases Nat.lt_or_ge j 32 with hj|hj
   ·exact hj
   ·simp[hj] at hv
  simp[hj] at hv
  subst hv
  rw[Own.cell HH.out (i:=6+j) (by omega),Xy _ (by omega)]
  unfold Zio
  by_cases c:j % 2=0
  ·rw[if_pos c,←(HDI.out (j / 2) (by omega)).1,show 6+2 * (j / 2)=6+j by omega]
  ·rw[if_neg c,←(HDI.out (j / 2) (by omega)).2,show 6+2 * (j / 2)+1=6+j by omega]
 obtain⟨dl,hdl⟩: ∃ dl,(List.range 32).map (Zio rv sz)=dl:=⟨_,rfl⟩
 have hlen:dl.length=32:=by rw[←hdl]; simp
 rw[hdl] at hrg
 have HRG:=Zg hrg
 have HDL:=Zg hdl
 have HLEN:=Zg hlen
 clear hrg hdl hlen
 go_enter Tryz.func33,Tryz.ntmps33
 have HONE:=Zg (show dl.toArray.all (·.oneCell')=true from all_oneCell_toArray (fun v hv=>by
  rw[←HDL.out] at hv
  obtain⟨j,_,rfl⟩:=List.mem_map.mp hv
  unfold Zio
  split <;> rfl))
 have HLZ:=Zg (show dl.toArray.size=32 from by rw[List.size_toArray]; exact HLEN.out)
 go_wp2_with (first
  | (refine wpList_load_mid rfl 38 (.tmp 8) rfl P 6 rfl dl _ HRG.out Tryz.underlying38 rfl (by rw[HLEN.out]; kernel_rfl) ?_)
  | (refine wpList_store_row rfl 38 (.tmp 3) (.tmp 9) rfl w.heap.size dl.toArray rfl rfl 38 _ (heap_alloc_new _ _) (by rw[HLZ.out]; kernel_rfl) (by rw[HLZ.out]; rfl) HONE.out ?_)
  | fail)
 obtain⟨w1,hw1⟩: ∃ w1,(w.alloc (.cells #[.int .i64 0,.int .i64 0,.int .i64 0,.int .i64 0,.int .i64 0,.int .i64 0,.int .i64 0,.int .i64 0,.int .i64 0,.int .i64 0,.int .i64 0,.int .i64 0,.int .i64 0,.int .i64 0,.int .i64 0,.int .i64 0,.int .i64 0,.int .i64 0,.int .i64 0,.int .i64 0,.int .i64 0,.int .i64 0,.int .i64 0,.int .i64 0,.int .i64 0,.int .i64 0,.int .i64 0,.int .i64 0,.int .i64 0,.int .i64 0,.int .i64 0,.int .i64 0] 38)).setRow w.heap.size dl.toArray=w1:=⟨_,rfl⟩
 have hb1:Below w.heap.size w w1:=by rw[←hw1]; exact below_setRow ((Below.refl _ _).alloc (Nat.le_refl _) _) (Nat.le_refl _) _
 have hz1:w1.heap[w.heap.size]? =some (.cells dl.toArray 38 (0,0)):=by rw[←hw1]; exact setRow_heap _ _ _ _ _ _ (heap_alloc_new w _)
 have hod:Own w1 w.heap.size 32 (Zio rv sz):=by
  refine⟨Zi hz1,fun i hi=>⟨?_,by simp[World.frozen?,hz1]⟩⟩
  rw[Zh hz1,←HDL.out,Za]
  simp[hi]
 have H1:=Zg (show Zef w P x w.heap.size rv sz w1 x from⟨Xg.of_below hb1 (fun k hk=>hk.1),Own.of_block HH.out (hb1.block P HP.out) hb1.size,rfl,rfl,hod,Nat.le_refl _⟩)
 obtain⟨D,hD⟩: ∃ D,w.heap.size=D:=⟨_,rfl⟩
 have HDE:=Zg hD
 rw[hw1,hD]
 rw[hD] at H1
 clear hw1 hb1 hz1 hod hD HRG HONE HLZ
 go_upto_region 3 with(fail)
 have HS:=Zg (show w1.drew.cell? ⟨P,39,none⟩=some x.img∧(∀ i,i<16→w1.drew.rangeAt D (2 * i) [.int .i64 (rv i),.int .i64 (sz i)])∧w1.drew.cell? ⟨P,0,none⟩=some (.int .u64 base) from⟨H1.out.drew.img39,fun i hi=>H1.out.drew.dir i hi,H1.out.drew.base0 HBA.out⟩)
 refine wp_region_noPanic ?_
 refine Zw (fun W=>W.cell? ⟨P,39,none⟩=some x.img∧(∀ i,i<16→W.rangeAt D (2 * i) [.int .i64 (rv i),.int .i64 (sz i)])∧W.cell? ⟨P,0,none⟩=some (.int .u64 base)) (fun _=>True) 99 (by kernel_rfl) ?_
 refine wT (i:=0) (oi:= ?_) (v:= ?_) ?_ ?_ HS.out ?_
 rotate_left 2
 ·(simp only[Za,Zb,Zc]; rfl)
 ·(first|exact Or.inr ⟨by rfl,rfl⟩|(refine Or.inl ⟨by rfl,?_⟩; intro W hSw; clear hSw; go_simp; try with_reducible rfl))
 try simp only[Act.put,Zd,Ze,Zf]
 refine wT (i:=1) (oi:= ?_) (v:= ?_) ?_ ?_ HS.out ?_
 rotate_left 2
 ·(simp only[Za,Zb,Zc]; rfl)
 ·(first|exact Or.inr ⟨by rfl,rfl⟩|(refine Or.inl ⟨by rfl,?_⟩; intro W hSw; clear hSw; go_simp; try with_reducible rfl))
 try simp only[Act.put,Zd,Ze,Zf]
 refine wT (i:=2) (oi:= ?_) (v:= ?_) ?_ ?_ HS.out ?_
 rotate_left 2
 ·(simp only[Za,Zb,Zc]; rfl)
 ·(first|exact Or.inr ⟨by rfl,rfl⟩|(refine Or.inl ⟨by rfl,?_⟩; intro W hSw; clear hSw; go_simp; try with_reducible rfl))
 try simp only[Act.put,Zd,Ze,Zf]
 refine wT (i:=3) (oi:= ?_) (v:= ?_) ?_ ?_ HS.out ?_
 rotate_left 2
 ·(simp only[Za,Zb,Zc]; rfl)
 ·(first|exact Or.inr ⟨by rfl,rfl⟩|(refine Or.inl ⟨by rfl,?_⟩; intro W hSw; clear hSw; go_simp; try with_reducible rfl))
 try simp only[Act.put,Zd,Ze,Zf]
 refine wT (i:=4) (oi:= ?_) (v:= ?_) ?_ ?_ HS.out ?_
 rotate_left 2
 ·(simp only[Za,Zb,Zc]; rfl)
 ·(first|exact Or.inr ⟨by rfl,rfl⟩|(refine Or.inl ⟨by rfl,?_⟩; intro W hSw; have hq:=hSw.1; clear hSw; go_simp; try with_reducible rfl))
 try simp only[Act.put,Zd,Ze,Zf]
 refine wT (i:=5) (oi:= ?_) (v:= ?_) ?_ ?_ HS.out ?_
 rotate_left 2
 ·(simp only[Za,Zb,Zc]; rfl)
 ·(first|exact Or.inr ⟨by rfl,rfl⟩|(refine Or.inl ⟨by rfl,?_⟩; intro W hSw; clear hSw; go_simp; try with_reducible rfl))
 try simp only[Act.put,Zd,Ze,Zf]
 refine wT (i:=6) (oi:= ?_) (v:= ?_) ?_ ?_ HS.out ?_
 rotate_left 2
 ·(simp only[Za,Zb,Zc]; rfl)
 ·refine yieldsIf_load_mid ?_ 37 (.tmp 16) ?_ D 0 ?_ [.int .i64 (rv 0),.int .i64 (sz 0)] _ ?_ Tryz.underlying37 ?_ ?_
  ·rfl
  ·rfl
  ·first|rfl|simp[Act.eval]
  ·exact fun W hW=>hW.2.1 0 (by omega)
  ·rfl
  ·rfl
 try simp only[Act.put,Zd,Ze,Zf]
 refine Zk (i:=7) (o:= ?_) (by kernel_rfl) ?_ (fun K hK=> ?_)
 rotate_left 1
 ·(simp only[Za,Zb,Zc]; rfl)
 go_simp
 go_at_call 79
 refine(HE.out w1.drew H1.out.drew.kept H1.out.drew.kept.size).mono ?_
 rintro e w2 ⟨a0,b0,c0,rfl,ho0,hb0,hl0⟩
 have hdi:=H1.out.drew.below hb0
 have Hw2:=Zg hdi
 have HS2:=Zg (show w2.cell? ⟨P,39,none⟩=some x.img∧(∀ i,i<16→w2.rangeAt D (2 * i) [.int .i64 (rv i),.int .i64 (sz i)])∧w2.cell? ⟨P,0,none⟩=some (.int .u64 base) from⟨hdi.img39,fun i hi=>hdi.dir i hi,hdi.base0 HBA.out⟩)
 have HL0:=Zg (show ZM D (SE a0 b0 c0) w2 from hl0.less (by rw[←HDE.out]; exact H1.out.drew.kept.size))
 have HO0:=Zg ho0
 clear hdi hl0 ho0 hb0 HS
 refine hK.out _ _ HS2.out (fun _=>trivial) ?_
 clear hK K
 try simp only[Act.put,Zd,Ze,Zf]
 refine wT (i:=8) (oi:= ?_) (v:= ?_) ?_ ?_ HS2.out ?_
 rotate_left 2
 ·(simp only[Za,Zb,Zc]; rfl)
 ·(first|exact Or.inr ⟨by rfl,rfl⟩|(refine Or.inl ⟨by rfl,?_⟩; intro W hSw; clear hSw; go_simp; try with_reducible rfl))
 try simp only[Act.put,Zd,Ze,Zf]
 refine wT (i:=9) (oi:= ?_) (v:= ?_) ?_ ?_ HS2.out ?_
 rotate_left 2
 ·(simp only[Za,Zb,Zc]; rfl)
 ·(first|exact Or.inr ⟨by rfl,rfl⟩|(refine Or.inl ⟨by rfl,?_⟩; intro W hSw; clear hSw; go_simp; try with_reducible rfl))
 try simp only[Act.put,Zd,Ze,Zf]
 refine wT (i:=10) (oi:= ?_) (v:= ?_) ?_ ?_ HS2.out ?_
 rotate_left 2
 ·(simp only[Za,Zb,Zc]; rfl)
 ·(first|exact Or.inr ⟨by rfl,rfl⟩|(refine Or.inl ⟨by rfl,?_⟩; intro W hSw; clear hSw; go_simp; try with_reducible rfl))
 try simp only[Act.put,Zd,Ze,Zf]
 refine wT (i:=11) (oi:= ?_) (v:= ?_) ?_ ?_ HS2.out ?_
 rotate_left 2
 ·(simp only[Za,Zb,Zc]; rfl)
 ·(first|exact Or.inr ⟨by rfl,rfl⟩|(refine Or.inl ⟨by rfl,?_⟩; intro W hSw; clear hSw; go_simp; try with_reducible rfl))
 try simp only[Act.put,Zd,Ze,Zf]
 refine wT (i:=12) (oi:= ?_) (v:= ?_) ?_ ?_ HS2.out ?_
 rotate_left 2
 ·(simp only[Za,Zb,Zc]; rfl)
 ·(first|exact Or.inr ⟨by rfl,rfl⟩|(refine Or.inl ⟨by rfl,?_⟩; intro W hSw; clear hSw; go_simp; try with_reducible rfl))
 try simp only[Act.put,Zd,Ze,Zf]
 refine Zk (i:=13) (o:= ?_) (by kernel_rfl) ?_ (fun K hK=> ?_)
 rotate_left 1
 ·(simp only[Za,Zb,Zc]; rfl)
 refine Wd rfl 45 (.tmp 22) (.tmp 19) rfl P 40 #[a0,b0,c0] (by first|rfl|simp[Act.eval]) (by first|rfl|simp[Act.eval]) (Hw2.out.pe.there 40 3 (by omega)) (by kernel_rfl) (by simp[HO0.out.1,HO0.out.2.1,HO0.out.2.2]) ?_
 have hk0:Xg (fun k=>k≠P) w2 (w2.setCells P 40 [a0,b0,c0]):=WU _ P 40 _ _ _
 obtain⟨y0,hy0⟩: ∃ y:PeV,{ x with e0:=a0,e1:=b0,e2:=c0 }=y:=⟨_,rfl⟩
 have hdi:=Hw2.out.wrote HP.out (y':=y0) hk0 (by rw[←hy0]; exact Hw2.out.pe.ex a0 b0 c0) (by rw[←hy0]) (by rw[←hy0])
 have hpd:P<D:=by rw[←HDE.out]; exact HP.out
 have HL0:=Zg (HL0.out.wrote hpd hk0)
 generalize w2.setCells P 40 [a0,b0,c0]=w3 at *
 have Hw3:=Zg hdi
 have HS3:=Zg (show w3.cell? ⟨P,39,none⟩=some x.img∧(∀ i,i<16→w3.rangeAt D (2 * i) [.int .i64 (rv i),.int .i64 (sz i)])∧w3.cell? ⟨P,0,none⟩=some (.int .u64 base) from⟨hdi.img39,fun i hi=>hdi.dir i hi,hdi.base0 HBA.out⟩)
 have HY0:=Zg hy0
 clear hdi hk0 hpd hy0 HS2 Hw2
 refine hK.out _ _ HS3.out (fun _=>trivial) ?_
 clear hK K
 try simp only[Act.put,Zd,Ze,Zf]
 refine wT (i:=14) (oi:= ?_) (v:= ?_) ?_ ?_ HS3.out ?_
 rotate_left 2
 ·(simp only[Za,Zb,Zc]; rfl)
 ·(first|exact Or.inr ⟨by rfl,rfl⟩|(refine Or.inl ⟨by rfl,?_⟩; intro W hSw; clear hSw; go_simp; try with_reducible rfl))
 try simp only[Act.put,Zd,Ze,Zf]
 refine Zp (by kernel_rfl) ?_ _
 refine NoPanic.normal ?_
 clear HS3
 by_cases he0: ¬ eE=0
 ·have hfe:=Zcn eE eI eR eT eB eD he0
  have HFE:=Zg (And.intro hfe (show ¬ ZK eE eI eR eT eB eD=0 from by rw[hfe]; exact he0))
  have hbe:(eE == 0)=false:=beq_eq_false_iff_ne.2 he0
  clear hfe he0
  go_wp2_with fail
  go_ret
  exact⟨by rw[HFE.out.1]; rfl,Hw3.out.kept,fun h=>absurd h HFE.out.2⟩
 replace he0:eE=0:=Decidable.not_not.1 he0
 go_upto_region 6 with(fail)
 have HS:=Zg (show w3.drew.cell? ⟨P,39,none⟩=some x.img∧(∀ i,i<16→w3.drew.rangeAt D (2 * i) [.int .i64 (rv i),.int .i64 (sz i)])∧w3.drew.cell? ⟨P,0,none⟩=some (.int .u64 base) from⟨Hw3.out.drew.img39,fun i hi=>Hw3.out.drew.dir i hi,Hw3.out.drew.base0 HBA.out⟩)
 refine wp_region_noPanic ?_
 refine Zw (fun W=>W.cell? ⟨P,39,none⟩=some x.img∧(∀ i,i<16→W.rangeAt D (2 * i) [.int .i64 (rv i),.int .i64 (sz i)])∧W.cell? ⟨P,0,none⟩=some (.int .u64 base)) (fun _=>True) 99 (by kernel_rfl) ?_
 refine wT (i:=0) (oi:= ?_) (v:= ?_) ?_ ?_ HS.out ?_
 rotate_left 2
 ·(simp only[Za,Zb,Zc]; rfl)
 ·(first|exact Or.inr ⟨by rfl,rfl⟩|(refine Or.inl ⟨by rfl,?_⟩; intro W hSw; clear hSw; go_simp; try with_reducible rfl))
 try simp only[Act.put,Zd,Ze,Zf]
 refine wT (i:=1) (oi:= ?_) (v:= ?_) ?_ ?_ HS.out ?_
 rotate_left 2
 ·(simp only[Za,Zb,Zc]; rfl)
 ·(first|exact Or.inr ⟨by rfl,rfl⟩|(refine Or.inl ⟨by rfl,?_⟩; intro W hSw; clear hSw; go_simp; try with_reducible rfl))
 try simp only[Act.put,Zd,Ze,Zf]
 refine wT (i:=2) (oi:= ?_) (v:= ?_) ?_ ?_ HS.out ?_
 rotate_left 2
 ·(simp only[Za,Zb,Zc]; rfl)
 ·(first|exact Or.inr ⟨by rfl,rfl⟩|(refine Or.inl ⟨by rfl,?_⟩; intro W hSw; clear hSw; go_simp; try with_reducible rfl))
 try simp only[Act.put,Zd,Ze,Zf]
 refine wT (i:=3) (oi:= ?_) (v:= ?_) ?_ ?_ HS.out ?_
 rotate_left 2
 ·(simp only[Za,Zb,Zc]; rfl)
 ·(first|exact Or.inr ⟨by rfl,rfl⟩|(refine Or.inl ⟨by rfl,?_⟩; intro W hSw; clear hSw; go_simp; try with_reducible rfl))
 try simp only[Act.put,Zd,Ze,Zf]
 refine wT (i:=4) (oi:= ?_) (v:= ?_) ?_ ?_ HS.out ?_
 rotate_left 2
 ·(simp only[Za,Zb,Zc]; rfl)
 ·(first|exact Or.inr ⟨by rfl,rfl⟩|(refine Or.inl ⟨by rfl,?_⟩; intro W hSw; have hq:=hSw.1; clear hSw; go_simp; try with_reducible rfl))
 try simp only[Act.put,Zd,Ze,Zf]
 refine wT (i:=5) (oi:= ?_) (v:= ?_) ?_ ?_ HS.out ?_
 rotate_left 2
 ·(simp only[Za,Zb,Zc]; rfl)
 ·(first|exact Or.inr ⟨by rfl,rfl⟩|(refine Or.inl ⟨by rfl,?_⟩; intro W hSw; clear hSw; go_simp; try with_reducible rfl))
 try simp only[Act.put,Zd,Ze,Zf]
 refine wT (i:=6) (oi:= ?_) (v:= ?_) ?_ ?_ HS.out ?_
 rotate_left 2
 ·(simp only[Za,Zb,Zc]; rfl)
 ·refine yieldsIf_load_mid ?_ 37 (.tmp 32) ?_ D 2 ?_ [.int .i64 (rv 1),.int .i64 (sz 1)] _ ?_ Tryz.underlying37 ?_ ?_
  ·rfl
  ·rfl
  ·first|rfl|simp[Act.eval]
  ·exact fun W hW=>hW.2.1 1 (by omega)
  ·rfl
  ·rfl
 try simp only[Act.put,Zd,Ze,Zf]
 refine Zk (i:=7) (o:= ?_) (by kernel_rfl) ?_ (fun K hK=> ?_)
 rotate_left 1
 ·(simp only[Za,Zb,Zc]; rfl)
 go_simp
 go_at_call 80
 refine(HI.out w3.drew Hw3.out.drew.kept Hw3.out.drew.kept.size).mono ?_
 rintro e w4 ⟨v1,rfl,ho1,hb1,hl1⟩
 have hdi:=Hw3.out.drew.below hb1
 have Hw4:=Zg hdi
 have HS2:=Zg (show w4.cell? ⟨P,39,none⟩=some x.img∧(∀ i,i<16→w4.rangeAt D (2 * i) [.int .i64 (rv i),.int .i64 (sz i)])∧w4.cell? ⟨P,0,none⟩=some (.int .u64 base) from⟨hdi.img39,fun i hi=>hdi.dir i hi,hdi.base0 HBA.out⟩)
 have HL1:=Zg (show ZM D (SI v1) w4 from hl1.less (by rw[←HDE.out]; exact Hw3.out.drew.kept.size))
 have HO1:=Zg ho1
 have HL0:=Zg ((HL0.out.below (Below.refl _ _).drew).below hb1)
 clear hdi hl1 ho1 hb1 HS
 refine hK.out _ _ HS2.out (fun _=>trivial) ?_
 clear hK K
 try simp only[Act.put,Zd,Ze,Zf]
 refine wT (i:=8) (oi:= ?_) (v:= ?_) ?_ ?_ HS2.out ?_
 rotate_left 2
 ·(simp only[Za,Zb,Zc]; rfl)
 ·(first|exact Or.inr ⟨by rfl,rfl⟩|(refine Or.inl ⟨by rfl,?_⟩; intro W hSw; clear hSw; go_simp; try with_reducible rfl))
 try simp only[Act.put,Zd,Ze,Zf]
 refine wT (i:=9) (oi:= ?_) (v:= ?_) ?_ ?_ HS2.out ?_
 rotate_left 2
 ·(simp only[Za,Zb,Zc]; rfl)
 ·(first|exact Or.inr ⟨by rfl,rfl⟩|(refine Or.inl ⟨by rfl,?_⟩; intro W hSw; clear hSw; go_simp; try with_reducible rfl))
 try simp only[Act.put,Zd,Ze,Zf]
 refine wT (i:=10) (oi:= ?_) (v:= ?_) ?_ ?_ HS2.out ?_
 rotate_left 2
 ·(simp only[Za,Zb,Zc]; rfl)
 ·(first|exact Or.inr ⟨by rfl,rfl⟩|(refine Or.inl ⟨by rfl,?_⟩; intro W hSw; clear hSw; go_simp; try with_reducible rfl))
 try simp only[Act.put,Zd,Ze,Zf]
 refine wT (i:=11) (oi:= ?_) (v:= ?_) ?_ ?_ HS2.out ?_
 rotate_left 2
 ·(simp only[Za,Zb,Zc]; rfl)
 ·(first|exact Or.inr ⟨by rfl,rfl⟩|(refine Or.inl ⟨by rfl,?_⟩; intro W hSw; clear hSw; go_simp; try with_reducible rfl))
 try simp only[Act.put,Zd,Ze,Zf]
 refine wT (i:=12) (oi:= ?_) (v:= ?_) ?_ ?_ HS2.out ?_
 rotate_left 2
 ·(simp only[Za,Zb,Zc]; rfl)
 ·(first|exact Or.inr ⟨by rfl,rfl⟩|(refine Or.inl ⟨by rfl,?_⟩; intro W hSw; clear hSw; go_simp; try with_reducible rfl))
 try simp only[Act.put,Zd,Ze,Zf]
 refine Zk (i:=13) (o:= ?_) (by kernel_rfl) ?_ (fun K hK=> ?_)
 rotate_left 1
 ·(simp only[Za,Zb,Zc]; rfl)
 refine Xz rfl 46 (.tmp 38) (.tmp 35) rfl P 43 v1 (by first|rfl|simp[Act.eval]) (by first|rfl|simp[Act.eval]) (Hw4.out.pe.there 43 1 (by omega)) (by kernel_rfl) HO1.out ?_
 have hk1:Xg (fun k=>k≠P) w4 (w4.setCell ⟨P,43,none⟩ v1):=YQ _ P 43 _
 obtain⟨y1,hy1⟩: ∃ y:PeV,{ y0 with im:=v1 }=y:=⟨_,rfl⟩
 have hdi:=Hw4.out.wrote HP.out (y':=y1) hk1 (by rw[←hy1]; exact Hw4.out.pe.im v1) (by rw[←hy1]) (by rw[←hy1])
 have hpd:P<D:=by rw[←HDE.out]; exact HP.out
 have HL0:=Zg (HL0.out.wrote hpd hk1)
 have HL1:=Zg (HL1.out.wrote hpd hk1)
 generalize w4.setCell ⟨P,43,none⟩ v1=w5 at *
 have Hw5:=Zg hdi
 have HS3:=Zg (show w5.cell? ⟨P,39,none⟩=some x.img∧(∀ i,i<16→w5.rangeAt D (2 * i) [.int .i64 (rv i),.int .i64 (sz i)])∧w5.cell? ⟨P,0,none⟩=some (.int .u64 base) from⟨hdi.img39,fun i hi=>hdi.dir i hi,hdi.base0 HBA.out⟩)
 have HY1:=Zg hy1
 clear hdi hk1 hpd hy1 HS2 Hw4
 refine hK.out _ _ HS3.out (fun _=>trivial) ?_
 clear hK K
 try simp only[Act.put,Zd,Ze,Zf]
 refine wT (i:=14) (oi:= ?_) (v:= ?_) ?_ ?_ HS3.out ?_
 rotate_left 2
 ·(simp only[Za,Zb,Zc]; rfl)
 ·(first|exact Or.inr ⟨by rfl,rfl⟩|(refine Or.inl ⟨by rfl,?_⟩; intro W hSw; clear hSw; go_simp; try with_reducible rfl))
 try simp only[Act.put,Zd,Ze,Zf]
 refine Zp (by kernel_rfl) ?_ _
 refine NoPanic.normal ?_
 clear HS3
 by_cases he1: ¬ eI=0
 ·have hfe:=Zco eE eI eR eT eB eD he0 he1
  have HFE:=Zg (And.intro hfe (show ¬ ZK eE eI eR eT eB eD=0 from by rw[hfe]; exact he1))
  have hbe:(eI == 0)=false:=beq_eq_false_iff_ne.2 he1
  clear hfe he0 he1
  go_wp2_with fail
  go_ret
  exact⟨by rw[HFE.out.1]; rfl,Hw5.out.kept,fun h=>absurd h HFE.out.2⟩
 replace he1:eI=0:=Decidable.not_not.1 he1
 go_upto_region 9 with(fail)
 have HS:=Zg (show w5.drew.cell? ⟨P,39,none⟩=some x.img∧(∀ i,i<16→w5.drew.rangeAt D (2 * i) [.int .i64 (rv i),.int .i64 (sz i)])∧w5.drew.cell? ⟨P,0,none⟩=some (.int .u64 base) from⟨Hw5.out.drew.img39,fun i hi=>Hw5.out.drew.dir i hi,Hw5.out.drew.base0 HBA.out⟩)
 refine wp_region_noPanic ?_
 refine Zw (fun W=>W.cell? ⟨P,39,none⟩=some x.img∧(∀ i,i<16→W.rangeAt D (2 * i) [.int .i64 (rv i),.int .i64 (sz i)])∧W.cell? ⟨P,0,none⟩=some (.int .u64 base)) (fun _=>True) 99 (by kernel_rfl) ?_
 refine wT (i:=0) (oi:= ?_) (v:= ?_) ?_ ?_ HS.out ?_
 rotate_left 2
 ·(simp only[Za,Zb,Zc]; rfl)
 ·(first|exact Or.inr ⟨by rfl,rfl⟩|(refine Or.inl ⟨by rfl,?_⟩; intro W hSw; clear hSw; go_simp; try with_reducible rfl))
 try simp only[Act.put,Zd,Ze,Zf]
 refine wT (i:=1) (oi:= ?_) (v:= ?_) ?_ ?_ HS.out ?_
 rotate_left 2
 ·(simp only[Za,Zb,Zc]; rfl)
 ·(first|exact Or.inr ⟨by rfl,rfl⟩|(refine Or.inl ⟨by rfl,?_⟩; intro W hSw; clear hSw; go_simp; try with_reducible rfl))
 try simp only[Act.put,Zd,Ze,Zf]
 refine wT (i:=2) (oi:= ?_) (v:= ?_) ?_ ?_ HS.out ?_
 rotate_left 2
 ·(simp only[Za,Zb,Zc]; rfl)
 ·(first|exact Or.inr ⟨by rfl,rfl⟩|(refine Or.inl ⟨by rfl,?_⟩; intro W hSw; clear hSw; go_simp; try with_reducible rfl))
 try simp only[Act.put,Zd,Ze,Zf]
 refine wT (i:=3) (oi:= ?_) (v:= ?_) ?_ ?_ HS.out ?_
 rotate_left 2
 ·(simp only[Za,Zb,Zc]; rfl)
 ·(first|exact Or.inr ⟨by rfl,rfl⟩|(refine Or.inl ⟨by rfl,?_⟩; intro W hSw; clear hSw; go_simp; try with_reducible rfl))
 try simp only[Act.put,Zd,Ze,Zf]
 refine wT (i:=4) (oi:= ?_) (v:= ?_) ?_ ?_ HS.out ?_
 rotate_left 2
 ·(simp only[Za,Zb,Zc]; rfl)
 ·(first|exact Or.inr ⟨by rfl,rfl⟩|(refine Or.inl ⟨by rfl,?_⟩; intro W hSw; have hq:=hSw.1; clear hSw; go_simp; try with_reducible rfl))
 try simp only[Act.put,Zd,Ze,Zf]
 refine wT (i:=5) (oi:= ?_) (v:= ?_) ?_ ?_ HS.out ?_
 rotate_left 2
 ·(simp only[Za,Zb,Zc]; rfl)
 ·(first|exact Or.inr ⟨by rfl,rfl⟩|(refine Or.inl ⟨by rfl,?_⟩; intro W hSw; clear hSw; go_simp; try with_reducible rfl))
 try simp only[Act.put,Zd,Ze,Zf]
 refine wT (i:=6) (oi:= ?_) (v:= ?_) ?_ ?_ HS.out ?_
 rotate_left 2
 ·(simp only[Za,Zb,Zc]; rfl)
 ·refine yieldsIf_load_mid ?_ 37 (.tmp 48) ?_ D 10 ?_ [.int .i64 (rv 5),.int .i64 (sz 5)] _ ?_ Tryz.underlying37 ?_ ?_
  ·rfl
  ·rfl
  ·first|rfl|simp[Act.eval]
  ·exact fun W hW=>hW.2.1 5 (by omega)
  ·rfl
  ·rfl
 try simp only[Act.put,Zd,Ze,Zf]
 refine Zk (i:=7) (o:= ?_) (by kernel_rfl) ?_ (fun K hK=> ?_)
 rotate_left 1
 ·(simp only[Za,Zb,Zc]; rfl)
 go_simp
 go_at_call 81
 refine(HR.out w5.drew Hw5.out.drew.kept Hw5.out.drew.kept.size).mono ?_
 rintro e w6 ⟨v2,rfl,ho2,hb2,hl2⟩
 have hdi:=Hw5.out.drew.below hb2
 have Hw6:=Zg hdi
 have HS2:=Zg (show w6.cell? ⟨P,39,none⟩=some x.img∧(∀ i,i<16→w6.rangeAt D (2 * i) [.int .i64 (rv i),.int .i64 (sz i)])∧w6.cell? ⟨P,0,none⟩=some (.int .u64 base) from⟨hdi.img39,fun i hi=>hdi.dir i hi,hdi.base0 HBA.out⟩)
 have HL2:=Zg (show ZM D (SR v2) w6 from hl2.less (by rw[←HDE.out]; exact Hw5.out.drew.kept.size))
 have HO2:=Zg ho2
 have HL0:=Zg ((HL0.out.below (Below.refl _ _).drew).below hb2)
 have HL1:=Zg ((HL1.out.below (Below.refl _ _).drew).below hb2)
 clear hdi hl2 ho2 hb2 HS
 refine hK.out _ _ HS2.out (fun _=>trivial) ?_
 clear hK K
 try simp only[Act.put,Zd,Ze,Zf]
 refine wT (i:=8) (oi:= ?_) (v:= ?_) ?_ ?_ HS2.out ?_
 rotate_left 2
 ·(simp only[Za,Zb,Zc]; rfl)
 ·(first|exact Or.inr ⟨by rfl,rfl⟩|(refine Or.inl ⟨by rfl,?_⟩; intro W hSw; clear hSw; go_simp; try with_reducible rfl))
 try simp only[Act.put,Zd,Ze,Zf]
 refine wT (i:=9) (oi:= ?_) (v:= ?_) ?_ ?_ HS2.out ?_
 rotate_left 2
 ·(simp only[Za,Zb,Zc]; rfl)
 ·(first|exact Or.inr ⟨by rfl,rfl⟩|(refine Or.inl ⟨by rfl,?_⟩; intro W hSw; clear hSw; go_simp; try with_reducible rfl))
 try simp only[Act.put,Zd,Ze,Zf]
 refine wT (i:=10) (oi:= ?_) (v:= ?_) ?_ ?_ HS2.out ?_
 rotate_left 2
 ·(simp only[Za,Zb,Zc]; rfl)
 ·(first|exact Or.inr ⟨by rfl,rfl⟩|(refine Or.inl ⟨by rfl,?_⟩; intro W hSw; clear hSw; go_simp; try with_reducible rfl))
 try simp only[Act.put,Zd,Ze,Zf]
 refine wT (i:=11) (oi:= ?_) (v:= ?_) ?_ ?_ HS2.out ?_
 rotate_left 2
 ·(simp only[Za,Zb,Zc]; rfl)
 ·(first|exact Or.inr ⟨by rfl,rfl⟩|(refine Or.inl ⟨by rfl,?_⟩; intro W hSw; clear hSw; go_simp; try with_reducible rfl))
 try simp only[Act.put,Zd,Ze,Zf]
 refine wT (i:=12) (oi:= ?_) (v:= ?_) ?_ ?_ HS2.out ?_
 rotate_left 2
 ·(simp only[Za,Zb,Zc]; rfl)
 ·(first|exact Or.inr ⟨by rfl,rfl⟩|(refine Or.inl ⟨by rfl,?_⟩; intro W hSw; clear hSw; go_simp; try with_reducible rfl))
 try simp only[Act.put,Zd,Ze,Zf]
 refine Zk (i:=13) (o:= ?_) (by kernel_rfl) ?_ (fun K hK=> ?_)
 rotate_left 1
 ·(simp only[Za,Zb,Zc]; rfl)
 refine Xz rfl 29 (.tmp 54) (.tmp 51) rfl P 46 v2 (by first|rfl|simp[Act.eval]) (by first|rfl|simp[Act.eval]) (Hw6.out.pe.there 46 1 (by omega)) (by kernel_rfl) HO2.out ?_
 have hk2:Xg (fun k=>k≠P) w6 (w6.setCell ⟨P,46,none⟩ v2):=YQ _ P 46 _
 obtain⟨y2,hy2⟩: ∃ y:PeV,{ y1 with re:=v2 }=y:=⟨_,rfl⟩
 have hdi:=Hw6.out.wrote HP.out (y':=y2) hk2 (by rw[←hy2]; exact Hw6.out.pe.re v2) (by rw[←hy2]) (by rw[←hy2])
 have hpd:P<D:=by rw[←HDE.out]; exact HP.out
 have HL0:=Zg (HL0.out.wrote hpd hk2)
 have HL1:=Zg (HL1.out.wrote hpd hk2)
 have HL2:=Zg (HL2.out.wrote hpd hk2)
 generalize w6.setCell ⟨P,46,none⟩ v2=w7 at *
 have Hw7:=Zg hdi
 have HS3:=Zg (show w7.cell? ⟨P,39,none⟩=some x.img∧(∀ i,i<16→w7.rangeAt D (2 * i) [.int .i64 (rv i),.int .i64 (sz i)])∧w7.cell? ⟨P,0,none⟩=some (.int .u64 base) from⟨hdi.img39,fun i hi=>hdi.dir i hi,hdi.base0 HBA.out⟩)
 have HY2:=Zg hy2
 clear hdi hk2 hpd hy2 HS2 Hw6
 refine hK.out _ _ HS3.out (fun _=>trivial) ?_
 clear hK K
 try simp only[Act.put,Zd,Ze,Zf]
 refine wT (i:=14) (oi:= ?_) (v:= ?_) ?_ ?_ HS3.out ?_
 rotate_left 2
 ·(simp only[Za,Zb,Zc]; rfl)
 ·(first|exact Or.inr ⟨by rfl,rfl⟩|(refine Or.inl ⟨by rfl,?_⟩; intro W hSw; clear hSw; go_simp; try with_reducible rfl))
 try simp only[Act.put,Zd,Ze,Zf]
 refine Zp (by kernel_rfl) ?_ _
 refine NoPanic.normal ?_
 clear HS3
 by_cases he2: ¬ eR=0
 ·have hfe:=Zcp eE eI eR eT eB eD he0 he1 he2
  have HFE:=Zg (And.intro hfe (show ¬ ZK eE eI eR eT eB eD=0 from by rw[hfe]; exact he2))
  have hbe:(eR == 0)=false:=beq_eq_false_iff_ne.2 he2
  clear hfe he0 he1 he2
  go_wp2_with fail
  go_ret
  exact⟨by rw[HFE.out.1]; rfl,Hw7.out.kept,fun h=>absurd h HFE.out.2⟩
 replace he2:eR=0:=Decidable.not_not.1 he2
 go_upto_region 12 with(fail)
 have HS:=Zg (show w7.drew.cell? ⟨P,39,none⟩=some x.img∧(∀ i,i<16→w7.drew.rangeAt D (2 * i) [.int .i64 (rv i),.int .i64 (sz i)])∧w7.drew.cell? ⟨P,0,none⟩=some (.int .u64 base) from⟨Hw7.out.drew.img39,fun i hi=>Hw7.out.drew.dir i hi,Hw7.out.drew.base0 HBA.out⟩)
 refine wp_region_noPanic ?_
 refine Zw (fun W=>W.cell? ⟨P,39,none⟩=some x.img∧(∀ i,i<16→W.rangeAt D (2 * i) [.int .i64 (rv i),.int .i64 (sz i)])∧W.cell? ⟨P,0,none⟩=some (.int .u64 base)) (fun _=>True) 99 (by kernel_rfl) ?_
 refine wT (i:=0) (oi:= ?_) (v:= ?_) ?_ ?_ HS.out ?_
 rotate_left 2
 ·(simp only[Za,Zb,Zc]; rfl)
 ·(first|exact Or.inr ⟨by rfl,rfl⟩|(refine Or.inl ⟨by rfl,?_⟩; intro W hSw; clear hSw; go_simp; try with_reducible rfl))
 try simp only[Act.put,Zd,Ze,Zf]
 refine wT (i:=1) (oi:= ?_) (v:= ?_) ?_ ?_ HS.out ?_
 rotate_left 2
 ·(simp only[Za,Zb,Zc]; rfl)
 ·(first|exact Or.inr ⟨by rfl,rfl⟩|(refine Or.inl ⟨by rfl,?_⟩; intro W hSw; clear hSw; go_simp; try with_reducible rfl))
 try simp only[Act.put,Zd,Ze,Zf]
 refine wT (i:=2) (oi:= ?_) (v:= ?_) ?_ ?_ HS.out ?_
 rotate_left 2
 ·(simp only[Za,Zb,Zc]; rfl)
 ·(first|exact Or.inr ⟨by rfl,rfl⟩|(refine Or.inl ⟨by rfl,?_⟩; intro W hSw; clear hSw; go_simp; try with_reducible rfl))
 try simp only[Act.put,Zd,Ze,Zf]
 refine wT (i:=3) (oi:= ?_) (v:= ?_) ?_ ?_ HS.out ?_
 rotate_left 2
 ·(simp only[Za,Zb,Zc]; rfl)
 ·(first|exact Or.inr ⟨by rfl,rfl⟩|(refine Or.inl ⟨by rfl,?_⟩; intro W hSw; clear hSw; go_simp; try with_reducible rfl))
 try simp only[Act.put,Zd,Ze,Zf]
 refine wT (i:=4) (oi:= ?_) (v:= ?_) ?_ ?_ HS.out ?_
 rotate_left 2
 ·(simp only[Za,Zb,Zc]; rfl)
 ·(first|exact Or.inr ⟨by rfl,rfl⟩|(refine Or.inl ⟨by rfl,?_⟩; intro W hSw; have hq:=hSw.1; clear hSw; go_simp; try with_reducible rfl))
 try simp only[Act.put,Zd,Ze,Zf]
 refine wT (i:=5) (oi:= ?_) (v:= ?_) ?_ ?_ HS.out ?_
 rotate_left 2
 ·(simp only[Za,Zb,Zc]; rfl)
 ·(first|exact Or.inr ⟨by rfl,rfl⟩|(refine Or.inl ⟨by rfl,?_⟩; intro W hSw; clear hSw; go_simp; try with_reducible rfl))
 try simp only[Act.put,Zd,Ze,Zf]
 refine wT (i:=6) (oi:= ?_) (v:= ?_) ?_ ?_ HS.out ?_
 rotate_left 2
 ·(simp only[Za,Zb,Zc]; rfl)
 ·refine yieldsIf_load_mid ?_ 37 (.tmp 64) ?_ D 18 ?_ [.int .i64 (rv 9),.int .i64 (sz 9)] _ ?_ Tryz.underlying37 ?_ ?_
  ·rfl
  ·rfl
  ·first|rfl|simp[Act.eval]
  ·exact fun W hW=>hW.2.1 9 (by omega)
  ·rfl
  ·rfl
 try simp only[Act.put,Zd,Ze,Zf]
 refine wT (i:=7) (oi:= ?_) (v:= ?_) ?_ ?_ HS.out ?_
 rotate_left 2
 ·(simp only[Za,Zb,Zc]; rfl)
 ·(first|exact Or.inr ⟨by rfl,rfl⟩|(refine Or.inl ⟨by rfl,?_⟩; intro W hSw; clear hSw; go_simp; try with_reducible rfl))
 try simp only[Act.put,Zd,Ze,Zf]
 refine wT (i:=8) (oi:= ?_) (v:= ?_) ?_ ?_ HS.out ?_
 rotate_left 2
 ·(simp only[Za,Zb,Zc]; rfl)
 ·(first|exact Or.inr ⟨by rfl,rfl⟩|(refine Or.inl ⟨by rfl,?_⟩; intro W hSw; clear hSw; go_simp; try with_reducible rfl))
 try simp only[Act.put,Zd,Ze,Zf]
 refine wT (i:=9) (oi:= ?_) (v:= ?_) ?_ ?_ HS.out ?_
 rotate_left 2
 ·(simp only[Za,Zb,Zc]; rfl)
 ·(first|exact Or.inr ⟨by rfl,rfl⟩|(refine Or.inl ⟨by rfl,?_⟩; intro W hSw; clear hSw; go_simp; try with_reducible rfl))
 try simp only[Act.put,Zd,Ze,Zf]
 refine wT (i:=10) (oi:= ?_) (v:= ?_) ?_ ?_ HS.out ?_
 rotate_left 2
 ·(simp only[Za,Zb,Zc]; rfl)
 ·(first|exact Or.inr ⟨by rfl,rfl⟩|(refine Or.inl ⟨by rfl,?_⟩; intro W hSw; clear hSw; go_simp; try with_reducible rfl))
 try simp only[Act.put,Zd,Ze,Zf]
 refine wT (i:=11) (oi:= ?_) (v:= ?_) ?_ ?_ HS.out ?_
 rotate_left 2
 ·(simp only[Za,Zb,Zc]; rfl)
 ·(first|exact Or.inr ⟨by rfl,rfl⟩|(refine Or.inl ⟨by rfl,?_⟩; intro W hSw; have hq:=hSw.2.2; clear hSw; go_simp; try with_reducible rfl))
 try simp only[Act.put,Zd,Ze,Zf]
 refine Zk (i:=12) (o:= ?_) (by kernel_rfl) ?_ (fun K hK=> ?_)
 rotate_left 1
 ·(simp only[Za,Zb,Zc]; rfl)
 go_simp
 go_at_call 82
 refine(HT.out w7.drew Hw7.out.drew.kept Hw7.out.drew.kept.size).mono ?_
 rintro e w8 ⟨a3,b3,c3,rfl,ho3,hb3,hl3⟩
 have hdi:=Hw7.out.drew.below hb3
 have Hw8:=Zg hdi
 have HS2:=Zg (show w8.cell? ⟨P,39,none⟩=some x.img∧(∀ i,i<16→w8.rangeAt D (2 * i) [.int .i64 (rv i),.int .i64 (sz i)])∧w8.cell? ⟨P,0,none⟩=some (.int .u64 base) from⟨hdi.img39,fun i hi=>hdi.dir i hi,hdi.base0 HBA.out⟩)
 have HL3:=Zg (show ZM D (ST a3 b3 c3) w8 from hl3.less (by rw[←HDE.out]; exact Hw7.out.drew.kept.size))
 have HO3:=Zg ho3
 have HL0:=Zg ((HL0.out.below (Below.refl _ _).drew).below hb3)
 have HL1:=Zg ((HL1.out.below (Below.refl _ _).drew).below hb3)
 have HL2:=Zg ((HL2.out.below (Below.refl _ _).drew).below hb3)
 clear hdi hl3 ho3 hb3 HS
 refine hK.out _ _ HS2.out (fun _=>trivial) ?_
 clear hK K
 try simp only[Act.put,Zd,Ze,Zf]
 refine wT (i:=13) (oi:= ?_) (v:= ?_) ?_ ?_ HS2.out ?_
 rotate_left 2
 ·(simp only[Za,Zb,Zc]; rfl)
 ·(first|exact Or.inr ⟨by rfl,rfl⟩|(refine Or.inl ⟨by rfl,?_⟩; intro W hSw; clear hSw; go_simp; try with_reducible rfl))
 try simp only[Act.put,Zd,Ze,Zf]
 refine wT (i:=14) (oi:= ?_) (v:= ?_) ?_ ?_ HS2.out ?_
 rotate_left 2
 ·(simp only[Za,Zb,Zc]; rfl)
 ·(first|exact Or.inr ⟨by rfl,rfl⟩|(refine Or.inl ⟨by rfl,?_⟩; intro W hSw; clear hSw; go_simp; try with_reducible rfl))
 try simp only[Act.put,Zd,Ze,Zf]
 refine wT (i:=15) (oi:= ?_) (v:= ?_) ?_ ?_ HS2.out ?_
 rotate_left 2
 ·(simp only[Za,Zb,Zc]; rfl)
 ·(first|exact Or.inr ⟨by rfl,rfl⟩|(refine Or.inl ⟨by rfl,?_⟩; intro W hSw; clear hSw; go_simp; try with_reducible rfl))
 try simp only[Act.put,Zd,Ze,Zf]
 refine wT (i:=16) (oi:= ?_) (v:= ?_) ?_ ?_ HS2.out ?_
 rotate_left 2
 ·(simp only[Za,Zb,Zc]; rfl)
 ·(first|exact Or.inr ⟨by rfl,rfl⟩|(refine Or.inl ⟨by rfl,?_⟩; intro W hSw; clear hSw; go_simp; try with_reducible rfl))
 try simp only[Act.put,Zd,Ze,Zf]
 refine wT (i:=17) (oi:= ?_) (v:= ?_) ?_ ?_ HS2.out ?_
 rotate_left 2
 ·(simp only[Za,Zb,Zc]; rfl)
 ·(first|exact Or.inr ⟨by rfl,rfl⟩|(refine Or.inl ⟨by rfl,?_⟩; intro W hSw; clear hSw; go_simp; try with_reducible rfl))
 try simp only[Act.put,Zd,Ze,Zf]
 refine Zk (i:=18) (o:= ?_) (by kernel_rfl) ?_ (fun K hK=> ?_)
 rotate_left 1
 ·(simp only[Za,Zb,Zc]; rfl)
 refine Wd rfl 48 (.tmp 75) (.tmp 72) rfl P 47 #[a3,b3,c3] (by first|rfl|simp[Act.eval]) (by first|rfl|simp[Act.eval]) (Hw8.out.pe.there 47 3 (by omega)) (by kernel_rfl) (by simp[HO3.out.1,HO3.out.2.1,HO3.out.2.2]) ?_
 have hk3:Xg (fun k=>k≠P) w8 (w8.setCells P 47 [a3,b3,c3]):=WU _ P 47 _ _ _
 obtain⟨y3,hy3⟩: ∃ y:PeV,{ y2 with t0:=a3,t1:=b3,t2:=c3 }=y:=⟨_,rfl⟩
 have hdi:=Hw8.out.wrote HP.out (y':=y3) hk3 (by rw[←hy3]; exact Hw8.out.pe.tl a3 b3 c3) (by rw[←hy3]) (by rw[←hy3])
 have hpd:P<D:=by rw[←HDE.out]; exact HP.out
 have HL0:=Zg (HL0.out.wrote hpd hk3)
 have HL1:=Zg (HL1.out.wrote hpd hk3)
 have HL2:=Zg (HL2.out.wrote hpd hk3)
 have HL3:=Zg (HL3.out.wrote hpd hk3)
 generalize w8.setCells P 47 [a3,b3,c3]=w9 at *
 have Hw9:=Zg hdi
 have HS3:=Zg (show w9.cell? ⟨P,39,none⟩=some x.img∧(∀ i,i<16→w9.rangeAt D (2 * i) [.int .i64 (rv i),.int .i64 (sz i)])∧w9.cell? ⟨P,0,none⟩=some (.int .u64 base) from⟨hdi.img39,fun i hi=>hdi.dir i hi,hdi.base0 HBA.out⟩)
 have HY3:=Zg hy3
 clear hdi hk3 hpd hy3 HS2 Hw8
 refine hK.out _ _ HS3.out (fun _=>trivial) ?_
 clear hK K
 try simp only[Act.put,Zd,Ze,Zf]
 refine wT (i:=19) (oi:= ?_) (v:= ?_) ?_ ?_ HS3.out ?_
 rotate_left 2
 ·(simp only[Za,Zb,Zc]; rfl)
 ·(first|exact Or.inr ⟨by rfl,rfl⟩|(refine Or.inl ⟨by rfl,?_⟩; intro W hSw; clear hSw; go_simp; try with_reducible rfl))
 try simp only[Act.put,Zd,Ze,Zf]
 refine Zp (by kernel_rfl) ?_ _
 refine NoPanic.normal ?_
 clear HS3
 by_cases he3: ¬ eT=0
 ·have hfe:=Zcq eE eI eR eT eB eD he0 he1 he2 he3
  have HFE:=Zg (And.intro hfe (show ¬ ZK eE eI eR eT eB eD=0 from by rw[hfe]; exact he3))
  have hbe:(eT == 0)=false:=beq_eq_false_iff_ne.2 he3
  clear hfe he0 he1 he2 he3
  go_wp2_with fail
  go_ret
  exact⟨by rw[HFE.out.1]; rfl,Hw9.out.kept,fun h=>absurd h HFE.out.2⟩
 replace he3:eT=0:=Decidable.not_not.1 he3
 go_upto_region 15 with(fail)
 have HS:=Zg (show w9.drew.cell? ⟨P,39,none⟩=some x.img∧(∀ i,i<16→w9.drew.rangeAt D (2 * i) [.int .i64 (rv i),.int .i64 (sz i)])∧w9.drew.cell? ⟨P,0,none⟩=some (.int .u64 base) from⟨Hw9.out.drew.img39,fun i hi=>Hw9.out.drew.dir i hi,Hw9.out.drew.base0 HBA.out⟩)
 refine wp_region_noPanic ?_
 refine Zw (fun W=>W.cell? ⟨P,39,none⟩=some x.img∧(∀ i,i<16→W.rangeAt D (2 * i) [.int .i64 (rv i),.int .i64 (sz i)])∧W.cell? ⟨P,0,none⟩=some (.int .u64 base)) (fun _=>True) 99 (by kernel_rfl) ?_
 refine wT (i:=0) (oi:= ?_) (v:= ?_) ?_ ?_ HS.out ?_
 rotate_left 2
 ·(simp only[Za,Zb,Zc]; rfl)
 ·(first|exact Or.inr ⟨by rfl,rfl⟩|(refine Or.inl ⟨by rfl,?_⟩; intro W hSw; clear hSw; go_simp; try with_reducible rfl))
 try simp only[Act.put,Zd,Ze,Zf]
 refine wT (i:=1) (oi:= ?_) (v:= ?_) ?_ ?_ HS.out ?_
 rotate_left 2
 ·(simp only[Za,Zb,Zc]; rfl)
 ·(first|exact Or.inr ⟨by rfl,rfl⟩|(refine Or.inl ⟨by rfl,?_⟩; intro W hSw; clear hSw; go_simp; try with_reducible rfl))
 try simp only[Act.put,Zd,Ze,Zf]
 refine wT (i:=2) (oi:= ?_) (v:= ?_) ?_ ?_ HS.out ?_
 rotate_left 2
 ·(simp only[Za,Zb,Zc]; rfl)
 ·(first|exact Or.inr ⟨by rfl,rfl⟩|(refine Or.inl ⟨by rfl,?_⟩; intro W hSw; clear hSw; go_simp; try with_reducible rfl))
 try simp only[Act.put,Zd,Ze,Zf]
 refine wT (i:=3) (oi:= ?_) (v:= ?_) ?_ ?_ HS.out ?_
 rotate_left 2
 ·(simp only[Za,Zb,Zc]; rfl)
 ·(first|exact Or.inr ⟨by rfl,rfl⟩|(refine Or.inl ⟨by rfl,?_⟩; intro W hSw; clear hSw; go_simp; try with_reducible rfl))
 try simp only[Act.put,Zd,Ze,Zf]
 refine wT (i:=4) (oi:= ?_) (v:= ?_) ?_ ?_ HS.out ?_
 rotate_left 2
 ·(simp only[Za,Zb,Zc]; rfl)
 ·(first|exact Or.inr ⟨by rfl,rfl⟩|(refine Or.inl ⟨by rfl,?_⟩; intro W hSw; have hq:=hSw.1; clear hSw; go_simp; try with_reducible rfl))
 try simp only[Act.put,Zd,Ze,Zf]
 refine wT (i:=5) (oi:= ?_) (v:= ?_) ?_ ?_ HS.out ?_
 rotate_left 2
 ·(simp only[Za,Zb,Zc]; rfl)
 ·(first|exact Or.inr ⟨by rfl,rfl⟩|(refine Or.inl ⟨by rfl,?_⟩; intro W hSw; clear hSw; go_simp; try with_reducible rfl))
 try simp only[Act.put,Zd,Ze,Zf]
 refine wT (i:=6) (oi:= ?_) (v:= ?_) ?_ ?_ HS.out ?_
 rotate_left 2
 ·(simp only[Za,Zb,Zc]; rfl)
 ·refine yieldsIf_load_mid ?_ 37 (.tmp 85) ?_ D 22 ?_ [.int .i64 (rv 11),.int .i64 (sz 11)] _ ?_ Tryz.underlying37 ?_ ?_
  ·rfl
  ·rfl
  ·first|rfl|simp[Act.eval]
  ·exact fun W hW=>hW.2.1 11 (by omega)
  ·rfl
  ·rfl
 try simp only[Act.put,Zd,Ze,Zf]
 refine Zk (i:=7) (o:= ?_) (by kernel_rfl) ?_ (fun K hK=> ?_)
 rotate_left 1
 ·(simp only[Za,Zb,Zc]; rfl)
 go_simp
 go_at_call 83
 refine(HB.out w9.drew Hw9.out.drew.kept Hw9.out.drew.kept.size).mono ?_
 rintro e w10 ⟨v4,rfl,ho4,hb4,hl4⟩
 have hdi:=Hw9.out.drew.below hb4
 have Hw10:=Zg hdi
 have HS2:=Zg (show w10.cell? ⟨P,39,none⟩=some x.img∧(∀ i,i<16→w10.rangeAt D (2 * i) [.int .i64 (rv i),.int .i64 (sz i)])∧w10.cell? ⟨P,0,none⟩=some (.int .u64 base) from⟨hdi.img39,fun i hi=>hdi.dir i hi,hdi.base0 HBA.out⟩)
 have HL4:=Zg (show ZM D (SB v4) w10 from hl4.less (by rw[←HDE.out]; exact Hw9.out.drew.kept.size))
 have HO4:=Zg ho4
 have HL0:=Zg ((HL0.out.below (Below.refl _ _).drew).below hb4)
 have HL1:=Zg ((HL1.out.below (Below.refl _ _).drew).below hb4)
 have HL2:=Zg ((HL2.out.below (Below.refl _ _).drew).below hb4)
 have HL3:=Zg ((HL3.out.below (Below.refl _ _).drew).below hb4)
 clear hdi hl4 ho4 hb4 HS
 refine hK.out _ _ HS2.out (fun _=>trivial) ?_
 clear hK K
 try simp only[Act.put,Zd,Ze,Zf]
 refine wT (i:=8) (oi:= ?_) (v:= ?_) ?_ ?_ HS2.out ?_
 rotate_left 2
 ·(simp only[Za,Zb,Zc]; rfl)
 ·(first|exact Or.inr ⟨by rfl,rfl⟩|(refine Or.inl ⟨by rfl,?_⟩; intro W hSw; clear hSw; go_simp; try with_reducible rfl))
 try simp only[Act.put,Zd,Ze,Zf]
 refine wT (i:=9) (oi:= ?_) (v:= ?_) ?_ ?_ HS2.out ?_
 rotate_left 2
 ·(simp only[Za,Zb,Zc]; rfl)
 ·(first|exact Or.inr ⟨by rfl,rfl⟩|(refine Or.inl ⟨by rfl,?_⟩; intro W hSw; clear hSw; go_simp; try with_reducible rfl))
 try simp only[Act.put,Zd,Ze,Zf]
 refine wT (i:=10) (oi:= ?_) (v:= ?_) ?_ ?_ HS2.out ?_
 rotate_left 2
 ·(simp only[Za,Zb,Zc]; rfl)
 ·(first|exact Or.inr ⟨by rfl,rfl⟩|(refine Or.inl ⟨by rfl,?_⟩; intro W hSw; clear hSw; go_simp; try with_reducible rfl))
 try simp only[Act.put,Zd,Ze,Zf]
 refine wT (i:=11) (oi:= ?_) (v:= ?_) ?_ ?_ HS2.out ?_
 rotate_left 2
 ·(simp only[Za,Zb,Zc]; rfl)
 ·(first|exact Or.inr ⟨by rfl,rfl⟩|(refine Or.inl ⟨by rfl,?_⟩; intro W hSw; clear hSw; go_simp; try with_reducible rfl))
 try simp only[Act.put,Zd,Ze,Zf]
 refine wT (i:=12) (oi:= ?_) (v:= ?_) ?_ ?_ HS2.out ?_
 rotate_left 2
 ·(simp only[Za,Zb,Zc]; rfl)
 ·(first|exact Or.inr ⟨by rfl,rfl⟩|(refine Or.inl ⟨by rfl,?_⟩; intro W hSw; clear hSw; go_simp; try with_reducible rfl))
 try simp only[Act.put,Zd,Ze,Zf]
 refine Zk (i:=13) (o:= ?_) (by kernel_rfl) ?_ (fun K hK=> ?_)
 rotate_left 1
 ·(simp only[Za,Zb,Zc]; rfl)
 refine Xz rfl 30 (.tmp 91) (.tmp 88) rfl P 45 v4 (by first|rfl|simp[Act.eval]) (by first|rfl|simp[Act.eval]) (Hw10.out.pe.there 45 1 (by omega)) (by kernel_rfl) HO4.out ?_
 have hk4:Xg (fun k=>k≠P) w10 (w10.setCell ⟨P,45,none⟩ v4):=YQ _ P 45 _
 obtain⟨y4,hy4⟩: ∃ y:PeV,{ y3 with bo:=v4 }=y:=⟨_,rfl⟩
 have hdi:=Hw10.out.wrote HP.out (y':=y4) hk4 (by rw[←hy4]; exact Hw10.out.pe.bo v4) (by rw[←hy4]) (by rw[←hy4])
 have hpd:P<D:=by rw[←HDE.out]; exact HP.out
 have HL0:=Zg (HL0.out.wrote hpd hk4)
 have HL1:=Zg (HL1.out.wrote hpd hk4)
 have HL2:=Zg (HL2.out.wrote hpd hk4)
 have HL3:=Zg (HL3.out.wrote hpd hk4)
 have HL4:=Zg (HL4.out.wrote hpd hk4)
 generalize w10.setCell ⟨P,45,none⟩ v4=w11 at *
 have Hw11:=Zg hdi
 have HS3:=Zg (show w11.cell? ⟨P,39,none⟩=some x.img∧(∀ i,i<16→w11.rangeAt D (2 * i) [.int .i64 (rv i),.int .i64 (sz i)])∧w11.cell? ⟨P,0,none⟩=some (.int .u64 base) from⟨hdi.img39,fun i hi=>hdi.dir i hi,hdi.base0 HBA.out⟩)
 have HY4:=Zg hy4
 clear hdi hk4 hpd hy4 HS2 Hw10
 refine hK.out _ _ HS3.out (fun _=>trivial) ?_
 clear hK K
 try simp only[Act.put,Zd,Ze,Zf]
 refine wT (i:=14) (oi:= ?_) (v:= ?_) ?_ ?_ HS3.out ?_
 rotate_left 2
 ·(simp only[Za,Zb,Zc]; rfl)
 ·(first|exact Or.inr ⟨by rfl,rfl⟩|(refine Or.inl ⟨by rfl,?_⟩; intro W hSw; clear hSw; go_simp; try with_reducible rfl))
 try simp only[Act.put,Zd,Ze,Zf]
 refine Zp (by kernel_rfl) ?_ _
 refine NoPanic.normal ?_
 clear HS3
 by_cases he4: ¬ eB=0
 ·have hfe:=Zcr eE eI eR eT eB eD he0 he1 he2 he3 he4
  have HFE:=Zg (And.intro hfe (show ¬ ZK eE eI eR eT eB eD=0 from by rw[hfe]; exact he4))
  have hbe:(eB == 0)=false:=beq_eq_false_iff_ne.2 he4
  clear hfe he0 he1 he2 he3 he4
  go_wp2_with fail
  go_ret
  exact⟨by rw[HFE.out.1]; rfl,Hw11.out.kept,fun h=>absurd h HFE.out.2⟩
 replace he4:eB=0:=Decidable.not_not.1 he4
 go_upto_region 18 with(fail)
 have HS:=Zg (show w11.drew.cell? ⟨P,39,none⟩=some x.img∧(∀ i,i<16→w11.drew.rangeAt D (2 * i) [.int .i64 (rv i),.int .i64 (sz i)])∧w11.drew.cell? ⟨P,0,none⟩=some (.int .u64 base) from⟨Hw11.out.drew.img39,fun i hi=>Hw11.out.drew.dir i hi,Hw11.out.drew.base0 HBA.out⟩)
 refine wp_region_noPanic ?_
 refine Zw (fun W=>W.cell? ⟨P,39,none⟩=some x.img∧(∀ i,i<16→W.rangeAt D (2 * i) [.int .i64 (rv i),.int .i64 (sz i)])∧W.cell? ⟨P,0,none⟩=some (.int .u64 base)) (fun _=>True) 99 (by kernel_rfl) ?_
 refine wT (i:=0) (oi:= ?_) (v:= ?_) ?_ ?_ HS.out ?_
 rotate_left 2
 ·(simp only[Za,Zb,Zc]; rfl)
 ·(first|exact Or.inr ⟨by rfl,rfl⟩|(refine Or.inl ⟨by rfl,?_⟩; intro W hSw; clear hSw; go_simp; try with_reducible rfl))
 try simp only[Act.put,Zd,Ze,Zf]
 refine wT (i:=1) (oi:= ?_) (v:= ?_) ?_ ?_ HS.out ?_
 rotate_left 2
 ·(simp only[Za,Zb,Zc]; rfl)
 ·(first|exact Or.inr ⟨by rfl,rfl⟩|(refine Or.inl ⟨by rfl,?_⟩; intro W hSw; clear hSw; go_simp; try with_reducible rfl))
 try simp only[Act.put,Zd,Ze,Zf]
 refine wT (i:=2) (oi:= ?_) (v:= ?_) ?_ ?_ HS.out ?_
 rotate_left 2
 ·(simp only[Za,Zb,Zc]; rfl)
 ·(first|exact Or.inr ⟨by rfl,rfl⟩|(refine Or.inl ⟨by rfl,?_⟩; intro W hSw; clear hSw; go_simp; try with_reducible rfl))
 try simp only[Act.put,Zd,Ze,Zf]
 refine wT (i:=3) (oi:= ?_) (v:= ?_) ?_ ?_ HS.out ?_
 rotate_left 2
 ·(simp only[Za,Zb,Zc]; rfl)
 ·(first|exact Or.inr ⟨by rfl,rfl⟩|(refine Or.inl ⟨by rfl,?_⟩; intro W hSw; clear hSw; go_simp; try with_reducible rfl))
 try simp only[Act.put,Zd,Ze,Zf]
 refine wT (i:=4) (oi:= ?_) (v:= ?_) ?_ ?_ HS.out ?_
 rotate_left 2
 ·(simp only[Za,Zb,Zc]; rfl)
 ·(first|exact Or.inr ⟨by rfl,rfl⟩|(refine Or.inl ⟨by rfl,?_⟩; intro W hSw; have hq:=hSw.1; clear hSw; go_simp; try with_reducible rfl))
 try simp only[Act.put,Zd,Ze,Zf]
 refine wT (i:=5) (oi:= ?_) (v:= ?_) ?_ ?_ HS.out ?_
 rotate_left 2
 ·(simp only[Za,Zb,Zc]; rfl)
 ·(first|exact Or.inr ⟨by rfl,rfl⟩|(refine Or.inl ⟨by rfl,?_⟩; intro W hSw; clear hSw; go_simp; try with_reducible rfl))
 try simp only[Act.put,Zd,Ze,Zf]
 refine wT (i:=6) (oi:= ?_) (v:= ?_) ?_ ?_ HS.out ?_
 rotate_left 2
 ·(simp only[Za,Zb,Zc]; rfl)
 ·refine yieldsIf_load_mid ?_ 37 (.tmp 101) ?_ D 26 ?_ [.int .i64 (rv 13),.int .i64 (sz 13)] _ ?_ Tryz.underlying37 ?_ ?_
  ·rfl
  ·rfl
  ·first|rfl|simp[Act.eval]
  ·exact fun W hW=>hW.2.1 13 (by omega)
  ·rfl
  ·rfl
 try simp only[Act.put,Zd,Ze,Zf]
 refine Zk (i:=7) (o:= ?_) (by kernel_rfl) ?_ (fun K hK=> ?_)
 rotate_left 1
 ·(simp only[Za,Zb,Zc]; rfl)
 go_simp
 go_at_call 84
 refine(HD.out w11.drew Hw11.out.drew.kept Hw11.out.drew.kept.size).mono ?_
 rintro e w12 ⟨v5,rfl,ho5,hb5,hl5⟩
 have hdi:=Hw11.out.drew.below hb5
 have Hw12:=Zg hdi
 have HS2:=Zg (show w12.cell? ⟨P,39,none⟩=some x.img∧(∀ i,i<16→w12.rangeAt D (2 * i) [.int .i64 (rv i),.int .i64 (sz i)])∧w12.cell? ⟨P,0,none⟩=some (.int .u64 base) from⟨hdi.img39,fun i hi=>hdi.dir i hi,hdi.base0 HBA.out⟩)
 have HL5:=Zg (show ZM D (SD v5) w12 from hl5.less (by rw[←HDE.out]; exact Hw11.out.drew.kept.size))
 have HO5:=Zg ho5
 have HL0:=Zg ((HL0.out.below (Below.refl _ _).drew).below hb5)
 have HL1:=Zg ((HL1.out.below (Below.refl _ _).drew).below hb5)
 have HL2:=Zg ((HL2.out.below (Below.refl _ _).drew).below hb5)
 have HL3:=Zg ((HL3.out.below (Below.refl _ _).drew).below hb5)
 have HL4:=Zg ((HL4.out.below (Below.refl _ _).drew).below hb5)
 clear hdi hl5 ho5 hb5 HS
 refine hK.out _ _ HS2.out (fun _=>trivial) ?_
 clear hK K
 try simp only[Act.put,Zd,Ze,Zf]
 refine wT (i:=8) (oi:= ?_) (v:= ?_) ?_ ?_ HS2.out ?_
 rotate_left 2
 ·(simp only[Za,Zb,Zc]; rfl)
 ·(first|exact Or.inr ⟨by rfl,rfl⟩|(refine Or.inl ⟨by rfl,?_⟩; intro W hSw; clear hSw; go_simp; try with_reducible rfl))
 try simp only[Act.put,Zd,Ze,Zf]
 refine wT (i:=9) (oi:= ?_) (v:= ?_) ?_ ?_ HS2.out ?_
 rotate_left 2
 ·(simp only[Za,Zb,Zc]; rfl)
 ·(first|exact Or.inr ⟨by rfl,rfl⟩|(refine Or.inl ⟨by rfl,?_⟩; intro W hSw; clear hSw; go_simp; try with_reducible rfl))
 try simp only[Act.put,Zd,Ze,Zf]
 refine wT (i:=10) (oi:= ?_) (v:= ?_) ?_ ?_ HS2.out ?_
 rotate_left 2
 ·(simp only[Za,Zb,Zc]; rfl)
 ·(first|exact Or.inr ⟨by rfl,rfl⟩|(refine Or.inl ⟨by rfl,?_⟩; intro W hSw; clear hSw; go_simp; try with_reducible rfl))
 try simp only[Act.put,Zd,Ze,Zf]
 refine wT (i:=11) (oi:= ?_) (v:= ?_) ?_ ?_ HS2.out ?_
 rotate_left 2
 ·(simp only[Za,Zb,Zc]; rfl)
 ·(first|exact Or.inr ⟨by rfl,rfl⟩|(refine Or.inl ⟨by rfl,?_⟩; intro W hSw; clear hSw; go_simp; try with_reducible rfl))
 try simp only[Act.put,Zd,Ze,Zf]
 refine wT (i:=12) (oi:= ?_) (v:= ?_) ?_ ?_ HS2.out ?_
 rotate_left 2
 ·(simp only[Za,Zb,Zc]; rfl)
 ·(first|exact Or.inr ⟨by rfl,rfl⟩|(refine Or.inl ⟨by rfl,?_⟩; intro W hSw; clear hSw; go_simp; try with_reducible rfl))
 try simp only[Act.put,Zd,Ze,Zf]
 refine Zk (i:=13) (o:= ?_) (by kernel_rfl) ?_ (fun K hK=> ?_)
 rotate_left 1
 ·(simp only[Za,Zb,Zc]; rfl)
 refine Xz rfl 46 (.tmp 107) (.tmp 104) rfl P 44 v5 (by first|rfl|simp[Act.eval]) (by first|rfl|simp[Act.eval]) (Hw12.out.pe.there 44 1 (by omega)) (by kernel_rfl) HO5.out ?_
 have hk5:Xg (fun k=>k≠P) w12 (w12.setCell ⟨P,44,none⟩ v5):=YQ _ P 44 _
 obtain⟨y5,hy5⟩: ∃ y:PeV,{ y4 with de:=v5 }=y:=⟨_,rfl⟩
 have hdi:=Hw12.out.wrote HP.out (y':=y5) hk5 (by rw[←hy5]; exact Hw12.out.pe.de v5) (by rw[←hy5]) (by rw[←hy5])
 have hpd:P<D:=by rw[←HDE.out]; exact HP.out
 have HL0:=Zg (HL0.out.wrote hpd hk5)
 have HL1:=Zg (HL1.out.wrote hpd hk5)
 have HL2:=Zg (HL2.out.wrote hpd hk5)
 have HL3:=Zg (HL3.out.wrote hpd hk5)
 have HL4:=Zg (HL4.out.wrote hpd hk5)
 have HL5:=Zg (HL5.out.wrote hpd hk5)
 generalize w12.setCell ⟨P,44,none⟩ v5=w13 at *
 have Hw13:=Zg hdi
 have HS3:=Zg (show w13.cell? ⟨P,39,none⟩=some x.img∧(∀ i,i<16→w13.rangeAt D (2 * i) [.int .i64 (rv i),.int .i64 (sz i)])∧w13.cell? ⟨P,0,none⟩=some (.int .u64 base) from⟨hdi.img39,fun i hi=>hdi.dir i hi,hdi.base0 HBA.out⟩)
 have HY5:=Zg hy5
 clear hdi hk5 hpd hy5 HS2 Hw12
 refine hK.out _ _ HS3.out (fun _=>trivial) ?_
 clear hK K
 try simp only[Act.put,Zd,Ze,Zf]
 refine wT (i:=14) (oi:= ?_) (v:= ?_) ?_ ?_ HS3.out ?_
 rotate_left 2
 ·(simp only[Za,Zb,Zc]; rfl)
 ·(first|exact Or.inr ⟨by rfl,rfl⟩|(refine Or.inl ⟨by rfl,?_⟩; intro W hSw; clear hSw; go_simp; try with_reducible rfl))
 try simp only[Act.put,Zd,Ze,Zf]
 refine Zp (by kernel_rfl) ?_ _
 refine NoPanic.normal ?_
 clear HS3
 have hfe:=Qc eE eI eR eT eB eD he0 he1 he2 he3 he4
 have HFE:=Zg hfe
 have HE:=Zg (show eE=0∧eI=0∧eR=0∧eT=0∧eB=0 from⟨he0,he1,he2,he3,he4⟩)
 clear hfe he0 he1 he2 he3 he4
 go_wp2_with fail
 go_ret
 refine⟨by rw[HFE.out]; rfl,Hw13.out.kept,fun _=>⟨y5,Hw13.out.pe,Hw13.out.hd,Hw13.out.img,?_,?_,?_,?_,?_,?_,?_⟩⟩
 ·rw[HDE.out,←HY5.out,←HY4.out,←HY3.out,←HY2.out,←HY1.out,←HY0.out]; exact HL0.out
 ·rw[HDE.out,←HY5.out,←HY4.out,←HY3.out,←HY2.out,←HY1.out]; exact HL1.out
 ·rw[HDE.out,←HY5.out,←HY4.out,←HY3.out,←HY2.out]; exact HL2.out
 ·rw[HDE.out,←HY5.out,←HY4.out,←HY3.out]; exact HL3.out
 ·rw[HDE.out,←HY5.out,←HY4.out]; exact HL4.out
 ·rw[HDE.out,←HY5.out]; exact HL5.out
 ·rw[←HY5.out,←HY4.out,←HY3.out,←HY2.out,←HY1.out,←HY0.out]; exact⟨HO0.out,HO1.out,HO2.out,HO3.out,HO4.out,HO5.out⟩
end Go.Proofs.YtplgdpjbkdagfaaGreat
