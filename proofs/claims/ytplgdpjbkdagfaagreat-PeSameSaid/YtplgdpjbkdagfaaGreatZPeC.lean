import Derived.Test.YtplgdpjbkdagfaaGreatZStoreRow
import Derived.Test.YtplgdpjbkdagfaaGreatZHdrD
import Derived.Test.YtplgdpjbkdagfaaGreatZMd
import Derived.Test.YtplgdpjbkdagfaaGreatZMem
import Derived.Test.YtplgdpjbkdagfaaGreatRefPut
import Derived.Lib.IndexLaws
import Derived.BigRegion
import Derived.Deep.Cut
import Derived.ChangeAlike
namespace Go.Proofs.YtplgdpjbkdagfaaGreat
open List renaming getElem?_toArray→Za, getElem?_cons_succ→Zb, getElem?_cons_zero→Zc, setIfInBounds_toArray→Zd, set_cons_zero→Ze, set_cons_succ→Zf
open Lib renaming hid→Zg
open Go.ChangeShapes Go.WideShapes Go.ChangeAt Go.RowKit
set_option linter.unusedVariables false
set_option linter.unusedSimpArgs false
set_option maxRecDepth 100000
def peZ:PeV:=⟨fun j=>if j=0 then .int .u64 0 else if j=38 then .slice none 0 0 else .int .i64 0,.slice none 0 0,.int .i64 0,.slice none 0 0,.slice none 0 0,.slice none 0 0,.slice none 0 0,.slice none 0 0,.slice none 0 0,.bool false,.int .i64 0,.slice none 0 0⟩
def peC (x:PeV):Array Value:=((List.range 50).map (peF x)).toArray
theorem Xt:(#[.int .u64 0,.int .i64 0,.int .i64 0,.int .i64 0,.int .i64 0,.int .i64 0,.int .i64 0,.int .i64 0,.int .i64 0,.int .i64 0,.int .i64 0,.int .i64 0,.int .i64 0,.int .i64 0,.int .i64 0,.int .i64 0,.int .i64 0,.int .i64 0,.int .i64 0,.int .i64 0,.int .i64 0,.int .i64 0,.int .i64 0,.int .i64 0,.int .i64 0,.int .i64 0,.int .i64 0,.int .i64 0,.int .i64 0,.int .i64 0,.int .i64 0,.int .i64 0,.int .i64 0,.int .i64 0,.int .i64 0,.int .i64 0,.int .i64 0,.int .i64 0,.slice none 0 0,.slice none 0 0,.int .i64 0,.slice none 0 0,.slice none 0 0,.slice none 0 0,.slice none 0 0,.slice none 0 0,.slice none 0 0,.bool false,.int .i64 0,.slice none 0 0]:Array Value)=peC peZ:=by kernel_rfl
theorem Zu (x:PeV):(peC x).size=50:=by simp[peC]
theorem ZJ (x:PeV) {j:Nat} (h:j<50):(peC x)[j]? =some (peF x j):=by simp[peC,h]
theorem Ww:(peC peZ).all (·.oneCell')=true:=by kernel_rfl
def pe0 (hd:Nat→Value) (img:Value):PeV:={ peZ with hd:=hd,img:=img }
theorem Qv (hd:Nat→Value) (p:Option Addr) (n c:Nat):Tryz.prog.built 50 [(0,.agg ((List.range 39).map hd).toArray),(1,.slice p n c)]=some (peC (pe0 hd (.slice p n c))):=by kernel_rfl
set_option maxHeartbeats 4000000 in
theorem Zbt (sl:Value) (er:Int) (he:er≠0) (w:World) (hc: ∀ W,Below w.heap.size w W→Calls Tryz.prog 23 #[sl] W fun x u=>(∃ cs,x= .returned (.tuple #[.agg cs,.int .i64 er])∧YR cs Za0 (.slice none 0 0))∧Below W.heap.size W u) :
 Calls Tryz.prog 11 #[sl] w fun x u=>x= .returned (.tuple #[.agg (peC peZ),.int .i64 er])∧Below w.heap.size w u:=by
 have HC:=Zg hc
 have HB0:=Zg ((Below.refl w.heap.size w).alloc (Nat.le_refl _) (.cells (peC peZ) 50))
 have hZ:=heap_alloc_new w (.cells (peC peZ) 50)
 have hs1:(w.alloc (.cells (peC peZ) 50)).heap.size=w.heap.size+1:=by simp
 have e1:(er != 0)=true:=by simpa using he
 clear hc
 go_enter Tryz.func11,Tryz.ntmps11
 go_wp2_with fail
 rw[Xt]
 generalize w.alloc (.cells (peC peZ) 50)=w1 at hZ HB0 hs1 ⊢
 refine(HC.out w1 HB0.out).mono ?_
 rintro e w2 ⟨⟨cs,rfl,hv⟩,hb⟩
 have hZ2:=(hb.block w.heap.size (by omega)).trans hZ
 have HB2:=Zg (HB0.out.trans (hb.mono (by omega)))
 have hlt:w.heap.size<w2.heap.size:=by have:=hb.size; omega
 have hone:=hv.one rfl
 have hcz:=hv.size
 clear hZ hb hv HB0 hs1 HC
 have hsz:(Tryz.prog.info? 41).map (·.size)=some cs.size:=by rw[hcz]; kernel_rfl
 have hsz2:(Zl 0 0 0 0 0 0).size=cs.size:=by rw[hcz]; kernel_rfl
 have hZ3:=(setRow_other (w2.alloc (.cells (Zl 0 0 0 0 0 0) 41)) w2.heap.size w.heap.size cs (by omega)).trans ((heap_alloc_old w2 (.cells (Zl 0 0 0 0 0 0) 41) hlt).trans hZ2)
 have HB3:=Zg (below_setRow (HB2.out.alloc HB2.out.size (.cells (Zl 0 0 0 0 0 0) 41)) HB2.out.size cs)
 have HZ3:=Zg hZ3
 clear hcz hZ2 HB2 hlt hZ3
 go_wp2_with (first
  | (refine wpList_store_row rfl 41 (.tmp 4) (.tmp 11) rfl w2.heap.size cs rfl rfl 41 (Zl 0 0 0 0 0 0) (heap_alloc_new _ _) hsz hsz2 hone ?_; rw[Yp]; generalize (w2.alloc (.cells (Zl 0 0 0 0 0 0) 41)).setRow w2.heap.size cs=w3 at *)
  | (refine wpList_store_row rfl 50 (.tmp 2) (.tmp 15) rfl w.heap.size _ rfl rfl 50 (peC peZ) HZ3.out (by kernel_rfl) (Zu _) (by kernel_rfl) ?_; rw[Xt]))
 exact bodyPost_ret (v:= .tuple #[.agg (peC peZ),.int .i64 er]) (Zj rfl _ _ w.heap.size 50 _ (0,0) _ _ rfl rfl (setRow_heap _ _ _ _ _ _ HZ3.out) Tryz.underlying50 rfl (by rw[Zu]; kernel_rfl)) rfl ⟨rfl,below_setRow HB3.out (Nat.le_refl _) _⟩
structure HeadK (w:World) (sl:Value) (N:Nat) (IM:Nat→Int) (HG:World→Array Value→Prop) (rv sz:Nat→Int) (base:Int):Prop where
 parse: ∀ W,Below w.heap.size w W→Calls Tryz.prog 23 #[sl] W fun x u=>(∃ cs,x= .returned (.tuple #[.agg cs,.int .i64 0])∧HG u cs)∧Below W.heap.size W u
 sized: ∀ u cs,HG u cs→cs.size=39∧cs.all (·.oneCell')=true
 stays: ∀ u u' cs,HG u cs→Below u.heap.size u u'→HG u' cs
 lay: ∀ W cs,Below w.heap.size w W→HG W cs→Calls Tryz.prog 24 #[.agg cs,sl] W fun x u=> ∃ gi,x= .returned (.slice (some ⟨gi,0,none⟩) N N)∧YD u W.heap.size gi N N IM∧Below W.heap.size W u
 dirs: ∀ u cs,HG u cs→ ∀ i,i<16→cs[6+2 * i]? =some (.int .i64 (rv i))∧cs[6+2 * i+1]? =some (.int .i64 (sz i))
 base0: ∀ u cs,HG u cs→cs[0]? =some (.int .u64 base)
def Zaq (w:World) (N:Nat) (IM:Nat→Int) (fn:Nat) (rest:List Value) (er:Int) (S:Nat→Value→World→Prop):Prop :=
 ∀ W gi P,YD W w.heap.size gi N N IM→Below w.heap.size w W→P<W.heap.size→gi≠P→QS fn (.slice (some ⟨gi,0,none⟩) N N::rest).toArray P W er (S gi)
def Zda (w:World) (N:Nat) (IM:Nat→Int) (fn:Nat) (rest:List Value) (er:Int) (S:Nat→Value→Value→Value→World→Prop):Prop :=
 ∀ W gi P,YD W w.heap.size gi N N IM→Below w.heap.size w W→P<W.heap.size→gi≠P→Ze7 fn (.slice (some ⟨gi,0,none⟩) N N::rest).toArray P W er (S gi)
theorem Zar (cs:Array Value) (n:Nat) (h:cs.size=n):((List.range n).map (fun j=>cs.getD j undef)).toArray=cs:=by
 apply Array.ext
 ·simp[h]
 ·intro i h1 h2
  simp[h2]
theorem Vd {w:World} {g:Nat} {x:PeV} (h:w.heap[g]? =some (.cells (peC x) 50 (0,0))):YV w g x :=
 ⟨Zi h,fun i hi=>⟨by rw[Zh h,ZJ x hi],by simp[World.frozen?,h]⟩⟩
theorem Zbu {hd:Nat→Value} {im:Value} (h: ∀ j,j<39→(hd j).oneCell'=true) (hi:im.oneCell'=true):(peC (pe0 hd im)).all (·.oneCell')=true:=by
 refine all_oneCell_toArray (fun v hv=> ?_)
 obtain⟨j,hj,rfl⟩:=List.mem_map.mp hv
 have hj:=List.mem_range.1 hj
 by_cases c:j<39
 ·rw[Xy _ c]; exact h j c
 ·rcases(by omega:j=39∨j=40∨j=41∨j=42∨j=43∨j=44∨j=45∨j=46∨j=47∨j=48∨j=49) with rfl|rfl|rfl|rfl|rfl|rfl|rfl|rfl|rfl|rfl|rfl
  ·exact hi
  all_goals rfl
inductive Zdb (w:World) (N:Nat) (IM:Nat→Int) (HG:World→Array Value→Prop) (FE:Int) (SE:Nat→Value→Value→Value→World→Prop) (SI SR:Nat→Value→World→Prop) (ST:Nat→Value→Value→Value→World→Prop) (SB SD:Nat→Value→World→Prop):Ending→World→Prop
 | bad {u:World} (h: ¬ FE=0):Zdb w N IM HG FE SE SI SR ST SB SD (.returned (.tuple #[.agg (peC peZ),.int .i64 FE])) u
 | good {u:World} (h:FE=0) (y:PeV) (cs:Array Value) (gi W:Nat) (hk: ∃ wb,HG wb cs∧wb.heap[w.heap.size]? =some (.cells (peC peZ) 50 (0,0))∧Xg (fun k=>k<wb.heap.size∧k≠w.heap.size) wb u) (hh: ∀ j,j<39→cs[j]? =some (y.hd j)) (hi:y.img= .slice (some ⟨gi,0,none⟩) N N) (ho:YD u w.heap.size gi N N IM) (hW:w.heap.size≤W)
    (lE:ZM W (SE gi y.e0 y.e1 y.e2) u) (lI:ZM W (SI gi y.im) u) (lR:ZM W (SR gi y.re) u) (lT:ZM W (ST gi y.t0 y.t1 y.t2) u) (lB:ZM W (SB gi y.bo) u) (lD:ZM W (SD gi y.de) u) :
    Zdb w N IM HG FE SE SI SR ST SB SD (.returned (.tuple #[.agg (peC y),.int .i64 0])) u
theorem Vo {P:Program} {ops:Array Oper} {T:World→Prop} {o:Oper} {a:Act} (t:TypeId) (parts:Array (Nat × Operand)) (l:List (Nat × Value)) (cells:Array Value) (hgd:o.guard=none) (ho:o.op= .build t parts)
 (hl:(parts.map fun(i,x)=>(i,a.eval x)).toList=l) (hf:P.built t l=some cells):YieldsIf P ops T o (.agg cells) a:=by
 subst hl
 refine Or.inl ⟨by simp[Region.wanted,hgd],fun w hw=> ?_⟩
 unfold execOp
 simp only[ho,Sem.run_bind,run_build w t _ cells hf,Result.andThen_ok]
 rfl
def Zgm (w:World) (N:Nat) (IM:Nat→Int) (HG:World→Array Value→Prop) (cs:Array Value) (HD:Nat→Value) (v:Value) (W:World):Prop :=
 ∃ P gi,v= .pointer (some ⟨P,0,none⟩)∧YV W P (pe0 HD (.slice (some ⟨gi,0,none⟩) N N))∧YD W w.heap.size gi N N IM∧Below w.heap.size w W∧w.heap.size<P∧w.heap.size<gi∧gi≠P∧(∃ wb,HG wb cs∧Below wb.heap.size wb W∧wb.heap.size≤P∧wb.heap[w.heap.size]? =some (.cells (peC peZ) 50 (0,0)))∧W.heap[w.heap.size]? =some (.cells (peC peZ) 50 (0,0))
theorem Zh9 {cs:Array Value} (h:cs.size=39) (h1:cs.all (·.oneCell')=true) {j:Nat} (hj:j<39):(cs.getD j undef).oneCell'=true:=by
 have:=Array.all_eq_true_iff_forall_mem.1 h1 (cs.getD j undef) (by simp[Array.getD,h,hj])
 exact this
theorem YD.setRow {w:World} {b g n c:Nat} {f:Nat→Int} (h:YD w b g n c f) {P:Nat} (hn:g≠P) (cells:Array Value):YD (w.setRow P cells) b g n c f:=h.of_block (by simp[World.setRow]) (setRow_other w P g cells hn)
theorem Qw (y:PeV) (h: ∀ j,j<39→(y.hd j).oneCell'=true) (hi:y.img.oneCell'=true) (ho:(y.e0.oneCell'=true∧y.e1.oneCell'=true∧y.e2.oneCell'=true)∧y.im.oneCell'=true∧y.re.oneCell'=true∧(y.t0.oneCell'=true∧y.t1.oneCell'=true∧y.t2.oneCell'=true)∧y.bo.oneCell'=true∧y.de.oneCell'=true):(peC y).all (·.oneCell')=true:=by
 obtain⟨⟨h0,h1,h2⟩,h3,h4,⟨h5,h6,h7⟩,h8,h9⟩:=ho
 refine all_oneCell_toArray (fun v hv=> ?_)
 obtain⟨j,hj,rfl⟩:=List.mem_map.mp hv
 have hj:=List.mem_range.1 hj
 by_cases c:j<39
 ·rw[Xy _ c]; exact h j c
 ·rcases(by omega:j=39∨j=40∨j=41∨j=42∨j=43∨j=44∨j=45∨j=46∨j=47∨j=48∨j=49) with rfl|rfl|rfl|rfl|rfl|rfl|rfl|rfl|rfl|rfl|rfl
  ·exact hi
  ·exact h0
  ·exact h1
  ·exact h2
  ·exact h3
  ·exact h9
  ·exact h8
  ·exact h4
  ·exact h5
  ·exact h6
  ·exact h7
theorem Xg.setRow_ne (w:World) (g:Nat) (cs:Array Value):Xg (fun k=>k≠g) w (w.setRow g cs):=⟨rfl,rfl,rfl,by simp[World.setRow],fun k hk=>setRow_other w g k cs hk⟩
set_option maxHeartbeats 4000000 in
theorem Zas (sl:Value) (N:Nat) (IM:Nat→Int) (HG:World→Array Value→Prop) (rv sz:Nat→Int) (base:Int) (w:World) (hk:HeadK w sl N IM HG rv sz base)
 (eE eI eR eT eB eD:Int) (SE:Nat→Value→Value→Value→World→Prop) (SI SR:Nat→Value→World→Prop) (ST:Nat→Value→Value→Value→World→Prop) (SB SD:Nat→Value→World→Prop)
 (hE:Zda w N IM 79 [.agg #[.int .i64 (rv 0),.int .i64 (sz 0)]] eE SE)
 (hI:Zaq w N IM 80 [.agg #[.int .i64 (rv 1),.int .i64 (sz 1)]] eI SI)
 (hR:Zaq w N IM 81 [.agg #[.int .i64 (rv 5),.int .i64 (sz 5)]] eR SR)
 (hT:Zda w N IM 82 [.agg #[.int .i64 (rv 9),.int .i64 (sz 9)],.int .u64 base] eT ST)
 (hB:Zaq w N IM 83 [.agg #[.int .i64 (rv 11),.int .i64 (sz 11)]] eB SB)
 (hD:Zaq w N IM 84 [.agg #[.int .i64 (rv 13),.int .i64 (sz 13)]] eD SD) :
 Calls Tryz.prog 11 #[sl] w fun x u=>Below w.heap.size w u∧Zdb w N IM HG (ZK eE eI eR eT eB eD) SE SI SR ST SB SD x u:=by
 obtain⟨FE,hFE⟩: ∃ FE,ZK eE eI eR eT eB eD=FE:=⟨_,rfl⟩
 rw[hFE]
 have HFE:=Zg hFE
 clear hFE
 have HK:=Zg hk
 have HBE:=Zg hE
 have HBI:=Zg hI
 have HBR:=Zg hR
 have HBT:=Zg hT
 have HBB:=Zg hB
 have HBD:=Zg hD
 have HB0:=Zg ((Below.refl w.heap.size w).alloc (Nat.le_refl _) (.cells (peC peZ) 50))
 have hZ:=heap_alloc_new w (.cells (peC peZ) 50)
 have hs1:(w.alloc (.cells (peC peZ) 50)).heap.size=w.heap.size+1:=by simp
 clear hk hE hI hR hT hB hD
 go_enter Tryz.func11,Tryz.ntmps11
 go_wp2_with fail
 rw[Xt]
 generalize w.alloc (.cells (peC peZ) 50)=w1 at hZ HB0 hs1 ⊢
 refine(HK.out.parse w1 HB0.out).mono ?_
 rintro e w2 ⟨⟨cs,rfl,hg⟩,hb⟩
 have hZ2:=(hb.block w.heap.size (by omega)).trans hZ
 have HB2:=Zg (HB0.out.trans (hb.mono (by omega)))
 have hlt:w.heap.size<w2.heap.size:=by have:=hb.size; omega
 obtain⟨hcz,hone⟩:=HK.out.sized _ _ hg
 have hsz:(Tryz.prog.info? 41).map (·.size)=some cs.size:=by rw[hcz]; kernel_rfl
 have hsz2:(Zl 0 0 0 0 0 0).size=cs.size:=by rw[hcz]; kernel_rfl
 have HZ3:=Zg ((setRow_other (w2.alloc (.cells (Zl 0 0 0 0 0 0) 41)) w2.heap.size w.heap.size cs (by omega)).trans ((heap_alloc_old w2 (.cells (Zl 0 0 0 0 0 0) 41) hlt).trans hZ2))
 have hb23:Below w2.heap.size w2 ((w2.alloc (.cells (Zl 0 0 0 0 0 0) 41)).setRow w2.heap.size cs):=below_setRow ((Below.refl _ w2).alloc (Nat.le_refl _) _) (Nat.le_refl _) _
 have HB3:=Zg (HB2.out.trans (hb23.mono HB2.out.size))
 have HG3:=Zg (HK.out.stays _ _ _ hg hb23)
 have HH3:=Zg (setRow_heap (w2.alloc (.cells (Zl 0 0 0 0 0 0) 41)) w2.heap.size _ cs _ _ (heap_alloc_new _ _))
 have HCZ:=Zg hcz
 have HLT:=Zg hlt
 have HONE:=Zg hone
 clear hcz hZ2 HB2 hlt hZ hb hs1 HB0 hg hb23
 go_upto_region 4 with(first
  | (refine wpList_store_row rfl 41 (.tmp 4) (.tmp 11) rfl w2.heap.size cs rfl rfl 41 (Zl 0 0 0 0 0 0) (heap_alloc_new _ _) hsz hsz2 hone ?_; rw[Yp]; generalize (w2.alloc (.cells (Zl 0 0 0 0 0 0) 41)).setRow w2.heap.size cs=w3 at *; generalize w2.heap.size=gh at *)
  | fail)
 obtain⟨HD,hHD⟩: ∃ HD:Nat→Value,(fun j=>cs.getD j undef)=HD:=⟨_,rfl⟩
 have HHD:=Zg (show((List.range 39).map HD).toArray=cs∧ ∀ j,j<39→(HD j).oneCell'=true from⟨by rw[←hHD]; exact Zar cs 39 HCZ.out,fun j hj=>by rw[←hHD]; exact Zh9 HCZ.out HONE.out hj⟩)
 clear hHD
 go_cut [6] from 8 (fun v6 wc=>Zgm w N IM HG cs HD v6 wc)
 case first =>
  rename_i J1 K1 hJ1 hK1
  have HJ1:=Zg hJ1
  have HK1:=Zg hK1
  have HB4:=Zg HB3.out.drew
  have HG4:=Zg (HK.out.stays _ _ _ HG3.out ((Below.refl _ w3).drew))
  have HLG:=Zg (show gh<w3.drew.heap.size from Zi (HH3.out:w3.drew.heap[gh]? =_))
  clear hJ1 hK1
  have HS:=Zg (show w3.drew.heap[gh]? =some (.cells cs 41 (0,0)) from HH3.out)
  refine wp_region_noPanic ?_
  refine Zw (fun W=>W.heap[gh]? =some (.cells cs 41 (0,0))) (fun _=>True) 99 (by kernel_rfl) ?_
  refine wT (i:=0) (oi:= ?_) (v:= ?_) ?_ ?_ HS.out ?_
  rotate_left 2
  ·(simp only[Za,Zb,Zc]; rfl)
  ·refine Wj 41 (.tmp 4) gh 41 cs (0,0) ?_ ?_ ?_ (fun W hW=>hW) ?_ hsz
   ·rfl
   ·rfl
   ·rfl
   ·kernel_rfl
  try simp only[Act.put,Zd,Ze,Zf]
  refine wT (i:=1) (oi:= ?_) (v:= ?_) ?_ ?_ HS.out ?_
  rotate_left 2
  ·(simp only[Za,Zb,Zc]; rfl)
  ·refine Wj 41 (.tmp 4) gh 41 cs (0,0) ?_ ?_ ?_ (fun W hW=>hW) ?_ hsz
   ·rfl
   ·rfl
   ·rfl
   ·kernel_rfl
  try simp only[Act.put,Zd,Ze,Zf]
  refine wT (i:=2) (oi:= ?_) (v:= ?_) ?_ ?_ HS.out ?_
  rotate_left 2
  ·(simp only[Za,Zb,Zc]; rfl)
  ·(first|exact Or.inr ⟨by rfl,rfl⟩|(refine Or.inl ⟨by rfl,?_⟩; intro W hSw; clear hSw; go_simp; try with_reducible rfl))
  try simp only[Act.put,Zd,Ze,Zf]
  have HZ4:=Zg (show w3.drew.heap[w.heap.size]? =_ from HZ3.out)
  generalize w3.drew=w4 at *
  refine Wk (i:=3) (j:=5) (by kernel_rfl) rfl rfl (fun K hK=> ?_) (fun K hK=> ?_)
  ·skip
   go_simp
   go_at_call 24
   refine(HK.out.lay w4 cs HB4.out HG4.out).mono ?_
   rintro e w5 ⟨gi,rfl,ho,hb⟩
   have hle:=HB4.out.size
   have hlz:=HLT.out
   have HS5:=Zg ((hb.block gh HLG.out).trans HS.out)
   have HB5:=Zg (HB4.out.trans (hb.mono hle))
   have HG5:=Zg (HK.out.stays _ _ _ HG4.out hb)
   have HZ5:=Zg ((hb.block w.heap.size (Zi HZ4.out)).trans HZ4.out)
   have HO5:=Zg (ho.weaken (Nat.succ_le_of_lt (Zi HZ4.out)))
   clear ho hb hle hlz
   refine hK.out _ _ HS5.out (fun _=>trivial) ?_
   clear hK K
   try simp only[Act.put,Zd,Ze,Zf]
   refine wT (i:=4) (oi:= ?_) (v:= ?_) ?_ ?_ HS5.out ?_
   rotate_left 2
   ·(simp only[Za,Zb,Zc]; rfl)
   ·refine Vo 50 #[(0,.tmp 17),(1,.tmp 20)] [(0,.agg cs),(1,.slice (some ⟨gi,0,none⟩) N N)] (peC (pe0 HD (.slice (some ⟨gi,0,none⟩) N N))) ?_ ?_ ?_ ?_
    ·rfl
    ·rfl
    ·simp[Act.eval]
    ·have h:=Qv HD (some ⟨gi,0,none⟩) N N
     rw[HHD.out.1] at h
     exact h
   try simp only[Act.put,Zd,Ze,Zf]
   refine Zk (i:=5) (o:= ?_) (by kernel_rfl) ?_ (fun K hK=> ?_)
   rotate_left 1
   ·(simp only[Za,Zb,Zc]; rfl)
   go_simp
   rw[Xt]
   have hb:Below w5.heap.size w5 (w5.alloc (.cells (peC peZ) 50)):=(Below.refl _ w5).alloc (Nat.le_refl _) _
   have HS6:=Zg ((hb.block gh (Zi HS5.out)).trans HS5.out)
   have HB6:=Zg (HB5.out.trans (hb.mono HB5.out.size))
   have HZ6:=Zg ((hb.block w.heap.size (Zi HZ5.out)).trans HZ5.out)
   have HO6:=Zg (HO5.out.below hb)
   obtain⟨P,hP⟩: ∃ P,w5.heap.size=P:=⟨_,rfl⟩
   have HP6:=Zg (show(w5.alloc (.cells (peC peZ) 50)).heap[P]? =some (.cells (peC peZ) 50) from by rw[←hP]; exact heap_alloc_new w5 (.cells (peC peZ) 50))
   have HLP:=Zg (show w.heap.size<P∧gi≠P∧gh≠P from by rw[←hP]; exact⟨Zi HZ5.out,Nat.ne_of_lt HO5.out.lt,Nat.ne_of_lt (Zi HS5.out)⟩)
   have HGB:=Zg (show HG w5 cs∧Below w5.heap.size w5 (w5.alloc (.cells (peC peZ) 50))∧w5.heap.size≤P∧w5.heap[w.heap.size]? =some (.cells (peC peZ) 50 (0,0)) from⟨HG5.out,hb,Nat.le_of_eq hP,HZ5.out⟩)
   simp only[hP]
   generalize w5.alloc (.cells (peC peZ) 50)=w6 at *
   clear hb hP
   refine hK.out _ _ HS6.out (fun _=>trivial) ?_
   clear hK K
   try simp only[Act.put,Zd,Ze,Zf]
   refine Zk (i:=6) (o:= ?_) (by kernel_rfl) ?_ (fun K hK=> ?_)
   rotate_left 1
   ·(simp only[Za,Zb,Zc]; rfl)
   refine Yi rfl 50 (.tmp 6) (.tmp 21) rfl P (peC (pe0 HD (.slice (some ⟨gi,0,none⟩) N N))) rfl rfl 50 (peC peZ) HP6.out (by rw[Zu]; kernel_rfl) (by rw[Zu,Zu]) (Zbu (fun j hj=>HHD.out.2 j hj) rfl) ?_
   have HS7:=Zg ((setRow_other w6 P gh (peC (pe0 HD (.slice (some ⟨gi,0,none⟩) N N))) HLP.out.2.2).trans HS6.out)
   have HL7:=Zg (show Zgm w N IM HG cs HD (.pointer (some ⟨P,0,none⟩)) (w6.setRow P (peC (pe0 HD (.slice (some ⟨gi,0,none⟩) N N)))) from
    ⟨P,gi,rfl,Vd (setRow_heap w6 P _ (peC (pe0 HD (.slice (some ⟨gi,0,none⟩) N N))) _ _ HP6.out),(HO6.out.weaken (Nat.le_succ _)).setRow HLP.out.2.1 _,below_setRow HB6.out (Nat.le_of_lt HLP.out.1) _,HLP.out.1,HO6.out.le,HLP.out.2.1,⟨_,HGB.out.1,below_setRow HGB.out.2.1 HGB.out.2.2.1 _,HGB.out.2.2.1,HGB.out.2.2.2⟩,(setRow_other w6 P w.heap.size _ (Nat.ne_of_lt HLP.out.1)).trans HZ6.out⟩)
   generalize w6.setRow P (peC (pe0 HD (.slice (some ⟨gi,0,none⟩) N N)))=w7 at *
   refine hK.out _ _ HS7.out (fun _=>trivial) ?_
   clear hK K
   try simp only[Act.put,Zd,Ze,Zf]
   refine Zp (by kernel_rfl) ?_ _
   refine NoPanic.normal ?_
   refine HK1.out _ _ ?_
   refine Met.intro (HJ1.out _ _ ?_)
   repeat apply Exists.intro
   exact⟨HL7.out,rfl⟩
  ·skip
   go_simp
   rw[Xt]
   have hb:Below w4.heap.size w4 (w4.alloc (.cells (peC peZ) 50)):=(Below.refl _ w4).alloc (Nat.le_refl _) _
   have HS5:=Zg ((hb.block gh HLG.out).trans HS.out)
   have HB5:=Zg (HB4.out.trans (hb.mono HB4.out.size))
   have HG5:=Zg (HK.out.stays _ _ _ HG4.out hb)
   have HZ5:=Zg ((hb.block w.heap.size (Zi HZ4.out)).trans HZ4.out)
   obtain⟨P,hP⟩: ∃ P,w4.heap.size=P:=⟨_,rfl⟩
   have HP5:=Zg (show(w4.alloc (.cells (peC peZ) 50)).heap[P]? =some (.cells (peC peZ) 50) from by rw[←hP]; exact heap_alloc_new w4 (.cells (peC peZ) 50))
   have HLQ:=Zg (show w.heap.size<P∧gh≠P from by rw[←hP]; exact⟨Zi HZ4.out,Nat.ne_of_lt HLG.out⟩)
   have HGA:=Zg (show HG w4 cs∧Below w4.heap.size w4 (w4.alloc (.cells (peC peZ) 50))∧w4.heap.size≤P∧w4.heap[w.heap.size]? =some (.cells (peC peZ) 50 (0,0)) from⟨HG4.out,hb,Nat.le_of_eq hP,HZ4.out⟩)
   simp only[hP]
   generalize w4.alloc (.cells (peC peZ) 50)=w5 at *
   clear hb hP
   refine hK.out _ _ HS5.out (fun _=>trivial) ?_
   clear hK K
   try simp only[Act.put,Zd,Ze,Zf]
   refine Zk (i:=3) (o:= ?_) (by kernel_rfl) ?_ (fun K hK=> ?_)
   rotate_left 1
   ·(simp only[Za,Zb,Zc]; rfl)
   go_simp
   go_at_call 24
   refine(HK.out.lay w5 cs HB5.out HG5.out).mono ?_
   rintro e w6 ⟨gi,rfl,ho,hb⟩
   have hle:=HB5.out.size
   have hlz:=HLT.out
   have HS6:=Zg ((hb.block gh (Zi HS5.out)).trans HS5.out)
   have HB6:=Zg (HB5.out.trans (hb.mono hle))
   have HZ6:=Zg ((hb.block w.heap.size (Zi HZ5.out)).trans HZ5.out)
   have HP6:=Zg ((hb.block P (Zi HP5.out)).trans HP5.out)
   have HGB:=Zg (show HG w4 cs∧Below w4.heap.size w4 w6∧w4.heap.size≤P∧w4.heap[w.heap.size]? =some (.cells (peC peZ) 50 (0,0)) from⟨HGA.out.1,HGA.out.2.1.trans (hb.mono HGA.out.2.1.size),HGA.out.2.2.1,HGA.out.2.2.2⟩)
   have HO6:=Zg (ho.weaken (Nat.succ_le_of_lt (Zi HZ5.out)))
   have HLP:=Zg (show w.heap.size<P∧gi≠P∧gh≠P from⟨HLQ.out.1,fun e=>by have:=ho.le; have:=Zi HP5.out; omega,HLQ.out.2⟩)
   clear ho hb hle hlz
   refine hK.out _ _ HS6.out (fun _=>trivial) ?_
   clear hK K
   try simp only[Act.put,Zd,Ze,Zf]
   refine wT (i:=4) (oi:= ?_) (v:= ?_) ?_ ?_ HS6.out ?_
   rotate_left 2
   ·(simp only[Za,Zb,Zc]; rfl)
   ·refine Vo 50 #[(0,.tmp 17),(1,.tmp 20)] [(0,.agg cs),(1,.slice (some ⟨gi,0,none⟩) N N)] (peC (pe0 HD (.slice (some ⟨gi,0,none⟩) N N))) ?_ ?_ ?_ ?_
    ·rfl
    ·rfl
    ·simp[Act.eval]
    ·have h:=Qv HD (some ⟨gi,0,none⟩) N N
     rw[HHD.out.1] at h
     exact h
   try simp only[Act.put,Zd,Ze,Zf]
   refine Zk (i:=6) (o:= ?_) (by kernel_rfl) ?_ (fun K hK=> ?_)
   rotate_left 1
   ·(simp only[Za,Zb,Zc]; rfl)
   refine Yi rfl 50 (.tmp 6) (.tmp 21) rfl P (peC (pe0 HD (.slice (some ⟨gi,0,none⟩) N N))) rfl rfl 50 (peC peZ) HP6.out (by rw[Zu]; kernel_rfl) (by rw[Zu,Zu]) (Zbu (fun j hj=>HHD.out.2 j hj) rfl) ?_
   have HS7:=Zg ((setRow_other w6 P gh (peC (pe0 HD (.slice (some ⟨gi,0,none⟩) N N))) HLP.out.2.2).trans HS6.out)
   have HL7:=Zg (show Zgm w N IM HG cs HD (.pointer (some ⟨P,0,none⟩)) (w6.setRow P (peC (pe0 HD (.slice (some ⟨gi,0,none⟩) N N)))) from
    ⟨P,gi,rfl,Vd (setRow_heap w6 P _ (peC (pe0 HD (.slice (some ⟨gi,0,none⟩) N N))) _ _ HP6.out),(HO6.out.weaken (Nat.le_succ _)).setRow HLP.out.2.1 _,below_setRow HB6.out (Nat.le_of_lt HLP.out.1) _,HLP.out.1,HO6.out.le,HLP.out.2.1,⟨_,HGB.out.1,below_setRow HGB.out.2.1 HGB.out.2.2.1 _,HGB.out.2.2.1,HGB.out.2.2.2⟩,(setRow_other w6 P w.heap.size _ (Nat.ne_of_lt HLP.out.1)).trans HZ6.out⟩)
   generalize w6.setRow P (peC (pe0 HD (.slice (some ⟨gi,0,none⟩) N N)))=w7 at *
   refine hK.out _ _ HS7.out (fun _=>trivial) ?_
   clear hK K
   try simp only[Act.put,Zd,Ze,Zf]
   refine Zp (by kernel_rfl) ?_ _
   refine NoPanic.normal ?_
   refine HK1.out _ _ ?_
   refine Met.intro (HJ1.out _ _ ?_)
   repeat apply Exists.intro
   exact⟨HL7.out,rfl⟩
 case rest =>
  obtain⟨P,gi,rfl,hp,ho,hb,hP,hgi,hne,hgb,hz⟩:=hcut
  have HO:=Zg ho
  have HB:=Zg hb
  have HPP:=Zg (And.intro hP (And.intro hgi hne))
  have HGB:=Zg hgb
  have HZ:=Zg hz
  have hcs: ∀ j,j<39→cs[j]? =some (HD j):=fun j hj=>by rw[←HHD.out.1]; simp[hj]
  have HCS:=Zg hcs
  obtain⟨wb,hw1,_,_,_⟩:=hgb
  have hdr: ∀ i,i<16→HD (6+2 * i)= .int .i64 (rv i)∧HD (6+2 * i+1)= .int .i64 (sz i):=fun i hi=>by
   have h:=HK.out.dirs wb cs hw1 i hi
   rw[hcs _ (by omega),hcs _ (by omega)] at h
   exact⟨Option.some.inj h.1,Option.some.inj h.2⟩
  have hb0:HD 0= .int .u64 base:=by
   have h:=HK.out.base0 wb cs hw1
   rw[hcs 0 (by omega)] at h
   exact Option.some.inj h
  have hplt:=hp.1
  have HC:=Zg (Zhk wc P (pe0 HD (.slice (some ⟨gi,0,none⟩) N N)) hp rv sz hdr base hb0 eE eI eR eT eB eD (SE gi) (SI gi) (SR gi) (ST gi) (SB gi) (SD gi) (HBE.out wc gi P ho hb hplt hne) (HBI.out wc gi P ho hb hplt hne) (HBR.out wc gi P ho hb hplt hne) (HBT.out wc gi P ho hb hplt hne) (HBB.out wc gi P ho hb hplt hne) (HBD.out wc gi P ho hb hplt hne))
  have HPL:=Zg hplt
  rw[HFE.out] at HC
  clear hp ho hb hP hgi hne hw1 hdr hb0 hz hplt hcs HFE HBE HBI HBR HBT HBB HBD hsz hsz2 hone
  go_wp2_with fail
  refine HC.out.mono ?_
  rintro e w5 ⟨rfl,hk,hq⟩
  have HKB:=Zg hk
  have HQ:=Zg hq
  have HZ5:=Zg ((hk.block w.heap.size ⟨Zi HZ.out,Nat.ne_of_lt HPP.out.1⟩).trans HZ.out)
  have HB5:=Zg (HB.out.trans (hk.below (fun k hk=>⟨Nat.lt_of_lt_of_le hk HB.out.size,by have:=HPP.out.1; omega⟩)))
  clear hk hq HC HZ
  by_cases hfe: ¬ FE=0
  ·have e1:(FE != 0)=true:=by simpa using hfe
   go_wp2_with (refine wpList_store_row rfl 50 (.tmp 2) (.tmp 25) rfl w.heap.size _ rfl rfl 50 (peC peZ) HZ5.out (by kernel_rfl) (Zu _) (by kernel_rfl) ?_; rw[Xt])
   exact bodyPost_ret (v:= .tuple #[.agg (peC peZ),.int .i64 FE]) (Zj rfl _ _ w.heap.size 50 _ (0,0) _ _ rfl rfl (setRow_heap _ _ _ _ _ _ HZ5.out) Tryz.underlying50 rfl (by rw[Zu]; kernel_rfl)) rfl ⟨below_setRow HB5.out (Nat.le_refl _) _,.bad hfe⟩
  ·have hfe:FE=0:=Decidable.not_not.1 hfe
   subst hfe
   obtain⟨y,hy⟩:=HQ.out rfl
   have HY:=Zg hy
   have hrg:w5.rangeAt P 0 ((List.range 50).map (peF y)):=fun j v hv=>by
    have hj:j<50:=by
     rcases Nat.lt_or_ge j 50 with hj|hj
     ·exact hj
     ·simp[hj] at hv
    simp[hj] at hv
    subst hv
    rw[Nat.zero_add,Own.cell hy.pe hj]
   have HRG:=Zg hrg
   clear hrg hy HQ
   go_wp2_with (first
    | (refine wpList_load_mid rfl 50 (.tmp 6) rfl P 0 rfl ((List.range 50).map (peF y)) _ HRG.out Tryz.underlying50 rfl (by rw[List.length_map,List.length_range]; kernel_rfl) ?_)
    | (refine wpList_store_row rfl 50 (.tmp 2) (.tmp 27) rfl w.heap.size (peC y) rfl rfl 50 (peC peZ) HZ5.out (by rw[Zu]; kernel_rfl) (by rw[Zu,Zu]) (Qw y (by rw[HY.out.hd]; exact HHD.out.2) (by rw[HY.out.img]; rfl) HY.out.ones) ?_))
   have hks:Xg (fun k=>k≠w.heap.size) w5 (w5.setRow w.heap.size (peC y)):=Xg.setRow_ne w5 w.heap.size (peC y)
   have hpl:=HPL.out
   have hgk: ∃ wb,HG wb cs∧wb.heap[w.heap.size]? =some (.cells (peC peZ) 50 (0,0))∧Xg (fun k=>k<wb.heap.size∧k≠w.heap.size) wb (w5.setRow w.heap.size (peC y)):=by
    obtain⟨wb,g1,g2,g3,g4⟩:=HGB.out
    have q1:Xg (fun k=>k<wb.heap.size∧k≠w.heap.size) wb wc:=Xg.of_below g2 (fun k hk=>hk.1)
    have q2:=q1.trans (HKB.out.mono (fun k hk=>⟨Nat.lt_of_lt_of_le hk.1 g2.size,by have:=hk.1; omega⟩))
    exact⟨wb,g1,g4,q2.trans (hks.mono (fun k hk=>hk.2))⟩
   have hpp:=HPP.out
   have ll: ∀ S:World→Prop,ZM wc.heap.size S w5→ZM wc.heap.size S (w5.setRow w.heap.size (peC y)):=fun S h=>h.wrote (by omega) hks
   exact bodyPost_ret (v:= .tuple #[.agg (peC y),.int .i64 0]) (Zj rfl _ _ w.heap.size 50 _ (0,0) _ _ rfl rfl (setRow_heap _ _ _ _ _ _ HZ5.out) Tryz.underlying50 rfl (by rw[Zu]; kernel_rfl)) rfl
    ⟨below_setRow HB5.out (Nat.le_refl _) _,.good rfl y cs gi wc.heap.size hgk (fun j hj=>by rw[HY.out.hd]; exact HCS.out j hj) HY.out.img ((HO.out.of_block HKB.out.size (HKB.out.block gi ⟨HO.out.lt,hpp.2.2⟩)).setRow (by omega) _) HB.out.size (ll _ HY.out.e) (ll _ HY.out.i) (ll _ HY.out.r) (ll _ HY.out.t) (ll _ HY.out.b) (ll _ HY.out.d)⟩
theorem Zbv (A:Option Addr) (n cap k:Nat) (hn:n≤262144) (hk:k≤100) (W:World):Calls Tryz.prog 113 #[.slice A n cap,.int .i64 1048576,.int .i64 k] W fun e w'=>e= .returned (.bool false)∧W=w' :=
 Zfp A n cap 1048576 k false W (by omega) (by omega) (by omega) ⟨(fun h=>by cases h),(fun h=>by omega)⟩
theorem Ug (A:Option Addr) (n cap k:Nat) (hn:n≤262144) (hk:k≤100) (w:World):Calls Tryz.prog 118 #[.slice A n cap,.int .i64 1048576,.int .i64 k] w fun e w'=>e= .returned (.bool false)∧w=w':=by
 have HIN:=Zg (fun W=>Zbv A n cap k hn hk W)
 go_enter Tryz.func118,Tryz.ntmps118
 go_wp2_with (first|(refine(HIN.out _).mono ?_; rintro e w' ⟨rfl,rfl⟩)|fail)
 go_ret
 exact⟨rfl,rfl⟩
theorem relZ (A:Option Addr) (n cap:Nat) (sz:Int) (w:World):Calls Tryz.prog 81 #[.slice A n cap,.agg #[.int .i64 0,.int .i64 sz]] w fun e u=>e= .returned (.tuple #[.slice none 0 0,.int .i64 0])∧Below w.heap.size w u:=by
 have HB0:=Zg ((Below.refl w.heap.size w).alloc (Nat.le_refl _) (.cells #[.int .i64 0,.int .i64 sz] 37))
 go_enter Tryz.func81,Tryz.ntmps81
 go_wp2_with fail
 go_ret2
 exact⟨rfl,HB0.out⟩
theorem bndZ (A:Option Addr) (n cap:Nat) (sz:Int) (w:World):Calls Tryz.prog 83 #[.slice A n cap,.agg #[.int .i64 0,.int .i64 sz]] w fun e u=>e= .returned (.tuple #[.slice none 0 0,.int .i64 0])∧Below w.heap.size w u:=by
 have HB0:=Zg ((Below.refl w.heap.size w).alloc (Nat.le_refl _) (.cells #[.int .i64 0,.int .i64 sz] 37))
 go_enter Tryz.func83,Tryz.ntmps83
 go_wp2_with fail
 go_ret2
 exact⟨rfl,HB0.out⟩
theorem expZ (A:Option Addr) (n cap:Nat) (sz:Int) (w:World):Calls Tryz.prog 79 #[.slice A n cap,.agg #[.int .i64 0,.int .i64 sz]] w fun e w'=>e= .returned (.tuple #[.agg #[.int .i64 0,.slice none 0 0,.slice none 0 0],.int .i64 0])∧Below w.heap.size w w':=by
 have HB0:=Zg (((Below.refl w.heap.size w).alloc (Nat.le_refl _) (.cells #[.int .i64 0,.int .i64 sz] 37)).alloc (by simp) (.cells #[.int .i64 0,.slice none 0 0,.slice none 0 0] 45))
 have HZ0:=Zg (heap_alloc_new (w.alloc (.cells #[.int .i64 0,.int .i64 sz] 37)) (.cells #[.int .i64 0,.slice none 0 0,.slice none 0 0] 45))
 have HZS:=Zg (show(w.alloc (.cells #[.int .i64 0,.int .i64 sz] 37)).heap.size=w.heap.size+1 by simp)
 rw[HZS.out] at HZ0
 go_enter Tryz.func79,Tryz.ntmps79
 go_wp2_with (refine wpList_store_row rfl 45 _ _ rfl (w.heap.size+1) #[.int .i64 0,.slice none 0 0,.slice none 0 0] rfl rfl 45 _ HZ0.out rfl rfl (by simp[Value.oneCell']) ?_)
 exact bodyPost_ret (v:= .tuple #[.agg #[.int .i64 0,.slice none 0 0,.slice none 0 0],.int .i64 0]) (Zj rfl _ _ (w.heap.size+1) 45 _ (0,0) _ _ rfl rfl (setRow_heap _ _ _ _ _ _ HZ0.out) rfl rfl rfl) rfl ⟨rfl,below_setRow HB0.out (by omega) _⟩
theorem tlsZ (A:Option Addr) (n cap:Nat) (sz:Int) (b:Int) (w:World):Calls Tryz.prog 82 #[.slice A n cap,.agg #[.int .i64 0,.int .i64 sz],.int .u64 b] w fun e w'=>e= .returned (.tuple #[.agg #[.bool false,.int .i64 0,.slice none 0 0],.int .i64 0])∧Below w.heap.size w w':=by
 have HB0:=Zg (((Below.refl w.heap.size w).alloc (Nat.le_refl _) (.cells #[.int .i64 0,.int .i64 sz] 37)).alloc (by simp) (.cells #[.bool false,.int .i64 0,.slice none 0 0] 48))
 have HZ0:=Zg (heap_alloc_new (w.alloc (.cells #[.int .i64 0,.int .i64 sz] 37)) (.cells #[.bool false,.int .i64 0,.slice none 0 0] 48))
 have HZS:=Zg (show(w.alloc (.cells #[.int .i64 0,.int .i64 sz] 37)).heap.size=w.heap.size+1 by simp)
 rw[HZS.out] at HZ0
 go_enter Tryz.func82,Tryz.ntmps82
 go_wp2_with (refine wpList_store_row rfl 48 _ _ rfl (w.heap.size+1) #[.bool false,.int .i64 0,.slice none 0 0] rfl rfl 48 _ HZ0.out rfl rfl (by simp[Value.oneCell']) ?_)
 exact bodyPost_ret (v:= .tuple #[.agg #[.bool false,.int .i64 0,.slice none 0 0],.int .i64 0]) (Zj rfl _ _ (w.heap.size+1) 48 _ (0,0) _ _ rfl rfl (setRow_heap _ _ _ _ _ _ HZ0.out) rfl rfl rfl) rfl ⟨rfl,below_setRow HB0.out (by omega) _⟩
theorem relF (A:Option Addr) (n cap:Nat) (hn:n≤262144) (w:World):Calls Tryz.prog 81 #[.slice A n cap,.agg #[.int .i64 1048576,.int .i64 64]] w fun e u=>e= .returned (.tuple #[.slice none 0 0,.int .i64 9])∧Below w.heap.size w u:=by
 have HB0:=Zg ((Below.refl w.heap.size w).alloc (Nat.le_refl _) (.cells #[.int .i64 1048576,.int .i64 64] 37))
 have HIN:=Zg (fun W=>Zbv A n cap 64 hn (by omega) W)
 go_enter Tryz.func81,Tryz.ntmps81
 go_wp2_with (first|(refine(HIN.out _).mono ?_; rintro e w' ⟨rfl,rfl⟩)|fail)
 go_ret2
 exact⟨rfl,HB0.out⟩
set_option maxHeartbeats 2000000 in
theorem bndF (A:Option Addr) (n cap:Nat) (hn:n≤262144) (w:World):Calls Tryz.prog 83 #[.slice A n cap,.agg #[.int .i64 1048576,.int .i64 64]] w fun e u=>e= .returned (.tuple #[.slice none 0 0,.int .i64 8])∧Below w.heap.size w u:=by
 have hb1:Below w.heap.size w ((w.alloc (.cells #[.int .i64 1048576,.int .i64 64] 37)).alloc (.cells #[] 80)):=((Below.refl w.heap.size w).alloc (Nat.le_refl _) _).alloc (by simp) _
 have HB1:=Zg hb1
 have HIN:=Zg (fun W=>Zbv A n cap 8 hn (by omega) W)
 have HNO:=Zg (fun W=>Ug A n cap 8 hn (by omega) W)
 clear hb1
 go_enter Tryz.func83,Tryz.ntmps83
 go_wp2_with fail
 generalize (w.alloc (.cells #[.int .i64 1048576,.int .i64 64] 37)).alloc (.cells #[] 80)=w1 at *
 go_loopw [7,8] (fun v7 v8 wr=>v8= .int .i64 1048576∧v7= .int .i64 0∧Below w.heap.size w wr) (fun _ v8 _=>0)
 case atStart=>exact⟨rfl,rfl,HB1.out⟩
 case round =>
  obtain⟨rfl,rfl,hb⟩:=hrel
  have HB:=Zg hb
  clear hb
  go_wp2_with (first|(refine(HIN.out _).mono ?_; rintro e w' ⟨rfl,rfl⟩)|(refine(HNO.out _).mono ?_; rintro e w' ⟨rfl,rfl⟩)|fail)
  go_ret2
  exact⟨rfl,HB.out⟩
set_option maxHeartbeats 2000000 in
theorem imp (A:Option Addr) (n cap:Nat) (hn:n≤262144) (w:World):Calls Tryz.prog 111 #[.slice A n cap,.agg #[.int .i64 1048576,.int .i64 64],.int .i64 20,.func (.func 112) #[] #[]] w fun e u=>e= .returned (.tuple #[.slice none 0 0,.int .i64 10])∧Below w.heap.size w u:=by
 have hb1:Below w.heap.size w ((w.alloc (.cells #[.int .i64 1048576,.int .i64 64] 37)).alloc (.cells #[] 78)):=((Below.refl w.heap.size w).alloc (Nat.le_refl _) _).alloc (by simp) _
 have HB1:=Zg hb1
 have HIN:=Zg (fun W=>Zbv A n cap 20 hn (by omega) W)
 have HNO:=Zg (fun W=>Ug A n cap 20 hn (by omega) W)
 clear hb1
 go_enter Tryz.func111,Tryz.ntmps111
 go_wp2_with fail
 generalize (w.alloc (.cells #[.int .i64 1048576,.int .i64 64] 37)).alloc (.cells #[] 78)=w1 at *
 go_loopw [11] (fun v11 wr=>v11= .int .i64 1048576∧Below w.heap.size w wr) (fun _ _=>0)
 case atStart=>exact⟨rfl,HB1.out⟩
 case round =>
  obtain⟨rfl,hb⟩:=hrel
  have HB:=Zg hb
  clear hb
  go_wp2_with (first|(refine(HIN.out _).mono ?_; rintro e w' ⟨rfl,rfl⟩)|(refine(HNO.out _).mono ?_; rintro e w' ⟨rfl,rfl⟩)|fail)
  go_ret2
  exact⟨rfl,HB.out⟩
theorem imzp (A:Option Addr) (n cap:Nat) (sz:Int) (w:World):Calls Tryz.prog 111 #[.slice A n cap,.agg #[.int .i64 0,.int .i64 sz],.int .i64 20,.func (.func 112) #[] #[]] w fun e u=>e= .returned (.tuple #[.slice none 0 0,.int .i64 0])∧Below w.heap.size w u:=by
 have HB0:=Zg ((Below.refl w.heap.size w).alloc (Nat.le_refl _) (.cells #[.int .i64 0,.int .i64 sz] 37))
 go_enter Tryz.func111,Tryz.ntmps111
 go_wp2_with fail
 go_ret2
 exact⟨rfl,HB0.out⟩
theorem imF (A:Option Addr) (n cap:Nat) (hn:n≤262144) (w:World):Calls Tryz.prog 80 #[.slice A n cap,.agg #[.int .i64 1048576,.int .i64 64]] w fun e u=>e= .returned (.tuple #[.slice none 0 0,.int .i64 10])∧Below w.heap.size w u:=by
 have HB0:=Zg ((Below.refl w.heap.size w).alloc (Nat.le_refl _) (.cells #[.int .i64 1048576,.int .i64 64] 37))
 have HP:=Zg (fun W=>imp A n cap hn W)
 go_enter Tryz.func80,Tryz.ntmps80
 go_wp2_with fail
 refine(HP.out _).mono ?_
 rintro e w2 ⟨rfl,hb⟩
 have HB2:=Zg (HB0.out.trans (hb.mono HB0.out.size))
 clear hb
 go_wp2_with fail
 go_ret2
 exact⟨rfl,HB2.out⟩
theorem imZ (A:Option Addr) (n cap:Nat) (sz:Int) (w:World):Calls Tryz.prog 80 #[.slice A n cap,.agg #[.int .i64 0,.int .i64 sz]] w fun e u=>e= .returned (.tuple #[.slice none 0 0,.int .i64 0])∧Below w.heap.size w u:=by
 have HB0:=Zg ((Below.refl w.heap.size w).alloc (Nat.le_refl _) (.cells #[.int .i64 0,.int .i64 sz] 37))
 have HP:=Zg (fun W=>imzp A n cap sz W)
 go_enter Tryz.func80,Tryz.ntmps80
 go_wp2_with fail
 refine(HP.out _).mono ?_
 rintro e w2 ⟨rfl,hb⟩
 have HB2:=Zg (HB0.out.trans (hb.mono HB0.out.size))
 clear hb
 go_wp2_with fail
 go_ret2
 exact⟨rfl,HB2.out⟩
set_option maxHeartbeats 2000000 in
theorem dep (A:Option Addr) (n cap:Nat) (hn:n≤262144) (w:World):Calls Tryz.prog 111 #[.slice A n cap,.agg #[.int .i64 1048576,.int .i64 64],.int .i64 32,.func (.func 120) #[] #[]] w fun e u=>e= .returned (.tuple #[.slice none 0 0,.int .i64 10])∧Below w.heap.size w u:=by
 have hb1:Below w.heap.size w ((w.alloc (.cells #[.int .i64 1048576,.int .i64 64] 37)).alloc (.cells #[] 78)):=((Below.refl w.heap.size w).alloc (Nat.le_refl _) _).alloc (by simp) _
 have HB1:=Zg hb1
 have HIN:=Zg (fun W=>Zbv A n cap 32 hn (by omega) W)
 have HNO:=Zg (fun W=>Ug A n cap 32 hn (by omega) W)
 clear hb1
 go_enter Tryz.func111,Tryz.ntmps111
 go_wp2_with fail
 generalize (w.alloc (.cells #[.int .i64 1048576,.int .i64 64] 37)).alloc (.cells #[] 78)=w1 at *
 go_loopw [11] (fun v11 wr=>v11= .int .i64 1048576∧Below w.heap.size w wr) (fun _ _=>0)
 case atStart=>exact⟨rfl,HB1.out⟩
 case round =>
  obtain⟨rfl,hb⟩:=hrel
  have HB:=Zg hb
  clear hb
  go_wp2_with (first|(refine(HIN.out _).mono ?_; rintro e w' ⟨rfl,rfl⟩)|(refine(HNO.out _).mono ?_; rintro e w' ⟨rfl,rfl⟩)|fail)
  go_ret2
  exact⟨rfl,HB.out⟩
theorem dezp (A:Option Addr) (n cap:Nat) (sz:Int) (w:World):Calls Tryz.prog 111 #[.slice A n cap,.agg #[.int .i64 0,.int .i64 sz],.int .i64 32,.func (.func 120) #[] #[]] w fun e u=>e= .returned (.tuple #[.slice none 0 0,.int .i64 0])∧Below w.heap.size w u:=by
 have HB0:=Zg ((Below.refl w.heap.size w).alloc (Nat.le_refl _) (.cells #[.int .i64 0,.int .i64 sz] 37))
 go_enter Tryz.func111,Tryz.ntmps111
 go_wp2_with fail
 go_ret2
 exact⟨rfl,HB0.out⟩
theorem deF (A:Option Addr) (n cap:Nat) (hn:n≤262144) (w:World):Calls Tryz.prog 84 #[.slice A n cap,.agg #[.int .i64 1048576,.int .i64 64]] w fun e u=>e= .returned (.tuple #[.slice none 0 0,.int .i64 10])∧Below w.heap.size w u:=by
 have HB0:=Zg ((Below.refl w.heap.size w).alloc (Nat.le_refl _) (.cells #[.int .i64 1048576,.int .i64 64] 37))
 have HP:=Zg (fun W=>dep A n cap hn W)
 go_enter Tryz.func84,Tryz.ntmps84
 go_wp2_with fail
 refine(HP.out _).mono ?_
 rintro e w2 ⟨rfl,hb⟩
 have HB2:=Zg (HB0.out.trans (hb.mono HB0.out.size))
 clear hb
 go_wp2_with fail
 go_ret2
 exact⟨rfl,HB2.out⟩
theorem deZ (A:Option Addr) (n cap:Nat) (sz:Int) (w:World):Calls Tryz.prog 84 #[.slice A n cap,.agg #[.int .i64 0,.int .i64 sz]] w fun e u=>e= .returned (.tuple #[.slice none 0 0,.int .i64 0])∧Below w.heap.size w u:=by
 have HB0:=Zg ((Below.refl w.heap.size w).alloc (Nat.le_refl _) (.cells #[.int .i64 0,.int .i64 sz] 37))
 have HP:=Zg (fun W=>dezp A n cap sz W)
 go_enter Tryz.func84,Tryz.ntmps84
 go_wp2_with fail
 refine(HP.out _).mono ?_
 rintro e w2 ⟨rfl,hb⟩
 have HB2:=Zg (HB0.out.trans (hb.mono HB0.out.size))
 clear hb
 go_wp2_with fail
 go_ret2
 exact⟨rfl,HB2.out⟩
theorem tlsF (A:Option Addr) (n cap:Nat) (hn:n≤262144) (b:Int) (w:World):Calls Tryz.prog 82 #[.slice A n cap,.agg #[.int .i64 1048576,.int .i64 64],.int .u64 b] w fun e w'=>e= .returned (.tuple #[.agg #[.bool false,.int .i64 0,.slice none 0 0],.int .i64 12])∧Below w.heap.size w w':=by
 have HB0:=Zg (((Below.refl w.heap.size w).alloc (Nat.le_refl _) (.cells #[.int .i64 1048576,.int .i64 64] 37)).alloc (by simp) (.cells #[.bool false,.int .i64 0,.slice none 0 0] 48))
 have HZ0:=Zg (heap_alloc_new (w.alloc (.cells #[.int .i64 1048576,.int .i64 64] 37)) (.cells #[.bool false,.int .i64 0,.slice none 0 0] 48))
 have HZS:=Zg (show(w.alloc (.cells #[.int .i64 1048576,.int .i64 64] 37)).heap.size=w.heap.size+1 by simp)
 rw[HZS.out] at HZ0
 have HIN:=Zg (fun W=>Zbv A n cap 40 hn (by omega) W)
 go_enter Tryz.func82,Tryz.ntmps82
 go_wp2_with (first|(refine(HIN.out _).mono ?_; rintro e w' ⟨rfl,rfl⟩)|(refine wpList_store_row rfl 48 _ _ rfl (w.heap.size+1) #[.bool false,.int .i64 0,.slice none 0 0] rfl rfl 48 _ HZ0.out rfl rfl (by simp[Value.oneCell']) ?_))
 exact bodyPost_ret (v:= .tuple #[.agg #[.bool false,.int .i64 0,.slice none 0 0],.int .i64 12]) (Zj rfl _ _ (w.heap.size+1) 48 _ (0,0) _ _ rfl rfl (setRow_heap _ _ _ _ _ _ HZ0.out) rfl rfl rfl) rfl ⟨rfl,below_setRow HB0.out (by omega) _⟩
theorem findF (A:Option Addr) (n cap:Nat) (hn:n≤262144) (w:World):Calls Tryz.prog 108 #[.slice A n cap,.agg #[.int .i64 1048576,.int .i64 64]] w fun e w'=>e= .returned (.tuple #[.agg #[.int .i64 0,.int .i64 0,.int .i64 0,.int .i64 0,.int .i64 0,.int .i64 0],.bool false])∧Below w.heap.size w w':=by
 have HB0:=Zg (((Below.refl w.heap.size w).alloc (Nat.le_refl _) (.cells #[.int .i64 1048576,.int .i64 64] 37)).alloc (by simp) (.cells #[.int .i64 0,.int .i64 0,.int .i64 0,.int .i64 0,.int .i64 0,.int .i64 0] 187))
 have HZ0:=Zg (heap_alloc_new (w.alloc (.cells #[.int .i64 1048576,.int .i64 64] 37)) (.cells #[.int .i64 0,.int .i64 0,.int .i64 0,.int .i64 0,.int .i64 0,.int .i64 0] 187))
 have HZS:=Zg (show(w.alloc (.cells #[.int .i64 1048576,.int .i64 64] 37)).heap.size=w.heap.size+1 by simp)
 rw[HZS.out] at HZ0
 have HIN:=Zg (fun W=>Zbv A n cap 64 hn (by omega) W)
 go_enter Tryz.func108,Tryz.ntmps108
 go_wp2_with (first|(refine(HIN.out _).mono ?_; rintro e w' ⟨rfl,rfl⟩)|(refine wpList_store_row rfl 187 _ _ rfl (w.heap.size+1) #[.int .i64 0,.int .i64 0,.int .i64 0,.int .i64 0,.int .i64 0,.int .i64 0] rfl rfl 187 _ HZ0.out rfl rfl (by simp[Value.oneCell']) ?_))
 exact bodyPost_ret (v:= .tuple #[.agg #[.int .i64 0,.int .i64 0,.int .i64 0,.int .i64 0,.int .i64 0,.int .i64 0],.bool false]) (Zj rfl _ _ (w.heap.size+1) 187 _ (0,0) _ _ rfl rfl (setRow_heap _ _ _ _ _ _ HZ0.out) rfl rfl rfl) rfl ⟨rfl,below_setRow HB0.out (by omega) _⟩
theorem expF (A:Option Addr) (n cap:Nat) (hn:n≤262144) (w:World):Calls Tryz.prog 79 #[.slice A n cap,.agg #[.int .i64 1048576,.int .i64 64]] w fun e w'=>e= .returned (.tuple #[.agg #[.int .i64 0,.slice none 0 0,.slice none 0 0],.int .i64 11])∧Below w.heap.size w w':=by
 have HB0:=Zg (((Below.refl w.heap.size w).alloc (Nat.le_refl _) (.cells #[.int .i64 1048576,.int .i64 64] 37)).alloc (by simp) (.cells #[.int .i64 0,.slice none 0 0,.slice none 0 0] 45))
 have HZ0:=Zg (heap_alloc_new (w.alloc (.cells #[.int .i64 1048576,.int .i64 64] 37)) (.cells #[.int .i64 0,.slice none 0 0,.slice none 0 0] 45))
 have HZS:=Zg (show(w.alloc (.cells #[.int .i64 1048576,.int .i64 64] 37)).heap.size=w.heap.size+1 by simp)
 rw[HZS.out] at HZ0
 have HF:=Zg (fun W=>findF A n cap hn W)
 go_enter Tryz.func79,Tryz.ntmps79
 go_wp2_with fail
 generalize (w.alloc (.cells #[.int .i64 1048576,.int .i64 64] 37)).alloc (.cells #[.int .i64 0,.slice none 0 0,.slice none 0 0] 45)=w1 at *
 refine(HF.out _).mono ?_
 rintro e w2 ⟨rfl,hb⟩
 have hlt:w.heap.size+1<w1.heap.size:=(Array.getElem?_eq_some_iff.1 HZ0.out).1
 have HZ2:=Zg ((hb.block (w.heap.size+1) hlt).trans HZ0.out)
 have HB2:=Zg (HB0.out.trans (hb.mono HB0.out.size))
 have HL2:=Zg (show w.heap.size+1<w2.heap.size by have:=hb.size; omega)
 clear hb hlt HB0 HZ0
 have HZ3:=Zg (show((w2.alloc (.cells #[.int .i64 0,.int .i64 0,.int .i64 0,.int .i64 0,.int .i64 0,.int .i64 0] 187)).setRow w2.heap.size #[.int .i64 0,.int .i64 0,.int .i64 0,.int .i64 0,.int .i64 0,.int .i64 0]).heap[w.heap.size+1]? =some (.cells #[.int .i64 0,.slice none 0 0,.slice none 0 0] 45 (0,0)) from(setRow_other _ w2.heap.size (w.heap.size+1) _ (by have:=HL2.out; omega)).trans ((((Below.refl w2.heap.size w2).alloc (Nat.le_refl _) _).block _ HL2.out).trans HZ2.out))
 have HB3:=Zg (show Below w.heap.size w ((w2.alloc (.cells #[.int .i64 0,.int .i64 0,.int .i64 0,.int .i64 0,.int .i64 0,.int .i64 0] 187)).setRow w2.heap.size #[.int .i64 0,.int .i64 0,.int .i64 0,.int .i64 0,.int .i64 0,.int .i64 0]) from below_setRow (HB2.out.alloc HB2.out.size _) HB2.out.size _)
 clear HZ2 HB2
 go_wp2_with (first
  | (refine wpList_store_row rfl 187 (.tmp 6) (.tmp 18) rfl w2.heap.size #[.int .i64 0,.int .i64 0,.int .i64 0,.int .i64 0,.int .i64 0,.int .i64 0] rfl rfl 187 #[.int .i64 0,.int .i64 0,.int .i64 0,.int .i64 0,.int .i64 0,.int .i64 0] (heap_alloc_new _ _) rfl rfl (by simp[Value.oneCell']) ?_; generalize ((w2.alloc (.cells #[.int .i64 0,.int .i64 0,.int .i64 0,.int .i64 0,.int .i64 0,.int .i64 0] 187)).setRow w2.heap.size #[.int .i64 0,.int .i64 0,.int .i64 0,.int .i64 0,.int .i64 0,.int .i64 0])=w3 at *)
  | (refine wpList_store_row rfl 45 (.tmp 4) (.tmp 22) rfl (w.heap.size+1) #[.int .i64 0,.slice none 0 0,.slice none 0 0] rfl rfl 45 _ HZ3.out rfl rfl (by simp[Value.oneCell']) ?_))
 exact bodyPost_ret (v:= .tuple #[.agg #[.int .i64 0,.slice none 0 0,.slice none 0 0],.int .i64 11]) (Zj rfl _ _ (w.heap.size+1) 45 _ (0,0) _ _ rfl rfl (setRow_heap _ _ _ _ _ _ HZ3.out) rfl rfl rfl) rfl ⟨rfl,below_setRow HB3.out (by omega) _⟩
def rvB (b:Bool):Int:=if b then 1048576 else 0
def szB (b:Bool):Int:=if b then 64 else 0
def erB (b:Bool) (e:Int):Int:=if b then e else 0
def Zat (_:Nat) (v:Value) (_:World):Prop:=v= .slice none 0 0
def Ziu (_:Nat) (a b c:Value) (_:World):Prop:=a= .int .i64 0∧b= .slice none 0 0∧c= .slice none 0 0
def Ziv (_:Nat) (a b c:Value) (_:World):Prop:=a= .bool false∧b= .int .i64 0∧c= .slice none 0 0
theorem UF {w:World} {N:Nat} {IM:Nat→Int} {fn:Nat} (er:Int) (b:Bool)
 (hz: ∀(A:Option Addr) (n cap:Nat) (sz:Int) (w:World),Calls Tryz.prog fn #[.slice A n cap,.agg #[.int .i64 0,.int .i64 sz]] w fun e u=>e= .returned (.tuple #[.slice none 0 0,.int .i64 0])∧Below w.heap.size w u)
 (hf: ∀(A:Option Addr) (n cap:Nat) (hn:n≤262144) (w:World),Calls Tryz.prog fn #[.slice A n cap,.agg #[.int .i64 1048576,.int .i64 64]] w fun e u=>e= .returned (.tuple #[.slice none 0 0,.int .i64 er])∧Below w.heap.size w u)
 (hN:N≤262144):Zaq w N IM fn [.agg #[.int .i64 (rvB b),.int .i64 (szB b)]] (erB b er) Zat:=fun W gi P ho hb hp hn W2 hk hs=>by
 cases b with
 | false=>exact(hz _ N N _ W2).mono (by rintro e u ⟨rfl,hb⟩; exact⟨_,rfl,rfl,hb,ZM.const (fun _=>rfl)⟩)
 | true=>exact(hf _ N N hN W2).mono (by rintro e u ⟨rfl,hb⟩; exact⟨_,rfl,rfl,hb,ZM.const (fun _=>rfl)⟩)
theorem readE {w:World} {N:Nat} {IM:Nat→Int} (hN:N≤262144) (b:Bool):Zda w N IM 79 [.agg #[.int .i64 (rvB b),.int .i64 (szB b)]] (erB b 11) Ziu:=fun W gi P ho hb hp hn W2 hk hs=>by
 cases b with
 | false=>exact(expZ _ N N _ W2).mono (by rintro e u ⟨rfl,hb⟩; exact⟨_,_,_,rfl,⟨rfl,rfl,rfl⟩,hb,ZM.const (fun _=>⟨rfl,rfl,rfl⟩)⟩)
 | true=>exact(expF _ N N hN W2).mono (by rintro e u ⟨rfl,hb⟩; exact⟨_,_,_,rfl,⟨rfl,rfl,rfl⟩,hb,ZM.const (fun _=>⟨rfl,rfl,rfl⟩)⟩)
theorem readT {w:World} {N:Nat} {IM:Nat→Int} (hN:N≤262144) (b:Bool) (base:Int):Zda w N IM 82 [.agg #[.int .i64 (rvB b),.int .i64 (szB b)],.int .u64 base] (erB b 12) Ziv:=fun W gi P ho hb hp hn W2 hk hs=>by
 cases b with
 | false=>exact(tlsZ _ N N _ base W2).mono (by rintro e u ⟨rfl,hb⟩; exact⟨_,_,_,rfl,⟨rfl,rfl,rfl⟩,hb,ZM.const (fun _=>⟨rfl,rfl,rfl⟩)⟩)
 | true=>exact(tlsF _ N N hN base W2).mono (by rintro e u ⟨rfl,hb⟩; exact⟨_,_,_,rfl,⟨rfl,rfl,rfl⟩,hb,ZM.const (fun _=>⟨rfl,rfl,rfl⟩)⟩)
theorem Zdc {n:Nat} {f:Nat→Int} (hE:ZT n f=0):XZ f (headP n f) (ZF f (headP n f)).base (ZF f (headP n f)).size∧Yt n (headP n f) (ZF f (headP n f)).headers (rdF f (headP n f+6) 2):=by
 unfold ZT at hE
 by_cases h0:(ZA n f).2≠0
 ·rw[if_pos h0] at hE; exact absurd hE h0
 rw[if_neg h0] at hE
 by_cases h1:Qe f (ZA n f).1.toNat≠0
 ·rw[if_pos h1] at hE; exact absurd hE h1
 rw[if_neg h1] at hE
 by_cases h2: ¬ XZ f (ZA n f).1.toNat (ZF f (ZA n f).1.toNat).base (ZF f (ZA n f).1.toNat).size
 ·rw[if_pos h2] at hE; exact absurd hE (by decide)
 rw[if_neg h2] at hE
 by_cases h3: ¬ Yt n (ZA n f).1.toNat (ZF f (ZA n f).1.toNat).headers (rdF f ((ZA n f).1.toNat+6) 2)
 ·rw[if_pos h3] at hE; exact absurd hE (by decide)
 exact⟨Classical.not_not.1 h2,Classical.not_not.1 h3⟩
def HeadG (n:Nat) (f:Nat→Int) (W:World) (cs:Array Value):Prop:= ∃ g,Zd1 W cs (ZF f (headP n f)) g (headK n f) (Ya f (headP n f+264) (headK n f))
theorem Zgn (b off n cap:Nat) (f:Nat→Int) (w:World) (h:VF w b off n cap f) (hE:ZT n f=0) (N hd:Nat) (hN:(ZF f (headP n f)).size=N) (hhd:(ZF f (headP n f)).headers=hd) :
 N≤262144∧HeadK w (.slice (some ⟨b,off,none⟩) n cap) N (imgF N f n hd (Ya f (headP n f+264) (headK n f))) (HeadG n f) (fun i=>((ZF f (headP n f)).dirs i).1) (fun i=>((ZF f (headP n f)).dirs i).2) (ZF f (headP n f)).base:=by
 obtain⟨h1,h2⟩:=Zdc hE
 have hN2:N≤262144:=by have:=h1.2.2.2.2.2.2.2; omega
 have hlen:(Ya f (headP n f+264) (headK n f)).length=headK n f:=by simp[Ya]
 have hK16:headK n f≤16:=by
  have a:=h2.1; have b:=h2.2.1
  unfold headK
  omega
 refine⟨hN2,?_,?_,?_,?_,?_,?_⟩
 ·intro W hb
  refine(Zed b off n cap f W (h.below hb)).mono ?_
  rintro e u ⟨⟨v,rfl,cs,hv,hr⟩,hb2⟩
  rw[hE] at hv
  subst hv
  refine⟨⟨cs,rfl,?_⟩,hb2⟩
  rcases hr with⟨hx,_⟩|⟨_,g,k2,k3,k4⟩
  ·exact absurd hE hx
  ·refine⟨g,by rw[hlen]; exact k2,k3,k4,?_,by rw[hlen]; exact hK16,by rw[hhd]; omega,by rw[hhd]; have:=h2.2.2.2.1; omega⟩
   intro s hs
   simp only[Ya,List.mem_map] at hs
   obtain⟨j,_,rfl⟩:=hs
   exact UI h.by255 _
 ·rintro u cs ⟨g,x⟩
  exact⟨x.hv.size,x.hv.one rfl⟩
 ·rintro u u' cs ⟨g,x⟩ hb
  exact⟨g,x.below hb⟩
 ·rintro W cs hb ⟨g,x⟩
  exact Zhx cs _ g _ _ b off n cap f N hd W x (h.below hb) hN hN2 hhd
 ·rintro u cs ⟨g,x⟩ i hi
  exact⟨x.hv.dir0 i hi,x.hv.dir1 i hi⟩
 ·rintro u cs ⟨g,x⟩
  exact x.hv.c0
theorem Zbw (b off n cap:Nat) (f:Nat→Int) (w:World) (h:VF w b off n cap f) (hE:ZT n f=0) (N hd:Nat) (hN:(ZF f (headP n f)).size=N) (hhd:(ZF f (headP n f)).headers=hd)
 (S:Nat→Bool) (hS: ∀ i,i<16→i∈[0,1,5,9,11,13]→(ZF f (headP n f)).dirs i=(rvB (S i),szB (S i))) :
 Calls Tryz.prog 11 #[.slice (some ⟨b,off,none⟩) n cap] w fun x u=>Below w.heap.size w u∧Zdb w N (imgF N f n hd (Ya f (headP n f+264) (headK n f))) (HeadG n f) (ZK (erB (S 0) 11) (erB (S 1) 10) (erB (S 5) 9) (erB (S 9) 12) (erB (S 11) 8) (erB (S 13) 10)) Ziu Zat Zat Ziv Zat Zat x u:=by
 obtain⟨hN2,hk⟩:=Zgn b off n cap f w h hE N hd hN hhd
 refine Zas _ N _ _ _ _ _ w hk _ _ _ _ _ _ _ _ _ _ _ _ ?_ ?_ ?_ ?_ ?_ ?_
 ·simp only[hS 0 (by omega) (by decide)]; exact readE hN2 _
 ·simp only[hS 1 (by omega) (by decide)]; exact UF 10 _ imZ imF hN2
 ·simp only[hS 5 (by omega) (by decide)]; exact UF 9 _ relZ relF hN2
 ·simp only[hS 9 (by omega) (by decide)]; exact readT hN2 _ _
 ·simp only[hS 11 (by omega) (by decide)]; exact UF 8 _ bndZ bndF hN2
 ·simp only[hS 13 (by omega) (by decide)]; exact UF 10 _ deZ deF hN2
def XL (f:Nat→Int) (at_ m:Nat) (h:Nat→Int) (j:Nat):Int:=if at_≤j∧j<at_+m then h (j - at_) else f j
theorem Zd8 (f:Nat→Int) (at_:Nat) (h:Nat→Int):XL f at_ 0 h=f:=funext fun j=>by unfold XL; rw[if_neg (by omega)]
theorem JL (f:Nat→Int) (at_ i:Nat) (h:Nat→Int):Qm (XL f at_ i h) (at_+i) (h i)=XL f at_ (i+1) h:=funext fun j=>by
 unfold Qm XL
 by_cases e:j=at_+i
 ·rw[if_pos e,if_pos (by omega),show j - at_=i by omega]
 ·rw[if_neg e]
  by_cases c:at_≤j∧j<at_+i
  ·rw[if_pos c,if_pos (by omega)]
  ·rw[if_neg c,if_neg (by omega)]
theorem Zgo {f h:Nat→Int} (hf:Zq f) (hh:Zq h) (at_ m:Nat):Zq (XL f at_ m h):=fun j=>by
 unfold XL; split
 ·exact hh _
 ·exact hf _
set_option maxHeartbeats 4000000 in
theorem Qx (b off n cap:Nat) (f:Nat→Int) (at_:Nat) (b2 off2 m cap2:Nat) (h:Nat→Int) (w:World) (hr:VF w b off n cap f) (hm:VF w b2 off2 m cap2 h) (hn:n≤1000000) (hm1:m≤1000000) (ha:at_≤1000000) :
 Calls Tryz.prog 9 #[.slice (some ⟨b,off,none⟩) n cap,.int .i64 at_,.slice (some ⟨b2,off2,none⟩) m cap2] w fun e u=> ∃ g c,e= .returned (.slice (some ⟨g,0,none⟩) n c)∧YD u w.heap.size g n c (XL f at_ m h)∧Below w.heap.size w u:=by
 have HR:=Zg hr
 have HM:=Zg hm
 have HN:=Zg (And.intro hn (And.intro hm1 ha))
 have HB0:=Zg ((Below.refl w.heap.size w).alloc (Nat.le_refl _) (.cells #[] 5))
 clear hr hm hn hm1 ha
 go_enter Tryz.func9,Tryz.ntmps9
 go_wp2_with (at_builtin; refine Vu rfl _ _ rfl (YD.empty w) (.inr ⟨b,off,rfl,Nat.lt_of_lt_of_le HR.out.lt (by simp),(HR.out.below HB0.out).row⟩) HR.out.by255 (by have:=HN.out.1; omega) (by simp) rfl rfl ?_; intro g c w1 ho hb; have HO1:=Zg ho; have HB1:=Zg (HB0.out.trans hb); clear ho hb)
 rw[Nat.zero_add] at HO1
 try simp only[Nat.zero_add]
 go_loopw [8] (fun v8 wr=> ∃ i:Nat,i≤m∧v8= .int .i64 i∧YD wr w.heap.size g n c (XL f at_ i h)∧Below w.heap.size w wr) (fun v8 _=>m - (intOf v8).toNat)
 case atStart=>exact⟨0,by omega,rfl,by rw[Zd8]; exact HO1.out.congr HR.out.by255 (fun i hi=>by unfold Uc; rw[if_neg (by omega)]; rfl),HB1.out⟩
 case round =>
  obtain⟨i,hi,rfl,ho,hb⟩:=hrel
  have HO:=Zg ho
  have HB:=Zg hb
  have hn:=HN.out.1
  have hm1:=HN.out.2.1
  have ha:=HN.out.2.2
  clear ho hb
  by_cases hlt:i<m
  ·have hlt':(i:Int)<m:=by omega
   have hc2:=(HM.out.below HB.out).row i hlt
   by_cases hin:at_+i<n
   ·have hin':(at_:Int)+i<n:=by omega
    have hcs:=HO.out.row (at_+i) hin
    have hwr:=HO.out.wr (at_+i) (by have:=HO.out.len; omega)
    have d1:decide ((0:Int)≤at_+i)=true:=decide_eq_true (by omega)
    have d2:decide ((at_:Int)+i≥0)=true:=decide_eq_true (by omega)
    have d3:decide ((at_:Int)+i<n)=true:=decide_eq_true hin'
    obtain⟨hc3,hf3⟩:=hwr
    rw[Nat.zero_add] at hcs
    go_wp2_with fail
    have hv:=HM.out.by255 i
    exact⟨⟨i+1,by omega,by push_cast; rfl,by rw[←JL]; exact HO.out.set (at_+i) (h i) hin hv.1 hv.2,WJ HO.out.le [.int .u8 (h i)] (at_+i) wr HB.out⟩,by simp only[intOf]; omega⟩
   ·have d1:decide ((0:Int)≤at_+i)=true:=decide_eq_true (by omega)
    have d2:decide ((at_:Int)+i≥0)=true:=decide_eq_true (by omega)
    have d3:decide ((at_:Int)+i<n)=false:=decide_eq_false (by omega)
    go_wp2_with fail
    exact⟨⟨i+1,by omega,by push_cast; rfl,HO.out.congr (Zgo HR.out.by255 HM.out.by255 _ _) (fun j hj=>by rw[←JL]; unfold Qm; rw[if_neg (by omega)]),HB.out⟩,by simp only[intOf]; omega⟩
  ·obtain rfl:i=m:=by omega
   go_wp2_with fail
   go_ret
   exact⟨g,c,rfl,HO.out,HB.out⟩
theorem Un {f f':Nat→Int}: ∀(n o:Nat),(∀ i,i<n→f' (o+i)=f (o+i))→ZZ f' o n=ZZ f o n
 | 0,_,_=>rfl
 | n+1,o,h=>by
   unfold ZZ
   have h0:=h 0 (by omega)
   simp only[Nat.add_zero] at h0
   have h1:=Un (f:=f) (f':=f') n (o+1) (fun i hi=>by have:=h (i+1) (by omega); rw[show o+(i+1)=o+1+i by omega] at this; exact this)
   rw[h0,h1]
theorem Zbx {f f':Nat→Int} {o:Nat} (h: ∀ i,i<40→f' (o+i)=f (o+i)):Xo f' o=Xo f o:=by
 have k: ∀ d,d+4≤40→rdF f' (o+d) 4=rdF f (o+d) 4:=fun d hd=>Xi 4 _ fun i hi=>by rw[Nat.add_assoc]; exact h _ (by omega)
 have hz:=Un (f:=f) (f':=f') 8 o (fun i hi=>h i (by omega))
 unfold Xo Jr
 rw[hz,ZH (f:=f') (f':=f) (o:=o) (o':=o) (fun i hi=>h i (by have:=VW f o 8; omega)),k 8 (by omega),k 12 (by omega),k 16 (by omega),k 20 (by omega),k 36 (by omega)]
def Yx (n:Nat) (f f':Nat→Int):Prop:= ∀ q,q<328+40 * n→(q<200∨328≤q)→f' q=f q
theorem Yx.rd {n:Nat} {f f':Nat→Int} (h:Yx n f f') (o k:Nat) (h1:o+k≤328+40 * n) (h2:o+k≤200∨328≤o):rdF f' o k=rdF f o k:=Xi k o fun i hi=>h _ (by omega) (by omega)
theorem Yx.sects {n:Nat} {f f':Nat→Int} (h:Yx n f f'):Ya f' 328 n=Ya f 328 n:=by
 unfold Ya
 refine List.map_congr_left fun j hj=> ?_
 have hj:=List.mem_range.1 hj
 exact Zbx fun i hi=>h _ (by omega) (by omega)
theorem Yx.refl (n:Nat) (f:Nat→Int):Yx n f f:=fun _ _ _=>rfl
theorem Yx.trans {n:Nat} {f g h:Nat→Int} (a:Yx n f g) (b:Yx n g h):Yx n f h:=fun q h1 h2=>(b q h1 h2).trans (a q h1 h2)
theorem Yx.over {n:Nat} (f:Nat→Int) (at_ m:Nat) (h:Nat→Int) (hx:(200≤at_∧at_+m≤328)∨328+40 * n≤at_):Yx n f (XL f at_ m h):=fun q h1 h2=>by
 unfold XL; rw[if_neg (by omega)]
section
variable {L:Nat→Vw} {n:Nat} {f f':Nat→Int}
theorem Yx.begin' (h:Yx n f f') (x:Vh L n f) (N:Nat) (hN:328≤N):ZA N f'=(64,0):=by
 have y:=x.all.hd
 have k: ∀ q v,q<200→f q=v→f' q=v:=fun q v a b=>(h q (by omega) (by omega)).trans b
 have z0:=k 0 77 (by omega) y.m0
 have z1:=k 1 90 (by omega) y.m1
 have z2:rdF f' 60 4=64:=(h.rd 60 4 (by omega) (by omega)).trans y.pe
 unfold ZA
 rw[z2,z0,z1,if_neg (by omega),if_neg (by omega),if_neg (by omega)]
 show(if f' 64≠80∨f' (64+1)≠69∨f' (64+2)≠0∨f' (64+3)≠0 then((0:Int),(3:Int)) else(64,0))=_
 rw[k 64 80 (by omega) y.p0,k 65 69 (by omega) y.p1,k 66 0 (by omega) y.p2,k 67 0 (by omega) y.p3,if_neg (by omega)]
theorem Yx.headP (h:Yx n f f') (x:Vh L n f) (N:Nat) (hN:328≤N):headP N f'=64:=by
 unfold YtplgdpjbkdagfaaGreat.headP
 rw[h.begin' x N hN]
 rfl
theorem Yx.cnt (h:Yx n f f') (x:Vh L n f):rdF f' 70 2=n:=(h.rd 70 2 (by omega) (by omega)).trans x.all.hd.cnt
theorem Yx.headK (h:Yx n f f') (x:Vh L n f) (N:Nat) (hN:328≤N):headK N f'=n:=by
 unfold YtplgdpjbkdagfaaGreat.headK
 rw[h.headP x N hN,h.cnt x]
 omega
theorem Yx.size (h:Yx n f f') (x:Vh L n f):(ZF f' 64).size=VM L n:=(h.rd 144 4 (by omega) (by omega)).trans x.size
theorem Yx.hdrs (h:Yx n f f') (x:Vh L n f):(ZF f' 64).headers=1024:=(h.rd 148 4 (by omega) (by omega)).trans x.all.hd.hdrs
theorem Yx.base (h:Yx n f f') (x:Vh L n f):(ZF f' 64).base=65536:=(h.rd 112 8 (by omega) (by omega)).trans x.all.hd.base
theorem Yx.ok (h:Yx n f f') (x:Vh L n f) (N:Nat) (hN:atS L n≤N) (h1:1≤n) (h6:n≤6):ZT N f'=0:=by
 have ha:=JE L n
 have hr:=Vv L n
 have h0:=Zah L (show 1≤n by omega)
 have hf:=WZ (L 0)
 have y:=x.all.hd
 have hb:(ZA N f').1=64:=by rw[h.begin' x N (by omega)]
 have hb2:(ZA N f').2=0:=by rw[h.begin' x N (by omega)]
 have ho:Qe f' 64=0:=by
  unfold Qe
  rw[(h.rd 68 2 (by omega) (by omega)).trans y.mach,(h.rd 84 2 (by omega) (by omega)).trans y.opt,(h.rd 88 2 (by omega) (by omega)).trans y.mg,(h.rd 196 4 (by omega) (by omega)).trans y.nd,if_neg (by omega),if_neg (by omega)]
 have hal:XZ f' 64 (ZF f' 64).base (ZF f' 64).size:=by
  refine⟨(h.rd 120 4 (by omega) (by omega)).trans y.al,(h.rd 124 4 (by omega) (by omega)).trans y.fal,?_⟩
  rw[h.base x,h.size x]
  omega
 have hhp:Yt N 64 (ZF f' 64).headers (rdF f' (64+6) 2):=by
  rw[h.hdrs x,h.cnt x]
  unfold Yt
  omega
 have hch:Yw (ZF f' 64).size N (ZN (ZF f' 64).headers 4096) (Ya f' (64+264) (rdF f' (64+6) 2).toNat):=by
  rw[h.hdrs x,h.cnt x,h.size x,show ZN 1024 4096=4096 by rfl,Int.toNat_natCast,h.sects]
  have k:=x.all.chain N hN n 0 (by omega)
  rw[←List.range_eq_range'] at k
  exact k
 have hen:(ZF f' 64).entry=0:=(h.rd 104 4 (by omega) (by omega)).trans y.ent
 unfold ZT
 rw[if_neg (by omega),hb,show((64:Int).toNat)=64 from rfl,if_neg (by rw[ho]; omega),if_neg (fun k=>k hal),if_neg (fun k=>k hhp),if_neg (fun k=>k hch),if_neg]
 rw[h.size x,hen]
 simp only[VM] at h0
 omega
end
theorem Jd {f g:Nat→Int}: ∀(n o o':Nat),(∀ i,i<n→f (o+i)=g (o'+i))→rdF f o n=rdF g o' n
 | 0,_,_,_=>rfl
 | n+1,o,o',h=>by
   unfold rdF
   have h0:=h 0 (by omega)
   simp only[Nat.add_zero] at h0
   rw[h0,Jd n (o+1) (o'+1) (fun i hi=>by rw[show o+1+i=o+(i+1) by omega,show o'+1+i=o'+(i+1) by omega]; exact h (i+1) (by omega))]
theorem Zby (f d:Nat→Int) (at_ m i:Nat) (h:328≤at_) (hi:i<16):(ZF (XL f at_ m d) 64).dirs i=(ZF f 64).dirs i:=by
 show(rdF (XL f at_ m d) (64+136+8 * i) 4,rdF (XL f at_ m d) (64+136+8 * i+4) 4)=(rdF f (64+136+8 * i) 4,rdF f (64+136+8 * i+4) 4)
 rw[Jd (f:=XL f at_ m d) (g:=f) 4 (64+136+8 * i) (64+136+8 * i) (fun j hj=>by unfold XL; rw[if_neg (by omega)]),Jd (f:=XL f at_ m d) (g:=f) 4 (64+136+8 * i+4) (64+136+8 * i+4) (fun j hj=>by unfold XL; rw[if_neg (by omega)])]
theorem Vh.dirs0 {L:Nat→Vw} {n:Nat} {f:Nat→Int} (x:Vh L n f) (i:Nat) (hi:i<16):(ZF f 64).dirs i=(0,0):=by
 show(rdF f (64+136+8 * i) 4,rdF f (64+136+8 * i+4) 4)=_
 have h1:=x.all.hd.dirs (2 * i) (by omega)
 have h2:=x.all.hd.dirs (2 * i+1) (by omega)
 rw[show 64+136+8 * i=200+4 * (2 * i) by omega,h1,show 200+4 * (2 * i)+4=200+4 * (2 * i+1) by omega,h2]
def L12 (_:Nat):Vw:=(12287,8191,7)
theorem at12:atS L12 1=8704:=by decide +kernel
theorem rva12:VM L12 1=16384:=by decide +kernel
theorem UG (w:World) (S:ByteArray) (hl:S.size≤1000000): ∃ C w',(convert 9 25 (.string S)).run Tryz.prog w= .ok (.slice (some ⟨w.heap.size,0,none⟩) S.size C) w'∧YD w' w.heap.size w.heap.size S.size C (PlainAid.bt S)∧Below w.heap.size w w':=by
 have hcv:=run_bytes_of_string (P:=Tryz.prog) w 9 25 5 S Tryz.underlying9 Tryz.underlying25 Tryz.underlying5
 have hcap:=grownCap_ge w S.size 0 5
 have hcm:=grownCap_le_maxLen w S.size 0 5 (by simp only[maxLen]; omega)
 simp only[maxLen] at hcm
 obtain⟨C,hC⟩: ∃ C,grownCap w S.size 0 5=C:=⟨_,rfl⟩
 rw[hC] at hcv hcap hcm
 have hrz:(bytesRow S C).size=C:=by
  have h1:S.data.size=S.size:=rfl
  simp[bytesRow]; omega
 rw[hrz] at hcv
 exact⟨C,_,hcv,YD.bytes w.drew S C C (C+1) hcap hcm (Nat.le_refl _),(Below.refl w.heap.size w).drew.alloc (Nat.le_refl _) _⟩
theorem Qy (A B:ByteArray):(A++B).data=A.data++B.data:=by simp
theorem Zbz (S:ByteArray) (i:Nat):PlainAid.bt S i=((S.data.toList[i]?.map fun c=>(c.toNat:Int)).getD 0):=by
 unfold PlainAid.bt
 by_cases h:i<S.size
 ·have h2:i<S.data.size:=h
  rw[dif_pos h,Array.getElem?_toList,Array.getElem?_eq_getElem h2]
  rfl
 ·have h2:S.data.size≤i:=Nat.le_of_not_lt h
  rw[dif_neg h,Array.getElem?_toList,Array.getElem?_eq_none h2]
  rfl
theorem bt_cat (A B:ByteArray) (i:Nat):PlainAid.bt (A++B) i=if i<A.size then PlainAid.bt A i else PlainAid.bt B (i - A.size):=by
 rw[Zbz,Zbz,Zbz,Qy,Array.toList_append]
 have hs:A.data.toList.length=A.size:=by simp
 by_cases h:i<A.size
 ·rw[if_pos h,List.getElem?_append_left (by omega)]
 ·rw[if_neg h,List.getElem?_append_right (by omega),hs]
theorem Zb0 (b s c e z h:Int):Tryz.prog.built 41 [(0,.int .u64 b),(1,.int .i64 s),(2,.int .i64 c),(3,.int .i64 e),(4,.int .i64 z),(5,.int .i64 h)]=some (Zl b s c e z h):=by
 kernel_rfl
theorem YW.start6 (h:ZO):YW (Zl h.base h.stamp h.chars h.entry h.size h.headers) h 0 :=
 ⟨rfl,rfl,rfl,rfl,rfl,rfl,rfl,fun j hj=>by omega,fun j hj=>by omega,rfl,by simp[Zl,Value.oneCell']⟩
structure XR (w u:World) (g:Nat) (h:ZO) (i:Nat):Prop where
 bel:Below w.heap.size w u
 le:w.heap.size+1<g
 z0:u.heap[w.heap.size]? =some (.cells (Zl 0 0 0 0 0 0) 41 (0,0))
 z1:u.heap[w.heap.size+1]? =some (.cells (Zl 0 0 0 0 0 0) 41 (0,0))
 cs: ∃ cs,u.heap[g]? =some (.cells cs 41 (0,0))∧YW cs h i
theorem XR.next {w u:World} {g:Nat} {h:ZO} {i:Nat} (x:XR w u g h i) (hi:i<16) (v1 v2:Int) (e1:v1=(h.dirs i).1) (e2:v2=(h.dirs i).2) :
 XR w ((u.setCell ⟨g,6+i * 2,none⟩ (.int .i64 v1)).setCell ⟨g,6+i * 2+1,none⟩ (.int .i64 v2)) g h (i+1):=by
 subst e1 e2
 rw[Nat.mul_comm i 2]
 obtain⟨cs,hc,hp⟩:=x.cs
 have hl:=x.le
 refine⟨(x.bel.setCell (show w.heap.size≤g by omega) _).setCell (show w.heap.size≤g by omega) _,hl,?_,?_,⟨_,heap_setCell_same _ _ _ _ _ _ (heap_setCell_same _ _ _ _ _ _ hc),hp.next hi⟩⟩
 ·rw[heap_setCell_other _ _ _ _ (show w.heap.size≠g by omega),heap_setCell_other _ _ _ _ (show w.heap.size≠g by omega)]
  exact x.z0
 ·rw[heap_setCell_other _ _ _ _ (show w.heap.size+1≠g by omega),heap_setCell_other _ _ _ _ (show w.heap.size+1≠g by omega)]
  exact x.z1
structure XG (w u:World) (g:Nat) (h:ZO) (l:List Zr):Prop where
 bel:Below w.heap.size w u
 le:w.heap.size+1<g
 z0:u.heap[w.heap.size]? =some (.cells (Zl 0 0 0 0 0 0) 41 (0,0))
 z1:u.heap[w.heap.size+1]? =some (.cells (Zl 0 0 0 0 0 0) 41 (0,0))
 cs: ∃ cs A c,u.heap[g]? =some (.cells cs 41 (0,0))∧YR cs h (.slice A l.length c)∧ZR Zr.cells 6 u (g+1) 72 (.slice A l.length c) l
theorem XR.all {w u:World} {g:Nat} {h:ZO} (x:XR w u g h 16):XG w u g h []:=by
 obtain⟨cs,hc,hp⟩:=x.cs
 exact⟨x.bel,x.le,x.z0,x.z1,cs,none,0,hc,hp.all,ZR.nil _ _ _⟩
theorem XG.below {w u u':World} {g:Nat} {h:ZO} {l:List Zr} (x:XG w u g h l) (hb:Below u.heap.size u u'):XG w u' g h l:=by
 obtain⟨cs,A,c,hc,hv,ho⟩:=x.cs
 exact⟨x.bel.trans (hb.mono x.bel.size),x.le,(hb.block _ (Array.getElem?_eq_some_iff.1 x.z0).1).trans x.z0,(hb.block _ (Array.getElem?_eq_some_iff.1 x.z1).1).trans x.z1,
  cs,A,c,(hb.block _ (Array.getElem?_eq_some_iff.1 hc).1).trans hc,hv,ho.below hb⟩
theorem XG.add {w u u':World} {g:Nat} {h:ZO} {l:List Zr} {s:Zr} {A:Option Addr} {c g' cap:Nat} {cs:Array Value} (x:XG w u g h l) (hc:u.heap[g]? =some (.cells cs 41 (0,0))) (hv:YR cs h (.slice A l.length c))
 (ho:ZR Zr.cells 6 u (g+1) 72 (.slice A l.length c) l)
 (hg:u.grownBy u' (Value.ownBlock (.slice A l.length c))) (ho':ZR Zr.cells 6 u' (g+1) 72 (.slice (some ⟨g',0,none⟩) (l.length+1) cap) (l++[s])) :
 XG w (u'.setCell ⟨g,38,none⟩ (.slice (some ⟨g',0,none⟩) (l.length+1) cap)) g h (l++[s]):=by
 have hl:=x.le
 have hlt:=(Array.getElem?_eq_some_iff.1 hc).1
 have hbel:Below (g+1) u u':=ho.grew (Below.refl _ _) (Nat.le_refl _) (by omega) hg
 have hb:=hbel.mono (show w.heap.size≤g+1 by omega)
 have k:=ho'.lt g' rfl
 refine⟨(x.bel.trans hb).setCell (show w.heap.size≤g by omega) _,hl,?_,?_,cs.setIfInBounds 38 (.slice (some ⟨g',0,none⟩) (l.length+1) cap),some ⟨g',0,none⟩,cap,heap_setCell_same _ _ _ _ _ _ ((hbel.block _ (by omega)).trans hc),?_,?_⟩
 ·rw[heap_setCell_other _ _ _ _ (show w.heap.size≠g by omega)]
  exact(hbel.block _ (by omega)).trans x.z0
 ·rw[heap_setCell_other _ _ _ _ (show w.heap.size+1≠g by omega)]
  exact(hbel.block _ (by omega)).trans x.z1
 ·rw[List.length_append]; exact hv.sects _
 ·rw[List.length_append]
  exact ho'.of_block (fun q hq=>heap_setCell_other _ _ _ _ (by have:=(ho'.lt q hq).1; show q≠g; omega))
theorem XG.app {w u u':World} {g n:Nat} {h:ZO} {l:List Zr} {s:Zr} {A:Option Addr} {c g' cap:Nat} {cs:Array Value} (x:XG w u g h l) (hc:u.heap[g]? =some (.cells cs 41 (0,0))) (hv:YR cs h (.slice A n c)) (hn:l.length=n)
 (ho:ZR Zr.cells 6 u (g+1) 72 (.slice A n c) l)
 (hg:u.grownBy u' (Value.ownBlock (.slice A n c))) (ho':ZR Zr.cells 6 u' (g+1) 72 (.slice (some ⟨g',0,none⟩) (l.length+1) cap) (l++[s])) :
 u'.cell? ⟨g,38,none⟩=some (.slice A n c)∧u'.frozen? ⟨g,38,none⟩=false∧XG w (u'.setCell ⟨g,38,none⟩ (.slice (some ⟨g',0,none⟩) (l.length+1) cap)) g h (l++[s]):=by
 subst hn
 have hlt:=(Array.getElem?_eq_some_iff.1 hc).1
 have hbel:Below (g+1) u u':=ho.grew (Below.refl _ _) (Nat.le_refl _) (by omega) hg
 have hg5:=(hbel.block g (by omega)).trans hc
 exact⟨(cell_of_row _ _ 38 _ _ _ hg5).trans hv.c38,frozen_of_row _ _ 38 _ _ hg5,x.add hc hv ho hg ho'⟩
theorem Zdd:(Tryz.prog.info? 72).map (fun i=>(i.zero,i.size,i.bytes))=some (some (.agg #[.string ⟨#[]⟩,.int .i64 0,.int .i64 0,.int .i64 0,.int .i64 0,.int .i64 0]),6,56):=by kernel_rfl
theorem Zgp (s:Zr): ∀ u∈s.cells,u.oneCell'=true:=by
 intro u hu
 simp[Zr.cells] at hu
 rcases hu with rfl|rfl|rfl|rfl|rfl|rfl <;> rfl
theorem Zgq {w:World} {g:Nat} {s:Zr} {t:TypeId} {fr:Nat × Nat} (h:w.heap[g]? =some (.cells s.arr t fr)): ∀ j u,s.cells[j]? =some u→w.cell? ⟨g,j,none⟩=some u:=fun j u hu=>by
 rw[cell_of_row _ _ _ _ _ _ h]
 rw[←Zr.arr_list,Array.getElem?_toList] at hu
 exact hu
theorem Je (f:Nat→Int): ∀(n o i:Nat),i<ZZ f o n→f (o+i)≠0
 | 0,_,i,h=>by simp[ZZ] at h
 | n+1,o,i,h=>by
   unfold ZZ at h
   by_cases e:f o=0
   ·rw[if_pos e] at h; omega
   ·rw[if_neg e] at h
    rcases i with _|i
    ·simpa using e
    ·have:=Je f n (o+1) i (by omega)
     rwa [show o+1+i=o+(i+1) from by omega] at this
theorem Zau (f:Nat→Int): ∀(n o:Nat),ZZ f o n<n→f (o+ZZ f o n)=0
 | 0,_,h=>by omega
 | n+1,o,h=>by
   unfold ZZ at h ⊢
   by_cases e:f o=0
   ·rw[if_pos e]; simpa using e
   ·rw[if_neg e] at h ⊢
    have:=Zau f n (o+1) (by omega)
    rwa [show o+1+ZZ f (o+1) n=o+(ZZ f (o+1) n+1) from by omega] at this
theorem XS (S:ByteArray) (o n i:Nat) (h:o+n≤S.size) (hi:i<n):PlainAid.bt (S.extract o (o+n)) i=PlainAid.bt S (o+i):=by
 rw[YF S o n h,XQ (WA S) hi]
theorem VT (S:ByteArray) (o:Nat) (h:o+8≤S.size):(S.extract o (o+8)).size=8:=by
 rw[YF S o 8 h,Zt]
theorem Zd9 (S:ByteArray) (o:Nat) (w:World) (h:o+8≤S.size) (hf:ZZ (PlainAid.bt S) o 8<8) :
 Calls Tryz.prog 75 #[.string (S.extract o (o+8)),.int .i64 0,.int .i64 8] w fun e w'=>e= .returned (.tuple #[.string (Jr (PlainAid.bt S) o),.bool true])∧w=w':=by
 have hz:=VT S o h
 have k:=QV (S.extract o (o+8)) 0 (ZZ (PlainAid.bt S) o 8) 8 w (by omega) (by omega) (by omega) (by rw[Nat.zero_add,XS S o 8 _ h hf]; exact Zau _ _ _ hf) (fun i hi=>by rw[Nat.zero_add,XS S o 8 _ h (by omega)]; exact Je _ _ _ _ hi)
 have e:ZB (PlainAid.bt (S.extract o (o+8))) 0 (ZZ (PlainAid.bt S) o 8)=Jr (PlainAid.bt S) o:=ZH (fun i hi=>by rw[Nat.zero_add,XS S o 8 _ h (by omega)])
 rw[e] at k
 exact k
theorem Zgr (S:ByteArray) (o:Nat) (w:World) (h:o+8≤S.size) (hf: ¬ ZZ (PlainAid.bt S) o 8<8) :
 Calls Tryz.prog 75 #[.string (S.extract o (o+8)),.int .i64 0,.int .i64 8] w fun e w'=>e= .returned (.tuple #[.string ByteArray.empty,.bool false])∧w=w':=by
 have hz:=VT S o h
 exact Zct (S.extract o (o+8)) 0 8 w (by omega) (by omega) (fun i hi _=>by rw[Nat.zero_add,XS S o 8 _ h (by omega)]; exact Je _ 8 _ _ (by omega))
theorem Zgs (S:ByteArray) (o:Nat) (h:o+8≤S.size) (hf: ¬ ZZ (PlainAid.bt S) o 8<8):S.extract o (o+8)=Jr (PlainAid.bt S) o:=by
 have:=VW (PlainAid.bt S) o 8
 rw[YF S o 8 h]
 unfold Jr
 rw[show ZZ (PlainAid.bt S) o 8=8 by omega]
end Go.Proofs.YtplgdpjbkdagfaaGreat
