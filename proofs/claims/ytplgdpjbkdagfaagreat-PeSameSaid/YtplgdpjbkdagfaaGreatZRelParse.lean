import Derived.Test.YtplgdpjbkdagfaaGreatZRel
import Derived.Test.YtplgdpjbkdagfaaGreatZOwnT
import Derived.Test.YtplgdpjbkdagfaaGreatCopy
import Derived.Deep.DeepFit
import Derived.Test.YtplgdpjbkdagfaaGreatShelf
import Derived.Test.YtplgdpjbkdagfaaGreatZMem
import Derived.BigQuiet
import Derived.Test.YtplgdpjbkdagfaaGreatZHdrD
import Derived.Test.YtplgdpjbkdagfaaGreatZStoreRow
import Derived.Test.YtplgdpjbkdagfaaGreatZPeC
import Derived.Test.YtplgdpjbkdagfaaGreatZMd
import Derived.Test.YtplgdpjbkdagfaaGreatPeSA
import Derived.Deep.Cut
import Derived.Test.YtplgdpjbkdagfaaGreatPeSN
namespace Go.Proofs.YtplgdpjbkdagfaaGreat
open Lib renaming hid→Zg
set_option maxRecDepth 100000
open Go.ChangeShapes Go.WideShapes Go.ChangeAt Go.RowKit
set_option linter.unusedVariables false
set_option linter.unusedSimpArgs false
abbrev YX:=Int × Int
def Wh (x:YX):List Value:=[.int .i64 x.1,.int .i64 x.2]
theorem Xh (x:YX):(Wh x).length=2:=rfl
theorem VI (x:YX): ∀ u∈Wh x,u.oneCell'=true:=by
 intro u hu
 simp[Wh] at hu
 rcases hu with rfl|rfl <;> rfl
def Zfi (n:Nat) (l:List YX) (x:YX):Prop:=Yb x.1≠0∧x.2+Yb x.1≤n∧l.length<512∧ ∀ y∈l,y.2+Yb y.1≤x.2∨x.2+Yb x.1≤y.2
instance (n:Nat) (l:List YX) (x:YX):Decidable (Zfi n l x):=by unfold Zfi; infer_instance
def Zfj (p v:Int):YX:=(v / 4096,p+v % 4096)
def Zjf (n:Nat) (f:Nat→Int) (p:Int):Nat→Nat→List YX→Option (List YX)
 | 0,_,l=>some l
 | k+1,o,l=>if rdF f o 2 / 4096=0 then Zjf n f p k (o+2) l else if Zfi n l (Zfj p (rdF f o 2)) then Zjf n f p k (o+2) (l++[Zfj p (rdF f o 2)]) else none
def Ub (n:Nat) (f:Nat→Int) (e:Nat):Nat→Nat→List YX→Option (List YX)
 | 0,_,_=>none
 | F+1,o,l =>
   if e≤o then some l else
   match UN f o e with
   | none=>none
   | some (p,z) =>
     match Zjf n f p ((z.toNat - 8) / 2) (o+8) l with
     | none=>none
     | some l'=>Ub n f e F (o+z.toNat) l'
def Uj (n:Nat) (f:Nat→Int) (r s:Int):Option (List YX) :=
 if r=0 then some [] else if ¬ (0≤r∧0≤s∧r≤n - s) then none else Ub n f (r.toNat+s.toNat) (s.toNat+1) r.toNat []
structure Marks (tk:Nat→Bool) (l:List YX):Prop where
 mark: ∀ j:Nat,tk j=true↔ ∃ y∈l,y.2≤j∧(j:Int)<y.2+Yb y.1
 good: ∀ y∈l,Yb y.1≠0∧0≤y.2
 len:l.length≤512
theorem Marks.nil:Marks (fun _=>false) []:=⟨fun j=>by simp,fun y hy=>by simp at hy,by simp⟩
theorem Zcv (n:Int):bits .and .i64 n 4095=n % 4096:=Xw n 12 (by omega)
theorem UV:(Tryz.prog.info? 82).map (fun i=>(i.zero,i.size,i.bytes))=some (some (.agg #[.int .i64 0,.int .i64 0]),2,16):=by kernel_rfl
theorem SlT.site {w:World} {L:Option Addr} {l:List YX} (h:SlT Wh 2 w L l) {i:Nat} (hi:i<l.length): ∃ b off,L=some ⟨b,off,none⟩∧b<w.heap.size∧w.cell? ⟨b,off+i * 2,none⟩=some (.int .i64 l[i].1)∧w.cell? ⟨b,off+i * 2+1,none⟩=some (.int .i64 l[i].2):=by
 rcases h with h|⟨b,off,rfl,hlt,hc⟩
 ·rw[h] at hi; simp at hi
 ·exact⟨b,off,rfl,hlt,by have:=hc i hi 0 _ (by simp[Wh]; rfl); simpa using this,by have:=hc i hi 1 _ (by simp[Wh]; rfl); rwa [←Nat.add_assoc] at this⟩
def Ws (x:Int):List Value:=[.int .i64 x]
theorem VJ (x:Int):(Ws x).length=1:=rfl
theorem Qf (x:Int): ∀ u∈Ws x,u.oneCell'=true:=by
 intro u hu
 simp[Ws] at hu
 subst hu; rfl
theorem Zbg:(Tryz.prog.info? 3).map (fun i=>(i.zero,i.size,i.bytes))=some (some (.int .i64 0),1,8):=by kernel_rfl
theorem ZR.lower {α :Type} {C: α →List Value} {sz:Nat} {w:World} {base base':Nat} {e:TypeId} {v:Value} {l:List α} (h:ZR C sz w base e v l) (hb:base'≤base):ZR C sz w base' e v l:=by
 refine⟨h.1,?_⟩
 rcases h.2 with h2|⟨g,cap,cur,h1,hb2,rest⟩
 ·exact .inl h2
 ·exact .inr ⟨g,cap,cur,h1,Nat.le_trans hb hb2,rest⟩
def TlsQ (w:World) (R:Option (Bool × Int × List Int)) (e:Ending) (u:World):Prop :=
 (∃ t x l L c,R=some (t,x,l)∧e= .returned (.tuple #[.agg #[.bool t,.int .i64 x,.slice L l.length c],.int .i64 0])∧ZR Ws 1 u w.heap.size 3 (.slice L l.length c) l) ∨
 (R=none∧e= .returned (.tuple #[.agg #[.bool false,.int .i64 0,.slice none 0 0],.int .i64 12]))
def Zjg (b:List Nat) (rva o:Nat):Option (List Nat × Nat) :=
 match XV b (rva+YS (b.drop (o+4)) 2) 40 with
 | some t=>if Zc4 t then some (t,YS (b.drop o) 4) else none
 | none=>none
set_option maxHeartbeats 4000000 in
theorem Qg (cs cs':Array Value) (h:ZO) (sv sv':Value) (l:List Zr) (w:World) (x:YR cs h sv) (y:YR cs' h sv') (hs:Vn w sv l) (hs':Vn w sv' l) (hdb:Uq h) :
 Calls Tryz.prog 52 #[.agg cs,.agg cs'] w fun e u=>e= .returned (.bool true)∧Below w.heap.size w u:=by
 obtain⟨A,c,rfl,hsl,hl16⟩:=hs
 obtain⟨A',c',rfl,hsl',_⟩:=hs'
 have HX:=Zg x
 have HY:=Zg y
 have HSL:=Zg hsl
 have HSL':=Zg hsl'
 have HL16:=Zg hl16
 have a0:=x.c0
 have a1:=x.c1
 have a2:=x.c2
 have a3:=x.c3
 have a4:=x.c4
 have a5:=x.c5
 have b0:=y.c0
 have b1:=y.c1
 have b2:=y.c2
 have b3:=y.c3
 have b4:=y.c4
 have b5:=y.c5
 have HB1:=Zg (((Below.refl w.heap.size w).alloc (Nat.le_refl _) (.cells cs 41)).alloc (by simp) (.cells cs' 41))
 have HE:=Zg (fun W (hW:Below w.heap.size w W)=>Js Zr.cells Zr.name Zr.vsize Zr.rva Zr.raw Zr.spot Zr.chars (fun _=>rfl) A A' l l c c' W (HSL.out.below hW) (HSL'.out.below hW) (by have:=HL16.out; omega) (by have:=HL16.out; omega) true ⟨fun _=>rfl,fun _=>rfl⟩)
 clear hsl hsl' x y hl16
 go_enter Tryz.func52,Tryz.ntmps52
 have heq:=Zjw h hdb
 have HG0:=Zg (heap_alloc2_old w (.cells cs 41) (.cells cs' 41))
 have HG1:=Zg (heap_alloc2_new w (.cells cs 41) (.cells cs' 41))
 have k38:=(Zh HG0.out).trans HX.out.c38
 have k38':=(Zh HG1.out).trans HY.out.c38
 go_wp2_with (first
  | (refine Zx (by rfl) 38 _ rfl w.heap.size 6 rfl (Vi h) _ (HX.out.dirRow HG0.out) rfl rfl rfl ?_)
  | (refine Zx (by rfl) 38 _ rfl (w.heap.size+1) 6 rfl (Vi h) _ (HY.out.dirRow HG1.out) rfl rfl rfl ?_)
  | fail)
 refine(HE.out _ HB1.out).mono ?_
 rintro e u ⟨rfl,hb⟩
 have HB2:=Zg (HB1.out.trans (hb.mono HB1.out.size))
 clear hb
 go_wp2_with fail
 go_ret
 exact⟨rfl,HB2.out⟩
theorem VK (v:Value) (w:World):Calls Tryz.prog 56 #[.slice none 0 0,.slice none 0 0,v] w fun e u=>e= .returned (.bool true)∧Below w.heap.size w u:=by
 go_enter Tryz.func56,Tryz.ntmps56
 go_wp2_with fail
 go_loopw [17] (fun v17 wr=>v17= .int .i64 0∧wr=w) (fun _ _=>0)
 case atStart=>exact⟨rfl,rfl⟩
 case round =>
  obtain⟨rfl,rfl⟩:=hrel
  go_wp2_with fail
  go_ret
  exact⟨rfl,Below.refl _ _⟩
def Jn (h:ZO):Prop:= ∀ i,i<16→0≤(h.dirs i).1∧(h.dirs i).1≤4294967296∧0≤(h.dirs i).2∧(h.dirs i).2≤4294967296
theorem Uq.two {h:ZO} (x:Uq h):Jn h:=fun i hi=>by have:=x i hi; omega
def Qh (h h':ZO):Prop:= ∀ i,i<16→h.dirs i=h'.dirs i
def QW (h h':ZO):Prop:=h.base=h'.base∧h.stamp=h'.stamp∧h.chars=h'.chars∧h.entry=h'.entry∧h.size=h'.size∧h.headers=h'.headers∧Qh h h'
def Zcw (h:ZO):List Lit:=[.int .i64 (h.dirs 0).1,.int .i64 (h.dirs 0).2,.int .i64 (h.dirs 1).1,.int .i64 (h.dirs 1).2,.int .i64 (h.dirs 2).1,.int .i64 (h.dirs 2).2,.int .i64 (h.dirs 3).1,.int .i64 (h.dirs 3).2,.int .i64 (h.dirs 4).1,.int .i64 (h.dirs 4).2,.int .i64 (h.dirs 5).1,.int .i64 (h.dirs 5).2,.int .i64 (h.dirs 6).1,.int .i64 (h.dirs 6).2,.int .i64 (h.dirs 7).1,.int .i64 (h.dirs 7).2,.int .i64 (h.dirs 8).1,.int .i64 (h.dirs 8).2,.int .i64 (h.dirs 9).1,.int .i64 (h.dirs 9).2,.int .i64 (h.dirs 10).1,.int .i64 (h.dirs 10).2,.int .i64 (h.dirs 11).1,.int .i64 (h.dirs 11).2,.int .i64 (h.dirs 12).1,.int .i64 (h.dirs 12).2,.int .i64 (h.dirs 13).1,.int .i64 (h.dirs 13).2,.int .i64 (h.dirs 14).1,.int .i64 (h.dirs 14).2,.int .i64 (h.dirs 15).1,.int .i64 (h.dirs 15).2]
theorem Zcx (h:ZO) (hb:Jn h):Tryz.prog.keyLits 10 38 (Value.agg (Vi h).toArray).cells.toList=some (Zcw h):=by
 have hw: ∀ z:Int,0≤z→z≤4294967296→(Lit.int .i64 z).wf=true:=fun z h0 h1=>by
  simp[Lit.wf,IntKind.min,IntKind.max,IntKind.bits,IntKind.signed]
  omega
 have hp: ∀ i,i<16→Tryz.prog.keyLits 9 37 [.int .i64 (h.dirs i).1,.int .i64 (h.dirs i).2]=some [.int .i64 (h.dirs i).1,.int .i64 (h.dirs i).2]:=fun i hi=>by
  obtain⟨h1,h2,h3,h4⟩:=hb i hi
  exact Zal _ _ 7 (hw _ h1 h2) (hw _ h3 h4)
 have c28:Tryz.prog.cellsOf 37=2:=by kernel_rfl
 have c29:Tryz.prog.cellsOf 38=32:=by kernel_rfl
 have hr:List.range 16=[0,1,2,3,4,5,6,7,8,9,10,11,12,13,14,15]:=rfl
 have hc:(Value.agg (Vi h).toArray).cells.toList=Vi h:=rfl
 rw[hc]
 unfold Program.keyLits
 rw[Tryz.underlying38]
 simp only[c29,c28,hr]
 rw[if_pos (by rfl)]
 simp only[List.mapM_cons,List.mapM_nil,Vi,List.drop_zero,List.drop_succ_cons,List.take_succ_cons,List.take_zero,Nat.zero_mul,Nat.one_mul,Nat.reduceMul]
 rw[hp 0 (by omega),hp 1 (by omega),hp 2 (by omega),hp 3 (by omega),hp 4 (by omega),hp 5 (by omega),hp 6 (by omega),hp 7 (by omega),hp 8 (by omega),hp 9 (by omega),hp 10 (by omega),hp 11 (by omega),hp 12 (by omega),hp 13 (by omega),hp 14 (by omega),hp 15 (by omega)]
 rfl
theorem QY (h h':ZO):Zcw h=Zcw h'↔Qh h h':=by
 unfold Zcw Qh
 simp only[List.cons.injEq,Lit.int.injEq,true_and,and_true]
 constructor
 ·intro q i hi
  obtain⟨a0,b0,a1,b1,a2,b2,a3,b3,a4,b4,a5,b5,a6,b6,a7,b7,a8,b8,a9,b9,a10,b10,a11,b11,a12,b12,a13,b13,a14,b14,a15,b15⟩:=q
  rcases(by omega:i=0∨i=1∨i=2∨i=3∨i=4∨i=5∨i=6∨i=7∨i=8∨i=9∨i=10∨i=11∨i=12∨i=13∨i=14∨i=15) with rfl|rfl|rfl|rfl|rfl|rfl|rfl|rfl|rfl|rfl|rfl|rfl|rfl|rfl|rfl|rfl
  ·exact Prod.ext a0 b0
  ·exact Prod.ext a1 b1
  ·exact Prod.ext a2 b2
  ·exact Prod.ext a3 b3
  ·exact Prod.ext a4 b4
  ·exact Prod.ext a5 b5
  ·exact Prod.ext a6 b6
  ·exact Prod.ext a7 b7
  ·exact Prod.ext a8 b8
  ·exact Prod.ext a9 b9
  ·exact Prod.ext a10 b10
  ·exact Prod.ext a11 b11
  ·exact Prod.ext a12 b12
  ·exact Prod.ext a13 b13
  ·exact Prod.ext a14 b14
  ·exact Prod.ext a15 b15
 ·intro q
  have k:=fun i (hi:i<16)=>Prod.ext_iff.1 (q i hi)
  exact⟨(k 0 (by omega)).1,(k 0 (by omega)).2,(k 1 (by omega)).1,(k 1 (by omega)).2,(k 2 (by omega)).1,(k 2 (by omega)).2,(k 3 (by omega)).1,(k 3 (by omega)).2,(k 4 (by omega)).1,(k 4 (by omega)).2,(k 5 (by omega)).1,(k 5 (by omega)).2,(k 6 (by omega)).1,(k 6 (by omega)).2,(k 7 (by omega)).1,(k 7 (by omega)).2,(k 8 (by omega)).1,(k 8 (by omega)).2,(k 9 (by omega)).1,(k 9 (by omega)).2,(k 10 (by omega)).1,(k 10 (by omega)).2,(k 11 (by omega)).1,(k 11 (by omega)).2,(k 12 (by omega)).1,(k 12 (by omega)).2,(k 13 (by omega)).1,(k 13 (by omega)).2,(k 14 (by omega)).1,(k 14 (by omega)).2,(k 15 (by omega)).1,(k 15 (by omega)).2⟩
theorem Zcy (h h':ZO) (hb:Jn h) (hb':Jn h'): ∃ r:Bool,(∀ W,(Op.equalIn 10000 38 (.agg (Vi h).toArray) (.agg (Vi h').toArray)).run Tryz.prog W= .ok r W)∧(r=true↔Qh h h'):=by
 have hf: ∀ h:ZO,(Value.agg (Vi h).toArray).formed Tryz.prog 38=true:=fun h=>by rfl
 have hk:=Zcx h hb
 have hk':=Zcx h' hb'
 classical
 by_cases c:Qh h h'
 ·refine⟨true,fun W=> ?_,by simp[c]⟩
  obtain⟨r,hr,hi⟩:=run_equalIn_deep (P:=Tryz.prog) 9990 10 38 (by kernel_rfl) W 10 10 _ _ _ _ (hf h) (hf h') hk hk'
  rw[hi.2 ((QY h h').2 c)] at hr
  exact hr
 ·refine⟨false,fun W=> ?_,by simp[c]⟩
  obtain⟨r,hr,hi⟩:=run_equalIn_deep (P:=Tryz.prog) 9990 10 38 (by kernel_rfl) W 10 10 _ _ _ _ (hf h) (hf h') hk hk'
  have:r=false:=by
   cases r
   ·rfl
   ·exact absurd ((QY h h').1 (hi.1 rfl)) c
  rw[this] at hr
  exact hr
set_option maxHeartbeats 4000000 in
theorem QZ (cs cs':Array Value) (h h':ZO) (sv sv':Value) (l l':List Zr) (w:World) (x:YR cs h sv) (y:YR cs' h' sv') (hs:Vn w sv l) (hs':Vn w sv' l') (hdb:Jn h) (hdb':Jn h') :
 Calls Tryz.prog 52 #[.agg cs,.agg cs'] w fun e u=>(∃ b:Bool,e= .returned (.bool b)∧(b=true↔(QW h h'∧l.map Zr.cells=l'.map Zr.cells)))∧Below w.heap.size w u:=by
 obtain⟨A,c,rfl,hsl,hl16⟩:=hs
 obtain⟨A',c',rfl,hsl',hl16'⟩:=hs'
 have HX:=Zg x
 have HY:=Zg y
 have HSL:=Zg hsl
 have HSL':=Zg hsl'
 have HL16:=Zg (And.intro hl16 hl16')
 have a0:=x.c0
 have a1:=x.c1
 have a2:=x.c2
 have a3:=x.c3
 have a4:=x.c4
 have a5:=x.c5
 have b0:=y.c0
 have b1:=y.c1
 have b2:=y.c2
 have b3:=y.c3
 have b4:=y.c4
 have b5:=y.c5
 have a38:=x.c38
 have b38:=y.c38
 have HB1:=Zg (((Below.refl w.heap.size w).alloc (Nat.le_refl _) (.cells cs 41)).alloc (by simp) (.cells cs' 41))
 obtain⟨rd,hrd,hrdi⟩:=Zcy h h' hdb hdb'
 have HRD:=Zg hrdi
 have HEQ:=Zg hrd
 have HG0:=Zg (heap_alloc2_old w (.cells cs 41) (.cells cs' 41))
 have HG1:=Zg (heap_alloc2_new w (.cells cs 41) (.cells cs' 41))
 clear hsl hsl' x y hl16 hl16' hrd hrdi
 by_cases q0:h.base=h'.base
 rotate_left 1
 ·have n0:(h.base == h'.base)=false:=beq_eq_false_iff_ne.2 q0
  have HN:=Zg q0
  clear q0
  go_enter Tryz.func52,Tryz.ntmps52
  go_wp2_with fail
  go_ret
  exact⟨⟨false,rfl,by simp only[Bool.false_eq_true,false_iff]; exact fun k=>HN.out k.1.1⟩,HB1.out⟩
 have n0:(h.base == h'.base)=true:=beq_iff_eq.2 q0
 have Q0:=Zg q0
 clear q0
 by_cases q1:h.stamp=h'.stamp
 rotate_left 1
 ·have n1:(h.stamp == h'.stamp)=false:=beq_eq_false_iff_ne.2 q1
  have HN:=Zg q1
  clear q1
  go_enter Tryz.func52,Tryz.ntmps52
  go_wp2_with fail
  go_ret
  exact⟨⟨false,rfl,by simp only[Bool.false_eq_true,false_iff]; exact fun k=>HN.out k.1.2.1⟩,HB1.out⟩
 have n1:(h.stamp == h'.stamp)=true:=beq_iff_eq.2 q1
 have Q1:=Zg q1
 clear q1
 by_cases q2:h.chars=h'.chars
 rotate_left 1
 ·have n2:(h.chars == h'.chars)=false:=beq_eq_false_iff_ne.2 q2
  have HN:=Zg q2
  clear q2
  go_enter Tryz.func52,Tryz.ntmps52
  go_wp2_with fail
  go_ret
  exact⟨⟨false,rfl,by simp only[Bool.false_eq_true,false_iff]; exact fun k=>HN.out k.1.2.2.1⟩,HB1.out⟩
 have n2:(h.chars == h'.chars)=true:=beq_iff_eq.2 q2
 have Q2:=Zg q2
 clear q2
 by_cases q3:h.entry=h'.entry
 rotate_left 1
 ·have n3:(h.entry == h'.entry)=false:=beq_eq_false_iff_ne.2 q3
  have HN:=Zg q3
  clear q3
  go_enter Tryz.func52,Tryz.ntmps52
  go_wp2_with fail
  go_ret
  exact⟨⟨false,rfl,by simp only[Bool.false_eq_true,false_iff]; exact fun k=>HN.out k.1.2.2.2.1⟩,HB1.out⟩
 have n3:(h.entry == h'.entry)=true:=beq_iff_eq.2 q3
 have Q3:=Zg q3
 clear q3
 by_cases q4:h.size=h'.size
 rotate_left 1
 ·have n4:(h.size == h'.size)=false:=beq_eq_false_iff_ne.2 q4
  have HN:=Zg q4
  clear q4
  go_enter Tryz.func52,Tryz.ntmps52
  go_wp2_with fail
  go_ret
  exact⟨⟨false,rfl,by simp only[Bool.false_eq_true,false_iff]; exact fun k=>HN.out k.1.2.2.2.2.1⟩,HB1.out⟩
 have n4:(h.size == h'.size)=true:=beq_iff_eq.2 q4
 have Q4:=Zg q4
 clear q4
 by_cases q5:h.headers=h'.headers
 rotate_left 1
 ·have n5:(h.headers == h'.headers)=false:=beq_eq_false_iff_ne.2 q5
  have HN:=Zg q5
  clear q5
  go_enter Tryz.func52,Tryz.ntmps52
  go_wp2_with fail
  go_ret
  exact⟨⟨false,rfl,by simp only[Bool.false_eq_true,false_iff]; exact fun k=>HN.out k.1.2.2.2.2.2.1⟩,HB1.out⟩
 have n5:(h.headers == h'.headers)=true:=beq_iff_eq.2 q5
 have Q5:=Zg q5
 clear q5
 have heq:=HEQ.out
 have k38:=(Zh HG0.out).trans a38
 have k38':=(Zh HG1.out).trans b38
 rcases rd with _|_
 ·have HN:=Zg (show ¬ Qh h h' from fun k=>by have:=HRD.out.2 k; simp at this)
  go_enter Tryz.func52,Tryz.ntmps52
  go_wp2_with (first
   | (refine Zx (by rfl) 38 _ rfl w.heap.size 6 rfl (Vi h) _ (HX.out.dirRow HG0.out) rfl rfl rfl ?_)
   | (refine Zx (by rfl) 38 _ rfl (w.heap.size+1) 6 rfl (Vi h') _ (HY.out.dirRow HG1.out) rfl rfl rfl ?_)
   | fail)
  go_ret
  exact⟨⟨false,rfl,by simp only[Bool.false_eq_true,false_iff]; exact fun k=>HN.out k.1.2.2.2.2.2.2⟩,HB1.out⟩
 have HD:=Zg (show Qh h h' from HRD.out.1 rfl)
 classical
 have HE:=Zg (fun W (hW:Below w.heap.size w W)=>Js Zr.cells Zr.name Zr.vsize Zr.rva Zr.raw Zr.spot Zr.chars (fun _=>rfl) A A' l l' c c' W (HSL.out.below hW) (HSL'.out.below hW) (by have:=HL16.out; omega) (by have:=HL16.out; omega) (decide (l.map Zr.cells=l'.map Zr.cells)) decide_eq_true_iff)
 have HHE:=Zg (show QW h h' from⟨Q0.out,Q1.out,Q2.out,Q3.out,Q4.out,Q5.out,HD.out⟩)
 go_enter Tryz.func52,Tryz.ntmps52
 go_wp2_with (first
  | (refine Zx (by rfl) 38 _ rfl w.heap.size 6 rfl (Vi h) _ (HX.out.dirRow HG0.out) rfl rfl rfl ?_)
  | (refine Zx (by rfl) 38 _ rfl (w.heap.size+1) 6 rfl (Vi h') _ (HY.out.dirRow HG1.out) rfl rfl rfl ?_)
  | fail)
 refine(HE.out _ HB1.out).mono ?_
 rintro e u ⟨rfl,hb⟩
 have HB2:=Zg (HB1.out.trans (hb.mono HB1.out.size))
 clear hb
 obtain⟨bb,hbb⟩: ∃ q,decide (l.map Zr.cells=l'.map Zr.cells)=q:=⟨_,rfl⟩
 rw[hbb]
 have HBB:=Zg hbb
 clear hbb
 go_wp2_with fail
 go_ret
 exact⟨⟨bb,rfl,by rw[←HBB.out,decide_eq_true_iff]; exact⟨fun k=>⟨HHE.out,k⟩,fun k=>k.2⟩⟩,HB2.out⟩
def VL (P:Prop) (e:Ending):Prop:= ∃ b:Bool,e= .returned (.bool b)∧(b=true↔P)
theorem VL.yes {P:Prop} (h:P):VL P (.returned (.bool true)):=⟨true,rfl,by simp[h]⟩
theorem VL.no {P:Prop} (h: ¬ P):VL P (.returned (.bool false)):=⟨false,rfl,by simp[h]⟩
theorem VL.of {P:Prop} {b:Bool} (h:b=true↔P):VL P (.returned (.bool b)):=⟨b,rfl,h⟩
set_option maxHeartbeats 4000000 in
theorem Qi (cs cs':Array Value) (h h':ZO) (sv sv':Value) (l l':List Zr) (w:World) (x:YR cs h sv) (y:YR cs' h' sv') (hs:Vn w sv l) (hs':Vn w sv' l') (hdb:Jn h) (hdb':Jn h') :
 Calls Tryz.prog 43 #[.agg cs,.agg cs'] w fun e u=>VL (QW h h'∧l.map Zr.cells=l'.map Zr.cells) e∧Below w.heap.size w u:=by
 obtain⟨A,c,rfl,hsl,hl16⟩:=hs
 obtain⟨A',c',rfl,hsl',hl16'⟩:=hs'
 have HX:=Zg x
 have HY:=Zg y
 have HSL:=Zg hsl
 have HSL':=Zg hsl'
 have HL16:=Zg (And.intro hl16 hl16')
 have a0:=x.c0
 have a1:=x.c1
 have a2:=x.c2
 have a3:=x.c3
 have a4:=x.c4
 have a5:=x.c5
 have b0:=y.c0
 have b1:=y.c1
 have b2:=y.c2
 have b3:=y.c3
 have b4:=y.c4
 have b5:=y.c5
 have a38:=x.c38
 have b38:=y.c38
 have HB1:=Zg (((Below.refl w.heap.size w).alloc (Nat.le_refl _) (.cells cs 41)).alloc (by simp) (.cells cs' 41))
 obtain⟨rd,hrd,hrdi⟩:=Zcy h h' hdb hdb'
 have HRD:=Zg hrdi
 have HEQ:=Zg hrd
 have HG0:=Zg (heap_alloc2_old w (.cells cs 41) (.cells cs' 41))
 have HG1:=Zg (heap_alloc2_new w (.cells cs 41) (.cells cs' 41))
 clear hsl hsl' x y hl16 hl16' hrd hrdi
 by_cases q0:h.base=h'.base
 rotate_left 1
 ·have n0:(h.base != h'.base)=true:=bne_iff_ne.2 q0
  have m0:(h.base == h'.base)=false:=beq_eq_false_iff_ne.2 q0
  have HN:=Zg q0
  clear q0
  go_enter Tryz.func43,Tryz.ntmps43
  go_wp2_with fail
  go_ret
  exact⟨.no fun k=>HN.out k.1.1,HB1.out⟩
 have n0:(h.base != h'.base)=false:=bne_eq_false_iff_eq.2 q0
 have m0:(h.base == h'.base)=true:=beq_iff_eq.2 q0
 have Q0:=Zg q0
 clear q0
 by_cases q1:h.stamp=h'.stamp
 rotate_left 1
 ·have n1:(h.stamp != h'.stamp)=true:=bne_iff_ne.2 q1
  have m1:(h.stamp == h'.stamp)=false:=beq_eq_false_iff_ne.2 q1
  have HN:=Zg q1
  clear q1
  go_enter Tryz.func43,Tryz.ntmps43
  go_wp2_with fail
  go_ret
  exact⟨.no fun k=>HN.out k.1.2.1,HB1.out⟩
 have n1:(h.stamp != h'.stamp)=false:=bne_eq_false_iff_eq.2 q1
 have m1:(h.stamp == h'.stamp)=true:=beq_iff_eq.2 q1
 have Q1:=Zg q1
 clear q1
 by_cases q2:h.chars=h'.chars
 rotate_left 1
 ·have n2:(h.chars != h'.chars)=true:=bne_iff_ne.2 q2
  have m2:(h.chars == h'.chars)=false:=beq_eq_false_iff_ne.2 q2
  have HN:=Zg q2
  clear q2
  go_enter Tryz.func43,Tryz.ntmps43
  go_wp2_with fail
  go_ret
  exact⟨.no fun k=>HN.out k.1.2.2.1,HB1.out⟩
 have n2:(h.chars != h'.chars)=false:=bne_eq_false_iff_eq.2 q2
 have m2:(h.chars == h'.chars)=true:=beq_iff_eq.2 q2
 have Q2:=Zg q2
 clear q2
 by_cases q3:h.entry=h'.entry
 rotate_left 1
 ·have n3:(h.entry != h'.entry)=true:=bne_iff_ne.2 q3
  have m3:(h.entry == h'.entry)=false:=beq_eq_false_iff_ne.2 q3
  have HN:=Zg q3
  clear q3
  go_enter Tryz.func43,Tryz.ntmps43
  go_wp2_with fail
  go_ret
  exact⟨.no fun k=>HN.out k.1.2.2.2.1,HB1.out⟩
 have n3:(h.entry != h'.entry)=false:=bne_eq_false_iff_eq.2 q3
 have m3:(h.entry == h'.entry)=true:=beq_iff_eq.2 q3
 have Q3:=Zg q3
 clear q3
 by_cases q4:h.size=h'.size
 rotate_left 1
 ·have n4:(h.size != h'.size)=true:=bne_iff_ne.2 q4
  have m4:(h.size == h'.size)=false:=beq_eq_false_iff_ne.2 q4
  have HN:=Zg q4
  clear q4
  go_enter Tryz.func43,Tryz.ntmps43
  go_wp2_with fail
  go_ret
  exact⟨.no fun k=>HN.out k.1.2.2.2.2.1,HB1.out⟩
 have n4:(h.size != h'.size)=false:=bne_eq_false_iff_eq.2 q4
 have m4:(h.size == h'.size)=true:=beq_iff_eq.2 q4
 have Q4:=Zg q4
 clear q4
 by_cases q5:h.headers=h'.headers
 rotate_left 1
 ·have n5:(h.headers != h'.headers)=true:=bne_iff_ne.2 q5
  have m5:(h.headers == h'.headers)=false:=beq_eq_false_iff_ne.2 q5
  have HN:=Zg q5
  clear q5
  go_enter Tryz.func43,Tryz.ntmps43
  go_wp2_with fail
  go_ret
  exact⟨.no fun k=>HN.out k.1.2.2.2.2.2.1,HB1.out⟩
 have n5:(h.headers != h'.headers)=false:=bne_eq_false_iff_eq.2 q5
 have m5:(h.headers == h'.headers)=true:=beq_iff_eq.2 q5
 have Q5:=Zg q5
 clear q5
 have heq:=HEQ.out
 have k38:=(Zh HG0.out).trans a38
 have k38':=(Zh HG1.out).trans b38
 rcases rd with _|_
 ·have HN:=Zg (show ¬ Qh h h' from fun k=>by have:=HRD.out.2 k; simp at this)
  go_enter Tryz.func43,Tryz.ntmps43
  go_wp2_with (first
   | (refine Zx (by rfl) 38 (.tmp 47) rfl w.heap.size 6 rfl (Vi h) _ (HX.out.dirRow HG0.out) rfl rfl rfl ?_)
   | (refine Zx (by rfl) 38 (.tmp 49) rfl (w.heap.size+1) 6 rfl (Vi h') _ (HY.out.dirRow HG1.out) rfl rfl rfl ?_; generalize (Vi h).toArray=X at *; generalize (Vi h').toArray=Y at *; go_wp2_with fail)
   | fail)
  refine bodyPost_ret (v:= .bool false) (by simp[results,Tryz.results43,go_sem]) rfl ⟨.no fun k=>HN.out k.1.2.2.2.2.2.2,HB1.out⟩
 have HD:=Zg (show Qh h h' from HRD.out.1 rfl)
 have HHE:=Zg (show QW h h' from⟨Q0.out,Q1.out,Q2.out,Q3.out,Q4.out,Q5.out,HD.out⟩)
 by_cases hll:l.length=l'.length
 rotate_left 1
 ·have dl:((l.length:Int) != (l'.length:Int))=true:=by rw[bne_iff_ne]; omega
  have HLL:=Zg hll
  clear hll
  go_enter Tryz.func43,Tryz.ntmps43
  go_wp2_with (first
   | (refine Zx (by rfl) 38 (.tmp 47) rfl w.heap.size 6 rfl (Vi h) _ (HX.out.dirRow HG0.out) rfl rfl rfl ?_)
   | (refine Zx (by rfl) 38 (.tmp 49) rfl (w.heap.size+1) 6 rfl (Vi h') _ (HY.out.dirRow HG1.out) rfl rfl rfl ?_; generalize (Vi h).toArray=X at *; generalize (Vi h').toArray=Y at *; go_wp2_with fail)
   | fail)
  refine bodyPost_ret (v:= .bool false) (by simp[results,Tryz.results43,go_sem]) rfl ⟨.no fun k=>HLL.out (by have:=congrArg List.length k.2; simpa using this),HB1.out⟩
 have dl:((l.length:Int) != (l'.length:Int))=false:=by rw[bne_eq_false_iff_eq]; omega
 have HLL:=Zg hll
 clear hll
 go_enter Tryz.func43,Tryz.ntmps43
 go_wp2_with (first
  | (refine Zx (by rfl) 38 (.tmp 47) rfl w.heap.size 6 rfl (Vi h) _ (HX.out.dirRow HG0.out) rfl rfl rfl ?_)
  | (refine Zx (by rfl) 38 (.tmp 49) rfl (w.heap.size+1) 6 rfl (Vi h') _ (HY.out.dirRow HG1.out) rfl rfl rfl ?_; generalize (Vi h).toArray=X at *; generalize (Vi h').toArray=Y at *; go_wp2_with fail)
  | fail)
 have hs0:w.heap.size<((w.alloc (.cells cs 41)).alloc (.cells cs' 41)).heap.size:=by simp; omega
 have hs1:w.heap.size+1<((w.alloc (.cells cs 41)).alloc (.cells cs' 41)).heap.size:=by simp
 clear heq a0 a1 a2 a3 a4 a5 a38 b0 b1 b2 b3 b4 b5 b38 n0 n1 n2 n3 n4 n5 m0 m1 m2 m3 m4 m5 dl
 generalize (w.alloc (.cells cs 41)).alloc (.cells cs' 41)=w1 at *
 have HS0:=Zg hs0
 have HS1:=Zg hs1
 have HK:=Zg k38
 have HK':=Zg k38'
 clear hs0 hs1 k38 k38'
 go_loopw [5] (fun o5 wr=> ∃ i:Nat,i≤l.length∧o5= .int .i64 i∧(∀ j (h1:j<l.length) (h2:j<l'.length),j<i→l[j].cells=l'[j].cells)∧Below w1.heap.size w1 wr) (fun o5 _=>l.length - (intOf o5).toNat)
 case atStart=>exact⟨0,by omega,rfl,fun j _ _ hj=>absurd hj (by omega),Below.refl _ _⟩
 case round =>
  obtain⟨i,hi,rfl,hp,hb⟩:=hrel
  have HB:=Zg hb
  have HP:=Zg hp
  have HBW:Hid (Below w.heap.size w wr):=Zg (HB1.out.trans (hb.mono HB1.out.size))
  have j38:=(hb.cell (p:=⟨w.heap.size,38,none⟩) HS0.out).trans HK.out
  have j38':=(hb.cell (p:=⟨w.heap.size+1,38,none⟩) HS1.out).trans HK'.out
  have hl16:=HL16.out.1
  clear hb hp
  by_cases hlt:i<l.length
  ·have hlt':(i:Int)<l.length:=by omega
   have hltb:i<l'.length:=by rw[←HLL.out]; exact hlt
   have hltb':(i:Int)<l'.length:=by omega
   have HLT:=Zg (And.intro hlt hltb)
   obtain⟨b,o,rfl⟩: ∃ b o,A=some ⟨b,o,none⟩:=by
    rcases HSL.out with h|⟨b,o,h,_⟩
    ·rw[h] at hlt; simp at hlt
    ·exact⟨b,o,h⟩
   obtain⟨b',o',rfl⟩: ∃ b o,A'=some ⟨b,o,none⟩:=by
    rcases HSL'.out with h|⟨b,o,h,_⟩
    ·rw[h] at hltb; simp at hltb
    ·exact⟨b,o,h⟩
   obtain⟨_,d0,d1,d2,d3,d4,d5⟩:=(HSL.out.below HBW.out).at6o i hlt
   obtain⟨_,e0,e1,e2,e3,e4,e5⟩:=(HSL'.out.below HBW.out).at6o i hltb
   obtain⟨S,hS⟩: ∃ S,l[i]=S:=⟨_,rfl⟩
   obtain⟨S',hS'⟩: ∃ S,l'[i]=S:=⟨_,rfl⟩
   have HSS:=Zg (And.intro hS hS')
   rw[hS] at d0 d1 d2 d3 d4 d5
   rw[hS'] at e0 e1 e2 e3 e4 e5
   clear hS hS'
   obtain⟨nm,v,rva,raw,spot,ch⟩:=S
   obtain⟨nm',v',rva',raw',spot',ch'⟩:=S'
   simp only at d0 d1 d2 d3 d4 d5 e0 e1 e2 e3 e4 e5
   obtain⟨r,hr,hri⟩:=Zb6 nm nm' v v' rva rva' raw raw' spot spot' ch ch'
   have HRI:=Zg hri
   clear hri
   rcases r with _|_
   ·
    go_wp2_with fail
    go_region
    go_wp2_with fail
    go_ret
    exact⟨.no (by
     intro k
     have k2: ∀(a b:Zr) ,a.cells=b.cells→a.name=b.name∧a.vsize=b.vsize∧a.rva=b.rva∧a.raw=b.raw∧a.spot=b.spot∧a.chars=b.chars:=fun a b q=>by simpa [Zr.cells] using q
     have k3:=congrArg (fun q=>q[i]?) k.2
     simp only[List.getElem?_map,List.getElem?_eq_getElem HLT.out.1,List.getElem?_eq_getElem HLT.out.2,Option.map_some,Option.some.injEq] at k3
     rw[HSS.out.1,HSS.out.2] at k3
     have:=HRI.out.2 (k2 _ _ k3)
     simp at this),HBW.out.drew⟩
   ·go_wp2_with fail
    go_region
    go_wp2_with fail
    go_roundw
    case rel=>exact⟨i+1,by have:=HLT.out.1; omega,by go_num,fun j h1 h2 hj=>by
     rcases Nat.lt_or_ge j i with q|q
     ·exact HP.out j h1 h2 q
     ·obtain rfl:j=i:=by omega
      rw[HSS.out.1,HSS.out.2]
      obtain⟨k0,k1,k2,k3,k4,k5⟩:nm=nm'∧v=v'∧rva=rva'∧raw=raw'∧spot=spot'∧ch=ch':=by have q:=HRI.out; simpa using q
      subst k0 k1 k2 k3 k4 k5
      rfl,HB.out.drew⟩
    case measure=>have:=HLT.out.1; simp[intOf]; omega
  ·obtain rfl:i=l.length:=by omega
   have hN: ¬ (l.length:Int)<(l.length:Int):=by omega
   go_wp2_with fail
   go_ret
   exact⟨.yes (by
    refine⟨HHE.out,List.ext_getElem (by simp[HLL.out]) fun j h1 h2=> ?_⟩
    simp only[List.length_map] at h1 h2
    simp only[List.getElem_map]
    exact HP.out j h1 h2 h1),HBW.out⟩
set_option maxHeartbeats 2000000 in
theorem Zbh {α :Type} (C: α →List Value) (f0: α →ByteArray) (f1: α →Int) (hC: ∀ x,C x=[.string (f0 x),.int .i64 (f1 x)]) (A A':Option Addr) (l l2:List α) (c c':Nat) (w:World) (h:SlT C 2 w A l) (h':SlT C 2 w A' l2) (hn:l.length≤1000000) (hn':l2.length≤1000000) (b:Bool) (hb:b=true↔l.map C=l2.map C) :
 Calls Tryz.prog 46 #[.slice A l.length c,.slice A' l2.length c'] w fun e u=>e= .returned (.bool b)∧Below w.heap.size w u:=by
 have HS:=Zg h
 have HS':=Zg h'
 have HC:=Zg hC
 have HN:=Zg (And.intro hn hn')
 have HBB:=Zg hb
 clear h h' hC hb
 by_cases hl:l.length=l2.length
 ·have HL:=Zg hl
  have e0:((l.length:Int) != (l2.length:Int))=false:=by simp[hl]
  have HN1:=Zg hn
  clear hn hn' hl
  go_enter Tryz.func46,Tryz.ntmps46
  go_wp2_with fail
  go_loopw [5] (fun v13 wr=> ∃ i:Nat,i≤l.length∧v13= .int .i64 i∧(∀(j:Nat) (h1:j<l.length) (h2:j<l2.length),j<i→C l[j]=C l2[j])∧Below w.heap.size w wr) (fun v13 _=>l.length - (intOf v13).toNat)
  case atStart=>exact⟨0,by omega,rfl,fun j _ _ h=>by omega,Below.refl _ _⟩
  case round =>
   obtain⟨i,hi,rfl,hall,hbw⟩:=hrel
   have HALL:=Zg hall
   have HB:=Zg hbw
   clear hall hbw
   by_cases hlt:i<l.length
   ·have hlt':(i:Int)<l.length:=by omega
    have hlt2:i<l2.length:=by have:=HL.out; omega
    have hlt2':(i:Int)<l2.length:=by omega
    obtain⟨bb,o,rfl,_,hc⟩: ∃ b o,A=some ⟨b,o,none⟩∧b<wr.heap.size∧ ∀(i:Nat) (hi:i<l.length) (j:Nat) (v:Value),(C l[i])[j]? =some v→wr.cell? ⟨b,o+(i * 2+j),none⟩=some v:=by
     rcases HS.out.below HB.out with h|h
     ·rw[h] at hlt; simp at hlt
     ·exact h
    obtain⟨bb',o',rfl,_,hc'⟩: ∃ b o,A'=some ⟨b,o,none⟩∧b<wr.heap.size∧ ∀(i:Nat) (hi:i<l2.length) (j:Nat) (v:Value),(C l2[i])[j]? =some v→wr.cell? ⟨b,o+(i * 2+j),none⟩=some v:=by
     rcases HS'.out.below HB.out with h|h
     ·rw[h] at hlt2; simp at hlt2
     ·exact h
    have hC:=HC.out
    have d0:=hc i hlt 0 (.string (f0 l[i])) (by rw[hC]; rfl)
    have d1:=hc i hlt 1 (.int .i64 (f1 l[i])) (by rw[hC]; rfl)
    have e0:=hc' i hlt2 0 (.string (f0 l2[i])) (by rw[hC]; rfl)
    have e1:=hc' i hlt2 1 (.int .i64 (f1 l2[i])) (by rw[hC]; rfl)
    rw[show o+(i * 2+0)=o+i * 2 by omega] at d0
    rw[show o'+(i * 2+0)=o'+i * 2 by omega] at e0
    rw[show o+(i * 2+1)=o+i * 2+1 by omega] at d1
    rw[show o'+(i * 2+1)=o'+i * 2+1 by omega] at e1
    obtain⟨r,hes,hr⟩:=QD (f0 l[i]) (f0 l2[i]) (f1 l[i]) (f1 l2[i])
    have hCC:C l[i]=C l2[i]↔r=true:=by
     rw[hC,hC,hr]
     simp
    have HCC:=Zg hCC
    clear hc hc' hC hr hCC
    generalize f0 l[i]=p0 at *
    generalize f0 l2[i]=q0 at *
    generalize f1 l[i]=p1 at *
    generalize f1 l2[i]=q1 at *
    rcases r with _|_
    ·go_wp2_with fail
     go_region
     go_wp2_with fail
     go_ret
     refine⟨?_,HB.out.drew⟩
     rcases b with _|_
     ·rfl
     ·exfalso
      have h1:=HBB.out.1 rfl
      have h2:=congrArg (fun L=>L[i]?) h1
      simp only[List.getElem?_map,List.getElem?_eq_getElem hlt,List.getElem?_eq_getElem hlt2,Option.map_some,Option.some.injEq] at h2
      have h3:=HCC.out.1 h2
      simp at h3
    ·have HNX:=Zg (show ∀(j:Nat) (h1:j<l.length) (h2:j<l2.length),j<i+1→C l[j]=C l2[j] from fun j h1 h2 h3=>(by
      rcases(by omega:j<i∨j=i) with h4|h4
      ·exact HALL.out j h1 h2 h4
      ·subst h4; exact HCC.out.2 rfl))
     go_wp2_with fail
     go_region
     have hnn:=HN.out.1
     go_wp2_with fail
     go_roundw
     case rel=>exact⟨i+1,by omega,by go_num,HNX.out,HB.out.drew⟩
     case measure=>simp[intOf]; omega
   ·obtain rfl:i=l.length:=by omega
    go_wp2_with fail
    go_ret
    refine⟨?_,HB.out⟩
    rcases b with _|_
    ·exfalso
     have h1:l.map C=l2.map C:=by
      apply List.ext_getElem
      ·simp[HL.out]
      ·intro j h1 h2
       simp only[List.length_map] at h1 h2
       simp only[List.getElem_map]
       exact HALL.out j h1 h2 h1
     have h2:=HBB.out.2 h1
     simp at h2
    ·rfl
 ·have e0:((l.length:Int) != (l2.length:Int))=true:=by simp; omega
  have HL:=Zg hl
  clear hl
  go_enter Tryz.func46,Tryz.ntmps46
  go_wp2_with fail
  go_ret
  refine⟨?_,Below.refl _ _⟩
  rcases b with _|_
  ·rfl
  ·exfalso
   have h1:=congrArg List.length (HBB.out.1 rfl)
   simp only[List.length_map] at h1
   exact HL.out h1
set_option maxHeartbeats 2000000 in
theorem Zfk {α :Type} (C: α →List Value) (f0: α →Int) (f1: α →Int) (hC: ∀ x,C x=[.int .i64 (f0 x),.int .i64 (f1 x)]) (A A':Option Addr) (l l2:List α) (c c':Nat) (w:World) (h:SlT C 2 w A l) (h':SlT C 2 w A' l2) (hn:l.length≤1000000) (hn':l2.length≤1000000) (b:Bool) (hb:b=true↔l.map C=l2.map C) :
 Calls Tryz.prog 47 #[.slice A l.length c,.slice A' l2.length c'] w fun e u=>e= .returned (.bool b)∧Below w.heap.size w u:=by
 have HS:=Zg h
 have HS':=Zg h'
 have HC:=Zg hC
 have HN:=Zg (And.intro hn hn')
 have HBB:=Zg hb
 clear h h' hC hb
 by_cases hl:l.length=l2.length
 ·have HL:=Zg hl
  have e0:((l.length:Int) != (l2.length:Int))=false:=by simp[hl]
  have HN1:=Zg hn
  clear hn hn' hl
  go_enter Tryz.func47,Tryz.ntmps47
  go_wp2_with fail
  go_loopw [5] (fun v13 wr=> ∃ i:Nat,i≤l.length∧v13= .int .i64 i∧(∀(j:Nat) (h1:j<l.length) (h2:j<l2.length),j<i→C l[j]=C l2[j])∧Below w.heap.size w wr) (fun v13 _=>l.length - (intOf v13).toNat)
  case atStart=>exact⟨0,by omega,rfl,fun j _ _ h=>by omega,Below.refl _ _⟩
  case round =>
   obtain⟨i,hi,rfl,hall,hbw⟩:=hrel
   have HALL:=Zg hall
   have HB:=Zg hbw
   clear hall hbw
   by_cases hlt:i<l.length
   ·have hlt':(i:Int)<l.length:=by omega
    have hlt2:i<l2.length:=by have:=HL.out; omega
    have hlt2':(i:Int)<l2.length:=by omega
    obtain⟨bb,o,rfl,_,hc⟩: ∃ b o,A=some ⟨b,o,none⟩∧b<wr.heap.size∧ ∀(i:Nat) (hi:i<l.length) (j:Nat) (v:Value),(C l[i])[j]? =some v→wr.cell? ⟨b,o+(i * 2+j),none⟩=some v:=by
     rcases HS.out.below HB.out with h|h
     ·rw[h] at hlt; simp at hlt
     ·exact h
    obtain⟨bb',o',rfl,_,hc'⟩: ∃ b o,A'=some ⟨b,o,none⟩∧b<wr.heap.size∧ ∀(i:Nat) (hi:i<l2.length) (j:Nat) (v:Value),(C l2[i])[j]? =some v→wr.cell? ⟨b,o+(i * 2+j),none⟩=some v:=by
     rcases HS'.out.below HB.out with h|h
     ·rw[h] at hlt2; simp at hlt2
     ·exact h
    have hC:=HC.out
    have d0:=hc i hlt 0 (.int .i64 (f0 l[i])) (by rw[hC]; rfl)
    have d1:=hc i hlt 1 (.int .i64 (f1 l[i])) (by rw[hC]; rfl)
    have e0:=hc' i hlt2 0 (.int .i64 (f0 l2[i])) (by rw[hC]; rfl)
    have e1:=hc' i hlt2 1 (.int .i64 (f1 l2[i])) (by rw[hC]; rfl)
    rw[show o+(i * 2+0)=o+i * 2 by omega] at d0
    rw[show o'+(i * 2+0)=o'+i * 2 by omega] at e0
    rw[show o+(i * 2+1)=o+i * 2+1 by omega] at d1
    rw[show o'+(i * 2+1)=o'+i * 2+1 by omega] at e1
    obtain⟨r,hes,hr⟩:=Zeh (f0 l[i]) (f0 l2[i]) (f1 l[i]) (f1 l2[i])
    have hCC:C l[i]=C l2[i]↔r=true:=by
     rw[hC,hC,hr]
     simp
    have HCC:=Zg hCC
    clear hc hc' hC hr hCC
    generalize f0 l[i]=p0 at *
    generalize f0 l2[i]=q0 at *
    generalize f1 l[i]=p1 at *
    generalize f1 l2[i]=q1 at *
    rcases r with _|_
    ·go_wp2_with fail
     go_region
     go_wp2_with fail
     go_ret
     refine⟨?_,HB.out.drew⟩
     rcases b with _|_
     ·rfl
     ·exfalso
      have h1:=HBB.out.1 rfl
      have h2:=congrArg (fun L=>L[i]?) h1
      simp only[List.getElem?_map,List.getElem?_eq_getElem hlt,List.getElem?_eq_getElem hlt2,Option.map_some,Option.some.injEq] at h2
      have h3:=HCC.out.1 h2
      simp at h3
    ·have HNX:=Zg (show ∀(j:Nat) (h1:j<l.length) (h2:j<l2.length),j<i+1→C l[j]=C l2[j] from fun j h1 h2 h3=>(by
      rcases(by omega:j<i∨j=i) with h4|h4
      ·exact HALL.out j h1 h2 h4
      ·subst h4; exact HCC.out.2 rfl))
     go_wp2_with fail
     go_region
     have hnn:=HN.out.1
     go_wp2_with fail
     go_roundw
     case rel=>exact⟨i+1,by omega,by go_num,HNX.out,HB.out.drew⟩
     case measure=>simp[intOf]; omega
   ·obtain rfl:i=l.length:=by omega
    go_wp2_with fail
    go_ret
    refine⟨?_,HB.out⟩
    rcases b with _|_
    ·exfalso
     have h1:l.map C=l2.map C:=by
      apply List.ext_getElem
      ·simp[HL.out]
      ·intro j h1 h2
       simp only[List.length_map] at h1 h2
       simp only[List.getElem_map]
       exact HALL.out j h1 h2 h1
     have h2:=HBB.out.2 h1
     simp at h2
    ·rfl
 ·have e0:((l.length:Int) != (l2.length:Int))=true:=by simp; omega
  have HL:=Zg hl
  clear hl
  go_enter Tryz.func47,Tryz.ntmps47
  go_wp2_with fail
  go_ret
  refine⟨?_,Below.refl _ _⟩
  rcases b with _|_
  ·rfl
  ·exfalso
   have h1:=congrArg List.length (HBB.out.1 rfl)
   simp only[List.length_map] at h1
   exact HL.out h1
set_option maxHeartbeats 2000000 in
theorem Zfl {α :Type} (C: α →List Value) (f0: α →Int) (hC: ∀ x,C x=[.int .i64 (f0 x)]) (A A':Option Addr) (l l2:List α) (c c':Nat) (w:World) (h:SlT C 1 w A l) (h':SlT C 1 w A' l2) (hn:l.length≤1000000) (hn':l2.length≤1000000) (b:Bool) (hb:b=true↔l.map C=l2.map C) :
 Calls Tryz.prog 97 #[.slice A l.length c,.slice A' l2.length c'] w fun e u=>e= .returned (.bool b)∧Below w.heap.size w u:=by
 have HS:=Zg h
 have HS':=Zg h'
 have HC:=Zg hC
 have HN:=Zg (And.intro hn hn')
 have HBB:=Zg hb
 clear h h' hC hb
 by_cases hl:l.length=l2.length
 ·have HL:=Zg hl
  have e0:((l.length:Int) != (l2.length:Int))=false:=by simp[hl]
  have HN1:=Zg hn
  clear hn hn' hl
  go_enter Tryz.func97,Tryz.ntmps97
  go_wp2_with fail
  go_loopw [5] (fun v13 wr=> ∃ i:Nat,i≤l.length∧v13= .int .i64 i∧(∀(j:Nat) (h1:j<l.length) (h2:j<l2.length),j<i→C l[j]=C l2[j])∧Below w.heap.size w wr) (fun v13 _=>l.length - (intOf v13).toNat)
  case atStart=>exact⟨0,by omega,rfl,fun j _ _ h=>by omega,Below.refl _ _⟩
  case round =>
   obtain⟨i,hi,rfl,hall,hbw⟩:=hrel
   have HALL:=Zg hall
   have HB:=Zg hbw
   clear hall hbw
   by_cases hlt:i<l.length
   ·have hlt':(i:Int)<l.length:=by omega
    have hlt2:i<l2.length:=by have:=HL.out; omega
    have hlt2':(i:Int)<l2.length:=by omega
    obtain⟨bb,o,rfl,_,hc⟩: ∃ b o,A=some ⟨b,o,none⟩∧b<wr.heap.size∧ ∀(i:Nat) (hi:i<l.length) (j:Nat) (v:Value),(C l[i])[j]? =some v→wr.cell? ⟨b,o+(i * 1+j),none⟩=some v:=by
     rcases HS.out.below HB.out with h|h
     ·rw[h] at hlt; simp at hlt
     ·exact h
    obtain⟨bb',o',rfl,_,hc'⟩: ∃ b o,A'=some ⟨b,o,none⟩∧b<wr.heap.size∧ ∀(i:Nat) (hi:i<l2.length) (j:Nat) (v:Value),(C l2[i])[j]? =some v→wr.cell? ⟨b,o+(i * 1+j),none⟩=some v:=by
     rcases HS'.out.below HB.out with h|h
     ·rw[h] at hlt2; simp at hlt2
     ·exact h
    have hC:=HC.out
    have d0:=hc i hlt 0 (.int .i64 (f0 l[i])) (by rw[hC]; rfl)
    have e0:=hc' i hlt2 0 (.int .i64 (f0 l2[i])) (by rw[hC]; rfl)
    rw[show o+(i * 1+0)=o+i by omega] at d0
    rw[show o'+(i * 1+0)=o'+i by omega] at e0
    obtain⟨r,hes,hr⟩: ∃ r:Bool,(f0 l[i] == f0 l2[i])=r∧(r=true↔f0 l[i]=f0 l2[i]):=⟨_,rfl,beq_iff_eq⟩
    have hen:(f0 l[i] != f0 l2[i])= !r:=by rw[←hes]; rfl
    have hCC:C l[i]=C l2[i]↔r=true:=by
     rw[hC,hC,hr]
     simp
    have HCC:=Zg hCC
    clear hc hc' hC hr hCC
    generalize f0 l[i]=p0 at *
    generalize f0 l2[i]=q0 at *
    rcases r with _|_
    ·go_wp2_with fail
     go_region
     go_wp2_with fail
     go_ret
     refine⟨?_,HB.out.drew⟩
     rcases b with _|_
     ·rfl
     ·exfalso
      have h1:=HBB.out.1 rfl
      have h2:=congrArg (fun L=>L[i]?) h1
      simp only[List.getElem?_map,List.getElem?_eq_getElem hlt,List.getElem?_eq_getElem hlt2,Option.map_some,Option.some.injEq] at h2
      have h3:=HCC.out.1 h2
      simp at h3
    ·have HNX:=Zg (show ∀(j:Nat) (h1:j<l.length) (h2:j<l2.length),j<i+1→C l[j]=C l2[j] from fun j h1 h2 h3=>(by
      rcases(by omega:j<i∨j=i) with h4|h4
      ·exact HALL.out j h1 h2 h4
      ·subst h4; exact HCC.out.2 rfl))
     go_wp2_with fail
     go_region
     have hnn:=HN.out.1
     go_wp2_with fail
     go_roundw
     case rel=>exact⟨i+1,by omega,by go_num,HNX.out,HB.out.drew⟩
     case measure=>simp[intOf]; omega
   ·obtain rfl:i=l.length:=by omega
    go_wp2_with fail
    go_ret
    refine⟨?_,HB.out⟩
    rcases b with _|_
    ·exfalso
     have h1:l.map C=l2.map C:=by
      apply List.ext_getElem
      ·simp[HL.out]
      ·intro j h1 h2
       simp only[List.length_map] at h1 h2
       simp only[List.getElem_map]
       exact HALL.out j h1 h2 h1
     have h2:=HBB.out.2 h1
     simp at h2
    ·rfl
 ·have e0:((l.length:Int) != (l2.length:Int))=true:=by simp; omega
  have HL:=Zg hl
  clear hl
  go_enter Tryz.func97,Tryz.ntmps97
  go_wp2_with fail
  go_ret
  refine⟨?_,Below.refl _ _⟩
  rcases b with _|_
  ·rfl
  ·exfalso
   have h1:=congrArg List.length (HBB.out.1 rfl)
   simp only[List.length_map] at h1
   exact HL.out h1
structure Bare (y:PeV):Prop where
 e0:y.e0= .int .i64 0
 e1:y.e1= .slice none 0 0
 e2:y.e2= .slice none 0 0
 im:y.im= .slice none 0 0
 de:y.de= .slice none 0 0
 bo:y.bo= .slice none 0 0
 re:y.re= .slice none 0 0
 t0:y.t0= .bool false
 t1:y.t1= .int .i64 0
 t2:y.t2= .slice none 0 0
set_option maxHeartbeats 4000000 in
theorem Zbi (y:PeV) (hy:Bare y) (h:ZO) (sv:Value) (l:List Zr) (w:World) (x:YR ((List.range 39).map y.hd).toArray h sv) (hs:Vn w sv l) (hdb:Uq h) (g N cap:Nat) (f:Nat→Int) (hi:y.img= .slice (some ⟨g,0,none⟩) N cap) (hr:VF w g 0 N cap f) :
 Calls Tryz.prog 22 #[.agg (peC y),.agg (peC y)] w fun e u=>e= .returned (.bool true)∧Below w.heap.size w u:=by
 have hb0:Below w.heap.size w ((w.alloc (.cells (peC y) 50)).alloc (.cells (peC y) 50)):=((Below.refl w.heap.size w).alloc (Nat.le_refl _) _).alloc (by simp) _
 have hg0:=heap_alloc2_old w (.cells (peC y) 50) (.cells (peC y) 50)
 have hg1:=heap_alloc2_new w (.cells (peC y) 50) (.cells (peC y) 50)
 obtain⟨w2,hw2⟩: ∃ q,(w.alloc (.cells (peC y) 50)).alloc (.cells (peC y) 50)=q:=⟨_,rfl⟩
 rw[hw2] at hb0 hg0 hg1
 have HB0:=Zg hb0
 have HW2:=Zg hw2
 have HCF:=Zg (show ∀ W,Below w2.heap.size w2 W→ ∀ j v,j<50→peF y j=v→W.cell? ⟨w.heap.size,j,none⟩=some v∧W.cell? ⟨w.heap.size+1,j,none⟩=some v from fun W hW j v hj hv=>by
  subst hv
  exact⟨(hW.cell (p:=⟨w.heap.size,j,none⟩) (Zi hg0)).trans ((Zh hg0).trans (ZJ y hj)),(hW.cell (p:=⟨w.heap.size+1,j,none⟩) (Zi hg1)).trans ((Zh hg1).trans (ZJ y hj))⟩)
 have hrg: ∀ P,(∀ j,j<50→w2.cell? ⟨P,j,none⟩=some (peF y j))→w2.rangeAt P 0 ((List.range 39).map y.hd):=fun P hP j v hv=>by
  have hj:j<39:=by
   rcases Nat.lt_or_ge j 39 with hj|hj
   ·exact hj
   ·simp[hj] at hv
  simp[hj] at hv
  subst hv
  rw[Nat.zero_add,hP j (by omega),Xy y hj]
 have HR0:=Zg (hrg w.heap.size (fun j hj=>(HCF.out w2 (Below.refl _ _) j _ hj rfl).1))
 have HR1:=Zg (hrg (w.heap.size+1) (fun j hj=>(HCF.out w2 (Below.refl _ _) j _ hj rfl).2))
 have HHD:=Zg (fun W (hW:Below w2.heap.size w2 W)=>Qg _ _ h sv sv l W x x (by
  obtain⟨A,c,k1,k2,k3⟩:=hs
  exact⟨A,c,k1,k2.below (HB0.out.trans (hW.mono HB0.out.size)),k3⟩) (by
  obtain⟨A,c,k1,k2,k3⟩:=hs
  exact⟨A,c,k1,k2.below (HB0.out.trans (hW.mono HB0.out.size)),k3⟩) hdb)
 have HBE:=Zg (fun W (hW:Below w2.heap.size w2 W)=>Tryz.bytes_Equal_strs (.slice (some ⟨g,0,none⟩) N cap) (.slice (some ⟨g,0,none⟩) N cap) (ZB f 0 N) (ZB f 0 N) W (YB (cap:=cap) (hr.below (HB0.out.trans (hW.mono HB0.out.size))).row) (YB (cap:=cap) (hr.below (HB0.out.trans (hW.mono HB0.out.size))).row))
 have HY:=Zg hy
 have HI:=Zg hi
 clear hrg hb0 hg0 hg1 hw2 hs hr hy hi
 go_enter Tryz.func22,Tryz.ntmps22
 go_upto_region 1 with(fail)
 refine(congrArg _ HW2.out).mpr ?_
 have HZ:=Zg (Below.refl w2.heap.size w2)
 simp only[List.append_eq,List.cons_append,List.nil_append]
 go_wp2_with (first
  | (refine wpList_load_mid rfl 41 (.tmp 5) rfl w.heap.size 0 rfl ((List.range 39).map y.hd) _ HR0.out Tryz.underlying41 rfl (by rw[List.length_map,List.length_range]; kernel_rfl) ?_)
  | (refine wpList_load_mid rfl 41 (.tmp 7) rfl (w.heap.size+1) 0 rfl ((List.range 39).map y.hd) _ HR1.out Tryz.underlying41 rfl (by rw[List.length_map,List.length_range]; kernel_rfl) ?_)
  | fail)
 refine(HHD.out _ HZ.out).mono ?_
 rintro e w3 ⟨rfl,hb⟩
 replace HZ:=Zg (HZ.out.trans (hb.mono HZ.out.size))
 clear hb
 have a39:=(HCF.out _ HZ.out 39 _ (by omega) HI.out).1
 have b39:=(HCF.out _ HZ.out 39 _ (by omega) HI.out).2
 go_wp2_with fail
 refine(HBE.out _ HZ.out).mono ?_
 rintro e w4 ⟨rfl,rfl⟩
 rw[show((ZB f 0 N).toList == (ZB f 0 N).toList)=true from by simp]
 clear a39 b39
 have a40:=(HCF.out _ HZ.out 40 _ (by omega) HY.out.e0).1
 have b40:=(HCF.out _ HZ.out 40 _ (by omega) HY.out.e0).2
 have a41:=(HCF.out _ HZ.out 41 _ (by omega) HY.out.e1).1
 have b41:=(HCF.out _ HZ.out 41 _ (by omega) HY.out.e1).2
 go_wp2_with fail
 refine(Zh6 _).mono ?_
 rintro e w5 ⟨rfl,hb⟩
 replace HZ:=Zg (HZ.out.trans (hb.mono HZ.out.size))
 clear hb
 clear a40 b40 a41 b41
 have a42:=(HCF.out _ HZ.out 42 _ (by omega) HY.out.e2).1
 have b42:=(HCF.out _ HZ.out 42 _ (by omega) HY.out.e2).2
 go_wp2_with fail
 refine(Zgf _).mono ?_
 rintro e w6 ⟨rfl,hb⟩
 replace HZ:=Zg (HZ.out.trans (hb.mono HZ.out.size))
 clear hb
 clear a42 b42
 have a43:=(HCF.out _ HZ.out 43 _ (by omega) HY.out.im).1
 have b43:=(HCF.out _ HZ.out 43 _ (by omega) HY.out.im).2
 go_wp2_with fail
 refine(VK _ _).mono ?_
 rintro e w7 ⟨rfl,hb⟩
 replace HZ:=Zg (HZ.out.trans (hb.mono HZ.out.size))
 clear hb
 clear a43 b43
 have a44:=(HCF.out _ HZ.out 44 _ (by omega) HY.out.de).1
 have b44:=(HCF.out _ HZ.out 44 _ (by omega) HY.out.de).2
 go_wp2_with fail
 refine(VK _ _).mono ?_
 rintro e w8 ⟨rfl,hb⟩
 replace HZ:=Zg (HZ.out.trans (hb.mono HZ.out.size))
 clear hb
 clear a44 b44
 have a45:=(HCF.out _ HZ.out 45 _ (by omega) HY.out.bo).1
 have b45:=(HCF.out _ HZ.out 45 _ (by omega) HY.out.bo).2
 go_wp2_with fail
 refine(Zgg _).mono ?_
 rintro e w9 ⟨rfl,hb⟩
 replace HZ:=Zg (HZ.out.trans (hb.mono HZ.out.size))
 clear hb
 clear a45 b45
 have a46:=(HCF.out _ HZ.out 46 _ (by omega) HY.out.re).1
 have b46:=(HCF.out _ HZ.out 46 _ (by omega) HY.out.re).2
 go_wp2_with fail
 refine(Zj0 _).mono ?_
 rintro e w10 ⟨rfl,hb⟩
 replace HZ:=Zg (HZ.out.trans (hb.mono HZ.out.size))
 clear hb
 clear a46 b46
 have a47:=(HCF.out _ HZ.out 47 _ (by omega) HY.out.t0).1
 have b47:=(HCF.out _ HZ.out 47 _ (by omega) HY.out.t0).2
 have a48:=(HCF.out _ HZ.out 48 _ (by omega) HY.out.t1).1
 have b48:=(HCF.out _ HZ.out 48 _ (by omega) HY.out.t1).2
 have a49:=(HCF.out _ HZ.out 49 _ (by omega) HY.out.t2).1
 have b49:=(HCF.out _ HZ.out 49 _ (by omega) HY.out.t2).2
 go_wp2_with fail
 refine(Tryz.slices_Equal_int_empty none none 0 0 0 _ (by omega)).mono ?_
 rintro e w11 ⟨rfl,rfl⟩
 go_wp2_with fail
 go_ret
 exact⟨rfl,HB0.out.trans (HZ.out.mono HB0.out.size)⟩
set_option maxHeartbeats 2000000 in
theorem Zdt (y:PeV) (hy:Bare y) (w:World):Calls Tryz.prog 17 #[.agg (peC y)] w fun e u=>(∃ A c,e= .returned (.slice A 0 c))∧Below w.heap.size w u:=by
 have hb0:Below w.heap.size w (w.alloc (.cells (peC y) 50)):=(Below.refl w.heap.size w).alloc (Nat.le_refl _) _
 have hg0:=heap_alloc_new w (.cells (peC y) 50)
 obtain⟨w2,hw2⟩: ∃ q,w.alloc (.cells (peC y) 50)=q:=⟨_,rfl⟩
 rw[hw2] at hb0 hg0
 have HB0:=Zg hb0
 have HW2:=Zg hw2
 have HCF:=Zg (show ∀ W,Below w2.heap.size w2 W→ ∀ j v,j<50→peF y j=v→W.cell? ⟨w.heap.size,j,none⟩=some v from fun W hW j v hj hv=>by
  subst hv
  exact(hW.cell (p:=⟨w.heap.size,j,none⟩) (Zi hg0)).trans ((Zh hg0).trans (ZJ y hj)))
 have HY:=Zg hy
 clear hb0 hg0 hw2 hy
 go_enter Tryz.func17,Tryz.ntmps17
 go_upto_region 1 with(fail)
 refine(congrArg _ HW2.out).mpr ?_
 have HZ:=Zg (Below.refl w2.heap.size w2)
 go_upto_region 2 with(fail)
 generalize hW3:w2.alloc _=w3
 replace HZ:=Zg (show Below w2.heap.size w2 w3 from by rw[←hW3]; exact(Below.refl _ _).alloc (Nat.le_refl _) _)
 clear hW3
 have a43:=HCF.out _ HZ.out 43 _ (by omega) HY.out.im
 have a41:=HCF.out _ HZ.out 41 _ (by omega) HY.out.e1
 go_wp2_with fail
 go_loopw [3,15] (fun v3 v15 wr=>v15= .int .i64 0∧v3= .slice (some ⟨w2.heap.size,0,none⟩) 0 0∧wr=w3) (fun _ _ _=>0)
 case atStart=>exact⟨rfl,rfl,rfl⟩
 case round =>
  obtain⟨rfl,rfl,rfl⟩:=hrel
  go_wp2_with fail
  go_loopw [3,28] (fun v3 v28 wx=>v28= .int .i64 0∧v3= .slice (some ⟨w2.heap.size,0,none⟩) 0 0∧wx=wr) (fun _ _ _=>0)
  case atStart=>exact⟨rfl,rfl,rfl⟩
  case round =>
   obtain⟨rfl,rfl,rfl⟩:=hrel
   go_wp2_with fail
   go_ret
   exact⟨⟨_,_,rfl⟩,HB0.out.trans (HZ.out.mono HB0.out.size)⟩
end Go.Proofs.YtplgdpjbkdagfaaGreat
