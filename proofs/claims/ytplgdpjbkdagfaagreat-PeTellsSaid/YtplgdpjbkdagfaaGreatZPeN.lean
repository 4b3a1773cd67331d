import Derived.Test.YtplgdpjbkdagfaaGreatZPeEqE
import Derived.Test.YtplgdpjbkdagfaaGreatZExpI0
import Derived.Test.YtplgdpjbkdagfaaGreatZExpM
import Derived.Test.YtplgdpjbkdagfaaGreatZFold
import Derived.Test.YtplgdpjbkdagfaaGreatZRPeX
import Derived.Test.YtplgdpjbkdagfaaGreatZExpD
namespace Go.Proofs.YtplgdpjbkdagfaaGreat
set_option maxHeartbeats 8000000
open List renaming setIfInBounds_toArray→Zd, set_cons_zero→Ze, set_cons_succ→Zf
open Lib renaming hid→Zg
open Go.ChangeShapes Go.WideShapes Go.ChangeAt Go.RowKit
set_option linter.unusedVariables false
set_option linter.unusedSimpArgs false
set_option maxRecDepth 100000
def XP (l:List (List Nat)) (t:List Nat):List (List Nat):=if l.contains t then l else l++[t]
theorem Ze7 {l:List (List Nat)} {t:List Nat} (hl: ∀ s∈l,Lb s) (ht:Lb t): ∀ s∈XP l t,Lb s:=by
 intro s hs;unfold XP at hs;split at hs
 ·exact hl s hs
 ·rcases List.mem_append.1 hs with h|h
  ·exact hl s h
  ·rw[List.mem_singleton.1 h]; exact ht
theorem Zb0 (l:List (List Nat)) (t:List Nat):(XP l t).length<=l.length+1:=by
 unfold XP; split <;> simp
theorem Zm5 (x:List Nat): ∀ u∈sC x,u.oneCell'=true:=by
 intro u hu;simp only[sC,List.mem_singleton] at hu;subst hu;rfl
theorem Zil:(Tryz.prog.info? 9).map (fun i=>(i.zero,i.size,i.bytes))=some (some (.string ByteArray.empty),1,16):=by kernel_rfl
theorem Ze8 (t:List Nat) (w:World): ∀ j u,(sC t)[j]? =some u->(w.alloc (.cells #[.string (txt t)] 9)).cell? ⟨w.heap.size,j,none⟩=some u:=by
 intro j u hu;rcases j with _|j
 ·simp[sC] at hu; subst hu; simp[go_sem]
 ·simp[sC] at hu
theorem contS {l:List (List Nat)} {t:List Nat} (hl: ∀ s∈l,Lb s) (ht:Lb t):Lib.containsS (l.map txt) (txt t)=l.contains t:=by
 rw[Bool.eq_iff_iff,Lib.containsS_iff,List.mem_map,List.contains_iff_mem];constructor
 ·rintro⟨s,hs,he⟩;have:=Zi0 (hl s hs) ht (by rw[he]);subst this;exact hs
 ·exact fun h=>⟨t,h,rfl⟩
theorem Zll (A:Option Addr) (l:List (List Nat)) (c:Nat) (t:List Nat) (w:World) (hl: ∀ s∈l,Lb s) (ht:Lb t) (hn:l.length<=1000000) (hs:SlT sC 1 w A l) :
 Calls Tryz.prog 86 #[.slice A l.length c,.string (txt t)] w fun e u=>e= .returned (.bool (l.contains t))/\u=w:=by
 rcases hs with h|⟨b,off,rfl,_,hc⟩
 ·subst h;have:=Tryz.slices_Contains_string_empty A c (txt t) w;exact this
 ·have h1:=Tryz.slices_Contains_string b off l.length c (l.map txt) (txt t) w (by simp) (by omega) (fun j hj=>by
   rw[List.length_map] at hj;have:=hc j hj 0 (.string (txt l[j])) rfl;rw[show off+(j * 1+0)=off+j by omega] at this;rw[this,List.getD_eq_getElem?_getD,List.getElem?_map,List.getElem?_eq_getElem hj];rfl)
  rw[List.take_of_length_le (by simp),contS hl ht] at h1;exact h1
theorem Ze9 (l:List (List Nat)) (t:List Nat) (v:Value) (base:Nat) (w:World) (hl: ∀ s∈l,Lb s) (ht:Lb t) (hn:l.length<=100000) (LZ:t.length<=1000) (ho:ZJ sC 1 w base 9 v l) (hb:base<=w.heap.size) :
 Calls Tryz.prog 34 #[v,.string (txt t)] w fun e u=> ∃ v',e= .returned v'/\ZJ sC 1 u base 9 v' (XP l (VJ t))/\Below base w u:=by
 obtain⟨A,cap,rfl,fF,ij,_⟩:=ho.form;have HK:=Zg (fun W=>Znn (txt t) (txt (VJ t)) W (by rw[Zk]; omega) (Zdv ht));have eH:=Zg (fun W (hW:Below w.heap.size w W)=>ho.below hW);have LP:=Zg (fun W (hW:Below w.heap.size w W)=>Zll A l cap (VJ t) W hl (Jx ht) (by omega) ((ho.below hW).sl Qt));have HN:=Zg hn;have HB:=Zg hb;clear ho hn fF ij hl ht LZ hb;go_enter Tryz.func34,Tryz.ntmps34;go_wp2_with fail
 refine(HK.out _).mono ?_;rintro e w2 ⟨rfl,aC⟩;have aj:=Zg aC;clear aC;go_wp2_with fail
 refine(LP.out _ aj.out).mono ?_;rintro e w3 ⟨rfl,rfl⟩;rcases hct:l.contains (VJ t) with _|_
 ·have rS:=Zg (show XP l (VJ t)=l++[VJ t] from by unfold XP; rw[hct]; rfl);clear hct;have aK:=Zg ((eH.out w3 aj.out).alloc (.cells #[.string (txt (VJ t))] 9));have cK:=Zg (Ze8 (VJ t) w3);have aN:=Zg (show Below base w (w3.alloc (.cells #[.string (txt (VJ t))] 9)) from(aj.out.mono HB.out).alloc (Nat.le_trans HB.out aj.out.size) _);have H3:=Zg (show base<=(w3.alloc (.cells #[.string (txt (VJ t))] 9)).heap.size from by have:=aj.out.size; have:=HB.out; simp[go_sem]; omega);have H4:=Zg (show l.length+1<=maxLen from by have:=HN.out; unfold maxLen; omega);have H5:=Zg (show(l.length+1) * 16<=140737488355328 from by have:=HN.out; omega);go_wp2_with (first
   | (at_builtin; refine Zq rfl (.tmp 12) (.tmp 14) 27 rfl base 9 _ 16 rfl Zil rfl (by omega) Qt Zm5 _ l rfl aK.out w3.heap.size 1 rfl (VJ t) cK.out H4.out H5.out H3.out ?_; intro g5 aG w8 ag aI aD)
   | fail)
  have ay:=Zg (aK.out.grew aN.out (Nat.le_refl _) H3.out aI);have di:=Zg ag;clear ag aI aD;go_ret;refine⟨_,rfl,?_,ay.out⟩;rw[rS.out];have:=di.out;exact this
 ·have rS:=Zg (show XP l (VJ t)=l from by unfold XP; rw[hct]; rfl);clear hct;go_wp2_with fail
  go_ret;refine⟨_,rfl,?_,aj.out.mono HB.out⟩;rw[rS.out];exact eH.out _ aj.out
theorem Zb1 (l:List (List Nat)) (t:List Nat) (v:Value) (base:Nat) (w:World) (hl: ∀ s∈l,Lb s) (ht:Lb t) (hn:l.length<=100000) (ho:ZJ sC 1 w base 9 v l) (hb:base<=w.heap.size) :
 Calls Tryz.prog 49 #[v,.string (txt t)] w fun e u=> ∃ v',e= .returned v'/\ZJ sC 1 u base 9 v' (XP l t)/\Below base w u:=by
 obtain⟨A,cap,rfl,fF,ij,_⟩:=ho.form;have HS:=Zg (ho.sl Qt);have HO:=Zg ho;have HN:=Zg hn;have HB:=Zg hb;have HL:=Zg hl;have HT:=Zg ht;clear ho fF ij hl ht hb;go_enter Tryz.func49,Tryz.ntmps49;go_wp2_with fail
 go_loop [5] (fun v=> ∃ k:Nat,k<=l.length/\v= .int .i64 k/\ ∀ j (hj:j<l.length),j<k->l[j]≠t) (fun v=>l.length - (intOf v).toNat)
 case atStart=>exact⟨0,by omega,rfl,fun j _ h=>by omega⟩
 case round =>
  obtain⟨k,hk,rfl,bu⟩:=hrel;have cw:=Zg bu;clear bu;by_cases af:k<l.length
  ·have aE:(k:Int)<l.length:=by omega
   obtain⟨bb,o,rfl,_,d0⟩:=HS.out.st af;have hq:=Zm0 (HL.out _ (List.getElem_mem af)) HT.out;rcases hr:(l[k] == t) with _|_
   ·rw[hr] at hq;have dN:=Zg (show ∀ j (hj:j<l.length),j<k+1->l[j]≠t from fun j h1 h3=>by
     rcases(by omega:j<k\/j=k) with h4|h4
     ·exact cw.out j h1 h4
     ·subst h4; exact beq_eq_false_iff_ne.1 hr)
    clear hr;generalize txt l[k]=p0 at *;generalize txt t=q0 at *;go_wp2_with fail
    go_round
    case rel=>exact⟨k+1,by omega,by go_num,dN.out⟩
    case measure=>simp[intOf]; omega
   ·rw[hr] at hq;have rS:=Zg (show XP l t=l from by
     unfold XP;rw[if_pos];rw[List.contains_iff_mem,<-beq_iff_eq.1 hr];exact List.getElem_mem af)
    clear hr;generalize txt l[k]=p0 at *;generalize txt t=q0 at *;go_wp2_with fail
    go_ret;refine⟨_,rfl,?_,Below.refl _ _⟩;rw[rS.out];exact HO.out
  ·obtain rfl:k=l.length:=by omega
   have rS:=Zg (show XP l t=l++[t] from by
    unfold XP;rw[if_neg];rw[List.contains_iff_mem];intro hm;obtain⟨j,hj,he⟩:=List.getElem_of_mem hm;exact cw.out j hj hj he)
   have aK:=Zg (HO.out.alloc (.cells #[.string (txt t)] 9));have cK:=Zg (Ze8 t w);have aN:=Zg (show Below base w (w.alloc (.cells #[.string (txt t)] 9)) from(Below.refl _ _).alloc HB.out _);have H3:=Zg (show base<=(w.alloc (.cells #[.string (txt t)] 9)).heap.size from by have:=HB.out; simp[go_sem]; omega);have H4:=Zg (show l.length+1<=maxLen from by have:=HN.out; unfold maxLen; omega);have H5:=Zg (show(l.length+1) * 16<=140737488355328 from by have:=HN.out; omega);clear hk af;go_wp2_with (first
    | (at_builtin; refine Zq rfl (.tmp 19) (.tmp 21) 27 rfl base 9 _ 16 rfl Zil rfl (by omega) Qt Zm5 _ l rfl aK.out w.heap.size 1 rfl t cK.out H4.out H5.out H3.out ?_; intro g5 aG w8 ag aI aD)
    | fail)
   have ay:=Zg (aK.out.grew aN.out (Nat.le_refl _) H3.out aI);have di:=Zg ag;clear ag aI aD;go_ret;refine⟨_,rfl,?_,ay.out⟩;rw[rS.out];have:=di.out;exact this
theorem Zim {α :Type} (C: α ->List Value) (f0: α ->ByteArray) (hC: ∀ x,C x=[.string (f0 x)]) (A A':Option Addr) (l l2:List α) (c c':Nat) (w:World) (h:SlT C 1 w A l) (h':SlT C 1 w A' l2) (hn:l.length<=1000000) (jP:l2.length<=1000000) (b:Bool) (hb:b=true↔l.map C=l2.map C) :
 Calls Tryz.prog 16 #[.slice A l.length c,.slice A' l2.length c'] w fun e u=>e= .returned (.bool b)/\Below w.heap.size w u:=by
 have HS:=Zg h;have rz:=Zg h';have HC:=Zg hC;have HN:=Zg (And.intro hn jP);have fi:=Zg hb;clear h h' hC hb;by_cases hl:l.length=l2.length
 ·have HL:=Zg hl;have e0:((l.length:Int) != (l2.length:Int))=false:=by simp[hl]
  have ia:=Zg hn;clear hn jP hl;go_enter Tryz.func16,Tryz.ntmps16;go_wp2_with fail
  go_loopw [5] (fun v13 wr=> ∃ i:Nat,i<=l.length/\v13= .int .i64 i/\(∀(j:Nat) (h1:j<l.length) (h2:j<l2.length),j<i->C l[j]=C l2[j])/\Below w.heap.size w wr) (fun v13 _=>l.length - (intOf v13).toNat)
  case atStart=>exact⟨0,by omega,rfl,fun j _ _ h=>by omega,Below.refl _ _⟩
  case round =>
   obtain⟨i,hi,rfl,bu,bZ⟩:=hrel;have cw:=Zg bu;have HB:=Zg bZ;clear bu bZ;by_cases af:i<l.length
   ·have aE:(i:Int)<l.length:=by omega
    have aB:i<l2.length:=by have:=HL.out; omega
    have ib:(i:Int)<l2.length:=by omega
    obtain⟨bb,o,rfl,_,hc⟩: ∃ b o,A=some ⟨b,o,none⟩/\b<wr.heap.size/\ ∀(i:Nat) (hi:i<l.length) (j:Nat) (v:Value),(C l[i])[j]? =some v->wr.cell? ⟨b,o+(i * 1+j),none⟩=some v:=by
     rcases HS.out.below HB.out with h|h
     ·rw[h] at af; simp at af
     ·exact h
    obtain⟨oM,o',rfl,_,eN⟩: ∃ b o,A'=some ⟨b,o,none⟩/\b<wr.heap.size/\ ∀(i:Nat) (hi:i<l2.length) (j:Nat) (v:Value),(C l2[i])[j]? =some v->wr.cell? ⟨b,o+(i * 1+j),none⟩=some v:=by
     rcases rz.out.below HB.out with h|h
     ·rw[h] at aB; simp at aB
     ·exact h
    have hC:=HC.out;have d0:=hc i af 0 (.string (f0 l[i])) (by rw[hC]; rfl);have e0:=eN i aB 0 (.string (f0 l2[i])) (by rw[hC]; rfl);rw[show o+(i * 1+0)=o+i by omega] at d0;rw[show o'+(i * 1+0)=o'+i by omega] at e0;obtain⟨r,rD,hr⟩: ∃ r:Bool,((f0 l[i]).toList == (f0 l2[i]).toList)=r/\(r=true↔f0 l[i]=f0 l2[i]):=⟨_,rfl,beq_iff_eq.trans toList_eq⟩;have Dx:((f0 l[i]).toList != (f0 l2[i]).toList)= !r:=by rw[<-rD]; rfl
    have ng:C l[i]=C l2[i]↔r=true:=by
     rw[hC,hC,hr];simp
    have eF:=Zg ng;clear hc eN hC hr ng;generalize f0 l[i]=p0 at *;generalize f0 l2[i]=q0 at *;rcases r with _|_
    ·go_wp2_with fail
     go_region
     go_wp2_with fail
     go_ret;refine⟨?_,HB.out.drew⟩;rcases b with _|_
     ·rfl
     ·exfalso;have h1:=fi.out.1 rfl;have h2:=congrArg (fun L=>L[i]?) h1;simp only[List.getElem?_map,List.getElem?_eq_getElem af,List.getElem?_eq_getElem aB,Option.map_some,Option.some.injEq] at h2;have h3:=eF.out.1 h2;simp at h3
    ·have dN:=Zg (show ∀(j:Nat) (h1:j<l.length) (h2:j<l2.length),j<i+1->C l[j]=C l2[j] from fun j h1 h2 h3=>(by
      rcases(by omega:j<i\/j=i) with h4|h4
      ·exact cw.out j h1 h2 h4
      ·subst h4; exact eF.out.2 rfl))
     go_wp2_with fail
     go_region
     have oI:=HN.out.1;go_wp2_with fail
     go_roundw
     case rel=>exact⟨i+1,by omega,by go_num,dN.out,HB.out.drew⟩
     case measure=>simp[intOf]; omega
   ·obtain rfl:i=l.length:=by omega
    go_wp2_with fail
    go_ret;refine⟨?_,HB.out⟩;rcases b with _|_
    ·exfalso;have h1:l.map C=l2.map C:=by
      apply List.ext_getElem
      ·simp[HL.out]
      ·intro j h1 h2;simp only[List.length_map] at h1 h2;simp only[List.getElem_map];exact cw.out j h1 h2 h1
     have h2:=fi.out.2 h1;simp at h2
    ·rfl
 ·have e0:((l.length:Int) != (l2.length:Int))=true:=by simp; omega
  have HL:=Zg hl;clear hl;go_enter Tryz.func16,Tryz.ntmps16;go_wp2_with fail
  go_ret;refine⟨?_,Below.refl _ _⟩;rcases b with _|_
  ·rfl
  ·exfalso;have h1:=congrArg List.length (fi.out.1 rfl);simp only[List.length_map] at h1;exact HL.out h1
def Wf (l:List (List Nat)) (ims:List Jf):List (List Nat):=ims.foldl (fun l v=>XP l (VJ v.dll)) l
def WF (l:List (List Nat)) (fs:List FnV):List (List Nat):=fs.foldl (fun l f=>if ZH f.2=true then XP l (VJ (Yw f.2)) else l) l
def Vq (d:PeD):List (List Nat):=WF (Wf [] d.ims) d.fs
structure Qn (d:PeD):Prop where
 ims: ∀ v∈d.ims,Lb v.dll/\v.dll.length<=1000
 fs: ∀ f∈d.fs,Lb f.2/\f.2.length<=1000/\(f.2=[]\/ZH f.2=true)
 li:d.ims.length<=1000
 lf:d.fs.length<=1000
theorem VR (ims:List Jf) (h: ∀ v∈ims,Lb v.dll): ∀ l:List (List Nat),(∀ s∈l,Lb s)->(∀ s∈Wf l ims,Lb s)/\(Wf l ims).length<=l.length+ims.length:=by
 induction ims with
 | nil=>exact fun l hl=>⟨hl,Nat.le_refl _⟩
 | cons v r ih =>
   intro l hl;have h1:=ih (fun x hx=>h x (List.mem_cons_of_mem _ hx)) (XP l (VJ v.dll)) (Ze7 hl (Jx (h v (List.mem_cons_self ..))));have h2:=Zb0 l (VJ v.dll);exact⟨h1.1,by have:=h1.2; rw[List.length_cons]; show(Wf (XP l (VJ v.dll)) r).length<=_; omega⟩
theorem Zak (fs:List FnV) (h: ∀ f∈fs,Lb f.2): ∀ l:List (List Nat),(∀ s∈l,Lb s)->(∀ s∈WF l fs,Lb s)/\(WF l fs).length<=l.length+fs.length:=by
 induction fs with
 | nil=>exact fun l hl=>⟨hl,Nat.le_refl _⟩
 | cons v r ih =>
   intro l hl;have h0:(∀ s∈(if ZH v.2=true then XP l (VJ (Yw v.2)) else l),Lb s)/\(if ZH v.2=true then XP l (VJ (Yw v.2)) else l).length<=l.length+1:=by
    split
    ·exact⟨Ze7 hl (Jx (Jy (h v (List.mem_cons_self ..)))),Zb0 _ _⟩
    ·exact⟨hl,by omega⟩
   have h1:=ih (fun x hx=>h x (List.mem_cons_of_mem _ hx)) _ h0.1;have h2:=h0.2;exact⟨h1.1,by have:=h1.2; rw[List.length_cons]; show(WF (if ZH v.2=true then XP l (VJ (Yw v.2)) else l) r).length<=_; omega⟩
theorem Qo (l:List (List Nat)) (ims:List Jf) (k:Nat) (hk:k<ims.length):Wf l (ims.take (k+1))=XP (Wf l (ims.take k)) (VJ ims[k].dll):=by
 unfold Wf;rw[List.take_succ_eq_append_getElem hk,List.foldl_append];rfl
theorem Qp (l:List (List Nat)) (fs:List FnV) (k:Nat) (hk:k<fs.length):WF l (fs.take (k+1))=if ZH fs[k].2=true then XP (WF l (fs.take k)) (VJ (Yw fs[k].2)) else WF l (fs.take k):=by
 unfold WF;rw[List.take_succ_eq_append_getElem hk,List.foldl_append];rfl
theorem SlT.gat {w:World} {A:Option Addr} {l:List FnV} (h:SlT gC 2 w A l) {i:Nat} (hi:i<l.length): ∃ b o,A=some ⟨b,o,none⟩/\w.cell? ⟨b,o+i * 2,none⟩=some (.int .i64 l[i].1)/\w.cell? ⟨b,o+i * 2+1,none⟩=some (.string (txt l[i].2)):=by
 rcases h with h|⟨b,o,rfl,_,hc⟩
 ·rw[h] at hi; simp at hi
 ·exact⟨b,o,rfl,hc i hi 0 _ rfl,hc i hi 1 _ rfl⟩
theorem Zfa (y:PeV) (w:World) {w1:World} (ao:w.alloc (.cells (peC y) 50)=w1):Below w.heap.size w w1/\w1.heap.size=w.heap.size+1/\ ∀ W,Below w1.heap.size w1 W-> ∀ j u,j<50->peF y j=u->W.cell? ⟨w.heap.size,j,none⟩=some u:=by
 subst ao;have hz:=heap_alloc_new w (.cells (peC y) 50);exact⟨(Below.refl _ _).alloc (Nat.le_refl _) _,by simp,fun W hW j u hj hu=>by
  subst hu;exact(hW.cell (p:=⟨w.heap.size,j,none⟩) (Zi hz)).trans ((Zh hz).trans (Yv y hj))⟩
theorem Zgo (y:PeV) (d:PeD) (w:World) (hy:UR w y d) (ho:Qn d) :
 Calls Tryz.prog 17 #[.agg (peC y)] w fun e u=> ∃ v,e= .returned v/\ZJ sC 1 u w.heap.size 9 v (Vq d)/\Below w.heap.size w u:=by
 obtain⟨w1,ao⟩: ∃ q,w.alloc (.cells (peC y) 50)=q:=⟨_,rfl⟩;obtain⟨az,bw,zt⟩:=Zfa y w ao;obtain⟨A1,c1,qO,h1,l1⟩:=hy.fs;obtain⟨A3,c3,L3,qP,h3,l3⟩:=hy.ims;have hlen:d.ims.length=L3.length:=by rw[<-l3,List.length_map]
 have hU:=Zg hlen;have Ca:=Zg (show ∀ k (hk:k<L3.length),∃ h,d.ims[k]'h=L3[k].v from fun k hk=>⟨by omega,by simp only[<-l3,List.getElem_map]⟩);have av:=Zg az;have dL:=Zg bw;have fg:=Zg ao;have cr:=Zg zt;have tC:=Zg qO;have tD:=Zg qP;have eK:=Zg (fun W (hW:Below w1.heap.size w1 W)=>h1.below (az.trans (hW.mono az.size)));have bY:=Zg (fun W (hW:Below w1.heap.size w1 W)=>h3.1.below (az.trans (hW.mono az.size)));have HO:=Zg ho;have gl:L3.length<=1000:=by rw[<-hlen]; exact ho.li
 have dP:=ho.lf;clear az bw ao zt qO qP h1 l1 h3 l3 hlen hy ho;have zp:=cr.out (w1.alloc (.cells #[] 9)) ((Below.refl _ _).alloc (Nat.le_refl _) _) 43 _ (by omega) tD.out;have ft:=Zg (ZJ.made (C:=sC) (sz:=1) w1 w1.heap.size (Nat.le_refl _) 9);have au:=Zg (show Below w1.heap.size w1 (w1.alloc (.cells #[] 9)) from(Below.refl _ _).alloc (Nat.le_refl _) _);go_enter Tryz.func17,Tryz.ntmps17;go_upto_region 1 with(fail)
 refine(congrArg _ fg.out).mpr ?_;go_wp2_with fail
 clear zp;generalize w1.alloc (.cells #[] 9)=w2 at *;go_loopw [3,15] (fun v3 v15 wr=> ∃ k:Nat,k<=L3.length/\v15= .int .i64 k/\ZJ sC 1 wr w1.heap.size 9 v3 (Wf [] (d.ims.take k))/\Below w1.heap.size w1 wr) (fun _ v15 _=>L3.length - (intOf v15).toNat)
 case atStart=>exact⟨0,by omega,rfl,ft.out,au.out⟩
 case round =>
  obtain⟨k,hk,rfl,jK,bZ⟩:=hrel;have eH:=Zg jK;have aw:=Zg bZ;clear jK bZ;by_cases af:k<L3.length
  ·have aE:(k:Int)<L3.length:=by omega
   obtain⟨bb,o,rfl,d0,d1,d2,d3,d4⟩:=(bY.out _ aw.out).at5 af;obtain⟨y,hy⟩: ∃ y,L3[k]=y:=⟨_,rfl⟩;rw[hy] at d0 d1 d2 d3 d4;obtain⟨ei,gK⟩:=Ca.out k af;rw[hy] at gK;obtain⟨⟨dy,iy,sy,ty,ys⟩,Ay,cy⟩:=y;simp only at d0 d1 d2 d3 d4 gK;have aU:=HO.out.ims _ (List.getElem_mem ei);have aQ:=Qo [] d.ims k ei;rw[gK] at aU aQ;simp only at aU aQ;have bF:=Zg aQ;have ax:=Zg aU;have iF:=VR (d.ims.take k) (fun x hx=>(HO.out.ims x (List.mem_of_mem_take hx)).1) [] (by simp);have kY:=Zg (show(Wf [] (d.ims.take k)).length<=1000/\ ∀ s∈Wf [] (d.ims.take k),Lb s from⟨by have:=iF.2; simp[List.length_take] at this; omega,iF.1⟩);clear hy gK aU aQ iF ei;go_upto_region 5 with(refine wpList_store_row rfl 78 _ _ rfl wr.heap.size #[.string (txt dy),.int .i64 iy,.int .i64 sy,.int .i64 ty,.slice Ay ys.length cy] rfl rfl 78 _ (heap_alloc_new _ _) (by kernel_rfl) rfl (by simp[Value.oneCell']) ?_)
   have hz:=setRow_heap (wr.alloc (.cells #[.string ⟨#[]⟩,.int .i64 0,.int .i64 0,.int .i64 0,.slice none 0 0] 78)) wr.heap.size _ #[.string (txt dy),.int .i64 iy,.int .i64 sy,.int .i64 ty,.slice Ay ys.length cy] _ _ (heap_alloc_new _ _);have cm:Below wr.heap.size wr ((wr.alloc (.cells #[.string ⟨#[]⟩,.int .i64 0,.int .i64 0,.int .i64 0,.slice none 0 0] 78)).setRow wr.heap.size #[.string (txt dy),.int .i64 iy,.int .i64 sy,.int .i64 ty,.slice Ay ys.length cy]):=below_setRow ((Below.refl _ _).alloc (Nat.le_refl _) _) (Nat.le_refl _) _;generalize (wr.alloc (.cells #[.string ⟨#[]⟩,.int .i64 0,.int .i64 0,.int .i64 0,.slice none 0 0] 78)).setRow wr.heap.size #[.string (txt dy),.int .i64 iy,.int .i64 sy,.int .i64 ty,.slice Ay ys.length cy]=w5 at *;have g0:w5.cell? ⟨wr.heap.size,0,none⟩=some (.string (txt dy)):=by rw[Zh hz]; rfl
   have bp:=Zg (aw.out.trans (cm.mono aw.out.size));have cx:=Zg (eH.out.below cm);clear hz cm d0 d1 d2 d3 d4;go_wp2_with fail
   refine(Ze9 _ dy _ w1.heap.size _ kY.out.2 ax.out.1 (by have:=kY.out.1; omega) ax.out.2 cx.out (by have:=bp.out.size; omega)).mono ?_;rintro e w6 ⟨v',rfl,nu,cF⟩;have cU:=Zg (bp.out.trans cF);have dk:=Zg nu;clear nu cF g0;go_wp2_with fail
   go_roundw
   case rel=>exact⟨k+1,by omega,by go_num,by rw[bF.out]; exact dk.out,cU.out⟩
   case measure=>simp[intOf]; omega
  ·obtain rfl:k=L3.length:=by omega
   have mA:=Zg (show ZJ sC 1 wr w1.heap.size 9 u3 (Wf [] d.ims) from by
    have:=eH.out;rwa [List.take_of_length_le (by have:=hU.out; omega)] at this)
   have Ek:=cr.out wr aw.out 41 _ (by omega) tC.out;have iF:=VR d.ims (fun x hx=>(HO.out.ims x hx).1) [] (by simp);have kY:=Zg (show(Wf [] d.ims).length<=1000/\ ∀ s∈Wf [] d.ims,Lb s from⟨by have:=iF.2; have:=hU.out; simp at *; omega,iF.1⟩);clear eH iF hk af ft au;obtain⟨NI,vy⟩: ∃ q,Wf [] d.ims=q:=⟨_,rfl⟩;have oH:=Zg (show Vq d=WF NI d.fs from by unfold Vq; rw[vy]);rw[vy] at mA kY;clear vy;go_wp2_with fail
   clear Ek;go_loopw [3,28] (fun v3 v28 wr=> ∃ k:Nat,k<=d.fs.length/\v28= .int .i64 k/\ZJ sC 1 wr w1.heap.size 9 v3 (WF NI (d.fs.take k))/\Below w1.heap.size w1 wr) (fun _ v28 _=>d.fs.length - (intOf v28).toNat)
   case atStart=>exact⟨0,by omega,rfl,mA.out,aw.out⟩
   case round =>
    obtain⟨k,hk,rfl,jK,bZ⟩:=hrel;have xS:=Zg jK;have pZ:=Zg bZ;clear jK bZ;by_cases af:k<d.fs.length
    ·have aE:(k:Int)<d.fs.length:=by omega
     obtain⟨bb,o,rfl,d0,d1⟩:=(eK.out _ pZ.out).gat af;have aU:=HO.out.fs _ (List.getElem_mem af);have aQ:=Qp NI d.fs k af;have iF:=Zak (d.fs.take k) (fun x hx=>(HO.out.fs x (List.mem_of_mem_take hx)).1) NI kY.out.2;have tE:=Zg (show(WF NI (d.fs.take k)).length<=2000/\ ∀ s∈WF NI (d.fs.take k),Lb s from⟨by have:=iF.2; have:=kY.out.1; rw[List.length_take] at *; omega,iF.1⟩);obtain⟨f,hf⟩: ∃ f,d.fs[k]=f:=⟨_,rfl⟩;rw[hf] at d0 d1 aU aQ;obtain⟨fx,t⟩:=f;simp only at d0 d1 aU aQ;have ax:=Zg aU;have p6:=aQ;clear hf aU iF aQ;go_upto_region 10 with(refine wpList_store_row rfl 74 _ _ rfl wr.heap.size #[.int .i64 fx,.string (txt t)] rfl rfl 74 _ (heap_alloc_new _ _) (by kernel_rfl) rfl (by simp[Value.oneCell']) ?_)
     have hz:=setRow_heap (wr.alloc (.cells #[.int .i64 0,.string ⟨#[]⟩] 74)) wr.heap.size _ #[.int .i64 fx,.string (txt t)] _ _ (heap_alloc_new _ _);have cm:Below wr.heap.size wr ((wr.alloc (.cells #[.int .i64 0,.string ⟨#[]⟩] 74)).setRow wr.heap.size #[.int .i64 fx,.string (txt t)]):=below_setRow ((Below.refl _ _).alloc (Nat.le_refl _) _) (Nat.le_refl _) _;generalize (wr.alloc (.cells #[.int .i64 0,.string ⟨#[]⟩] 74)).setRow wr.heap.size #[.int .i64 fx,.string (txt t)]=w5 at *;have g1:w5.cell? ⟨wr.heap.size,1,none⟩=some (.string (txt t)):=by rw[Zh hz]; rfl
     have bp:=Zg (pZ.out.trans (cm.mono pZ.out.size));have cx:=Zg (xS.out.below cm);clear hz cm d0 d1;rcases aW:ZH t with _|_;all_goals (have bF:=Zg p6; rw[aW] at bF; clear p6)
     ·go_wp2_with fail
      refine(Zb8 t _ ax.out.1 (by have:=ax.out.2.1; omega)).mono ?_;rintro e w6 ⟨⟨D,S,O,B,rfl⟩,cF⟩;rw[aW];have cU:=Zg (bp.out.trans (cF.mono bp.out.size));have dk:=Zg (cx.out.below cF);clear cF g1 aW;go_upto_region 11 with(refine wpList_store_row rfl 58 _ _ rfl w6.heap.size #[.string S,.int .i64 O,.bool B] rfl rfl 58 _ (heap_alloc_new _ _) (by kernel_rfl) rfl (by simp[Value.oneCell']) ?_)
      have jB:Below w6.heap.size w6 ((w6.alloc (.cells #[.string ⟨#[]⟩,.int .i64 0,.bool false] 58)).setRow w6.heap.size #[.string S,.int .i64 O,.bool B]):=below_setRow ((Below.refl _ _).alloc (Nat.le_refl _) _) (Nat.le_refl _) _;generalize (w6.alloc (.cells #[.string ⟨#[]⟩,.int .i64 0,.bool false] 58)).setRow w6.heap.size #[.string S,.int .i64 O,.bool B]=w7 at *;have dS:=Zg (cU.out.trans (jB.mono cU.out.size));have tF:=Zg (dk.out.below jB);clear jB;go_wp2_with fail
      go_roundw
      case rel=>exact⟨k+1,by omega,by go_num,by rw[bF.out]; exact tF.out,dS.out⟩
      case measure=>simp[intOf]; omega
     ·go_wp2_with fail
      refine(Zi1 t _ ax.out.1 (by have:=ax.out.2.1; omega) aW).mono ?_;rintro e w6 ⟨⟨S,O,B,rfl⟩,cF⟩;have cU:=Zg (bp.out.trans (cF.mono bp.out.size));have dk:=Zg (cx.out.below cF);clear cF g1 aW;go_upto_region 11 with(refine wpList_store_row rfl 58 _ _ rfl w6.heap.size #[.string S,.int .i64 O,.bool B] rfl rfl 58 _ (heap_alloc_new _ _) (by kernel_rfl) rfl (by simp[Value.oneCell']) ?_)
      have jB:Below w6.heap.size w6 ((w6.alloc (.cells #[.string ⟨#[]⟩,.int .i64 0,.bool false] 58)).setRow w6.heap.size #[.string S,.int .i64 O,.bool B]):=below_setRow ((Below.refl _ _).alloc (Nat.le_refl _) _) (Nat.le_refl _) _;generalize (w6.alloc (.cells #[.string ⟨#[]⟩,.int .i64 0,.bool false] 58)).setRow w6.heap.size #[.string S,.int .i64 O,.bool B]=w7 at *;have dS:=Zg (cU.out.trans (jB.mono cU.out.size));have tF:=Zg (dk.out.below jB);clear jB;go_wp2_with fail
      refine(Ze9 _ (Yw t) _ w1.heap.size _ tE.out.2 (Jy ax.out.1) (by have:=tE.out.1; omega) (by have:=Qu t; have:=ax.out.2.1; omega) tF.out (by have:=dS.out.size; omega)).mono ?_;rintro e w8 ⟨v',rfl,fe,j1⟩;have aV:=Zg (dS.out.trans j1);have fQ:=Zg fe;clear fe j1;go_wp2_with fail
      go_roundw
      case rel=>exact⟨k+1,by omega,by go_num,by rw[bF.out]; exact fQ.out,aV.out⟩
      case measure=>simp[intOf]; omega
    ·obtain rfl:k=d.fs.length:=by omega
     have j0:ZJ sC 1 wr w1.heap.size 9 u3 (WF NI d.fs):=by
      have:=xS.out;rwa [List.take_of_length_le (Nat.le_refl _)] at this
     have El:=Zg j0;clear j0 hk af;go_wp2_with fail
     go_ret;rw[oH.out];refine⟨u3,rfl,Joins.ownsRow_le El.out (by have:=dL.out; omega),av.out.trans (pZ.out.mono av.out.size)⟩
theorem Qq:(⟨#[]⟩:ByteArray).toList=[]:=by first|decide +kernel|simp[ByteArray.toList,ByteArray.toList.loop]
theorem Jv {t:List Nat} {b:Bool} (h:t=[]\/ZH t=true) (hb:ZH t=b):(txt t).toList.isEmpty= !b:=by
 rcases h with h|h
 ·subst h;have:ZH []=false:=by decide
  rw[<-hb,this,show txt []=⟨#[]⟩ by decide +kernel,Qq];rfl
 ·rw[<-hb,h];cases hq:(txt t).toList.isEmpty with
  | false=>rfl
  | true =>
    have k:(txt t).toList=(⟨#[]⟩:ByteArray).toList:=(List.isEmpty_iff.1 hq).trans Qq.symm;have h1:(txt t).size=(⟨#[]⟩:ByteArray).size:=by rw[toList_eq.1 k]
    rw[Zk] at h1;have h2:t=[]:=List.eq_nil_of_length_eq_zero h1;subst h2;exact absurd h (by decide)
theorem Zgp (y:PeV) (d:PeD) (w:World) (hy:UR w y d) (ho:Qn d) :
 Calls Tryz.prog 21 #[.agg (peC y)] w fun e u=> ∃ v,e= .returned v/\ZJ sC 1 u w.heap.size 9 v (Vq d)/\Below w.heap.size w u:=by
 obtain⟨w1,ao⟩: ∃ q,w.alloc (.cells (peC y) 50)=q:=⟨_,rfl⟩;obtain⟨az,bw,zt⟩:=Zfa y w ao;obtain⟨A1,c1,qO,h1,l1⟩:=hy.fs;obtain⟨A3,c3,L3,qP,h3,l3⟩:=hy.ims;have hlen:d.ims.length=L3.length:=by rw[<-l3,List.length_map]
 have hU:=Zg hlen;have Ca:=Zg (show ∀ k (hk:k<L3.length),∃ h,d.ims[k]'h=L3[k].v from fun k hk=>⟨by omega,by simp only[<-l3,List.getElem_map]⟩);have av:=Zg az;have dL:=Zg bw;have fg:=Zg ao;have cr:=Zg zt;have tC:=Zg qO;have tD:=Zg qP;have eK:=Zg (fun W (hW:Below w1.heap.size w1 W)=>h1.below (az.trans (hW.mono az.size)));have bY:=Zg (fun W (hW:Below w1.heap.size w1 W)=>h3.1.below (az.trans (hW.mono az.size)));have HO:=Zg ho;have gl:L3.length<=1000:=by rw[<-hlen]; exact ho.li
 have dP:=ho.lf;clear az bw ao zt qO qP h1 l1 h3 l3 hlen hy ho;go_enter Tryz.func21,Tryz.ntmps21;go_upto_region 1 with(fail)
 refine(congrArg _ fg.out).mpr ?_;go_wp2_with fail
 go_loopw [3,4] (fun v3 v4 wr=> ∃ k:Nat,k<=L3.length/\v4= .int .i64 k/\ZJ sC 1 wr w1.heap.size 9 v3 (Wf [] (d.ims.take k))/\Below w1.heap.size w1 wr) (fun _ v4 _=>L3.length - (intOf v4).toNat)
 case atStart=>exact⟨0,by omega,rfl,ZJ.nil _ _ _,Below.refl _ _⟩
 case round =>
  obtain⟨k,hk,rfl,jK,bZ⟩:=hrel;have eH:=Zg jK;have aw:=Zg bZ;clear jK bZ;have zp:=cr.out wr aw.out 43 _ (by omega) tD.out;by_cases af:k<L3.length
  ·have aE:(k:Int)<L3.length:=by omega
   obtain⟨bb,o,rfl,d0,_⟩:=(bY.out _ aw.out).at5 af;obtain⟨ei,gK⟩:=Ca.out k af;have aU:=HO.out.ims _ (List.getElem_mem ei);have aQ:=Qo [] d.ims k ei;rw[gK] at aU aQ;obtain⟨dy,Hr⟩: ∃ q,L3[k].v.dll=q:=⟨_,rfl⟩;rw[Hr] at d0 aU aQ;have bF:=Zg aQ;have ax:=Zg aU;have iF:=VR (d.ims.take k) (fun x hx=>(HO.out.ims x (List.mem_of_mem_take hx)).1) [] (by simp);have kY:=Zg (show(Wf [] (d.ims.take k)).length<=1000/\ ∀ s∈Wf [] (d.ims.take k),Lb s from⟨by have:=iF.2; simp[List.length_take] at this; omega,iF.1⟩);clear Hr gK aU aQ iF ei;go_wp2_with fail
   refine(Qg (txt dy) (txt (VJ dy)) _ (by rw[Zk]; have:=ax.out.2; omega) (Zdv ax.out.1)).mono ?_;rintro e w5 ⟨rfl,cm⟩;have bp:=Zg (aw.out.trans (cm.mono aw.out.size));have cx:=Zg (eH.out.below cm);clear cm;go_wp2_with fail
   refine(Zb1 _ (VJ dy) _ w1.heap.size _ kY.out.2 (Jx ax.out.1) (by have:=kY.out.1; omega) cx.out (by have:=bp.out.size; omega)).mono ?_;rintro e w6 ⟨v',rfl,nu,cF⟩;have cU:=Zg (bp.out.trans cF);have dk:=Zg nu;clear nu cF;go_wp2_with fail
   go_roundw
   case rel=>exact⟨k+1,by omega,by go_num,by rw[bF.out]; exact dk.out,cU.out⟩
   case measure=>simp[intOf]; omega
  ·obtain rfl:k=L3.length:=by omega
   have mA:=Zg (show ZJ sC 1 wr w1.heap.size 9 u3 (Wf [] d.ims) from by
    have:=eH.out;rwa [List.take_of_length_le (by have:=hU.out; omega)] at this)
   have iF:=VR d.ims (fun x hx=>(HO.out.ims x hx).1) [] (by simp);have kY:=Zg (show(Wf [] d.ims).length<=1000/\ ∀ s∈Wf [] d.ims,Lb s from⟨by have:=iF.2; have:=hU.out; simp at *; omega,iF.1⟩);clear eH iF hk af;obtain⟨NI,vy⟩: ∃ q,Wf [] d.ims=q:=⟨_,rfl⟩;have oH:=Zg (show Vq d=WF NI d.fs from by unfold Vq; rw[vy]);rw[vy] at mA kY;clear vy;go_wp2_with fail
   clear zp;go_loopw [3,5] (fun v3 v5 wq=> ∃ k:Nat,k<=d.fs.length/\v5= .int .i64 k/\ZJ sC 1 wq w1.heap.size 9 v3 (WF NI (d.fs.take k))/\Below w1.heap.size w1 wq) (fun _ v5 _=>d.fs.length - (intOf v5).toNat)
   case atStart=>exact⟨0,by omega,rfl,mA.out,aw.out⟩
   case round =>
    obtain⟨k,hk,rfl,jK,bZ⟩:=hrel;have xS:=Zg jK;have pZ:=Zg bZ;clear jK bZ;have Ek:=cr.out wr pZ.out 41 _ (by omega) tC.out;by_cases af:k<d.fs.length
    ·have aE:(k:Int)<d.fs.length:=by omega
     obtain⟨bb,o,rfl,d0,d1⟩:=(eK.out _ pZ.out).gat af;have aU:=HO.out.fs _ (List.getElem_mem af);have aQ:=Qp NI d.fs k af;have iF:=Zak (d.fs.take k) (fun x hx=>(HO.out.fs x (List.mem_of_mem_take hx)).1) NI kY.out.2;have tE:=Zg (show(WF NI (d.fs.take k)).length<=2000/\ ∀ s∈WF NI (d.fs.take k),Lb s from⟨by have:=iF.2; have:=kY.out.1; rw[List.length_take] at *; omega,iF.1⟩);obtain⟨f,hf⟩: ∃ f,d.fs[k]=f:=⟨_,rfl⟩;rw[hf] at d0 d1 aU aQ;obtain⟨fx,t⟩:=f;simp only at d0 d1 aU aQ;have ax:=Zg aU;have p6:=aQ;clear hf aU iF aQ;rcases aW:ZH t with _|_;all_goals (have bF:=Zg p6; rw[aW] at bF; clear p6)
     ·have bK:=Jv ax.out.2.2 aW;clear aW;go_wp2_with fail
      go_roundw
      case rel=>exact⟨k+1,by omega,by go_num,by rw[bF.out]; exact xS.out,pZ.out⟩
      case measure=>simp[intOf]; omega
     ·have bK:=Jv ax.out.2.2 aW;have fX:=Zg aW;clear aW;go_wp2_with fail
      refine(Zdw t _ ax.out.1 (by have:=ax.out.2.1; omega)).mono ?_;rintro e w6 ⟨⟨D,S,O,B,rfl,hD⟩,cF⟩;obtain rfl:=hD fX.out;have cU:=Zg (pZ.out.trans (cF.mono pZ.out.size));have dk:=Zg (xS.out.below cF);rw[fX.out];clear cF bK Ek d0 d1;go_upto_region 12 with(refine wpList_store_row rfl 125 _ _ rfl w6.heap.size #[.string (txt (Yw t)),.string S,.int .i64 O,.bool B] rfl rfl 125 _ (heap_alloc_new _ _) (by kernel_rfl) rfl (by simp[Value.oneCell']) ?_)
      have hz:=setRow_heap (w6.alloc (.cells #[.string ⟨#[]⟩,.string ⟨#[]⟩,.int .i64 0,.bool false] 125)) w6.heap.size _ #[.string (txt (Yw t)),.string S,.int .i64 O,.bool B] _ _ (heap_alloc_new _ _);have jB:Below w6.heap.size w6 ((w6.alloc (.cells #[.string ⟨#[]⟩,.string ⟨#[]⟩,.int .i64 0,.bool false] 125)).setRow w6.heap.size #[.string (txt (Yw t)),.string S,.int .i64 O,.bool B]):=below_setRow ((Below.refl _ _).alloc (Nat.le_refl _) _) (Nat.le_refl _) _;generalize (w6.alloc (.cells #[.string ⟨#[]⟩,.string ⟨#[]⟩,.int .i64 0,.bool false] 125)).setRow w6.heap.size #[.string (txt (Yw t)),.string S,.int .i64 O,.bool B]=w7 at *;have g0:w7.cell? ⟨w6.heap.size,0,none⟩=some (.string (txt (Yw t))):=by rw[Zh hz]; rfl
      have dS:=Zg (cU.out.trans (jB.mono cU.out.size));have tF:=Zg (dk.out.below jB);have Em:=Zg (show Lb (Yw t)/\(Yw t).length<=1000 from⟨Jy ax.out.1,by have:=Qu t; have:=ax.out.2.1; omega⟩);clear jB hz;go_wp2_with fail
      refine(Qg (txt (Yw t)) (txt (VJ (Yw t))) _ (by rw[Zk]; have:=Em.out.2; omega) (Zdv Em.out.1)).mono ?_;rintro e w8 ⟨rfl,j1⟩;have aV:=Zg (dS.out.trans (j1.mono dS.out.size));have fQ:=Zg (tF.out.below j1);clear j1 g0;go_wp2_with fail
      refine(Zb1 _ (VJ (Yw t)) _ w1.heap.size _ tE.out.2 (Jx Em.out.1) (by have:=tE.out.1; omega) fQ.out (by have:=aV.out.size; omega)).mono ?_;rintro e w9 ⟨v',rfl,ov,xr⟩;have ay:=Zg (aV.out.trans xr);have di:=Zg ov;clear ov xr;go_wp2_with fail
      go_roundw
      case rel=>exact⟨k+1,by omega,by go_num,by rw[bF.out]; exact di.out,ay.out⟩
      case measure=>simp[intOf]; omega
    ·obtain rfl:k=d.fs.length:=by omega
     have j0:ZJ sC 1 wr w1.heap.size 9 u3 (WF NI d.fs):=by
      have:=xS.out;rwa [List.take_of_length_le (Nat.le_refl _)] at this
     have El:=Zg j0;clear j0 hk af;go_wp2_with fail
     go_ret;rw[oH.out];refine⟨u3,rfl,Joins.ownsRow_le El.out (by have:=dL.out; omega),av.out.trans (pZ.out.mono av.out.size)⟩
def Zfb (f:FnV):Prop:=Lb f.2/\f.2.length<=1000/\(f.2=[]\/ZH f.2=true)
theorem Qr {b:List Nat} {o most:Nat} {t:List Nat} (hb:Lb b) (h:YO b o most=some t):Lb t/\t.length<=most:=by
 have h1:=Wl h;refine⟨?_,h1.2.1⟩;rw[h1.2.2.2.2];exact(hb.drop o).take _
theorem Zin {b:List Nat} {rva size v:Nat} {f:FnV} (hb:Lb b) (h:UJ b rva size v=some f):Zfb f:=by
 unfold UJ at h;split at h
 ·split at h
  ·simp only[Option.some.injEq] at h;subst h;exact⟨fun v hv=>by simp at hv,by simp,.inl rfl⟩
  ·cases h
 ·split at h
  ·cases h
  ·rename_i t ht;obtain⟨h1,h2⟩:=Qr hb ht;split at h
   ·rename_i hs;simp only[Option.some.injEq] at h;subst h;exact⟨h1,by simp only; omega,.inr hs⟩
   ·cases h
theorem Zb2 {b:List Nat} {rva size ak:Nat} (hb:Lb b): ∀(k i:Nat) (acc l:List FnV),YV b rva size ak k i acc=some l->(∀ f∈acc,Zfb f)-> ∀ f∈l,Zfb f
 | 0,_,acc,l,h,ha=>by simp only[YV,Option.some.injEq] at h; subst h; exact ha
 | k+1,i,acc,l,h,ha=>by
   simp only[YV] at h;split at h
   ·cases h
   ·rename_i f hf;refine Zb2 hb k (i+1) _ l h fun x hx=> ?_;rcases List.mem_append.1 hx with q|q
    ·exact ha x q
    ·rw[List.mem_singleton.1 q]; exact Zin hb hf
theorem Zio {b:List Nat} {rva size:Int} {x:Zib} (hb:Lb b) (h:Xc b rva size=some x): ∀ f∈x.2.1,Zfb f:=by
 unfold Xc at h;split at h
 ·simp only[Option.some.injEq] at h; subst h; exact fun f hf=>by simp at hf
 ·split at h
  ·cases h
  ·split at h
   ·cases h
   ·rename_i f hf;split at h
    ·cases h
    ·simp only[Option.some.injEq] at h;subst h;exact Zb2 hb _ _ _ _ hf (fun f hf=>by simp at hf)
theorem Zlm {b:List Nat} {x:Ds} {v:Jf} (hb:Lb b) (h:Zda b x=some v):Lb v.dll/\v.dll.length<=1000:=by
 unfold Zda at h;split at h
 ·cases h
 ·rename_i t ht;obtain⟨h1,h2⟩:=Qr hb ht;split at h
  ·split at h
   ·cases h
   ·split at h
    ·cases h
    ·simp only[Option.some.injEq] at h;subst h;exact⟨h1,by simp only; omega⟩
  ·cases h
theorem Zb3 {b:List Nat} {n:Nat} {rd:List Nat->Nat->Ds} (hb:Lb b): ∀(k o:Nat) (acc l:List Jf),WE b n rd k o acc=some l->(∀ v∈acc,Lb v.dll/\v.dll.length<=1000)-> ∀ v∈l,Lb v.dll/\v.dll.length<=1000
 | 0,_,acc,l,h,_=>by simp[WE] at h
 | k+1,o,acc,l,h,ha=>by
   simp only[WE] at h;split at h
   ·simp only[Option.some.injEq] at h; subst h; exact ha
   ·split at h
    ·split at h
     ·cases h
     ·rename_i v hv;refine Zb3 hb k _ _ l h fun u hu=> ?_;rcases List.mem_append.1 hu with q|q
      ·exact ha u q
      ·rw[List.mem_singleton.1 q]; exact Zlm hb hv
    ·cases h
theorem Zgq {b:List Nat} {rva n:Nat} {rd:List Nat->Nat->Ds} {l:List Jf} (hb:Lb b) (h:ZU b rva n rd=some l): ∀ v∈l,Lb v.dll/\v.dll.length<=1000:=by
 unfold ZU at h;split at h
 ·simp only[Option.some.injEq] at h; subst h; exact fun v hv=>by simp at hv
 ·exact Zb3 hb _ _ _ _ h (fun v hv=>by simp at hv)
theorem Zln {n:Nat} {f:Nat->Int} (dF:Zm f):Qn (Ux n f).2:=by
 have hz:Qn dZ:=⟨fun v hv=>by simp[dZ] at hv,fun v hv=>by simp[dZ] at hv,by simp[dZ],by simp[dZ]⟩;by_cases hE:ZI n f=0
 ·by_cases h2:Zdz n f=0
  ·rw[Uy hE h2];have hb:Lb (Xj (peN n f) (peI n f)):=WB (Zjb _ _ _ _ _ dF);refine⟨?_,?_,?_,?_⟩
   ·intro v hv;rcases hx:peJ n f with _|l
    ·simp[VV,hx] at hv
    ·simp only[VV,hx,Option.getD_some] at hv;exact Zgq hb hx v hv
   ·intro v hv;rcases hx:peX n f with _|l
    ·simp[VV,hx] at hv
    ·simp only[VV,hx,Option.getD_some] at hv;exact Zio hb hx v hv
   ·rcases hx:peJ n f with _|l
    ·simp[VV,hx]
    ·simp only[VV,hx,Option.getD_some];have:=(UD hx).1;omega
   ·rcases hx:peX n f with _|l
    ·simp[VV,hx]
    ·simp only[VV,hx,Option.getD_some];have:=(QN hx).1;omega
  ·rw[JF hE h2]; exact hz
 ·rw[Vf hE]; exact hz
def byt (S:ByteArray):List Nat:=S.data.toList.map UInt8.toNat
theorem Qs (S:ByteArray):Lb (byt S):=by
 intro v hv;obtain⟨x,_,rfl⟩:=List.mem_map.mp hv;have:=x.toNat_lt;omega
theorem Wy (S:ByteArray):(byt S).length=S.size:=by
 unfold byt;rw[List.length_map,Array.length_toList]; rfl
theorem Zal (S:ByteArray):txt (byt S)=S:=by
 have h:=XX (Qs S);have h2:(byt S).map UInt8.ofNat=S.data.toList:=by
  unfold byt;rw[List.map_map];have:(UInt8.ofNat ∘ UInt8.toNat)=id:=by funext x; simp
  rw[this,List.map_id]
 rw[h2,ByteArray.toList_eq] at h;exact ByteArray.ext (Array.toList_inj.mp h)
def Zip (w:World) (F:Option Addr) (n:Nat) (Sx:Nat->ByteArray):Prop:=n=0\/ ∃ b off,F=some ⟨b,off,none⟩/\b<w.heap.size/\ ∀ i,i<n->w.cell? ⟨b,off+i,none⟩=some (.string (Sx i))
theorem Zip.below {w w':World} {F:Option Addr} {n:Nat} {Sx:Nat->ByteArray} (h:Zip w F n Sx) (hb:Below w.heap.size w w'):Zip w' F n Sx:=by
 rcases h with h|⟨b,off,hF,af,hc⟩
 ·exact .inl h
 ·exact .inr ⟨b,off,hF,Nat.lt_of_lt_of_le af hb.size,fun i hi=>(hb.cell (p:=⟨b,off+i,none⟩) af).trans (hc i hi)⟩
def UH (n:Nat) (Sx:Nat->ByteArray):List (List Nat):=(List.range (min n 12)).map fun i=>byt (Sx i)
theorem Zam (n:Nat) (Sx:Nat->ByteArray):min n 12=(UH n Sx).length:=by simp[UH]
theorem Zip.fst {w:World} {F:Option Addr} {n:Nat} {Sx:Nat->ByteArray} (h:Zip w F n Sx):SlT sC 1 w F (UH n Sx):=by
 rcases h with h|⟨b,off,hF,af,hc⟩
 ·subst h; exact .inl (by simp[UH])
 ·refine .inr ⟨b,off,hF,af,fun i hi j u hu=> ?_⟩;have ef:i<min n 12:=by rw[Zam n Sx]; exact hi
  rcases j with _|j
  ·simp[sC,UH,Zal] at hu;subst hu;have:=hc i (by omega);simpa using this
  ·simp[sC] at hu
theorem Ziq {n:Nat} {Sx:Nat->ByteArray} (h: ∀ j,j<12->j<n->(Sx j).size<=100): ∀ s∈UH n Sx,TxOk s:=by
 intro s hs;obtain⟨i,hi,rfl⟩:=List.mem_map.mp hs;have ef:i<min n 12:=by simpa using hi
 exact⟨Qs _,by rw[Wy]; have:=h i (by omega) (by omega); omega⟩
theorem Zir (w:World):Src Tryz.prog 1 25 (.slice (some ⟨w.heap.size,0,none⟩) 1 1) 1 (Zs 1 (lF [0])) (w.alloc (.cells #[.int .u8 0] 5)) :=
 Wp (.inr ⟨w.heap.size,0,rfl,by simp,fun i hi=>by
  obtain rfl:i=0:=by omega
  simp[go_sem,lF]⟩)
def bX (x:ByteArray × Int):List Value:=[.string x.1,.int .i64 x.2]
theorem Zis {w:World} {L:Option Addr} {l:List (ByteArray × Int)} (h:SlT bX 2 w L l) {i:Nat} (hi:i<l.length): ∃ b off,L=some ⟨b,off,none⟩/\b<w.heap.size/\w.cell? ⟨b,off+i * 2,none⟩=some (.string l[i].1)/\w.cell? ⟨b,off+i * 2+1,none⟩=some (.int .i64 l[i].2):=by
 rcases h with h|⟨b,off,rfl,af,hc⟩
 ·rw[h] at hi; simp at hi
 ·exact⟨b,off,rfl,af,by have:=hc i hi 0 _ (by simp[bX]; rfl); simpa using this,by have:=hc i hi 1 _ (by simp[bX]; rfl); rwa [<-Nat.add_assoc] at this⟩
theorem at9w (st:Nat) (aQ:st<=400000) (A:Option Addr) (l:List (ByteArray × Int)) (cap:Nat) (w:World) (hl:SlT bX 2 w A l) (oq:l.length<=34) (hx: ∀ x∈l,x.1.size<=60) :
 Calls Tryz.prog 32 #[.int .i64 st,.slice A l.length cap,.slice none 0 0] w fun e u=> ∃ g c n f,e= .returned (.slice (some ⟨g,0,none⟩) n c)/\st<=n/\n<=st+4000/\YA u w.heap.size g n c f/\Below w.heap.size w u:=by
 have cM:=Zg (fun W (hW:Below w.heap.size w W)=>hl.below hW);have HX:=Zg hx;obtain⟨N,hN⟩: ∃ N,l.length=N:=⟨_,rfl⟩;rw[hN] at oq ⊢;have zq:min (N:Int) 34=(N:Int):=by omega
 obtain⟨q8,Cb⟩: ∃ q,8 * N=q:=⟨_,rfl⟩;obtain⟨z1,bw⟩: ∃ z,st+q8=z:=⟨_,rfl⟩;obtain⟨Z,hZ⟩: ∃ z,z1+8=z:=⟨_,rfl⟩;have e0:8 * (N:Int)=(q8:Int):=by omega
 have e1:(st:Int)+(q8:Int)=(z1:Int):=by omega
 have e2:(z1:Int)+8=(Z:Int):=by omega
 have wq:IntKind.i64.wrap (q8:Int)=(q8:Int):=by rw[IntKind.wrap_i64]; omega
 have LQ:IntKind.i64.wrap (z1:Int)=(z1:Int):=by rw[IntKind.wrap_i64]; omega
 have wz:IntKind.i64.wrap (Z:Int)=(Z:Int):=by rw[IntKind.wrap_i64]; omega
 have HQ:=Zg (show Z=st+8 * N+8 by omega);have HN:=Zg (And.intro hN (And.intro oq aQ));clear hl hx Cb bw hZ hN oq aQ;go_enter Tryz.func32,Tryz.ntmps32;go_wp2_with (at_make; refine Yk _ rfl (.tmp 20) (.tmp 20) 25 rfl 5 (.int .u8 0) 1 (by kernel_rfl) (by kernel_rfl) rfl .i64 .i64 Z (by simp[Act.eval,Act.put]) (by simp[Act.eval,Act.put]) (by have:=HQ.out; have:=HN.out; omega) (by have:=HQ.out; have:=HN.out; omega) ?_; intro w1 ao cG)
 have HO:=Zg (YG.noughts (base:=w.heap.size) cG (Nat.le_refl _) (by have:=HQ.out; have:=HN.out; omega));have HB:=Zg ao;clear ao cG e0 e1 e2 wq LQ wz;go_loopw [8,9] (fun v8 v9 wr=> ∃(i g c:Nat) (b:List Nat),i<=N/\v9= .int .i64 i/\v8= .slice (some ⟨g,0,none⟩) b.length c/\YG wr w.heap.size g c b/\Z<=b.length/\b.length<=Z+61 * i/\Below w.heap.size w wr) (fun _ v9 _=>N - (intOf v9).toNat)
 case atStart=>exact⟨0,w.heap.size,Z,_,Nat.zero_le _,rfl,by rw[List.length_replicate],HO.out,by rw[List.length_replicate]; exact Nat.le_refl _,by rw[List.length_replicate]; omega,HB.out⟩
 case round =>
  obtain⟨i,g,c,b,hi,rfl,rfl,ae,s9,zu,aq⟩:=hrel;replace HO:=Zg ae;have aw:=Zg aq;clear ae aq HB;have nt:=HN.out;have Hk:=HQ.out;by_cases af:i<N
  ·have mJ:i<l.length:=by omega
   obtain⟨bl,off,rfl,gd,q0,q1⟩:=Zis (cM.out wr aw.out) mJ;have En:=HX.out _ (List.getElem_mem mJ);generalize Hl:l[i]=x at *;obtain⟨xs,xn⟩:=x;simp only at q0 q1 En;have LR:=Zg Hl;have LS:=Zg En;obtain⟨q,hq⟩: ∃ q,8 * i=q:=⟨_,rfl⟩;obtain⟨o1,cG⟩: ∃ o,st+q=o:=⟨_,rfl⟩;obtain⟨s4,lW⟩: ∃ o,st+4=o:=⟨_,rfl⟩;obtain⟨s6,jo⟩: ∃ o,st+6=o:=⟨_,rfl⟩;obtain⟨o2,dJ⟩: ∃ o,s4+q=o:=⟨_,rfl⟩;obtain⟨o3,j3⟩: ∃ o,s6+q=o:=⟨_,rfl⟩;have e8:8 * (i:Int)=(q:Int):=by omega
   have e1:(st:Int)+(q:Int)=(o1:Int):=by omega
   have e4:(st:Int)+4=(s4:Int):=by omega
   have e6:(st:Int)+6=(s6:Int):=by omega
   have e2:(s4:Int)+(q:Int)=(o2:Int):=by omega
   have e3:(s6:Int)+(q:Int)=(o3:Int):=by omega
   have w8:IntKind.i64.wrap (q:Int)=(q:Int):=by rw[IntKind.wrap_i64]; omega
   have w1:IntKind.i64.wrap (o1:Int)=(o1:Int):=by rw[IntKind.wrap_i64]; omega
   have w4:IntKind.i64.wrap (s4:Int)=(s4:Int):=by rw[IntKind.wrap_i64]; omega
   have w6:IntKind.i64.wrap (s6:Int)=(s6:Int):=by rw[IntKind.wrap_i64]; omega
   have w2:IntKind.i64.wrap (o2:Int)=(o2:Int):=by rw[IntKind.wrap_i64]; omega
   have w3:IntKind.i64.wrap (o3:Int)=(o3:Int):=by rw[IntKind.wrap_i64]; omega
   obtain⟨V,hV⟩: ∃ V:Nat,(xn % 18446744073709551616)=V:=⟨(xn % 18446744073709551616).toNat,by omega⟩;have wx:IntKind.u64.wrap xn=(V:Int):=by rw[IntKind.wrap_u64]; exact hV
   have Hm:V<=18446744073709551615:=by omega
   obtain⟨ln,ow⟩: ∃ ln,b.length - st=ln:=⟨_,rfl⟩;have LU:(b.length:Int) - (st:Int)=(ln:Int):=by omega
   have Ph:IntKind.u64.wrap (ln:Int)=(ln:Int):=by rw[IntKind.wrap_u64]; omega
   have LV:IntKind.i64.wrap (ln:Int)=(ln:Int):=by rw[IntKind.wrap_i64]; omega
   have Hn:=Zp (b:=b) (o:=o1) (n:=4) (by omega) V;have rT:=JH HO.out.lb o1 4 V;have lU:=Zg (fun W=>VW b o1 4 V W HO.out.lb (by omega) (by omega) (by omega) (by omega) Hm);obtain⟨b1,az⟩: ∃ r,ZW b o1 4 V=r:=⟨_,rfl⟩;rw[az] at Hn rT lU;have Ho:=Zp (b:=b1) (o:=o2) (n:=2) (by omega) ln;have rU:=JH rT o2 2 ln;have tm:=Zg (fun W=>VW b1 o2 2 ln W rT (by omega) (by omega) (by omega) (by omega) (by omega));obtain⟨b2,aC⟩: ∃ r,ZW b1 o2 2 ln=r:=⟨_,rfl⟩;rw[aC] at Ho rU tm;have Hp:=Zp (b:=b2) (o:=o3) (n:=2) (by omega) 0;have rV:=JH rU o3 2 0;have tG:=Zg (fun W=>VW b2 o3 2 0 W rU (by omega) (by omega) (by omega) (by omega) (by omega));obtain⟨b3,bJ⟩: ∃ r,ZW b2 o3 2 0=r:=⟨_,rfl⟩;rw[bJ] at Hp rV tG;have dY:=Zg (show b3.length=b.length by omega);have LW:=Zg rV;have Hq:=Zg (fun W=>JI W b3 rV (by omega));have rW:=Zg (show b.length<=500000/\Z<=b.length/\b.length<=Z+61 * i/\i<N from by omega);clear hq cG lW jo dJ j3 hV Hm ow Hn rT az Ho rU aC Hp rV bJ s9 zu Hl hi En nt Hk;go_upto_region 6 with(fail)
   have zr:=Zg (fun W (hW:Below wr.heap.size wr W)=>show(convert 25 9 (.slice (some ⟨g,0,none⟩) b.length c)).run Tryz.prog W= .ok (.string (txt b)) W from YL (cap:=c) (HO.out.below hW).row);have gM:=Zg (fun W (hW:Below wr.heap.size wr W)=>(hW.cell (p:=⟨bl,off+i * 2+1,none⟩) gd).trans q1);have HS:=Zg (show Below wr.heap.size wr wr.drew from(Below.refl _ _).drew);refine wp_region_noPanic ?_;refine Zt (fun W=>Below wr.heap.size wr W) (fun _=>True) 99 (by kernel_rfl) ?_;refine wU (i:=0) HS.out ?_;refine wU (i:=1) HS.out ?_ (hy:=by refine Or.inl ⟨by rfl,?_⟩; intro W aL; have hq:=zr.out W aL; clear aL; go_simp; try with_reducible rfl);refine wU (i:=2) HS.out ?_;refine wU (i:=3) HS.out ?_;refine wU (i:=4) HS.out ?_;refine wU (i:=5) HS.out ?_;refine wU (i:=6) HS.out ?_;refine wU (i:=7) HS.out ?_;refine wU (i:=8) HS.out ?_;refine wU (i:=9) HS.out ?_;refine wU (i:=10) HS.out ?_ (hy:=by refine Or.inl ⟨by rfl,?_⟩; intro W aL; have hq:=gM.out W aL; clear aL; go_simp; try with_reducible rfl);refine wU (i:=11) HS.out ?_;refine wO (i:=12) (fun K hK=> ?_);go_simp;go_at_call 78;refine(lU.out _).mono ?_;rintro e w2 ⟨rfl,aR⟩;have aF:=Zg (HS.out.trans (aR.mono HS.out.size));clear aR;refine hK.out _ _ aF.out (fun _=>trivial) ?_;clear hK K;try simp only[Act.put,Zd,Ze,Zf]
   refine wU (i:=13) aF.out ?_;refine wU (i:=14) aF.out ?_;refine wU (i:=15) aF.out ?_;refine wU (i:=16) aF.out ?_;refine wU (i:=17) aF.out ?_;refine Zo (by kernel_rfl) ?_ _;refine NoPanic.normal ?_;replace aw:=Zg (aw.out.trans (aF.out.mono aw.out.size));clear zr gM HS aF lU q1 q0 gd;go_wp2_with fail
   refine(tm.out _).mono ?_;rintro e Pj ⟨rfl,dn⟩;replace aw:=Zg (aw.out.trans (dn.mono aw.out.size));clear dn tm;have g0:decide ((i:Int)<0)=false:=decide_eq_false (by omega);go_wp2_with fail
   refine(tG.out _).mono ?_;rintro e LY ⟨rfl,cX⟩;replace aw:=Zg (aw.out.trans (cX.mono aw.out.size));clear cX tG;obtain⟨C,w5,dI,Hs,pB⟩:=Hq.out LY;have LX:=Zg (Hs.weaken (base':=w.heap.size) aw.out.size);have pA:=Zg (aw.out.trans (pB.mono aw.out.size));obtain⟨Pk,mw,Ep,L7,xU,L8⟩:=Zis (cM.out w5 pA.out) (show i<l.length by have:=rW.out; have:=HN.out.1; omega);injection Ep with Ep;injection Ep with Er hAe2;subst Er hAe2;rw[LR.out] at xU;simp only at xU;have vw:=Zg (fun W=>by have h:=Wz (w:=W) (byt xs) (Qs xs); rw[Zal,Wy] at h; exact h);have vx:=LS.out;clear Hs pB L8 Hq;go_wp2_with (first
    | (at_builtin; refine YJ rfl (.tmp 80) (.tmp 85) 9 rfl (.string xs) LX.out rfl (Wy xs).symm (vw.out _) (Qs xs) (by have:=dY.out; have:=rW.out; omega) pA.out.size rfl rfl ?_; intro g5 aG w6 ag gB; have cx:=Zg ag; have bp:=Zg gB; clear ag gB)
    | (at_builtin; refine YJ rfl (.tmp 86) (.tmp 87) 25 rfl (.slice (some ⟨w6.heap.size,0,none⟩) 1 1) (cx.out.alloc _) (by rw[List.length_append,Wy]) (show 1=[0].length from rfl) (Zir w6) (fun v hv=>by simp at hv; omega) (by have:=dY.out; have:=rW.out; omega) (Nat.le_trans (Nat.le_trans pA.out.size bp.out.size) (by simp)) rfl rfl ?_; intro g6 Eo w7 gD gE; have dk:=Zg gD; have cU:=Zg gE; clear gD gE)
    | fail)
   go_roundw
   case rel =>
    have tH:=pA.out.trans bp.out;have hlen:(b3++byt xs++[0]).length=b3.length+xs.size+1:=by simp only[List.length_append,List.length_singleton,Wy]
    have h1:=dY.out;have h2:=rW.out;exact⟨i+1,g6,Eo,b3++byt xs++[0],by omega,by go_num,by rw[hlen],dk.out,by rw[hlen]; omega,by rw[hlen]; omega,(tH.alloc tH.size _).trans cU.out⟩
   case measure=>have:=rW.out; simp[intOf]; omega
  ·obtain rfl:i=N:=by omega
   have p7:=Zg (show st<=b.length/\b.length<=st+4000 from by omega);clear s9 zu nt Hk;go_wp2_with fail
   go_ret;exact⟨g,c,b.length,lF b,rfl,p7.out.1,p7.out.2,⟨HO.out.le,HO.out.lt,HO.out.row,HO.out.lb.b255,HO.out.len,HO.out.most,HO.out.wr⟩,aw.out⟩
end Go.Proofs.YtplgdpjbkdagfaaGreat
