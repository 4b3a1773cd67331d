import Derived.Test.YtplgdpjbkdagfaaGreatZFold
import Derived.BigRegion
import Derived.Deep.Cut
import Derived.ChangeAlike
namespace Go.Proofs.YtplgdpjbkdagfaaGreat
set_option maxHeartbeats 8000000
open Lib renaming hid→Zg
set_option maxRecDepth 100000
open Go.ChangeShapes Go.WideShapes Go.ChangeAt Go.RowKit
set_option linter.unusedVariables false
set_option linter.unusedSimpArgs false
theorem Wt (T:ByteArray) (p:Nat) (hp:p<T.size) (h1:PlainAid.bt T p=46) (h2: ∀ j,p<j->j<T.size->PlainAid.bt T j≠46):Lib.lastIndexByte T 46=p:=by
 have e: ∀ j,j<T.size->((T.data[j]!).toNat:Int)=PlainAid.bt T j:=by
  intro j hj;have tO:j<T.data.size:=hj;unfold PlainAid.bt;rw[dif_pos hj,getElem!_pos T.data j tO];rfl
 rcases Lib.lastIdx_spec T 46 T.size with⟨_,h⟩|⟨i,hi,ho,hc,hn⟩
 ·exact absurd ((e p hp).trans h1) (h p hp)
 ·have D6:i=p:=by
   rcases Nat.lt_trichotomy i p with h|h|h
   ·exact absurd ((e p hp).trans h1) (hn p h hp)
   ·exact h
   ·exact absurd ((e i hi).symm.trans hc) (h2 i h hi)
  rw[<-D6];exact ho
theorem Zd7 (T:ByteArray) (h: ¬ Vv T):Lib.lastIndexByte T 46= -1:=by
 rcases Lib.lastIdx_spec T 46 T.size with⟨ho,_⟩|⟨i,hi,ho,hc,hn⟩
 ·exact ho
 ·refine absurd ⟨i,hi,?_⟩ h;have tO:i<T.data.size:=hi;unfold PlainAid.bt;rw[dif_pos hi];rw[getElem!_pos T.data i tO] at hc;exact hc
theorem Vi (T:ByteArray) (w:World) (hs:T.size<=140737488355400):Calls Tryz.prog 87 #[.string T,.int .u8 46] w fun e w'=>e= .returned (.int .i64 (Lib.lastIndexByte T 46))/\w=w' :=
 (Tryz.strings_LastIndexByte T 46 (by omega) w).mono fun _ _ ⟨h1,h2⟩=>⟨h1,h2.symm⟩
theorem cut_no (T:ByteArray) (w:World) (h:T.size=0\/PlainAid.bt T 0≠35):Calls Tryz.prog 126 #[.string T,.string ⟨#[35]⟩] w fun e w'=>e= .returned (.tuple #[.string T,.bool false])/\w=w':=by
 have hp:Lib.hasPrefix T.data.toList [35]=false:=by
  unfold Lib.hasPrefix;cases hl:T.data.toList with
  | nil=>rfl
  | cons c l =>
    have aT:0<T.size:=by
     have:T.data.toList.length=T.size:=by simp
     rw[hl] at this; simp at this; omega
    have hg:T.data.toList[0]? =some c:=by rw[hl]; rfl
    have bK:c≠35:=by
     rintro rfl;rcases h with h|h
     ·omega
     ·exact h ((Zhs T 0 35 aT).2 hg)
    simp[List.isPrefixOf];exact fun e=>bK e.symm
 refine(Tryz.strings_CutPrefix T ⟨#[35]⟩ w).mono fun e w' ⟨h1,h2⟩=>⟨?_,h2.symm⟩;rw[h1];show Ending.returned (.tuple #[.string ⟨(Lib.trimPrefix T.data.toList [35]).toArray⟩,.bool (Lib.hasPrefix T.data.toList [35])])=_
 unfold Lib.trimPrefix;rw[hp];simp
theorem Zd8 (R:ByteArray) (w:World) (h:Um R) :
 Calls Tryz.prog 89 #[.string R] w fun e w'=>e= .returned (.tuple #[.agg #[.string R,.int .i64 0,.bool false],.bool true])/\Below w.heap.size w w':=by
 go_enter Tryz.func89,Tryz.ntmps89;go_wp2_with (go_at_call 125; refine(Zbg R _ h).mono ?_; rintro e w' ⟨rfl,rfl⟩)
 exact bodyPost_ret (v:= .tuple #[.agg #[.string R,.int .i64 0,.bool false],.bool true]) (by simp[results,Tryz.results89,go_sem]) rfl ⟨rfl,by go_grown⟩
theorem Zd9 (R:ByteArray) (w:World) (hs:R.size<=140737488355400) (h: ¬ Um R) (h0:R.size=0\/PlainAid.bt R 0≠35) :
 Calls Tryz.prog 89 #[.string R] w fun e w'=>e= .returned (.tuple #[.agg #[.string ByteArray.empty,.int .i64 0,.bool false],.bool false])/\Below w.heap.size w w':=by
 go_enter Tryz.func89,Tryz.ntmps89;have H0:=Zg h0;clear h0;go_wp2_with fail
 refine(UZ R _ (by omega) h).mono ?_;rintro e w' ⟨rfl,rfl⟩;go_wp2_with fail
 refine(cut_no R _ H0.out).mono ?_;rintro e w' ⟨rfl,rfl⟩;go_wp2
 exact bodyPost_ret (v:= .tuple #[.agg #[.string ByteArray.empty,.int .i64 0,.bool false],.bool false]) (by simp[results,Tryz.results89,go_sem]; rfl) rfl ⟨rfl,by go_grown⟩
theorem QD (T:ByteArray) (w:World) (hs:T.size<=140737488355400) (h: ¬ Vv T\/ ∃ p,p<T.size/\PlainAid.bt T p=46/\(∀ j,p<j->j<T.size->PlainAid.bt T j≠46)/\ ¬ WD (ZB (PlainAid.bt T) 0 p)) :
 Calls Tryz.prog 35 #[.string T] w fun e w'=>e= .returned (.tuple #[.string ByteArray.empty,.agg #[.string ByteArray.empty,.int .i64 0,.bool false],.bool false])/\Below w.heap.size w w':=by
 by_cases hd:Vv T
 ·obtain⟨p,hp,h1,h2,h3⟩:=h.resolve_left (fun hn=>hn hd);have ck:=Wt T p hp h1 h2;have hx:=Yq T 0 p (by omega);rw[Nat.zero_add] at hx;have CO: ¬ WD (T.extract 0 p):=by rw[hx]; exact h3
  have hz:(T.extract 0 p).size<=140737488355400:=by rw[ByteArray.size_extract]; omega
  have d0:(0:Int)<=p:=by omega
  have d1: ¬ (p:Int)<0:=by omega
  have d2:(p:Int)<=T.size:=by omega
  clear h1 h2 h h3 hx hd;go_enter Tryz.func35,Tryz.ntmps35;go_wp2_with fail
  refine(Vi T _ hs).mono ?_;rintro e w' ⟨rfl,rfl⟩;rw[ck];clear ck;go_wp2_with fail
  refine(ok_no (T.extract 0 p) _ (by omega) CO).mono ?_;rintro e w' ⟨rfl,rfl⟩;go_wp2
  exact bodyPost_ret (v:= .tuple #[.string ByteArray.empty,.agg #[.string ByteArray.empty,.int .i64 0,.bool false],.bool false]) (by simp[results,Tryz.results35,go_sem]; rfl) rfl ⟨rfl,by go_grown⟩
 ·have ck:=Zd7 T hd;clear h hd;go_enter Tryz.func35,Tryz.ntmps35;go_wp2_with fail
  refine(Vi T _ hs).mono ?_;rintro e w' ⟨rfl,rfl⟩;rw[ck];clear ck;go_wp2
  exact bodyPost_ret (v:= .tuple #[.string ByteArray.empty,.agg #[.string ByteArray.empty,.int .i64 0,.bool false],.bool false]) (by simp[results,Tryz.results35,go_sem]; rfl) rfl ⟨rfl,by go_grown⟩
structure UB (T D R:ByteArray) (p:Nat):Prop where
 lt:p<T.size
 dot:PlainAid.bt T p=46
 last: ∀ j,p<j->j<T.size->PlainAid.bt T j≠46
 ahead:T.extract 0 p=D
 behind:T.extract (p+1) T.size=R
theorem Zcq (T D R:ByteArray) (p:Nat) (w:World) (hs:T.size<=140737488355400) (h:UB T D R p) (hD:WD D) (hR:Um R) :
 Calls Tryz.prog 35 #[.string T] w fun e w'=>e= .returned (.tuple #[.string D,.agg #[.string R,.int .i64 0,.bool false],.bool true])/\Below w.heap.size w w':=by
 obtain⟨hp,h1,h2,rfl,rfl⟩:=h;have ck:=Wt T p hp h1 h2;have d0:(0:Int)<=p:=by omega
 have d1: ¬ (p:Int)<0:=by omega
 have d2:(p:Int)<=T.size:=by omega
 have d3:(p:Int)+1<=T.size:=by omega
 clear h1 h2;go_enter Tryz.func35,Tryz.ntmps35;go_wp2_with fail
 refine(Vi T _ hs).mono ?_;rintro e w' ⟨rfl,rfl⟩;rw[ck];clear ck;go_wp2_with fail
 refine(Zbf _ _ hD).mono ?_;rintro e w' ⟨rfl,rfl⟩;go_wp2_with fail
 refine(Zd8 _ _ hR).mono ?_;rintro e w1 ⟨rfl,az⟩;have HB:=Zg az;have ig:=az.cell (p:=⟨w.heap.size,0,none⟩) (by simp);have fF:=az.cell (p:=⟨w.heap.size,1,none⟩) (by simp);have ij:=az.cell (p:=⟨w.heap.size,2,none⟩) (by simp);have ik:=az.frozen (p:=⟨w.heap.size,0,none⟩) (by simp);have il:=az.frozen (p:=⟨w.heap.size,1,none⟩) (by simp);have kH:=az.frozen (p:=⟨w.heap.size,2,none⟩) (by simp);have aT:=az.size;simp at ig fF ij ik il kH aT;clear az;go_wp2_with fail
 obtain⟨W,hW⟩: ∃ W,W=((w1.setCell ⟨w.heap.size,0,none⟩ (.string (T.extract (p+1) T.size))).setCell ⟨w.heap.size,1,none⟩ (.int .i64 0)).setCell ⟨w.heap.size,2,none⟩ (.bool false):=⟨_,rfl⟩;rw[<-hW];have bJ:Below w.heap.size w W:=by
  rw[hW];exact(((((Below.refl w.heap.size w).alloc (Nat.le_refl _) _).trans (HB.out.mono (by simp))).setCell (p:=⟨w.heap.size,0,none⟩) (Nat.le_refl _) _).setCell (p:=⟨w.heap.size,1,none⟩) (Nat.le_refl _) _).setCell (p:=⟨w.heap.size,2,none⟩) (Nat.le_refl _) _
 have k0:W.cell? ⟨w.heap.size,0,none⟩=some (.string (T.extract (p+1) T.size)):=by rw[hW]; simp[ig,go_sem]
 have k1:W.cell? ⟨w.heap.size,1,none⟩=some (.int .i64 0):=by rw[hW]; simp[fF,go_sem]
 have k2:W.cell? ⟨w.heap.size,2,none⟩=some (.bool false):=by rw[hW]; simp[ij,go_sem]
 have g0:W.frozen? ⟨w.heap.size,0,none⟩=false:=by rw[hW]; simp[ik,go_sem]
 have g1:W.frozen? ⟨w.heap.size,1,none⟩=false:=by rw[hW]; simp[il,go_sem]
 have g2:W.frozen? ⟨w.heap.size,2,none⟩=false:=by rw[hW]; simp[kH,go_sem]
 clear ig fF ij ik il kH HB hW;go_region
 go_wp2
 exact bodyPost_ret (v:= .tuple #[.string (T.extract 0 p),.agg #[.string (T.extract (p+1) T.size),.int .i64 0,.bool false],.bool true]) (by simp[results,Tryz.results35,go_sem,k0,k1,k2]) rfl ⟨rfl,by go_grown⟩
theorem UM (T D R:ByteArray) (p:Nat) (w:World) (hs:T.size<=140737488355400) (h:UB T D R p) (hD:WD D) (hR: ¬ Um R) (h0:R.size=0\/PlainAid.bt R 0≠35) :
 Calls Tryz.prog 35 #[.string T] w fun e w'=>e= .returned (.tuple #[.string ByteArray.empty,.agg #[.string ByteArray.empty,.int .i64 0,.bool false],.bool false])/\Below w.heap.size w w':=by
 obtain⟨hp,h1,h2,rfl,rfl⟩:=h;have ck:=Wt T p hp h1 h2;have H0:=Zg h0;have d0:(0:Int)<=p:=by omega
 have d1: ¬ (p:Int)<0:=by omega
 have d2:(p:Int)<=T.size:=by omega
 have d3:(p:Int)+1<=T.size:=by omega
 have hz:(T.extract (p+1) T.size).size<=140737488355400:=by rw[ByteArray.size_extract]; omega
 clear h1 h2 h0;go_enter Tryz.func35,Tryz.ntmps35;go_wp2_with fail
 refine(Vi T _ hs).mono ?_;rintro e w' ⟨rfl,rfl⟩;rw[ck];clear ck;go_wp2_with fail
 refine(Zbf _ _ hD).mono ?_;rintro e w' ⟨rfl,rfl⟩;go_wp2_with fail
 refine(Zd9 _ _ hz hR H0.out).mono ?_;rintro e w1 ⟨rfl,az⟩;have HB:=Zg az;have ig:=az.cell (p:=⟨w.heap.size,0,none⟩) (by simp);have fF:=az.cell (p:=⟨w.heap.size,1,none⟩) (by simp);have ij:=az.cell (p:=⟨w.heap.size,2,none⟩) (by simp);have ik:=az.frozen (p:=⟨w.heap.size,0,none⟩) (by simp);have il:=az.frozen (p:=⟨w.heap.size,1,none⟩) (by simp);have kH:=az.frozen (p:=⟨w.heap.size,2,none⟩) (by simp);simp at ig fF ij ik il kH;clear az;go_upto_region 6 with(fail)
 obtain⟨W,hW⟩: ∃ W,W=((w1.setCell ⟨w.heap.size,0,none⟩ (.string ByteArray.empty)).setCell ⟨w.heap.size,1,none⟩ (.int .i64 0)).setCell ⟨w.heap.size,2,none⟩ (.bool false):=⟨_,rfl⟩;rw[<-hW];have bJ:Below w.heap.size w W:=by
  rw[hW];exact(((((Below.refl w.heap.size w).alloc (Nat.le_refl _) _).trans (HB.out.mono (by simp))).setCell (p:=⟨w.heap.size,0,none⟩) (Nat.le_refl _) _).setCell (p:=⟨w.heap.size,1,none⟩) (Nat.le_refl _) _).setCell (p:=⟨w.heap.size,2,none⟩) (Nat.le_refl _) _
 have k0:W.cell? ⟨w.heap.size,0,none⟩=some (.string ByteArray.empty):=by rw[hW]; simp[ig,go_sem]
 have k1:W.cell? ⟨w.heap.size,1,none⟩=some (.int .i64 0):=by rw[hW]; simp[fF,go_sem]
 have k2:W.cell? ⟨w.heap.size,2,none⟩=some (.bool false):=by rw[hW]; simp[ij,go_sem]
 have g0:W.frozen? ⟨w.heap.size,0,none⟩=false:=by rw[hW]; simp[ik,go_sem]
 have g1:W.frozen? ⟨w.heap.size,1,none⟩=false:=by rw[hW]; simp[il,go_sem]
 have g2:W.frozen? ⟨w.heap.size,2,none⟩=false:=by rw[hW]; simp[kH,go_sem]
 clear ig fF ij ik il kH HB hW;go_wp2
 exact bodyPost_ret (v:= .tuple #[.string ByteArray.empty,.agg #[.string ByteArray.empty,.int .i64 0,.bool false],.bool false]) (by simp[results,Tryz.results35,go_sem,k0,k1,k2]; rfl) rfl ⟨rfl,by go_grown⟩
theorem cat_data (A B:ByteArray):(A++B).data=A.data++B.data:=by simp
theorem bt_list (S:ByteArray) (i:Nat):PlainAid.bt S i=((S.data.toList[i]?.map fun c=>(c.toNat:Int)).getD 0):=by
 unfold PlainAid.bt;by_cases h:i<S.size
 ·have h2:i<S.data.size:=h;rw[dif_pos h,Array.getElem?_toList,Array.getElem?_eq_getElem h2];rfl
 ·have h2:S.data.size<=i:=Nat.le_of_not_lt h;rw[dif_neg h,Array.getElem?_toList,Array.getElem?_eq_none h2];rfl
theorem bt_cat (A B:ByteArray) (i:Nat):PlainAid.bt (A++B) i=if i<A.size then PlainAid.bt A i else PlainAid.bt B (i - A.size):=by
 rw[bt_list,bt_list,bt_list,cat_data,Array.toList_append];have hs:A.data.toList.length=A.size:=by simp
 by_cases h:i<A.size
 ·rw[if_pos h,List.getElem?_append_left (by omega)]
 ·rw[if_neg h,List.getElem?_append_right (by omega),hs]
end Go.Proofs.YtplgdpjbkdagfaaGreat
