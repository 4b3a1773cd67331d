import Derived.Test.YtplgdpjbkdagfaaGreatRefA
import Derived.Test.YtplgdpjbkdagfaaGreatZExpM
import Derived.Deep.Cut
import Derived.Deep.LoopGhost
import Derived.KernelRfl
namespace Go.Proofs.YtplgdpjbkdagfaaGreat
open Lib renaming hid→Zg
set_option maxRecDepth 100000
open Go.ChangeShapes Go.WideShapes Go.ChangeAt Go.RowKit
set_option linter.unusedVariables false
set_option linter.unusedSimpArgs false
theorem WY {f:Nat→Int}: ∀(k:Nat),(∀ i,i<k→48≤f i∧f i≤57)→0≤XW f k∧XW f k<10 ^ k
 | 0,_=>by simp[XW]
 | k+1,h=>by
   have h1:=WY k (fun i hi=>h i (by omega))
   have h2:=h k (by omega)
   rw[Int.pow_succ]
   simp only[XW]
   omega
theorem Zc0 {f:Nat→Int}: ∀(k:Nat),1≤k→(∀ i,i<k→48≤f i∧f i≤57)→(f 0=48→k=1)→ZB f 0 k=Ju (XW f k).toNat
 | 0,h,_,_=>absurd h (by omega)
 | k+1,_,hd,h0=>by
   have h2:=hd k (by omega)
   obtain⟨d,hdd⟩: ∃ d:Nat,f k=48+d:=⟨(f k - 48).toNat,by omega⟩
   have hd10:d<10:=by omega
   have e1:ZB f k 1=Zen d:=by
    apply ByteArray.ext
    apply Array.ext'
    unfold ZB Zen
    rw[strOfNums_data]
    simp only[List.range_one,List.map_cons,List.map_nil]
    congr 1
    rw[Nat.add_zero,hdd]
    congr 1
   by_cases hk:k=0
   ·subst hk
    have e2:(XW f (0+1)).toNat=d:=by simp only[XW]; omega
    rw[e2,WQ hd10,←e1]
   ·have hf0:f 0≠48:=fun q=>by have:=h0 q; omega
    have ih:=Zc0 k (by omega) (fun i hi=>hd i (by omega)) (fun q=>absurd q hf0)
    have hb:=WY k (fun i hi=>hd i (by omega))
    have hlow:1≤XW f k:=by
     have: ∀ j,1≤j→j≤k→1≤XW f j:=by
      intro j
      induction j with
      | zero=>intro h; omega
      | succ j ihj =>
        intro _ hjk
        by_cases hj:j=0
        ·subst hj
         have:=hd 0 (by omega)
         simp only[XW]
         omega
        ·have h3:=ihj (by omega) (by omega)
         have:=hd j (by omega)
         simp only[XW]
         omega
     exact this k (by omega) (Nat.le_refl _)
    have e2:(XW f (k+1)).toNat=(XW f k).toNat * 10+d:=by simp only[XW]; omega
    rw[e2,JU (by omega)]
    rw[show((XW f k).toNat * 10+d) / 10=(XW f k).toNat by omega,show((XW f k).toNat * 10+d) % 10=d by omega,←ih,←e1]
    rw[show ZB f k 1=ZB f (0+k) 1 by rw[Nat.zero_add],WX]
theorem Zjm {t:List Nat} (h:Lb t) (h1:1≤t.length) (hd: ∀ i,i<t.length→48≤lF t i∧lF t i≤57) (n:Nat) (hn:XW (lF t) t.length=n) (h6:n≤65535):((Ju n).toList == (txt t).toList)=XN t:=by
 rw[Bool.eq_iff_iff,beq_iff_eq]
 constructor
 ·intro q
  have q2:Ju n=txt t:=by
   have q3:=congrArg List.toByteArray q
   apply ByteArray.ext
   rw[ByteArray.toList_eq,ByteArray.toList_eq] at q
   exact Array.toList_inj.mp q
  refine(Vz h).1 ⟨by rw[Zm]; exact h1,?_,?_,?_,?_⟩
  ·rw[←q2]; exact QJ (by omega)
  ·intro z
   rw[←q2] at z ⊢
   by_cases n0:n=0
   ·subst n0; rw[WQ (by omega)]; rfl
   ·exact absurd z (Zeo (by omega))
  ·intro i hi
   rw[Zm] at hi
   rw[Yr h hi]
   exact hd i hi
  ·rw[Zm,WP (g:=lF t) t.length (fun i hi=>Yr h hi),hn]
   omega
 ·intro q
  obtain⟨o1,o2,o3,o4,o5⟩:=(Vz h).2 q
  rw[Zm] at o1 o2 o3 o4 o5
  have e:=Zc0 (f:=lF t) t.length h1 hd (fun z=>by
   refine o3 ?_
   rw[Yr h (by omega)]
   exact z)
  rw[hn,Int.toNat_natCast] at e
  rw[←e]
  rfl
theorem JC {t:List Nat} (h: ¬ (1≤t.length∧t.length≤5)):XN t=false:=by
 unfold XN
 rw[Bool.eq_false_iff]
 intro q
 simp only[Bool.and_eq_true,decide_eq_true_eq] at q
 omega
theorem Zbl {t:List Nat} (hb:Lb t) (h:XN t=true): ∀ i,i<t.length→48≤lF t i∧lF t i≤57:=by
 intro i hi
 have:=((Vz hb).2 h).dig i (by rw[Zm]; exact hi)
 rwa [Yr hb hi] at this
set_option maxRecDepth 100000 in
set_option maxHeartbeats 1000000 in
theorem Zbm (t:List Nat) (w:World) (h:Lb t) (hl:t.length≤1000000) :
 Calls Tryz.prog 98 #[.string (txt t),.int .i64 65535] w fun e w'=>(∃ N,e= .returned (.tuple #[.int .i64 N,.bool (XN t)]))∧Below w.heap.size w w':=by
 by_cases h0:t.length<1
 ·have d1:=Qs (S:=txt t) (by rw[Zm]; exact h0)
  rw[JC (by omega)]
  generalize txt t=S at *
  go_enter Tryz.func98,Tryz.ntmps98
  go_wp2
  go_ret2
  exact⟨⟨0,rfl⟩,Below.refl _ _⟩
 have d1:=VQ (S:=txt t) (by rw[Zm]; omega)
 have hsz:=Zm t
 have gb0: ∀ i,i<t.length→PlainAid.bt (txt t) i=lF t i:=fun i hi=>Yr h hi
 by_cases h15:15<t.length
 ·rw[JC (by omega)]
  have d2:(15:Int)<(txt t).size:=by omega
  clear gb0
  generalize txt t=S at *
  go_enter Tryz.func98,Tryz.ntmps98
  go_wp2
  go_ret2
  exact⟨⟨0,rfl⟩,Below.refl _ _⟩
 have d2: ¬ (15:Int)<(txt t).size:=by omega
 have hp15: ∀ k,k≤15→(10:Int) ^ k≤1000000000000000:=by
  intro k hk
  rcases(by omega:k=0∨k=1∨k=2∨k=3∨k=4∨k=5∨k=6∨k=7∨k=8∨k=9∨k=10∨k=11∨k=12∨k=13∨k=14∨k=15) with rfl|rfl|rfl|rfl|rfl|rfl|rfl|rfl|rfl|rfl|rfl|rfl|rfl|rfl|rfl|rfl <;> decide
 by_cases hdig: ∀ i,i<t.length→48≤lF t i∧lF t i≤57
 ·obtain⟨n,hn⟩: ∃ n:Nat,XW (lF t) t.length=n:=⟨(XW (lF t) t.length).toNat,by have:=WY t.length hdig; omega⟩
  have hn2:XW (PlainAid.bt (txt t)) (txt t).size=n:=by rw[hsz,WP (g:=lF t) t.length gb0,hn]
  have HB:=Zg (show n≤65535→((Ju n).toList == (txt t).toList)=XN t from fun q=>Zjm h (by omega) hdig n hn q)
  have HBIG:=Zg (show 65535<n→XN t=false from fun q=>by
   rw[Bool.eq_false_iff]
   intro z
   have:=((Vz h).2 z).num
   rw[hn2] at this
   omega)
  have HD:=Zg (show ∀ i,i<(txt t).size→48≤PlainAid.bt (txt t) i∧PlainAid.bt (txt t) i≤57 from fun i hi=>by rw[gb0 i (by omega)]; exact hdig i (by omega))
  have hn15:(n:Int)<1000000000000000:=by
   have:=WY t.length hdig
   have:=hp15 t.length (by omega)
   omega
  have HV:=Zg (show ∀ k,k≤(txt t).size→0≤XW (PlainAid.bt (txt t)) k∧XW (PlainAid.bt (txt t)) k<1000000000000000 from fun k hk=>by
   have h1:=WY (f:=PlainAid.bt (txt t)) k (fun i hi=>HD.out i (by omega))
   have h2:=hp15 k (by omega)
   omega)
  have HN2:=Zg hn2
  obtain⟨B,hB⟩: ∃ B,XN t=B:=⟨_,rfl⟩
  rw[hB] at HB HBIG ⊢
  have hs15:(txt t).size≤15:=by omega
  have HN15:=Zg hn15
  clear hdig hn hn2 gb0 hp15 hB h hsz hl h0 h15 hn15
  have gb:=PlainAid.get_bt (txt t)
  generalize txt t=S at *
  go_enter Tryz.func98,Tryz.ntmps98
  go_wp2
  go_loop [6,7] (fun v i=> ∃ k:Nat,k≤S.size∧i= .int .i64 k∧v= .int .i64 (XW (PlainAid.bt S) k)) (fun _ i=>S.size - (intOf i).toNat)
  case atStart=>exact⟨0,by omega,rfl,rfl⟩
  case round =>
   obtain⟨k,hk,rfl,rfl⟩:=hrel
   obtain⟨hb0,hb1⟩:=HV.out k hk
   by_cases hlt:k<S.size
   ·obtain⟨hf0,hf1⟩:=HD.out k hlt
    have hnx:XW (PlainAid.bt S) (k+1)=10 * XW (PlainAid.bt S) k+(PlainAid.bt S k - 48):=by show XW (PlainAid.bt S) k * 10+(PlainAid.bt S k - 48)=_; omega
    have HNX:=Zg hnx
    clear hnx
    generalize XW (PlainAid.bt S) k=V at *
    clear HB HBIG HN2 HN15 HV HD hs15
    go_wp2
    go_round
    case rel=>exact⟨k+1,by omega,by go_num,by rw[HNX.out]⟩
    case measure=>simp[intOf]; omega
   ·obtain rfl:k=S.size:=by omega
    rw[HN2.out]
    clear HV HD HN2 hb0 hb1
    by_cases hbig:65535<n
    ·obtain rfl:=HBIG.out hbig
     have d5:(65535:Int)<(n:Int):=by omega
     go_wp2
     go_ret2
     exact⟨⟨0,rfl⟩,Below.refl _ _⟩
    ·have d5: ¬ (65535:Int)<(n:Int):=by omega
     have hq:=HB.out (by omega)
     go_wp2_with fail
     refine(Zdh n _ (by omega)).mono ?_
     rintro e w1 ⟨rfl,hw1⟩
     rcases B with _|_
     ·go_wp2
      go_ret2
      exact⟨⟨0,rfl⟩,hw1⟩
     ·go_wp2
      go_ret2
      exact⟨⟨_,rfl⟩,hw1⟩
 ·obtain⟨z,hz1,hz2,hz3⟩:=Jb (fun i=>48≤lF t i∧lF t i≤57) t.length hdig
  rw[show XN t=false from by
   rw[Bool.eq_false_iff]
   exact fun q=>hdig (Zbl h q)]
  have HD:=Zg (show ∀ i,i<z→48≤PlainAid.bt (txt t) i∧PlainAid.bt (txt t) i≤57 from fun i hi=>by rw[gb0 i (by omega)]; exact hz3 i hi)
  have HZ:=Zg (show ¬ (48≤PlainAid.bt (txt t) z∧PlainAid.bt (txt t) z≤57) from by rw[gb0 z hz1]; exact hz2)
  have HV:=Zg (show ∀ k,k≤z→0≤XW (PlainAid.bt (txt t)) k∧XW (PlainAid.bt (txt t)) k<1000000000000000 from fun k hk=>by
   have h1:=WY (f:=PlainAid.bt (txt t)) k (fun i hi=>HD.out i (by omega))
   have h2:=hp15 k (by omega)
   omega)
  have hs15:(txt t).size≤15:=by omega
  have hzs:z<(txt t).size:=by omega
  clear hdig gb0 hp15 h hsz hl hz2 hz3 hz1 h0 h15
  have gb:=PlainAid.get_bt (txt t)
  generalize txt t=S at *
  go_enter Tryz.func98,Tryz.ntmps98
  go_wp2
  go_loop [6,7] (fun v i=> ∃ k:Nat,k≤z∧i= .int .i64 k∧v= .int .i64 (XW (PlainAid.bt S) k)) (fun _ i=>z - (intOf i).toNat)
  case atStart=>exact⟨0,by omega,rfl,rfl⟩
  case round =>
   obtain⟨k,hk,rfl,rfl⟩:=hrel
   obtain⟨hb0,hb1⟩:=HV.out k hk
   have hks:k<S.size:=by omega
   by_cases hlt:k<z
   ·obtain⟨hf0,hf1⟩:=HD.out k hlt
    have hnx:XW (PlainAid.bt S) (k+1)=10 * XW (PlainAid.bt S) k+(PlainAid.bt S k - 48):=by show XW (PlainAid.bt S) k * 10+(PlainAid.bt S k - 48)=_; omega
    have HNX:=Zg hnx
    clear hnx
    generalize XW (PlainAid.bt S) k=V at *
    go_wp2
    go_round
    case rel=>exact⟨k+1,by omega,by go_num,by rw[HNX.out]⟩
    case measure=>simp[intOf]; omega
   ·obtain rfl:k=z:=by omega
    generalize XW (PlainAid.bt S) k=V at *
    have hz:=HZ.out
    by_cases f1:PlainAid.bt S k<48
    ·go_wp2
     go_ret2
     exact⟨⟨0,rfl⟩,Below.refl _ _⟩
    ·have f2:57<PlainAid.bt S k:=by omega
     clear hz
     go_wp2
     go_ret2
     exact⟨⟨0,rfl⟩,Below.refl _ _⟩
theorem UY {n:Int} {S T:ByteArray} {b:Bool}:(#[.string S,.string T,.int .i64 n,.bool b]:Array Value).all (·.oneCell')=true:=by simp[Value.oneCell']
theorem Vs {x y z u:Value}:(Tryz.prog.info? 125).map (·.size)=some (#[x,y,z,u]:Array Value).size:=by kernel_rfl
set_option maxHeartbeats 2000000 in
theorem Zdw (t:List Nat) (w:World) (h:Lb t) (hl:t.length≤1000000) (p:Nat) (hp:WE t=some p) :
 Calls Tryz.prog 51 #[.string (txt t)] w fun e w' =>
 (∃ D S O B,e= .returned (.tuple #[.agg #[.string D,.string S,.int .i64 O,.bool B],.bool (XO t)]))∧Below w.heap.size w w':=by
 obtain⟨hpl,h46,hafter⟩:=QP hp
 have hspl:XO t=(Zc4 (t.take p)&&(Xx (t.drop (p+1))||((t.drop (p+1)).headD 0 == 35&&XN (t.drop (p+1)).tail))):=by unfold XO; rw[hp]
 have e1:(txt t).extract 0 p=txt (t.take p):=by
  have:=UB h 0 p (by omega)
  rwa [Nat.zero_add,List.drop_zero] at this
 have e2:(txt t).extract (p+1) (txt t).size=txt (t.drop (p+1)):=by
  have:=UB h (p+1) (t.length - (p+1)) (by omega)
  rw[show p+1+(t.length - (p+1))=t.length by omega] at this
  rw[Zm,this,List.take_of_length_le (by simp)]
 have HNM:=Zg (fun W=>Vb (t.take p) W (h.take p) (by rw[List.length_take]; omega))
 have hsz:=Zm t
 have HP:=Zg (show PlainAid.bt (txt t) p=46 from by rw[Yr h hpl]; exact h46)
 have HAF:=Zg (show ∀ j,p<j→j<(txt t).size→(PlainAid.bt (txt t) j == 46)=false from fun j h1 h2=>beq_eq_false_iff_ne.mpr (by rw[Yr h (by omega)]; exact hafter j h1 (by omega)))
 have hrl:(txt (t.drop (p+1))).size=t.length - (p+1):=by rw[Zm,List.length_drop]
 have HRL:=Zg hrl
 have hlb:=h.drop (p+1)
 have HSY:=Zg (fun W=>VR (t.drop (p+1)) W hlb (by rw[List.length_drop]; omega))
 have hlen:t.length - (p+1)=(t.drop (p+1)).length:=by rw[List.length_drop]
 have HSPL:=Zg hspl
 have HE1:=Zg e1
 have HE2:=Zg e2
 have hps:p<(txt t).size:=by omega
 have hs1:(txt t).size≤1000000:=by omega
 have HW0:=Zg (show Below w.heap.size w (w.alloc (.cells #[.string ⟨#[]⟩,.string ⟨#[]⟩,.int .i64 0,.bool false] 125)) from(Below.refl w.heap.size w).alloc (Nat.le_refl _) _)
 have HX0:=Zg (heap_alloc_new w (.cells #[.string ⟨#[]⟩,.string ⟨#[]⟩,.int .i64 0,.bool false] 125))
 obtain⟨R,hR⟩: ∃ R,t.drop (p+1)=R:=⟨_,rfl⟩
 obtain⟨D,hD⟩: ∃ D,t.take p=D:=⟨_,rfl⟩
 rw[hR] at HRL HSY HSPL HE2 hlb hlen
 rw[hD] at HNM HSPL HE1
 obtain⟨L,hL⟩: ∃ L,XO t=L:=⟨_,rfl⟩
 rw[hL] at HSPL ⊢
 have HLT:=Zg (show(txt t).size=p+1+R.length from by omega)
 clear hspl e1 e2 hrl hR hD hL h46 hafter hp h hsz hpl hlen hl
 have gb:=PlainAid.get_bt (txt t)
 generalize txt t=S at *
 go_enter Tryz.func51,Tryz.ntmps51
 generalize hw0:w.alloc (.cells #[.string ⟨#[]⟩,.string ⟨#[]⟩,.int .i64 0,.bool false] 125)=w0 at *
 go_wp2
 go_loop [4] (fun v=> ∃ k:Nat,p≤k∧k<S.size∧v= .int .i64 k) (fun v=>(intOf v).toNat)
 case atStart=>exact⟨S.size - 1,by omega,by omega,by congr 1; omega⟩
 case round =>
  obtain⟨k,hk,hks,rfl⟩:=hrel
  by_cases hlt:p<k
  ·have hf:=HAF.out k hlt hks
   go_wp2
   go_round
   case rel=>exact⟨k - 1,by omega,by omega,by congr 1; omega⟩
   case measure=>simp[intOf]; omega
  ·obtain rfl:k=p:=by omega
   have hf:=HP.out
   have hsl1:(0:Int)≤k:=by omega
   have hw1:IntKind.i64.wrap ((k:Int)+1)=(k:Int)+1:=by rw[IntKind.wrap_i64]; omega
   have hx1:=HE1.out
   have hx2:=HE2.out
   rcases hD:Zc4 D with _|_
   ·have hL:=HSPL.out
    rw[hD] at hL HNM
    simp only[Bool.false_and] at hL
    subst hL
    clear HSPL HSY HE2 hx2 HP HAF
    go_wp2_with fail
    refine(HNM.out _).mono ?_
    rintro e w' ⟨rfl,rfl⟩
    obtain⟨w9,hw9⟩: ∃ w9,w0.setRow w.heap.size #[.string ⟨#[]⟩,.string ⟨#[]⟩,.int .i64 0,.bool false]=w9:=⟨_,rfl⟩
    have HE9:=Zg hw9
    have HR9:=Zg (show w9.heap[w.heap.size]? =some (.cells #[.string ⟨#[]⟩,.string ⟨#[]⟩,.int .i64 0,.bool false] 125 (0,0)) from by rw[←hw9]; exact setRow_heap _ _ _ _ _ _ HX0.out)
    have HB9:=Zg (show Below w.heap.size w w9 from by rw[←hw9]; exact below_setRow HW0.out (Nat.le_refl _) _)
    have k0:w9.cell? ⟨w.heap.size,0,none⟩=some (.string ⟨#[]⟩):=by rw[Zh HR9.out]; rfl
    have k1:w9.cell? ⟨w.heap.size,1,none⟩=some (.string ⟨#[]⟩):=by rw[Zh HR9.out]; rfl
    have k2:w9.cell? ⟨w.heap.size,2,none⟩=some (.int .i64 0):=by rw[Zh HR9.out]; rfl
    have k3:w9.cell? ⟨w.heap.size,3,none⟩=some (.bool false):=by rw[Zh HR9.out]; rfl
    clear hw9
    go_wp2_with (first|(refine wpList_store_row rfl 125 _ _ rfl w.heap.size #[.string ⟨#[]⟩,.string ⟨#[]⟩,.int .i64 0,.bool false] rfl rfl 125 #[.string ⟨#[]⟩,.string ⟨#[]⟩,.int .i64 0,.bool false] HX0.out Vs rfl UY ?_; refine(congrArg _ HE9.out).mpr ?_)|fail)
    refine bodyPost_ret (v:= .tuple #[.agg #[.string ⟨#[]⟩,.string ⟨#[]⟩,.int .i64 0,.bool false],.bool false]) (by simp[results,Tryz.results51,go_sem,k0,k1,k2,k3]) rfl ⟨⟨_,_,_,_,rfl⟩,HB9.out⟩
   ·have hL:=HSPL.out
    rw[hD] at hL HNM
    simp only[Bool.true_and] at hL
    clear HSPL
    rcases R with _|⟨c,r⟩
    ·have hL':L=false:=by rw[hL]; rfl
     subst hL'
     have hlt2:=HLT.out
     simp only[List.length_nil,Nat.add_zero] at hlt2
     have dl:((k:Int) == (S.size:Int) - 1)=true:=by rw[beq_iff_eq]; omega
     clear HSY HE2 hx2 HP HAF hL hlb hlt2
     go_wp2_with fail
     refine(HNM.out _).mono ?_
     rintro e w' ⟨rfl,rfl⟩
     obtain⟨w9,hw9⟩: ∃ w9,w0.setRow w.heap.size #[.string ⟨#[]⟩,.string ⟨#[]⟩,.int .i64 0,.bool false]=w9:=⟨_,rfl⟩
     have HE9:=Zg hw9
     have HR9:=Zg (show w9.heap[w.heap.size]? =some (.cells #[.string ⟨#[]⟩,.string ⟨#[]⟩,.int .i64 0,.bool false] 125 (0,0)) from by rw[←hw9]; exact setRow_heap _ _ _ _ _ _ HX0.out)
     have HB9:=Zg (show Below w.heap.size w w9 from by rw[←hw9]; exact below_setRow HW0.out (Nat.le_refl _) _)
     have k0:w9.cell? ⟨w.heap.size,0,none⟩=some (.string ⟨#[]⟩):=by rw[Zh HR9.out]; rfl
     have k1:w9.cell? ⟨w.heap.size,1,none⟩=some (.string ⟨#[]⟩):=by rw[Zh HR9.out]; rfl
     have k2:w9.cell? ⟨w.heap.size,2,none⟩=some (.int .i64 0):=by rw[Zh HR9.out]; rfl
     have k3:w9.cell? ⟨w.heap.size,3,none⟩=some (.bool false):=by rw[Zh HR9.out]; rfl
     clear hw9
     go_wp2_with (first|(refine wpList_store_row rfl 125 _ _ rfl w.heap.size #[.string ⟨#[]⟩,.string ⟨#[]⟩,.int .i64 0,.bool false] rfl rfl 125 #[.string ⟨#[]⟩,.string ⟨#[]⟩,.int .i64 0,.bool false] HX0.out Vs rfl UY ?_; refine(congrArg _ HE9.out).mpr ?_)|fail)
     refine bodyPost_ret (v:= .tuple #[.agg #[.string ⟨#[]⟩,.string ⟨#[]⟩,.int .i64 0,.bool false],.bool false]) (by simp[results,Tryz.results51,go_sem,k0,k1,k2,k3]) rfl ⟨⟨_,_,_,_,rfl⟩,HB9.out⟩
    ·have hlt2:=HLT.out
     simp only[List.length_cons] at hlt2
     have dl:((k:Int) == (S.size:Int) - 1)=false:=beq_eq_false_iff_ne.mpr (by omega)
     have hb0:PlainAid.bt (txt (c::r)) 0=c:=by rw[Yr hlb (by simp),JZ (by simp)]; rfl
     have hTs:=Zm (c::r)
     rw[List.length_cons] at hTs
     have hlr:Lb r:=fun v hv=>hlb v (List.mem_cons_of_mem _ hv)
     by_cases hc:c=35
     ·subst hc
      have hL':L=XN r:=by rw[hL]; simp[Xx]
      have he1:(txt (35::r)).extract 1 (txt (35::r)).size=txt r:=by
       have:=UB hlb 1 r.length (by rw[List.length_cons]; omega)
       rw[hTs,Nat.add_comm,this]
       simp
      have hnum:=fun W=>Zbm r W hlr (by omega)
      have HNU:=Zg hnum
      have hkl:(k:Int)+1≤S.size:=by omega
      have gT:=PlainAid.get_bt (txt (35::r))
      have hT1:0<(txt (35::r)).size:=by omega
      have hT2:(1:Int)≤(txt (35::r)).size:=by omega
      have db:(PlainAid.bt (txt (35::r)) 0 == 35)=true:=by rw[hb0]; rfl
      clear HSY HP HAF hL hlb hlr hnum hb0 hTs HE2 hlt2
      generalize txt (35::r)=T at *
      generalize XN r=O at *
      subst hL'
      go_wp2_with fail
      refine(HNM.out _).mono ?_
      rintro e w' ⟨rfl,rfl⟩
      go_wp2_with fail
      refine(HNU.out _).mono ?_
      rintro e w1 ⟨⟨N,rfl⟩,hw1⟩
      have HW1:=Zg (HW0.out.trans (hw1.mono HW0.out.size))
      have HX1:=Zg ((hw1.block w.heap.size (Zi HX0.out)).trans HX0.out)
      clear hw1
      rcases L with _|_
      ·obtain⟨w9,hw9⟩: ∃ w9,w1.setRow w.heap.size #[.string ⟨#[]⟩,.string ⟨#[]⟩,.int .i64 0,.bool false]=w9:=⟨_,rfl⟩
       have HE9:=Zg hw9
       have HR9:=Zg (show w9.heap[w.heap.size]? =some (.cells #[.string ⟨#[]⟩,.string ⟨#[]⟩,.int .i64 0,.bool false] 125 (0,0)) from by rw[←hw9]; exact setRow_heap _ _ _ _ _ _ HX1.out)
       have HB9:=Zg (show Below w.heap.size w w9 from by rw[←hw9]; exact below_setRow HW1.out (Nat.le_refl _) _)
       have k0:w9.cell? ⟨w.heap.size,0,none⟩=some (.string ⟨#[]⟩):=by rw[Zh HR9.out]; rfl
       have k1:w9.cell? ⟨w.heap.size,1,none⟩=some (.string ⟨#[]⟩):=by rw[Zh HR9.out]; rfl
       have k2:w9.cell? ⟨w.heap.size,2,none⟩=some (.int .i64 0):=by rw[Zh HR9.out]; rfl
       have k3:w9.cell? ⟨w.heap.size,3,none⟩=some (.bool false):=by rw[Zh HR9.out]; rfl
       clear hw9
       go_wp2_with (first|(refine wpList_store_row rfl 125 _ _ rfl w.heap.size #[.string ⟨#[]⟩,.string ⟨#[]⟩,.int .i64 0,.bool false] rfl rfl 125 #[.string ⟨#[]⟩,.string ⟨#[]⟩,.int .i64 0,.bool false] HX1.out Vs rfl UY ?_; refine(congrArg _ HE9.out).mpr ?_)|fail)
       refine bodyPost_ret (v:= .tuple #[.agg #[.string ⟨#[]⟩,.string ⟨#[]⟩,.int .i64 0,.bool false],.bool false]) (by simp[results,Tryz.results51,go_sem,k0,k1,k2,k3]) rfl ⟨⟨_,_,_,_,rfl⟩,HB9.out⟩
      ·obtain⟨w9,hw9⟩: ∃ w9,w1.setRow w.heap.size #[.string (txt D),.string ⟨#[]⟩,.int .i64 N,.bool true]=w9:=⟨_,rfl⟩
       have HE9:=Zg hw9
       have HR9:=Zg (show w9.heap[w.heap.size]? =some (.cells #[.string (txt D),.string ⟨#[]⟩,.int .i64 N,.bool true] 125 (0,0)) from by rw[←hw9]; exact setRow_heap _ _ _ _ _ _ HX1.out)
       have HB9:=Zg (show Below w.heap.size w w9 from by rw[←hw9]; exact below_setRow HW1.out (Nat.le_refl _) _)
       have k0:w9.cell? ⟨w.heap.size,0,none⟩=some (.string (txt D)):=by rw[Zh HR9.out]; rfl
       have k1:w9.cell? ⟨w.heap.size,1,none⟩=some (.string ⟨#[]⟩):=by rw[Zh HR9.out]; rfl
       have k2:w9.cell? ⟨w.heap.size,2,none⟩=some (.int .i64 N):=by rw[Zh HR9.out]; rfl
       have k3:w9.cell? ⟨w.heap.size,3,none⟩=some (.bool true):=by rw[Zh HR9.out]; rfl
       clear hw9
       go_wp2_with (first|(refine wpList_store_row rfl 125 _ _ rfl w.heap.size #[.string (txt D),.string ⟨#[]⟩,.int .i64 N,.bool true] rfl rfl 125 #[.string ⟨#[]⟩,.string ⟨#[]⟩,.int .i64 0,.bool false] HX1.out Vs rfl UY ?_; refine(congrArg _ HE9.out).mpr ?_)|fail)
       refine bodyPost_ret (v:= .tuple #[.agg #[.string (txt D),.string ⟨#[]⟩,.int .i64 N,.bool true],.bool true]) (by simp[results,Tryz.results51,go_sem,k0,k1,k2,k3]) rfl ⟨⟨_,_,_,_,rfl⟩,HB9.out⟩
     ·have hL':L=Xx (c::r):=by rw[hL]; simp[hc]
      have gT:=PlainAid.get_bt (txt (c::r))
      have hT1:0<(txt (c::r)).size:=by omega
      have db:(PlainAid.bt (txt (c::r)) 0 == 35)=false:=by rw[hb0]; exact beq_eq_false_iff_ne.mpr (by omega)
      have hkl:(k:Int)+1≤S.size:=by omega
      clear HP HAF hL hlb hlr hb0 hTs HE2 hlt2
      generalize txt (c::r)=T at *
      generalize Xx (c::r)=O at *
      subst hL'
      go_wp2_with fail
      refine(HNM.out _).mono ?_
      rintro e w' ⟨rfl,rfl⟩
      go_wp2_with fail
      refine(HSY.out _).mono ?_
      rintro e w' ⟨rfl,rfl⟩
      rcases L with _|_
      ·obtain⟨w9,hw9⟩: ∃ w9,w0.setRow w.heap.size #[.string ⟨#[]⟩,.string ⟨#[]⟩,.int .i64 0,.bool false]=w9:=⟨_,rfl⟩
       have HE9:=Zg hw9
       have HR9:=Zg (show w9.heap[w.heap.size]? =some (.cells #[.string ⟨#[]⟩,.string ⟨#[]⟩,.int .i64 0,.bool false] 125 (0,0)) from by rw[←hw9]; exact setRow_heap _ _ _ _ _ _ HX0.out)
       have HB9:=Zg (show Below w.heap.size w w9 from by rw[←hw9]; exact below_setRow HW0.out (Nat.le_refl _) _)
       have k0:w9.cell? ⟨w.heap.size,0,none⟩=some (.string ⟨#[]⟩):=by rw[Zh HR9.out]; rfl
       have k1:w9.cell? ⟨w.heap.size,1,none⟩=some (.string ⟨#[]⟩):=by rw[Zh HR9.out]; rfl
       have k2:w9.cell? ⟨w.heap.size,2,none⟩=some (.int .i64 0):=by rw[Zh HR9.out]; rfl
       have k3:w9.cell? ⟨w.heap.size,3,none⟩=some (.bool false):=by rw[Zh HR9.out]; rfl
       clear hw9
       go_wp2_with (first|(refine wpList_store_row rfl 125 _ _ rfl w.heap.size #[.string ⟨#[]⟩,.string ⟨#[]⟩,.int .i64 0,.bool false] rfl rfl 125 #[.string ⟨#[]⟩,.string ⟨#[]⟩,.int .i64 0,.bool false] HX0.out Vs rfl UY ?_; refine(congrArg _ HE9.out).mpr ?_)|fail)
       refine bodyPost_ret (v:= .tuple #[.agg #[.string ⟨#[]⟩,.string ⟨#[]⟩,.int .i64 0,.bool false],.bool false]) (by simp[results,Tryz.results51,go_sem,k0,k1,k2,k3]) rfl ⟨⟨_,_,_,_,rfl⟩,HB9.out⟩
      ·obtain⟨w9,hw9⟩: ∃ w9,w0.setRow w.heap.size #[.string (txt D),.string T,.int .i64 0,.bool false]=w9:=⟨_,rfl⟩
       have HE9:=Zg hw9
       have HR9:=Zg (show w9.heap[w.heap.size]? =some (.cells #[.string (txt D),.string T,.int .i64 0,.bool false] 125 (0,0)) from by rw[←hw9]; exact setRow_heap _ _ _ _ _ _ HX0.out)
       have HB9:=Zg (show Below w.heap.size w w9 from by rw[←hw9]; exact below_setRow HW0.out (Nat.le_refl _) _)
       have k0:w9.cell? ⟨w.heap.size,0,none⟩=some (.string (txt D)):=by rw[Zh HR9.out]; rfl
       have k1:w9.cell? ⟨w.heap.size,1,none⟩=some (.string T):=by rw[Zh HR9.out]; rfl
       have k2:w9.cell? ⟨w.heap.size,2,none⟩=some (.int .i64 0):=by rw[Zh HR9.out]; rfl
       have k3:w9.cell? ⟨w.heap.size,3,none⟩=some (.bool false):=by rw[Zh HR9.out]; rfl
       clear hw9
       go_wp2_with (first|(refine wpList_store_row rfl 125 _ _ rfl w.heap.size #[.string (txt D),.string T,.int .i64 0,.bool false] rfl rfl 125 #[.string ⟨#[]⟩,.string ⟨#[]⟩,.int .i64 0,.bool false] HX0.out Vs rfl UY ?_; refine(congrArg _ HE9.out).mpr ?_)|fail)
       refine bodyPost_ret (v:= .tuple #[.agg #[.string (txt D),.string T,.int .i64 0,.bool false],.bool true]) (by simp[results,Tryz.results51,go_sem,k0,k1,k2,k3]) rfl ⟨⟨_,_,_,_,rfl⟩,HB9.out⟩
theorem Zac (t:List Nat) (w:World) (h:Lb t) (hl:t.length≤1000000) (hp:WE t=none) :
 Calls Tryz.prog 51 #[.string (txt t)] w fun e w' =>
 (∃ D S O B,e= .returned (.tuple #[.agg #[.string D,.string S,.int .i64 O,.bool B],.bool (XO t)]))∧Below w.heap.size w w':=by
 have hno:=QO hp
 have hspl:XO t=false:=by unfold XO; rw[hp]
 rw[hspl]
 have hsz:=Zm t
 have HAF:=Zg (show ∀ j,j<(txt t).size→(PlainAid.bt (txt t) j == 46)=false from fun j h2=>beq_eq_false_iff_ne.mpr (by rw[Yr h (by omega)]; exact hno j (by omega)))
 have HW0:=Zg (show Below w.heap.size w (w.alloc (.cells #[.string ⟨#[]⟩,.string ⟨#[]⟩,.int .i64 0,.bool false] 125)) from(Below.refl w.heap.size w).alloc (Nat.le_refl _) _)
 have HX0:=Zg (heap_alloc_new w (.cells #[.string ⟨#[]⟩,.string ⟨#[]⟩,.int .i64 0,.bool false] 125))
 have hs1:(txt t).size≤1000000:=by omega
 clear hspl hsz hno hp h hl
 have gb:=PlainAid.get_bt (txt t)
 generalize txt t=S at *
 go_enter Tryz.func51,Tryz.ntmps51
 generalize hw0:w.alloc (.cells #[.string ⟨#[]⟩,.string ⟨#[]⟩,.int .i64 0,.bool false] 125)=w0 at *
 go_wp2
 go_loop [4] (fun v=> ∃ k:Nat,k≤S.size∧v= .int .i64 ((k:Int) - 1)) (fun v=>(intOf v+1).toNat)
 case atStart=>exact⟨S.size,by omega,rfl⟩
 case round =>
  obtain⟨k,hk,rfl⟩:=hrel
  rcases k with _|k
  ·have e0:(((0:Nat):Int) - 1)= -1:=by omega
   rw[e0]
   obtain⟨w9,hw9⟩: ∃ w9,w0.setRow w.heap.size #[.string ⟨#[]⟩,.string ⟨#[]⟩,.int .i64 0,.bool false]=w9:=⟨_,rfl⟩
   have HE9:=Zg hw9
   have HR9:=Zg (show w9.heap[w.heap.size]? =some (.cells #[.string ⟨#[]⟩,.string ⟨#[]⟩,.int .i64 0,.bool false] 125 (0,0)) from by rw[←hw9]; exact setRow_heap _ _ _ _ _ _ HX0.out)
   have HB9:=Zg (show Below w.heap.size w w9 from by rw[←hw9]; exact below_setRow HW0.out (Nat.le_refl _) _)
   have k0:w9.cell? ⟨w.heap.size,0,none⟩=some (.string ⟨#[]⟩):=by rw[Zh HR9.out]; rfl
   have k1:w9.cell? ⟨w.heap.size,1,none⟩=some (.string ⟨#[]⟩):=by rw[Zh HR9.out]; rfl
   have k2:w9.cell? ⟨w.heap.size,2,none⟩=some (.int .i64 0):=by rw[Zh HR9.out]; rfl
   have k3:w9.cell? ⟨w.heap.size,3,none⟩=some (.bool false):=by rw[Zh HR9.out]; rfl
   clear hw9
   go_wp2_with (first|(refine wpList_store_row rfl 125 _ _ rfl w.heap.size #[.string ⟨#[]⟩,.string ⟨#[]⟩,.int .i64 0,.bool false] rfl rfl 125 #[.string ⟨#[]⟩,.string ⟨#[]⟩,.int .i64 0,.bool false] HX0.out Vs rfl UY ?_; refine(congrArg _ HE9.out).mpr ?_)|fail)
   refine bodyPost_ret (v:= .tuple #[.agg #[.string ⟨#[]⟩,.string ⟨#[]⟩,.int .i64 0,.bool false],.bool false]) (by simp[results,Tryz.results51,go_sem,k0,k1,k2,k3]) rfl ?_
   first|exact⟨⟨_,_,_,.inl rfl⟩,HB9.out⟩|exact⟨⟨_,_,_,_,rfl⟩,HB9.out⟩
  ·have e0:(((k+1:Nat):Int) - 1)=(k:Int):=by omega
   rw[e0]
   have hks:k<S.size:=by omega
   have hf:=HAF.out k hks
   go_wp2
   go_round
   case rel=>exact⟨k,by omega,rfl⟩
   case measure=>simp[intOf]
theorem Zdx (t:List Nat) (w:World) (h:Lb t) (hl:t.length≤1000000) :
 Calls Tryz.prog 51 #[.string (txt t)] w fun e w' =>
 (∃ D S O B,e= .returned (.tuple #[.agg #[.string D,.string S,.int .i64 O,.bool B],.bool (XO t)]))∧Below w.heap.size w w':=by
 rcases hp:WE t with _|p
 ·exact Zac t w h hl hp
 ·exact Zdw t w h hl p hp
end Go.Proofs.YtplgdpjbkdagfaaGreat
namespace Go.Proofs.YtplgdpjbkdagfaaGreat
open Lib renaming hid→Zg
set_option maxRecDepth 100000
open Go
def nth:List Value→Nat→Option Value
 | [],_=>none
 | x::_,0=>some x
 | _::l,n+1=>nth l n
theorem Zir: ∀(l:List Value) (k:Nat),k<l.length→nth l k=l[k]?
 | x::_,0,_=>rfl
 | x::l,k+1,h=>by
   show nth l k=_
   rw[Zir l k (by simpa using h)]
   simp
def at_ (l:List Value):List Nat→List (Option Value)
 | []=>[]
 | k::ks=>nth l k::at_ l ks
def sl (a:Act) (k:Nat):Value:=(nth a.tmps.toList k).getD default
theorem Zz (l:List Value) (d:List Deferred) (N:Nat) (h:l.length=N):l=(List.range N).map (sl ⟨⟨l⟩,d⟩):=by
 apply List.ext_getElem
 ·simp[h]
 ·intro i h1 h2
  simp only[List.getElem_map,List.getElem_range]
  show l[i]=(nth l i).getD default
  rw[Zir l i h1,List.getElem?_eq_getElem h1]
  rfl
structure Zdy (N:Nat) (ix:List Nat) (a a':Act):Prop where
 size:a'.tmps.toList.length=N
 dfr:a'.defers=[]
 low:at_ a'.tmps.toList ix=at_ a.tmps.toList ix
theorem Vt {P:Program} {s:Code} {K:Act→World→Prop} {Q':Exit→Act→World→Prop} {a:Act} {w:World} (N:Nat) (ix:List Nat) (R:(Nat→Value)→World→Prop)
 (first: ∀(J K':Act→World→Prop),(∀ a' w',(Zdy N ix a a'∧R (sl a') w')→J a' w')→(∀ a' w',Met J a' w'→K' a' w')→s.wp P (Exit.then K' Q') a w)
 (rest: ∀ a' w',Zdy N ix a a'→R (sl a') w'→K a' w'):s.wp P (Exit.then K Q') a w :=
 wp_cut (fun a' w'=>Zdy N ix a a'∧R (sl a') w') (fun a' w' h=>rest a' w' h.1 h.2) first
theorem UD {P:Program} {Q:Exit→Act→World→Prop} {a:Act} {w:World} {c:Code} (N:Nat) (ix:List Nat) (R:Nat→(Nat→Value)→World→Prop) (n₀:Nat)
 (h₀:Zdy N ix a a) (h₁:R n₀ (sl a) w)
 (round: ∀ n a' w',Zdy N ix a a'→R n (sl a') w'→ ∀(J:Nat→Act→World→Prop) (K:Act→World→Prop),(∀ k a'' w'',(Zdy N ix a a''∧R k (sl a'') w'')→J k a'' w'')→(∀ a'' w'',Handed J n a'' w''→K a'' w'')→c.wp P (Exit.then K Q) a' w') :
 (Code.loop c).wp P Q a w :=
 wp_loop_ghost_k (fun n a' w'=>Zdy N ix a a'∧R n (sl a') w') n₀ ⟨h₀,h₁⟩ (fun n a' w' h J K hJ hK=>round n a' w' h.1 h.2 J K hJ hK)
def ZY:Nat→Code→Code
 | 0,c=>c
 | n+1,.seq _ b=>ZY n b
 | _,c=>c
def YJ:Code→Code
 | .seq a _=>a
 | c=>c
def UZ:Code→Code
 | .block _ c=>c
 | c=>c
def Zfq:Code→Code
 | .loop c=>c
 | c=>c
structure Has (N:Nat) (ix:List Nat) (vs:List Value) (a:Act):Prop where
 size:a.tmps.toList.length=N
 dfr:a.defers=[]
 low:at_ a.tmps.toList ix=vs.map some
end Go.Proofs.YtplgdpjbkdagfaaGreat
