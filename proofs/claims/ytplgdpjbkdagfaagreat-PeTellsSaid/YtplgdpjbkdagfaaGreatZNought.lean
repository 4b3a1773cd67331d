import Derived.Test.YtplgdpjbkdagfaaGreatZFold
import Derived.Test.YtplgdpjbkdagfaaGreatZAwake1
import Derived.Test.YtplgdpjbkdagfaaGreatZOwnT
import Derived.Lib.SmallJoins
namespace Go.Proofs.YtplgdpjbkdagfaaGreat
set_option maxHeartbeats 8000000
open Lib renaming hid→Zg
set_option maxRecDepth 100000
open Go.ChangeShapes Go.WideShapes Go.ChangeAt Go.RowKit
set_option linter.unusedVariables false
set_option linter.unusedSimpArgs false
def Yn (b:List Nat) (o n:Nat):Bool:=decide (o+n<=b.length)&&((b.drop o).take n).all (· == 0)
theorem YZ {b:List Nat} {o n:Nat} (h: ¬ o+n<=b.length):Yn b o n=false:=by unfold Yn; rw[decide_eq_false h]; rfl
theorem UE {b:List Nat} {o n:Nat} (h:o+n<=b.length):Yn b o n=true↔ ∀ i,i<n->lF b (o+i)=0:=by
 unfold Yn;rw[decide_eq_true h,Bool.true_and,List.all_eq_true];constructor
 ·intro k i hi;have hb:o+i<b.length:=by omega
  have hm:b[o+i]∈(b.drop o).take n:=by
   rw[List.mem_iff_getElem];exact⟨i,by rw[List.length_take,List.length_drop]; omega,by rw[List.getElem_take,List.getElem_drop]⟩
  have:=k _ hm;unfold lF;simp only[List.getD,List.getElem?_eq_getElem hb,Option.getD_some];simpa using this
 ·intro k v hv;obtain⟨i,hi,rfl⟩:=List.mem_iff_getElem.mp hv;rw[List.length_take,List.length_drop] at hi;have:=k i (by omega);have hb:o+i<b.length:=by omega
  unfold lF at this;simp only[List.getD,List.getElem?_eq_getElem hb,Option.getD_some] at this;rw[List.getElem_take,List.getElem_drop];simpa using this
theorem Vw (A:Option Addr) (cap:Nat) (bs:List Nat) (o n:Nat) (w:World) (hl:bs.length<=cap) (hc:cap<=9223372036854775807) (hs:SlB w A bs.length (lF bs)) (ho:o<=4611686018427387904) (hn:1<=n) (jP:n<=1000) :
 Calls Tryz.prog 118 #[.slice A bs.length cap,.int .i64 o,.int .i64 n] w fun e w'=>e= .returned (.bool (Yn bs o n))/\w=w':=by
 by_cases h:o+n<=bs.length
 ·rcases hs with h'|⟨b,off,rfl,af,hr⟩
  ·omega
  have ax:=Zg (fun W=>ZV (some ⟨b,off,none⟩) bs.length cap o n true W (by omega) (by omega) (by omega) ⟨fun _=>⟨by omega,by omega,by omega⟩,fun _=>rfl⟩);have HB:=Zg (UE h);have HC:=Zg hr;have gw:=Zg h;have dK: ¬ cap=o:=by omega
  obtain⟨q,hq⟩: ∃ q,o+n=q:=⟨_,rfl⟩;have e1:(o:Int)+(n:Int)=(q:Int):=by omega
  have hle:(q:Int)<=(cap:Int):=by omega
  have oL:(o:Int)<=(q:Int):=by omega
  have n9:(q:Int)<9223372036854775808:=by omega
  have HQ:=Zg hq;have K6:q - o=n:=by omega
  clear hr hl h hq;go_enter Tryz.func118,Tryz.ntmps118;go_wp2_with (first|(refine(ax.out _).mono ?_; rintro e w' ⟨rfl,rfl⟩)|fail)
  go_loop [8,21] (fun _ i=> ∃ k:Nat,k<=n/\i= .int .i64 k/\ ∀ j,j<k->lF bs (o+j)=0) (fun _ i=>n - (intOf i).toNat)
  case atStart=>exact⟨0,Nat.zero_le _,rfl,fun j hj=>by omega⟩
  case round =>
   obtain⟨k,hk,rfl,hz⟩:=hrel;have HZ:=Zg hz;clear hz;by_cases af:k<n
   ·have bj:w.cell? ⟨b,off+o+k,none⟩=some (.int .u8 (lF bs (o+k))):=by have:=HC.out (o+k) (by have:=gw.out; omega); rwa [Nat.add_assoc]
    have K7:n<=1000:=jP;by_cases h0:lF bs (o+k)=0
    ·rw[h0] at bj;have qM: ∀ j,j<k+1->lF bs (o+j)=0:=fun j hj=>by
      rcases(by omega:j<k\/j=k) with h|rfl
      ·exact HZ.out j h
      ·exact h0
     have K8:=Zg qM;clear h0 qM;go_wp2
     refine⟨⟨k+1,by omega,by go_num,K8.out⟩,by simp[intOf]; omega⟩
    ·have bK:(lF bs (o+k) != 0)=true:=by simpa using h0
     have HF:=Zg (show Yn bs o n=false from by
      rcases hb:Yn bs o n
      ·rfl
      ·exact absurd (HB.out.1 hb k af) h0)
     clear h0;go_wp2
     go_ret;exact⟨by rw[HF.out]; rfl,rfl⟩
   ·obtain rfl:k=n:=by omega
    have HT:=Zg (show Yn bs o k=true from HB.out.2 HZ.out);have jz: ¬ ((k:Int)<((q - o:Nat):Int)):=by omega
    have La: ¬ (k<q - o):=by omega
    clear K6 af;go_wp2
    go_ret;exact⟨by rw[HT.out]; rfl,rfl⟩
 ·have ax:=Zg (fun W=>ZV A bs.length cap o n false W (by omega) (by omega) (by omega) ⟨fun q=>by simp at q,fun q=>by omega⟩);rw[YZ h];clear hl hs h;go_enter Tryz.func118,Tryz.ntmps118;go_wp2_with (first|(refine(ax.out _).mono ?_; rintro e w' ⟨rfl,rfl⟩)|fail)
  go_ret;exact⟨rfl,rfl⟩
def Zab (b:List Nat) (rva o:Nat):Option (List Nat × Nat) :=
 match YO b (rva+Yg (b.drop (o+4)) 2) 40 with
 | some t=>if Un t then some (t,Yg (b.drop o) 4) else none
 | none=>none
def ReadQ (b:List Nat) (rva o:Nat) (e:Ending):Prop:= ∃(S:ByteArray) (ok:Bool),e= .returned (.tuple #[.agg #[.string S,.int .i64 (Yg (b.drop o) 4)],.bool ok]) /\
 (Zab b rva o=none->ok=false)/\(∀ x,Zab b rva o=some x->ok=true/\S=txt x.1/\Yg (b.drop o) 4=x.2)
theorem Zez {b:List Nat} (h:Lb b) {o most:Nat} {t:List Nat} (ht:YO b o most=some t):Lb t/\t.length<=most:=by
 obtain⟨_,h2,_,_,h5⟩:=Wl ht;exact⟨by rw[h5]; exact(h.drop o).take _,h2⟩
theorem Zbn (A:Option Addr) (cap:Nat) (bs:List Nat) (rva o:Nat) (sz:Int) (w:World) (hb:Lb bs) (hl:bs.length<=cap) (hc:cap<=9223372036854775807) (hs:SlB w A bs.length (lF bs)) (h:o+8<=bs.length) (hr:rva<=1099511627776) (ho:o<=1099511627776) :
 Calls Tryz.prog 119 #[.slice A bs.length cap,.agg #[.int .i64 rva,.int .i64 sz],.int .i64 o] w fun e w'=>ReadQ bs rva o e/\Below w.heap.size w w':=by
 have n2:=ZG (hb.drop (o+4)) 2;have n4:=ZG (hb.drop o) 4;have HS:=Zg (fun W (hW:Below w.heap.size w W)=>SlB.below hs hW);have Dg:=Zg (fun W (hW:Below w.heap.size w W)=>QZ A cap bs o W (by omega) hb (by omega) (HS.out W hW));have iV:=Zg (fun W (hW:Below w.heap.size w W)=>Jb A cap bs (o+4) W (by omega) hb (by omega) (HS.out W hW));have bW:=Zg (fun W (hW:Below w.heap.size w W)=>WK A cap bs (rva+Yg (bs.drop (o+4)) 2) 40 W hc hl (HS.out W hW));have kI:=Zg (fun t (ht:YO bs (rva+Yg (bs.drop (o+4)) 2) 40=some t) W=>Zew t W (Zez hb ht).1 (by have:=(Zez hb ht).2; omega));obtain⟨P,hP⟩: ∃ P,Yg (bs.drop (o+4)) 2=P:=⟨_,rfl⟩;obtain⟨V,hV⟩: ∃ V,Yg (bs.drop o) 4=V:=⟨_,rfl⟩;have cZ:=Zg (show Zab bs rva o=match YO bs (rva+P) 40 with|some t=>if Un t then some (t,V) else none|none=>none by unfold Zab; rw[hP,hV]);unfold ReadQ;rw[hP] at iV bW kI n2;rw[hV] at Dg n4 ⊢;obtain⟨o4,dj⟩: ∃ q,o+4=q:=⟨_,rfl⟩;obtain⟨rp,GG⟩: ∃ q,rva+P=q:=⟨_,rfl⟩;rw[dj] at iV;rw[GG] at bW kI cZ;have e4:(o:Int)+4=(o4:Int):=by omega
 have OV:(rva:Int)+(P:Int)=(rp:Int):=by omega
 have l4:(o4:Int)<9223372036854775808:=by omega
 have OW:(rp:Int)<9223372036854775808:=by omega
 have nf:(256:Nat) ^ 2=65536:=rfl;have uz:(256:Nat) ^ 4=4294967296:=rfl;rw[nf] at n2;rw[uz] at n4;clear hP hV dj GG nf uz hs;rcases ht:YO bs rp 40 with _|t
 ·rw[ht] at bW cZ;simp only at bW cZ;go_enter Tryz.func119,Tryz.ntmps119;go_wp2_with (first|(refine(Dg.out _ (by go_grown)).mono ?_; rintro e w' ⟨rfl,rfl⟩)|(refine(iV.out _ (by go_grown)).mono ?_; rintro e w' ⟨rfl,rfl⟩)|(refine(bW.out _ (by go_grown)).mono ?_; rintro e w' ⟨rfl,rfl⟩)|fail)
  refine bodyPost_ret (v:= .tuple #[.agg #[.string ByteArray.empty,.int .i64 V],.bool false]) (by simp[results,Tryz.results119,go_sem]) rfl ⟨⟨_,_,rfl,fun _=>rfl,fun x hx=> ?_⟩,by go_grown⟩;rw[cZ.out] at hx;exact absurd hx (by simp)
 ·rw[ht] at bW cZ;have HO:=Zg (kI.out t ht);simp only at bW cZ;go_enter Tryz.func119,Tryz.ntmps119;go_wp2_with (first|(refine(Dg.out _ (by go_grown)).mono ?_; rintro e w' ⟨rfl,rfl⟩)|(refine(iV.out _ (by go_grown)).mono ?_; rintro e w' ⟨rfl,rfl⟩)|(refine(bW.out _ (by go_grown)).mono ?_; rintro e w' ⟨rfl,rfl⟩)|(refine(HO.out _).mono ?_; rintro e w' ⟨rfl,rfl⟩)|fail)
  refine bodyPost_ret (v:= .tuple #[.agg #[.string (txt t),.int .i64 V],.bool (Un t)]) (by simp[results,Tryz.results119,go_sem]) rfl ⟨⟨_,_,rfl,fun hx=> ?_,fun x hx=> ?_⟩,by go_grown⟩
  ·rw[cZ.out] at hx;by_cases k:Un t=true
   ·rw[if_pos k] at hx; exact absurd hx (by simp)
   ·simpa using k
  ·rw[cZ.out] at hx;by_cases k:Un t=true
   ·rw[if_pos k] at hx; injection hx with hx; subst hx; exact⟨k,rfl,rfl⟩
   ·rw[if_neg k] at hx; exact absurd hx (by simp)
abbrev Zge:=List Nat × Nat
def bC (x:Zge):List Value:=[.string (txt x.1),.int .i64 x.2]
theorem Zbo (x:Zge):(bC x).length=2:=rfl
theorem Ze0 (x:Zge): ∀ u∈bC x,u.oneCell'=true:=by
 intro u hu;simp[bC] at hu;rcases hu with rfl|rfl <;> rfl
theorem VN:(Tryz.prog.info? 80).map (fun i=>(i.zero,i.size,i.bytes))=some (some (.agg #[.string ByteArray.empty,.int .i64 0]),2,24):=by kernel_rfl
def XW (b:List Nat) (rva:Nat):Nat->Nat->Nat->List Zge->Option (List Zge)
 | 0,_,_,_=>none
 | k+1,o,bl,acc =>
   if bl=0/\Yn b o 8=true then some acc
   else if ¬ o+8<=b.length\/Yn b o 8=true\/acc.length=32 then none
   else match Zab b rva o with
    | none=>none
    | some x=>XW b rva k (o+8) (if 0<bl then bl - 1 else Yg (b.drop (o+6)) 2) (acc++[x])
def Zmy (w w':World) (r:Option (List Zge)) (e:Ending):Prop :=
 (match r with
  | none=>e= .returned (.tuple #[.slice none 0 0,.int .i64 8])
  | some l=> ∃ A cap,e= .returned (.tuple #[.slice A l.length cap,.int .i64 0])/\ZJ bC 2 w' w.heap.size 80 (.slice A l.length cap) l)/\Below w.heap.size w w'
theorem Uo (t:List Nat) (v:Nat) (w:World): ∀ j u,(bC (t,v))[j]? =some u->(w.alloc (.cells #[.string (txt t),.int .i64 v] 80)).cell? ⟨w.heap.size,j,none⟩=some u:=by
 intro j u hu;rcases j with _|_|j
 ·simp[bC] at hu; subst hu; simp[go_sem]
 ·simp[bC] at hu; subst hu; simp[go_sem]
 ·simp[bC] at hu
theorem Wm {w:World} {b:Nat} {c:Obj} (h:w.heap[b]? =some c):b<w.heap.size:=by
 rcases Nat.lt_or_ge b w.heap.size with h'|h'
 ·exact h'
 ·simp[Array.getElem?_eq_none h'] at h
theorem Zgf (A:Option Addr) (cap:Nat) (bs:List Nat) (rva:Nat) (sz:Int) (w:World) (hb:Lb bs) (hl:bs.length<=cap) (hc:cap<=9223372036854775807) (hs:SlB w A bs.length (lF bs)) (uB:1<=rva) (hr:rva<=1073741824) :
 Calls Tryz.prog 83 #[.slice A bs.length cap,.agg #[.int .i64 rva,.int .i64 sz]] w fun e w'=>Zmy w w' (XW bs rva 33 rva 0 []) e:=by
 have HS:=Zg (fun W (hW:Below w.heap.size w W)=>SlB.below hs hW);have aJ:=Zg hb;have HL:=Zg (show bs.length<=cap/\cap<=9223372036854775807 from⟨hl,hc⟩);have e0:((rva:Int) == 0)=false:=beq_eq_false_iff_ne.mpr (by omega);obtain⟨res,ir⟩: ∃ res,XW bs rva 33 rva 0 []=res:=⟨_,rfl⟩;rw[ir];have iW:=Zg ir;clear ir hs hb hl hc;go_enter Tryz.func83,Tryz.ntmps83;go_wp2_with fail
 have hO:=(ZJ.made (C:=bC) (sz:=2) (w.alloc (.cells #[.int .i64 rva,.int .i64 sz] 37)) (w.heap.size+1) (by simp) 80);have hB:Below w.heap.size w ((w.alloc (.cells #[.int .i64 rva,.int .i64 sz] 37)).alloc (.cells #[] 80)):=((Below.refl _ _).alloc (Nat.le_refl _) _).alloc (by simp) _;have hD:((w.alloc (.cells #[.int .i64 rva,.int .i64 sz] 37)).alloc (.cells #[] 80)).heap[w.heap.size]? =some (.cells #[.int .i64 rva,.int .i64 sz] 37 (0,0)) :=
  (((Below.refl _ _).alloc (Nat.le_refl _) _).block _ (by simp)).trans (heap_alloc_new _ _)
 rw[show(w.alloc (.cells #[.int .i64 rva,.int .i64 sz] 37)).heap.size=w.heap.size+1 by simp] at hO;have HO:=Zg hO;have HB:=Zg hB;have HD:=Zg hD;clear hO hB hD;generalize ((w.alloc (.cells #[.int .i64 rva,.int .i64 sz] 37)).alloc (.cells #[] 80))=w1 at *;go_loopw [6,7,8] (fun v6 v7 v8 wr=> ∃(k bl:Nat) (l:List Zge) (A':Option Addr) (aA:Nat),l.length+k=33/\1<=k/\bl<=65535/\v8= .int .i64 ((rva+8 * l.length:Nat):Int)/\v7= .int .i64 bl/\v6= .slice A' l.length aA/\ZJ bC 2 wr (w.heap.size+1) 80 (.slice A' l.length aA) l/\Below w.heap.size w wr/\wr.heap[w.heap.size]? =some (.cells #[.int .i64 rva,.int .i64 sz] 37 (0,0))/\XW bs rva k (rva+8 * l.length) bl l=res) (fun _ _ v8 _=>rva+264 - (intOf v8).toNat)
 case atStart=>exact⟨33,0,[],_,_,rfl,by omega,by omega,rfl,rfl,rfl,HO.out,HB.out,HD.out,iW.out⟩
 case round =>
  obtain⟨k,bl,l,A',aA,hk,n',gd,rfl,rfl,rfl,ae,aq,hd,hp⟩:=hrel;replace HO:=Zg ae;have aw:=Zg aq;replace HD:=Zg hd;obtain⟨k,rfl⟩: ∃ k',k=k'+1:=⟨k - 1,by omega⟩;have Dh:l.length<=32:=by omega
  have HK:=Zg hk;obtain⟨o,ho⟩: ∃ o,rva+8 * l.length=o:=⟨_,rfl⟩;rw[ho] at hp ⊢;have qN:=Zg ho;have cG:o<=1073742088:=by omega
  unfold XW at hp;obtain⟨N,hN⟩: ∃ N,Yn bs o 8=N:=⟨_,rfl⟩;have HN:=Zg (fun W (hW:Below w.heap.size w W)=>Vw A cap bs o 8 W HL.out.1 HL.out.2 (HS.out W hW) (by omega) (by omega) (by omega));have HI:=Zg (fun W (hW:Below w.heap.size w W)=>ZV A bs.length cap o 8 (decide (o+8<=bs.length)) W (by have:=HL.out; omega) (by omega) (by omega) ⟨fun q=>by have:=of_decide_eq_true q; omega,fun q=>decide_eq_true (by omega)⟩);rw[hN] at hp HN;have HP:=Zg hp;have nt:=Zg hN;clear hk n' hp hN ho ae aq hd iW;by_cases hz:bl=0
  ·subst hz;have Lc:decide ((0:Int)>0)=false:=by decide
   by_cases cN:N=true
   ·subst cN;have hp:=HP.out;rw[if_pos ⟨rfl,rfl⟩] at hp;subst hp;go_wp2_with (first|(refine(HN.out _ (aw.out)).mono ?_; rintro e w' ⟨rfl,rfl⟩)|(refine(HI.out _ (aw.out)).mono ?_; rintro e w' ⟨rfl,rfl⟩)|fail)
    go_ret2;exact⟨⟨_,_,rfl,Joins.ownsRow_le HO.out (Nat.le_succ _)⟩,aw.out⟩
   have cN:N=false:=by simpa using cN
   subst cN;by_cases cI:o+8<=bs.length
   ·have hI:decide (o+8<=bs.length)=true:=decide_eq_true cI;rw[hI] at HI;clear hI;by_cases kK:l.length=32
    ·have hp:=HP.out;rw[if_neg (fun h=>Bool.noConfusion h.2),if_pos (.inr (.inr kK))] at hp;subst hp;have d32:((l.length:Int) == 32)=true:=by rw[kK]; rfl
     clear cI kK;go_wp2_with (first|(refine(HN.out _ (aw.out)).mono ?_; rintro e w' ⟨rfl,rfl⟩)|(refine(HI.out _ (aw.out)).mono ?_; rintro e w' ⟨rfl,rfl⟩)|fail)
     go_ret2;exact⟨rfl,aw.out⟩
    ·have d32:((l.length:Int) == 32)=false:=beq_eq_false_iff_ne.mpr (by omega);have hp:=HP.out;rw[if_neg (fun h=>Bool.noConfusion h.2),if_neg (fun h=>by rcases h with h|h|h; exact h cI; exact Bool.noConfusion h; exact kK h)] at hp;have cZ:=Zg (fun W (hW:Below w.heap.size w W)=>Zbn A cap bs rva o sz W aJ.out HL.out.1 HL.out.2 (HS.out W hW) cI (by omega) (by omega));have iV:=Zg (fun W (hW:Below w.heap.size w W)=>Jb A cap bs (o+6) W (by have:=HL.out; omega) aJ.out (by omega) (HS.out W hW));have hu16:=ZG (aJ.out.drop (o+6)) 2;rw[show(256:Nat) ^ 2=65536 from rfl] at hu16;obtain⟨B2,my⟩: ∃ B2,Yg (bs.drop (o+6)) 2=B2:=⟨_,rfl⟩;rw[my] at iV hu16 hp;obtain⟨o6,nu⟩: ∃ o6,o+6=o6:=⟨_,rfl⟩;rw[nu] at iV;have e6:(o:Int)+6=(o6:Int):=by omega
     have l6:(o6:Int)<9223372036854775808:=by omega
     clear my nu;have ei:=HK.out;have rF:1<=k:=by omega
     have hd0:wr.cell? ⟨w.heap.size,0,none⟩=some (.int .i64 rva):=by rw[cell_of_row _ _ _ _ _ _ HD.out]; rfl
     have hd1:wr.cell? ⟨w.heap.size,1,none⟩=some (.int .i64 sz):=by rw[cell_of_row _ _ _ _ _ _ HD.out]; rfl
     replace HP:=Zg hp;clear hp cI ei;go_wp2_with (first|(refine(HN.out _ (aw.out)).mono ?_; rintro e w' ⟨rfl,rfl⟩)|(refine(HI.out _ (aw.out)).mono ?_; rintro e w' ⟨rfl,rfl⟩)|fail)
     refine(cZ.out _ aw.out).mono ?_;rintro e w4 ⟨⟨S,ok,rfl,dO,ej⟩,cX⟩;replace HO:=Zg (HO.out.below cX);replace HD:=Zg (show w4.heap[w.heap.size]? =_ from(cX.block _ (by
      have h:=HD.out;rcases Nat.lt_or_ge w.heap.size wr.heap.size with h'|h'
      ·exact h'
      ·simp[Array.getElem?_eq_none h'] at h)).trans HD.out)
     replace aw:=Zg (aw.out.trans (cX.mono aw.out.size));clear cX hd0 hd1;rcases du:Zab bs rva o with _|x
     ·obtain rfl:=dO du;have hp:=HP.out;rw[du] at hp;subst hp;clear dO ej du;go_wp2_with (first|(refine(HN.out _ (aw.out)).mono ?_; rintro e w' ⟨rfl,rfl⟩)|(refine(HI.out _ (aw.out)).mono ?_; rintro e w' ⟨rfl,rfl⟩)|fail)
      go_ret2;exact⟨rfl,aw.out.alloc aw.out.size _⟩
     ·obtain⟨rfl,rfl,hv⟩:=ej x du;have hp:=HP.out;rw[du] at hp;replace HP:=Zg hp;clear dO ej du hp;rw[hv];obtain⟨t,v⟩:=x;simp only at hv ⊢;clear hv;have HY:=Zg (show ∀ j u,(bC (t,v))[j]? =some u->((w4.alloc (.cells #[.string (txt t),.int .i64 v] 80)).alloc (.cells #[.string (txt t),.int .i64 v] 80)).cell? ⟨w4.heap.size+1,j,none⟩=some u from by
       have h:=Uo t v (w4.alloc (.cells #[.string (txt t),.int .i64 v] 80));rwa [show(w4.alloc (.cells #[.string (txt t),.int .i64 v] 80)).heap.size=w4.heap.size+1 by simp] at h)
      have kJ:=Zg ((HO.out.alloc (.cells #[.string (txt t),.int .i64 v] 80)).alloc (.cells #[.string (txt t),.int .i64 v] 80));have ff:=Zg ((aw.out.alloc aw.out.size (.cells #[.string (txt t),.int .i64 v] 80)).alloc (aw.out.alloc aw.out.size (.cells #[.string (txt t),.int .i64 v] 80)).size (.cells #[.string (txt t),.int .i64 v] 80));have uA:=Zg (show((w4.alloc (.cells #[.string (txt t),.int .i64 v] 80)).alloc (.cells #[.string (txt t),.int .i64 v] 80)).heap[w.heap.size]? =some (.cells #[.int .i64 rva,.int .i64 sz] 37 (0,0)) from by
       have h0:w.heap.size<w4.heap.size:=Wm HD.out;exact((((Below.refl _ _).alloc (Nat.le_refl _) _).alloc (by simp) _).block _ h0).trans HD.out)
      go_wp2_with (first
       | (at_builtin; refine Zq rfl (.tmp 50) (.tmp 52) 30 rfl (w.heap.size+1) 80 _ 24 rfl VN rfl (by omega) Zbo Ze0 _ l rfl kJ.out (w4.heap.size+1) 1 rfl (t,v) HY.out (by unfold maxLen; omega) (by omega) (Wm uA.out) ?_; intro g5 aG w5 ag aI aD)
       | fail)
      have bp:=Zg (kJ.out.grew ff.out (Nat.le_succ _) ff.out.size aI);have Di:=Zg ((aI.block w.heap.size (Wm uA.out) (fun h=>by have:=(kJ.out.lt _ h.symm).1; omega)).trans uA.out);have cx:=Zg ag;clear ag aI aD;refine(iV.out _ bp.out).mono ?_;rintro e w' ⟨rfl,rfl⟩;go_wp2_with fail
      go_roundw
      case rel =>
       have hlen:(l++[(t,v)]).length=l.length+1:=by simp
       refine⟨k,B2,l++[(t,v)],_,aG,by have:=HK.out; omega,rF,by omega,?_,?_,by rw[hlen],?_,bp.out,Di.out,?_⟩
       ·have:=qN.out; rw[show((rva+8 * (l++[(t,v)]).length:Nat):Int)=(o:Int)+8 by omega]
       ·rfl
       ·rw[hlen]; exact cx.out
       ·have hp:=HP.out;try simp only at hp
        rw[if_neg (by omega)] at hp;rw[show rva+8 * (l++[(t,v)]).length=o+8 by have:=qN.out; omega];exact hp
      case measure=>simp[intOf]; have:=qN.out; omega
   ·have hI:decide (o+8<=bs.length)=false:=decide_eq_false cI;rw[hI] at HI;have hp:=HP.out;rw[if_neg (fun h=>Bool.noConfusion h.2),if_pos (.inl cI)] at hp;subst hp;clear hI cI;go_wp2_with (first|(refine(HN.out _ (aw.out)).mono ?_; rintro e w' ⟨rfl,rfl⟩)|(refine(HI.out _ (aw.out)).mono ?_; rintro e w' ⟨rfl,rfl⟩)|fail)
    go_ret2;exact⟨rfl,aw.out⟩
  ·skip
   have Lc:decide ((bl:Int)>0)=true:=decide_eq_true (by omega);have Ld:(0:Int)<(bl:Int):=by omega
   by_cases cI:o+8<=bs.length
   ·have hI:decide (o+8<=bs.length)=true:=decide_eq_true cI;rw[hI] at HI;clear hI;by_cases cN:N=true
    ·subst cN;have hp:=HP.out;rw[if_neg (fun h=>by have:=h.1; omega),if_pos (.inr (.inl rfl))] at hp;subst hp;clear cI;go_wp2_with (first|(refine(HN.out _ (aw.out)).mono ?_; rintro e w' ⟨rfl,rfl⟩)|(refine(HI.out _ (aw.out)).mono ?_; rintro e w' ⟨rfl,rfl⟩)|fail)
     go_ret2;exact⟨rfl,aw.out⟩
    have cN:N=false:=by simpa using cN
    subst cN;by_cases kK:l.length=32
    ·have hp:=HP.out;rw[if_neg (fun h=>by have:=h.1; omega),if_pos (.inr (.inr kK))] at hp;subst hp;have d32:((l.length:Int) == 32)=true:=by rw[kK]; rfl
     clear cI kK;go_wp2_with (first|(refine(HN.out _ (aw.out)).mono ?_; rintro e w' ⟨rfl,rfl⟩)|(refine(HI.out _ (aw.out)).mono ?_; rintro e w' ⟨rfl,rfl⟩)|fail)
     go_ret2;exact⟨rfl,aw.out⟩
    ·have d32:((l.length:Int) == 32)=false:=beq_eq_false_iff_ne.mpr (by omega);have hp:=HP.out;rw[if_neg (fun h=>by have:=h.1; omega),if_neg (fun h=>by rcases h with h|h|h; exact h cI; exact Bool.noConfusion h; exact kK h)] at hp;have cZ:=Zg (fun W (hW:Below w.heap.size w W)=>Zbn A cap bs rva o sz W aJ.out HL.out.1 HL.out.2 (HS.out W hW) cI (by omega) (by omega));have iV:=Zg (fun W (hW:Below w.heap.size w W)=>Jb A cap bs (o+6) W (by have:=HL.out; omega) aJ.out (by omega) (HS.out W hW));have hu16:=ZG (aJ.out.drop (o+6)) 2;rw[show(256:Nat) ^ 2=65536 from rfl] at hu16;obtain⟨B2,my⟩: ∃ B2,Yg (bs.drop (o+6)) 2=B2:=⟨_,rfl⟩;rw[my] at iV hu16 hp;obtain⟨o6,nu⟩: ∃ o6,o+6=o6:=⟨_,rfl⟩;rw[nu] at iV;have e6:(o:Int)+6=(o6:Int):=by omega
     have l6:(o6:Int)<9223372036854775808:=by omega
     clear my nu;have ei:=HK.out;have rF:1<=k:=by omega
     have hd0:wr.cell? ⟨w.heap.size,0,none⟩=some (.int .i64 rva):=by rw[cell_of_row _ _ _ _ _ _ HD.out]; rfl
     have hd1:wr.cell? ⟨w.heap.size,1,none⟩=some (.int .i64 sz):=by rw[cell_of_row _ _ _ _ _ _ HD.out]; rfl
     replace HP:=Zg hp;clear hp cI ei iV hu16 e6 l6;go_wp2_with (first|(refine(HN.out _ (aw.out)).mono ?_; rintro e w' ⟨rfl,rfl⟩)|(refine(HI.out _ (aw.out)).mono ?_; rintro e w' ⟨rfl,rfl⟩)|fail)
     refine(cZ.out _ aw.out).mono ?_;rintro e w4 ⟨⟨S,ok,rfl,dO,ej⟩,cX⟩;replace HO:=Zg (HO.out.below cX);replace HD:=Zg (show w4.heap[w.heap.size]? =_ from(cX.block _ (by
      have h:=HD.out;rcases Nat.lt_or_ge w.heap.size wr.heap.size with h'|h'
      ·exact h'
      ·simp[Array.getElem?_eq_none h'] at h)).trans HD.out)
     replace aw:=Zg (aw.out.trans (cX.mono aw.out.size));clear cX hd0 hd1;rcases du:Zab bs rva o with _|x
     ·obtain rfl:=dO du;have hp:=HP.out;rw[du] at hp;subst hp;clear dO ej du;go_wp2_with (first|(refine(HN.out _ (aw.out)).mono ?_; rintro e w' ⟨rfl,rfl⟩)|(refine(HI.out _ (aw.out)).mono ?_; rintro e w' ⟨rfl,rfl⟩)|fail)
      go_ret2;exact⟨rfl,aw.out.alloc aw.out.size _⟩
     ·obtain⟨rfl,rfl,hv⟩:=ej x du;have hp:=HP.out;rw[du] at hp;replace HP:=Zg hp;clear dO ej du hp;rw[hv];obtain⟨t,v⟩:=x;simp only at hv ⊢;clear hv;have HY:=Zg (show ∀ j u,(bC (t,v))[j]? =some u->((w4.alloc (.cells #[.string (txt t),.int .i64 v] 80)).alloc (.cells #[.string (txt t),.int .i64 v] 80)).cell? ⟨w4.heap.size+1,j,none⟩=some u from by
       have h:=Uo t v (w4.alloc (.cells #[.string (txt t),.int .i64 v] 80));rwa [show(w4.alloc (.cells #[.string (txt t),.int .i64 v] 80)).heap.size=w4.heap.size+1 by simp] at h)
      have kJ:=Zg ((HO.out.alloc (.cells #[.string (txt t),.int .i64 v] 80)).alloc (.cells #[.string (txt t),.int .i64 v] 80));have ff:=Zg ((aw.out.alloc aw.out.size (.cells #[.string (txt t),.int .i64 v] 80)).alloc (aw.out.alloc aw.out.size (.cells #[.string (txt t),.int .i64 v] 80)).size (.cells #[.string (txt t),.int .i64 v] 80));have uA:=Zg (show((w4.alloc (.cells #[.string (txt t),.int .i64 v] 80)).alloc (.cells #[.string (txt t),.int .i64 v] 80)).heap[w.heap.size]? =some (.cells #[.int .i64 rva,.int .i64 sz] 37 (0,0)) from by
       have h0:w.heap.size<w4.heap.size:=Wm HD.out;exact((((Below.refl _ _).alloc (Nat.le_refl _) _).alloc (by simp) _).block _ h0).trans HD.out)
      go_wp2_with (first
       | (at_builtin; refine Zq rfl (.tmp 50) (.tmp 52) 30 rfl (w.heap.size+1) 80 _ 24 rfl VN rfl (by omega) Zbo Ze0 _ l rfl kJ.out (w4.heap.size+1) 1 rfl (t,v) HY.out (by unfold maxLen; omega) (by omega) (Wm uA.out) ?_; intro g5 aG w5 ag aI aD)
       | fail)
      have bp:=Zg (kJ.out.grew ff.out (Nat.le_succ _) ff.out.size aI);have Di:=Zg ((aI.block w.heap.size (Wm uA.out) (fun h=>by have:=(kJ.out.lt _ h.symm).1; omega)).trans uA.out);have cx:=Zg ag;clear ag aI aD;go_roundw
      case rel =>
       have hlen:(l++[(t,v)]).length=l.length+1:=by simp
       refine⟨k,(bl - 1),l++[(t,v)],_,aG,by have:=HK.out; omega,rF,by omega,?_,?_,by rw[hlen],?_,bp.out,Di.out,?_⟩
       ·have:=qN.out; rw[show((rva+8 * (l++[(t,v)]).length:Nat):Int)=(o:Int)+8 by omega]
       ·rw[show((bl - 1:Nat):Int)=(bl:Int) - 1 by omega]
       ·rw[hlen]; exact cx.out
       ·have hp:=HP.out;try simp only at hp
        rw[if_pos (by omega)] at hp;rw[show rva+8 * (l++[(t,v)]).length=o+8 by have:=qN.out; omega];exact hp
      case measure=>simp[intOf]; have:=qN.out; omega
   ·have hI:decide (o+8<=bs.length)=false:=decide_eq_false cI;rw[hI] at HI;have hp:=HP.out;rw[if_neg (fun h=>by have:=h.1; omega),if_pos (.inl cI)] at hp;subst hp;clear hI cI;cases N;all_goals
     go_wp2_with (first|(refine(HN.out _ (aw.out)).mono ?_; rintro e w' ⟨rfl,rfl⟩)|(refine(HI.out _ (aw.out)).mono ?_; rintro e w' ⟨rfl,rfl⟩)|fail)
     go_ret2;exact⟨rfl,aw.out⟩
end Go.Proofs.YtplgdpjbkdagfaaGreat
