import Derived.Test.YtplgdpjbkdagfaaGreatZAwake1
import Derived.Test.YtplgdpjbkdagfaaGreatShelf
import Derived.Deep.DeepFit
import Derived.Test.YtplgdpjbkdagfaaGreatCopy
namespace Go.Proofs.YtplgdpjbkdagfaaGreat
open Lib renaming hid→Zg
set_option maxRecDepth 100000
open Go.ChangeShapes Go.WideShapes Go.ChangeAt Go.RowKit
set_option linter.unusedVariables false
set_option linter.unusedSimpArgs false
structure Wj (w:World) (b off n cap:Nat) (f:Nat->Int):Prop where
 row:Row w b off n f
 by255:Zm f
 lt:b<w.heap.size
 len:n<=cap
 most:cap<=9223372036854775807
theorem Wj.below {w w':World} {b off n cap:Nat} {f:Nat->Int} (h:Wj w b off n cap f) (hb:Below w.heap.size w w'):Wj w' b off n cap f:=⟨h.row.below hb h.lt,h.by255,Nat.lt_of_lt_of_le h.lt hb.size,h.len,h.most⟩
theorem pn (b off n cap:Nat) (f:Nat->Int) (o:Nat) (w:World) (h:Wj w b off n cap f) (ho:o+2<=n) :
 Calls Tryz.prog 65 #[.slice (some ⟨b,off,none⟩) n cap,.int .i64 o] w fun e w'=>e= .returned (.int .i64 (rdF f o 2))/\w=w':=by
 have hu:=Zg (Zd6 b off n cap f o w (by have:=h.len; have:=h.most; omega) ho h.by255 h.row);clear h;go_enter Tryz.func65,Tryz.ntmps65;go_wp2_with fail
 go_fit hu.out
 rintro e w' ⟨rfl,rfl⟩;go_wp2_with fail
 go_ret;exact⟨rfl,rfl⟩
theorem Zd3 (b off n cap:Nat) (f:Nat->Int) (o:Nat) (w:World) (h:Wj w b off n cap f) (ho:o+4<=n) :
 Calls Tryz.prog 101 #[.slice (some ⟨b,off,none⟩) n cap,.int .i64 o] w fun e w'=>e= .returned (.int .i64 (rdF f o 4))/\w=w':=by
 have hu:=Zg (Zaw b off n cap f o w (by have:=h.len; have:=h.most; omega) ho h.by255 h.row);clear h;go_enter Tryz.func101,Tryz.ntmps101;go_wp2_with fail
 go_fit hu.out
 rintro e w' ⟨rfl,rfl⟩;go_wp2_with fail
 go_ret;exact⟨rfl,rfl⟩
def Zv (n:Nat) (f:Nat->Int):Int × Int :=
 if n<64 then(0,2) else
 if f 0≠77\/f 1≠90 then(0,3) else
 if rdF f 60 4<64\/rdF f 60 4 % 4≠0\/(n:Int)<rdF f 60 4+264 then(0,2) else
 if f (rdF f 60 4).toNat≠80\/f ((rdF f 60 4).toNat+1)≠69\/f ((rdF f 60 4).toNat+2)≠0\/f ((rdF f 60 4).toNat+3)≠0 then(0,3) else
 (rdF f 60 4,0)
def Qz (f:Nat->Int) (p:Nat):Int :=
 if rdF f (p+4) 2≠34404 then 4 else
 if rdF f (p+20) 2≠240\/rdF f (p+24) 2≠523\/rdF f (p+132) 4≠16 then 5 else 0
theorem Zoe (b off n cap:Nat) (f:Nat->Int) (p:Nat) (w:World) (h:Wj w b off n cap f) (hp:p+264<=n) (Fz:p<=4294967296) :
 Calls Tryz.prog 62 #[.slice (some ⟨b,off,none⟩) n cap,.int .i64 p] w fun e w'=>e= .returned (.int .i64 (Qz f p))/\w=w':=by
 have h1:=pn b off n cap f (p+4) w h (by omega);have h2:=pn b off n cap f (p+20) w h (by omega);have h3:=pn b off n cap f (p+24) w h (by omega);have h4:=Zd3 b off n cap f (p+132) w h (by omega);rw[show((p+4:Nat):Int)=(p:Int)+4 by omega] at h1;rw[show((p+20:Nat):Int)=(p:Int)+20 by omega] at h2;rw[show((p+24:Nat):Int)=(p:Int)+24 by omega] at h3;rw[show((p+132:Nat):Int)=(p:Int)+132 by omega] at h4;unfold Qz;clear h;generalize rdF f (p+4) 2=x1 at *;generalize rdF f (p+20) 2=x2 at *;generalize rdF f (p+24) 2=x3 at *;generalize rdF f (p+132) 4=x4 at *;have H1:=Zg h1;have H2:=Zg h2;have H3:=Zg h3;have H4:=Zg h4;clear h1 h2 h3 h4;by_cases c1:x1=34404
 ·subst c1;rw[if_neg (by omega)];by_cases c2:x2=240
  ·subst c2;by_cases c3:x3=523
   ·subst c3;by_cases c4:x4=16
    ·subst c4;rw[if_neg (by omega)];go_enter Tryz.func62,Tryz.ntmps62;go_wp2_with (first|(go_fit H1.out; rintro e w' ⟨rfl,rfl⟩)|(go_fit H2.out; rintro e w' ⟨rfl,rfl⟩)|(go_fit H3.out; rintro e w' ⟨rfl,rfl⟩)|(go_fit H4.out; rintro e w' ⟨rfl,rfl⟩))
     go_ret;exact⟨rfl,rfl⟩
    ·have e4:(x4 != 16)=true:=by simpa using c4
     rw[if_pos (by omega)];go_enter Tryz.func62,Tryz.ntmps62;go_wp2_with (first|(go_fit H1.out; rintro e w' ⟨rfl,rfl⟩)|(go_fit H2.out; rintro e w' ⟨rfl,rfl⟩)|(go_fit H3.out; rintro e w' ⟨rfl,rfl⟩)|(go_fit H4.out; rintro e w' ⟨rfl,rfl⟩))
     go_ret;exact⟨rfl,rfl⟩
   ·have e3:(x3 != 523)=true:=by simpa using c3
    rw[if_pos (by omega)];go_enter Tryz.func62,Tryz.ntmps62;go_wp2_with (first|(go_fit H1.out; rintro e w' ⟨rfl,rfl⟩)|(go_fit H2.out; rintro e w' ⟨rfl,rfl⟩)|(go_fit H3.out; rintro e w' ⟨rfl,rfl⟩))
    go_ret;exact⟨rfl,rfl⟩
  ·have e2:(x2 != 240)=true:=by simpa using c2
   rw[if_pos (by omega)];go_enter Tryz.func62,Tryz.ntmps62;go_wp2_with (first|(go_fit H1.out; rintro e w' ⟨rfl,rfl⟩)|(go_fit H2.out; rintro e w' ⟨rfl,rfl⟩))
   go_ret;exact⟨rfl,rfl⟩
 ·have e1:(x1 != 34404)=true:=by simpa using c1
  rw[if_pos (by omega)];go_enter Tryz.func62,Tryz.ntmps62;go_wp2_with (go_fit H1.out; rintro e w' ⟨rfl,rfl⟩)
  go_ret;exact⟨rfl,rfl⟩
theorem i64_or (a b:Nat) (ha:a<2 ^ 62) (hb:b<2 ^ 62):bits .or .i64 (a:Int) (b:Int)=((a ||| b:Nat):Int):=by
 show IntKind.i64.wrap ((BitVec.ofInt 64 (a:Int) ||| BitVec.ofInt 64 (b:Int)).toNat:Int)=_
 have h:=Nat.or_lt_two_pow ha hb;rw[BitVec.toNat_or,BitVec.ofInt_natCast,BitVec.ofInt_natCast,BitVec.toNat_ofNat,BitVec.toNat_ofNat,Nat.mod_eq_of_lt (by omega),Nat.mod_eq_of_lt (by omega),IntKind.wrap_i64];omega
theorem Zl2 (bs cs:List Int):VQ bs.length (Vo bs) (Vo cs)=Vo (bs++cs):=by
 funext i
 unfold VQ Vo;simp only[List.getD_eq_getElem?_getD];split
 ·rw[List.getElem?_append_left (by assumption)]
 ·rw[List.getElem?_append_right (by omega)]
def Bs (bs:List Int):Prop:= ∀ b∈bs,0<=b/\b<=255
theorem Bs.lit {bs:List Int} (h:Bs bs):Zm (Vo bs):=by
 intro i;unfold Vo;rw[List.getD_eq_getElem?_getD];cases hg:bs[i]? with
 | none=>simp
 | some b=>simpa using h b (List.mem_of_getElem? hg)
theorem Bs.append {bs cs:List Int} (h:Bs bs) (k:Bs cs):Bs (bs++cs):=fun b hb=>by
 rcases List.mem_append.1 hb with hb|hb
 ·exact h b hb
 ·exact k b hb
theorem Bs.nil:Bs []:=fun b hb=>by simp at hb
def listF (f:Nat->Int) (n:Nat):List Int:=(List.range n).map f
theorem VZ (f:Nat->Int) (n:Nat):(listF f n).length=n:=by simp[listF]
theorem Zg0 {f:Nat->Int} {n i:Nat} (h:i<n):Vo (listF f n) i=f i:=by simp[Vo,listF,h]
theorem Bs.listF {f:Nat->Int} (hf:Zm f) (n:Nat):Bs (listF f n):=fun b hb=>by
 simp only[YtplgdpjbkdagfaaGreat.listF,List.mem_map,List.mem_range] at hb;obtain⟨i,_,rfl⟩:=hb;exact hf i
theorem UA (bs:List Int):Zs bs.length (Vo bs)=bs.map (Value.int .u8):=by
 apply List.ext_getElem?;intro i;rcases Nat.lt_or_ge i bs.length with h|h
 ·rw[ZN _ _ h,List.getElem?_map,List.getElem?_eq_getElem h];simp[Vo,h]
 ·rw[List.getElem?_eq_none (by rw[Zn]; exact h),List.getElem?_eq_none (by simpa using h)]
theorem WQ {n:Nat} {f f':Nat->Int} (h: ∀ i,i<n->f i=f' i):Zs n f=Zs n f':=by
 apply List.ext_getElem?;intro i;rcases Nat.lt_or_ge i n with hi|hi
 ·rw[ZN _ _ hi,ZN _ _ hi,h i hi]
 ·rw[List.getElem?_eq_none (by rw[Zn]; exact hi),List.getElem?_eq_none (by rw[Zn]; exact hi)]
def Yy (w:World) (base:Nat) (v:Value) (bs:List Int):Prop:=Zds w base v bs.length (Vo bs)
theorem Yy.nil (w:World) (base:Nat):Yy w base (.slice none 0 0) []:=Zlg w base _
theorem Yy.lt {w:World} {base:Nat} {v:Value} {bs:List Int} (h:Yy w base v bs): ∀ k,v.ownBlock=some k->base<=k/\k<w.heap.size:=World.ownsRow.lt h
theorem Yy.below {w w':World} {base:Nat} {v:Value} {bs:List Int} (h:Yy w base v bs) (hb:Below w.heap.size w w'):Yy w' base v bs:=Zds.below h hb
theorem Yy.alloc {w:World} {base:Nat} {v:Value} {bs:List Int} (h:Yy w base v bs) (o:Obj):Yy (w.alloc o) base v bs:=h.below ((Below.refl _ _).alloc (Nat.le_refl _) o)
theorem Yy.drewN {w:World} {base:Nat} {v:Value} {bs:List Int} (h:Yy w base v bs) (n:Nat):Yy (w.drewN n) base v bs:=h
theorem Yy.of_block {w w':World} {base:Nat} {v:Value} {bs:List Int} (h:Yy w base v bs) (hb: ∀ k,v.ownBlock=some k->w'.heap[k]? =w.heap[k]?):Yy w' base v bs:=by
 refine⟨h.1,?_⟩;rcases h.2 with h2|⟨g,cap,cur,hv,hg,hh,r⟩
 ·exact Or.inl h2
 ·exact Or.inr ⟨g,cap,cur,hv,hg,by rw[hb g (by rw[hv]; rfl)]; exact hh,r⟩
theorem Yy.grown {w w':World} {base:Nat} {v:Value} {bs:List Int} {row:Option Nat} (h:Yy w base v bs) (hb:w.grownBy w' row) (bK: ∀ k,v.ownBlock=some k->row≠some k):Yy w' base v bs :=
 h.of_block fun k hk=>hb.block k (h.lt k hk).2 (fun e=>bK k hk e.symm)
theorem Yy.grew {w w':World} {B base:Nat} {v:Value} {bs:List Int} {a:World} (h:Yy w base v bs) (hb:Below B a w) (hB:B<=base) (hs:B<=w.heap.size) (hg:w.grownBy w' v.ownBlock):Below B a w' :=
 hb.trans ⟨hg.os,hg.tape,hg.output,hg.size,fun k hk=>hg.block k (by omega) (fun e=>by have:=(h.lt k e.symm).1; omega)⟩
theorem Yy.slice {w:World} {base n cap:Nat} {A:Option Addr} {bs:List Int} (h:Yy w base (.slice A n cap) bs) :
 n=bs.length/\n<=cap/\cap<=maxLen/\SlB w A n (Vo bs)/\(n=0\/ ∃ g,A=some ⟨g,0,none⟩/\base<=g/\Own w g n (fun i=> .int .u8 (Vo bs i))):=by
 have hn:n=bs.length:=by
  rcases h.2 with⟨h1,h2⟩|⟨g,aA,cur,h1,_⟩
  ·injection h1 with _ h1 _; omega
  ·injection h1 with _ h1 _
 subst hn;obtain⟨h1,h2,h3⟩:=Zds.slice h;refine⟨rfl,h1,h2,?_,h3⟩;rcases h3 with h3|⟨g,rfl,_,ho⟩
 ·exact .inl h3
 ·exact .inr ⟨g,0,rfl,ho.1,Zdr ho (fun i _=>rfl)⟩
theorem ZF {w:World} {ops:Array Oper} {rest:List Oper} {o:Oper} {a:Act} {Q:Exit->Act->World->Prop} (eu:o.guard=none) (s x:Operand) (tx:TypeId)
 (ho:o.op= .call { callee:= .builtin .append,args:= #[s,x],argTypes:= #[25,tx] })
 (base:Nat) (v:Value) (bs:List Int) (hv:a.eval s=v) (ae:Yy w base v bs) (X:Value) (hX:a.eval x=X) (cs:List Int) (hs:Src Tryz.prog 1 tx X cs.length (Zs cs.length (Vo cs)) w)
 (n9:bs.length+cs.length<=140737488355328) (aH:base<=w.heap.size)
 (hK: ∀ A cap w',Yy w' base (.slice A (bs.length+cs.length) cap) (bs++cs)->w.grownBy w' v.ownBlock->((Value.slice A (bs.length+cs.length) cap).ownBlock=v.ownBlock\/(Value.slice A (bs.length+cs.length) cap).ownBlock=some w.heap.size)->wpList Tryz.prog ops Q rest (a.put o.dst (.slice A (bs.length+cs.length) cap)) w') :
 wpList Tryz.prog ops Q (o::rest) a w:=by
 refine Zdt eu s x tx ho base v bs.length (Vo bs) hv ae X hX cs.length (Vo cs) hs n9 aH ?_;intro v' w' gA hg br;rw[Zl2] at gA;obtain⟨A,cap,rfl⟩: ∃ A cap,v'= .slice A (bs.length+cs.length) cap:=by
  rcases gA.2 with⟨h1,h2⟩|⟨g,cap,_,h1,_⟩
  ·exact⟨none,0,by rw[h1,h2]⟩
  ·exact⟨_,cap,h1⟩
 exact hK A cap w' (by unfold Yy; rw[List.length_append]; exact gA) hg br
theorem Znd {w:World} {A:Option Addr} {m c:Nat} {f:Nat->Int} {cs:List Int} (h:SlB w A m f) (hm:m=cs.length) (hf: ∀ i,i<m->f i=Vo cs i):Src Tryz.prog 1 25 (.slice A m c) cs.length (Zs cs.length (Vo cs)) w:=by
 subst hm;have:=Wp (c:=c) h;rwa [WQ hf] at this
theorem JK {w:World} {base:Nat} {A:Option Addr} {m c:Nat} {cs:List Int} (h:Yy w base (.slice A m c) cs):Src Tryz.prog 1 25 (.slice A m c) cs.length (Zs cs.length (Vo cs)) w:=by
 obtain⟨h1,_,_,h2,_⟩:=h.slice;exact Znd h2 h1 (fun _ _=>rfl)
theorem Zd4 (w:World) (cs:List Int) (c:Nat):Src Tryz.prog 1 25 (.slice (some ⟨w.heap.size,0,none⟩) cs.length c) cs.length (Zs cs.length (Vo cs)) (w.alloc (.cells (cs.map (Value.int .u8)).toArray 5)) :=
 Znd (f:=Vo cs) (by
  by_cases h:cs.length=0
  ·exact .inl h
  ·exact .inr ⟨w.heap.size,0,rfl,by simp,Zig cs rfl⟩) rfl (fun _ _=>rfl)
theorem Wd {w:World} {f:Nat->Int} (hf:Zm f) (o n:Nat):Src Tryz.prog 1 9 (.string (ZB f o n)) (listF (fun i=>f (o+i)) n).length (Zs (listF (fun i=>f (o+i)) n).length (Vo (listF (fun i=>f (o+i)) n))) w:=by
 have h:=Zih (w:=w) (ZB f o n);rw[Zr] at h;rw[VZ];rw[WQ (f':=Vo (listF (fun i=>f (o+i)) n)) (fun i hi=>by rw[XO hf hi,Zg0 hi])] at h;exact h
theorem Yy.stored {w:World} {base g n cap:Nat} {bs:List Int} (h:Yy w base (.slice (some ⟨g,0,none⟩) n cap) bs) (j:Nat) (u:Int) :
 Yy (w.setCell ⟨g,j,none⟩ (.int .u8 u)) base (.slice (some ⟨g,0,none⟩) n cap) (bs.set j u)/\w.grownBy (w.setCell ⟨g,j,none⟩ (.int .u8 u)) (some g):=by
 have hn:=h.slice.1;subst hn;unfold Yy Zds at h;have h2:=World.ownsRow.stored h j (.int .u8 u);refine⟨?_,h2.2⟩;unfold Yy Zds;rw[List.length_set];have e:(Zs bs.length (Vo bs)).set j (.int .u8 u)=Zs bs.length (Vo (bs.set j u)):=by
  rw[UA,<-List.map_set,<-UA,List.length_set]
 rw[e] at h2;exact h2.1
theorem JZ {w:World} {ops:Array Oper} {rest:List Oper} {o:Oper} {a:Act} {Q:Exit->Act->World->Prop}
 (hg:o.guard=none) (l c:Operand) (vi:o.op=Op.makeSlice 25 l c) (base:Nat) (kl kc:IntKind) (n:Nat) (hl:a.eval l= .int kl n) (hc:a.eval c= .int kc n) (b2:n<=281474976710656) (b4:base<=w.heap.size)
 (hK: ∀ w',Yy w' base (.slice (some ⟨w.heap.size,0,none⟩) n n) (List.replicate n 0)->Below w.heap.size w w'->w'.heap.size=w.heap.size+1->wpList Tryz.prog ops Q rest (a.put o.dst (.slice (some ⟨w.heap.size,0,none⟩) n n)) w') :
 wpList Tryz.prog ops Q (o::rest) a w:=by
 obtain⟨i0,hi,dQ,bw,ed⟩:=info_parts Ws;refine wpList_plain hg fun K kS=> ?_;have eM:(i0.bytes:Int) * (n:Int)<=281474976710656:=by rw[ed]; omega
 have bG:=run_make (P:=Tryz.prog) w 25 5 i0 (.int .u8 0) Tryz.underlying25 hi dQ kl kc n n (by omega) (Int.le_refl _) eM (by omega);rw[bw] at bG;simp only[Int.toNat_natCast,Nat.mul_one] at bG;unfold Oper.wp;simp[execOp,vi,hl,hc,bG,Result.andThen];refine kS _ _ (hK _ ?_ ((Below.refl w.heap.size w).alloc (Nat.le_refl _) _) (by simp));have bm:(madeCells (Value.int .u8 0).cells n).toList=(List.replicate n (0:Int)).map (Value.int .u8):=by
  apply List.ext_getElem?;intro j;have hz:(Value.int .u8 0).cells= #[.int .u8 0]:=rfl;by_cases hj:j<n <;> simp[madeCells,hz,hj,Nat.mod_one,List.getElem?_replicate]
 refine⟨by simp[Zs],.inr ⟨w.heap.size,n,_,by simp,b4,heap_alloc_new w _,by simp,by unfold maxLen; omega,by simp[madeCells],?_⟩⟩;rw[bm,UA];simp
theorem Zji (xs:List Int) (h: ∀ x∈xs,0<=x/\x<=255) (h4:4<=xs.length) :
 Lib.hasPrefix (Lib.bytesOf xs) (Lib.bytesOf [80,69,0,0])=decide (xs[0]! =80/\xs[1]! =69/\xs[2]! =0/\xs[3]! =0):=by
 match xs,h4 with
 | a::b::c::d::r,_ =>
   have ha:=h a (by simp);have hb:=h b (by simp);have hc:=h c (by simp);have hd:=h d (by simp);have e: ∀(x:Int) (n:Nat),0<=x/\x<=255->n<=255->((UInt8.ofNat n == UInt8.ofNat x.toNat)=decide (x=n)):=fun x n hx hn=>by
    rw[Bool.eq_iff_iff,beq_iff_eq,decide_eq_true_eq];constructor
    ·intro h;have h2:=congrArg UInt8.toNat h;simp at h2;omega
    ·rintro rfl;simp
   unfold Lib.hasPrefix Lib.bytesOf;simp only[List.map_cons,List.map_nil,List.isPrefixOf];rw[show((80:Int)).toNat=80 from rfl,show((69:Int)).toNat=69 from rfl,show((0:Int)).toNat=0 from rfl,e a 80 ha (by omega),e b 69 hb (by omega),e c 0 hc (by omega),e d 0 hd (by omega)];simp
theorem Zjj (b off n cap:Nat) (f:Nat->Int) (w:World) (h:Wj w b off n cap f) :
 Calls Tryz.prog 61 #[.slice (some ⟨b,off,none⟩) n cap] w fun e w'=>e= .returned (.tuple #[.int .i64 (Zv n f).1,.int .i64 (Zv n f).2])/\Below w.heap.size w w':=by
 have Cc:=h.len;have BC:=h.most;have HH:=Zg h;clear h;unfold Zv;by_cases c0:n<64
 ·rw[if_pos c0];have yO:(n:Int)<64:=by omega
  clear c0;go_enter Tryz.func61,Tryz.ntmps61;go_wp2_with fail
  go_ret2;exact⟨rfl,by go_grown⟩
 ·rw[if_neg c0];have PR:64<=n:=by omega
  clear c0;have r0:=HH.out.row 0 (by omega);have r1:=HH.out.row 1 (by omega);rw[Nat.add_zero] at r0;have b0:=HH.out.by255 0;have b1:=HH.out.by255 1;generalize f 0=x0 at *;generalize f 1=x1 at *;by_cases c1:x0≠77\/x1≠90
  ·rw[if_pos c1];rcases(show(x0 != 77)=true\/(x0=77/\(x1 != 90)=true) by
    by_cases d:x0=77
    ·right; exact⟨d,by simp; omega⟩
    ·left; simpa using d) with e0|⟨rfl,e1⟩
   all_goals
    clear c1;go_enter Tryz.func61,Tryz.ntmps61;go_wp2_with fail
    go_ret2;exact⟨rfl,by go_grown⟩
  ·rw[if_neg c1];obtain rfl:x0=77:=by omega
   obtain rfl:x1=90:=by omega
   have hu:=Zd3 b off n cap f 60 w HH.out (by omega);have xG:=ZR f HH.out.by255 4 60;obtain⟨p,hp⟩: ∃ p,rdF f 60 4=p:=⟨_,rfl⟩;rw[hp] at hu xG ⊢;obtain⟨p0,p1⟩:=xG;have p2:p<4294967296:=by omega
   have HU:=Zg hu;clear hu hp c1 b0 b1 p1;by_cases c2:p<64\/p % 4≠0\/(n:Int)<p+264
   ·rw[if_pos c2];rcases(show(p<64)\/(64<=p/\(p % 4 != 0)=true)\/(64<=p/\(p % 4 != 0)=false/\(n:Int)<p+264) by
     by_cases d:p<64
     ·exact .inl d
     ·by_cases d2:p % 4=0
      ·exact .inr (.inr ⟨by omega,by simp[d2],by omega⟩)
      ·exact .inr (.inl ⟨by omega,by simpa using d2⟩)) with e0|⟨e0,e1⟩|⟨e0,e1,e2⟩
    all_goals
     clear c2;go_enter Tryz.func61,Tryz.ntmps61;go_wp2_with (go_fit HU.out; rintro e w' ⟨rfl,rfl⟩)
     go_ret2;exact⟨rfl,by go_grown⟩
   ·rw[if_neg c2];have e0:64<=p:=by omega
    have e1:(p % 4 != 0)=false:=by simp; omega
    have e2:p+264<=n:=by omega
    obtain⟨P,rfl⟩: ∃ P:Nat,p=P:=⟨p.toNat,by omega⟩;rw[Int.toNat_natCast];have PS:P+264<=n:=by omega
    have bK: ¬ cap=P:=by omega
    have PT:P<=n:=by omega
    have J3:(listF (fun i=>f (P+i)) (n - P)).length=n - P:=VZ _ _;have hb: ∀ x∈listF (fun i=>f (P+i)) (n - P),0<=x/\x<=255:=Bs.listF (fun i=>HH.out.by255 (P+i)) (n - P);have vX:=Zji _ hb (by omega);have hg: ∀ j,j<4->(listF (fun i=>f (P+i)) (n - P))[j]! =f (P+j):=fun j hj=>by
     rw[getElem!_pos _ _ (by omega)];simp[listF]
    rw[hg 0 (by omega),hg 1 (by omega),hg 2 (by omega),hg 3 (by omega),Nat.add_zero] at vX;have Fy:=Tryz.bytes_HasPrefix_all (some ⟨b,off+P,none⟩) (some ⟨w.heap.size,0,none⟩) (n - P) (cap - P) 4 4 (listF (fun i=>f (P+i)) (n - P)) [80,69,0,0] (w.alloc (.cells #[.int .u8 80,.int .u8 69,.int .u8 0,.int .u8 0] 5)) J3 rfl (by omega)
     (fun _=>⟨b,off+P,rfl,fun i hi=>by
       have h:=(HH.out.row.below ((Below.refl w.heap.size w).alloc (Nat.le_refl _) (.cells #[.int .u8 80,.int .u8 69,.int .u8 0,.int .u8 0] 5)) HH.out.lt) (P+i) (by omega);rw[<-Nat.add_assoc] at h;rw[h];simp[listF,hi]⟩)
     (fun _=>⟨w.heap.size,0,rfl,fun i hi=>by
       rw[Nat.zero_add,cell_of_row (w.alloc (.cells #[.int .u8 80,.int .u8 69,.int .u8 0,.int .u8 0] 5)) w.heap.size i _ _ (0,0) (heap_alloc_new w _)];rcases(by omega:i=0\/i=1\/i=2\/i=3) with rfl|rfl|rfl|rfl <;> rfl⟩)
    rw[vX] at Fy;have CP:=Zg Fy;clear Fy vX hg hb J3 c2;by_cases c3:f P≠80\/f (P+1)≠69\/f (P+2)≠0\/f (P+3)≠0
    ·rw[if_pos c3];rw[decide_eq_false (by omega)] at CP;clear c3 p2 p0;go_enter Tryz.func61,Tryz.ntmps61;go_wp2_with fail
     go_fit HU.out
     rintro e w' ⟨rfl,rfl⟩;go_wp2_with fail
     go_fit CP.out
     rintro e w' ⟨rfl,rfl⟩;go_wp2_with fail
     go_ret2;exact⟨rfl,by go_grown⟩
    ·rw[if_neg c3];rw[decide_eq_true (by omega)] at CP;clear c3 p2 p0;go_enter Tryz.func61,Tryz.ntmps61;go_wp2_with fail
     go_fit HU.out
     rintro e w' ⟨rfl,rfl⟩;go_wp2_with fail
     go_fit CP.out
     rintro e w' ⟨rfl,rfl⟩;go_wp2_with fail
     go_ret2;exact⟨rfl,by go_grown⟩
structure ZX where
 base:Int
 stamp:Int
 chars:Int
 entry:Int
 size:Int
 headers:Int
 dirs:Nat->Int × Int
structure YR (cs:Array Value) (h:ZX) (sv:Value):Prop where
 size:cs.size=39
 c0:cs[0]? =some (.int .u64 h.base)
 c1:cs[1]? =some (.int .i64 h.stamp)
 c2:cs[2]? =some (.int .i64 h.chars)
 c3:cs[3]? =some (.int .i64 h.entry)
 c4:cs[4]? =some (.int .i64 h.size)
 c5:cs[5]? =some (.int .i64 h.headers)
 dir0: ∀ i,i<16->cs[6+2 * i]? =some (.int .i64 (h.dirs i).1)
 dir1: ∀ i,i<16->cs[6+2 * i+1]? =some (.int .i64 (h.dirs i).2)
 c38:cs[38]? =some sv
def XS (f:Nat->Int) (p:Nat) (base size:Int):Prop :=
 rdF f (p+56) 4=4096/\rdF f (p+60) 4=512/\base % 65536=0/\65536<=base/\base<=35184372088832/\size % 4096=0/\4096<=size/\size<=262144
theorem Zcl (b off n cap:Nat) (f:Nat->Int) (p:Nat) (cs:Array Value) (h:ZX) (sv:Value) (bb:Bool) (w:World) (hr:Wj w b off n cap f) (hp:p+264<=n) (Fz:p<=4294967296) (hv:YR cs h sv) (iT:bb=true↔XS f p h.base h.size) :
 Calls Tryz.prog 64 #[.slice (some ⟨b,off,none⟩) n cap,.int .i64 p,.agg cs] w fun e w'=>e= .returned (.bool bb)/\Below w.heap.size w w':=by
 have bO:Below w.heap.size w (w.alloc (.cells cs 41)):=(Below.refl _ _).alloc (Nat.le_refl _) _;have h1:=Zd3 b off n cap f (p+56) (w.alloc (.cells cs 41)) (hr.below bO) (by omega);have h2:=Zd3 b off n cap f (p+60) (w.alloc (.cells cs 41)) (hr.below bO) (by omega);rw[show((p+56:Nat):Int)=(p:Int)+56 by omega] at h1;rw[show((p+60:Nat):Int)=(p:Int)+60 by omega] at h2;have c0:=hv.c0;have c4:=hv.c4;unfold XS at iT;generalize rdF f (p+56) 4=x1 at *;generalize rdF f (p+60) 4=x2 at *;generalize h.base=y1 at *;generalize h.size=y2 at *;have H1:=Zg h1;have H2:=Zg h2;have HB:=Zg bO;have hf: ∀ P:Prop,(P->False)->(bb=true↔P)->bb=false:=fun P h1 h2=>by cases bb with
  | false=>rfl
  | true=>exact(h1 (h2.1 rfl)).elim
 have ht:y2.tmod 4096=0↔y2 % 4096=0:=by rw[<-Int.dvd_iff_tmod_eq_zero,<-Int.dvd_iff_emod_eq_zero]
 have bm:((x1 != 4096)=true/\bb=false)\/((x1 != 4096)=false/\(x2 != 512)=true/\bb=false)\/((x1 != 4096)=false/\(x2 != 512)=false/\(bb=true↔y1 % 65536=0/\65536<=y1/\y1<=35184372088832/\y2.tmod 4096=0/\4096<=y2/\y2<=262144)):=by
  by_cases d1:x1=4096
  ·by_cases d2:x2=512
   ·exact .inr (.inr ⟨by simp[d1],by simp[d2],by rw[iT,ht]; simp only[d1,d2,true_and]⟩)
   ·exact .inr (.inl ⟨by simp[d1],by simp[d2],hf _ (by omega) iT⟩)
  ·exact .inl ⟨by simp[d1],hf _ (by omega) iT⟩
 have fG:=Zg (show y1.tmod 65536=0↔y1 % 65536=0 by rw[<-Int.dvd_iff_tmod_eq_zero,<-Int.dvd_iff_emod_eq_zero]);have gY:=Zg ht;clear h1 h2 bO hr hv iT hf ht;rcases bm with⟨e1,rfl⟩|⟨e1,e2,rfl⟩|⟨e1,e2,e3⟩;all_goals
  go_enter Tryz.func64,Tryz.ntmps64;go_wp2_with (first|(go_fit H1.out; rintro e w' ⟨rfl,rfl⟩)|(go_fit H2.out; rintro e w' ⟨rfl,rfl⟩))
  all_goals
   go_ret;first
   | exact⟨rfl,HB.out⟩
   | (refine⟨congrArg (fun b=>Ending.returned (.bool b)) ?_,HB.out⟩
      rw[Bool.eq_iff_iff,e3];simp_all <;> (have t1:=fG.out; have t2:=gY.out; omega))
def Ys (n p:Nat) (hd k:Int):Prop:=1<=k/\k<=16/\(p:Int)+264+40 * k<=hd/\hd<=4096/\hd<=n
theorem JL (A:Option Addr) (n cap p:Nat) (hd k:Int) (bb:Bool) (w:World) (hn:n<=9223372036854775807) (Fz:p<=4294967296) (h0:0<=hd) (h1:hd<=4294967296) (k0:0<=k) (k1:k<=65536) (hb:bb=true↔Ys n p hd k) :
 Calls Tryz.prog 66 #[.slice A n cap,.int .i64 p,.int .i64 hd,.int .i64 k] w fun e w'=>e= .returned (.bool bb)/\w=w':=by
 unfold Ys at hb;have hf: ∀ P:Prop,(P->False)->(bb=true↔P)->bb=false:=fun P h1 h2=>by cases bb with
  | false=>rfl
  | true=>exact(h1 (h2.1 rfl)).elim
 have bm:(k<1/\bb=false)\/(1<=k/\16<k/\bb=false)\/(1<=k/\k<=16/\hd<(p:Int)+264+40 * k/\bb=false)\/(1<=k/\k<=16/\(p:Int)+264+40 * k<=hd/\4096<hd/\bb=false)\/(1<=k/\k<=16/\(p:Int)+264+40 * k<=hd/\hd<=4096/\decide (hd<=(n:Int))=bb):=by
  by_cases d1:k<1
  ·exact .inl ⟨d1,hf _ (by omega) hb⟩
  ·by_cases d2:16<k
   ·exact .inr (.inl ⟨by omega,d2,hf _ (by omega) hb⟩)
   ·by_cases d3:hd<(p:Int)+264+40 * k
    ·exact .inr (.inr (.inl ⟨by omega,by omega,d3,hf _ (by omega) hb⟩))
    ·by_cases d4:4096<hd
     ·exact .inr (.inr (.inr (.inl ⟨by omega,by omega,by omega,d4,hf _ (by omega) hb⟩)))
     ·refine .inr (.inr (.inr (.inr ⟨by omega,by omega,by omega,by omega,?_⟩)));rw[Bool.eq_iff_iff,decide_eq_true_eq,hb];omega
 clear hf hb;rcases bm with⟨e1,rfl⟩|⟨e1,e2,rfl⟩|⟨e1,e2,e3,rfl⟩|⟨e1,e2,e3,e4,rfl⟩|⟨e1,e2,e3,e4,rfl⟩;all_goals
  go_enter Tryz.func66,Tryz.ntmps66;go_wp2
  go_ret;exact⟨rfl,rfl⟩
end Go.Proofs.YtplgdpjbkdagfaaGreat
