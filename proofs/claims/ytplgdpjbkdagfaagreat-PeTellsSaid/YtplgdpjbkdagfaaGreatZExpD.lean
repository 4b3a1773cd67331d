import Derived.Test.YtplgdpjbkdagfaaGreatZExpC
import Derived.Laws.Cover1
import Derived.Test.YtplgdpjbkdagfaaGreatZExpM
namespace Go.Proofs.YtplgdpjbkdagfaaGreat
set_option maxHeartbeats 8000000
open Lib renaming hid→Zg
set_option maxRecDepth 100000
open Go.ChangeShapes Go.WideShapes Go.ChangeAt Go.RowKit
set_option linter.unusedVariables false
set_option linter.unusedSimpArgs false
def Zgi:List Nat->List Nat->Bool
 | _,[]=>false
 | [],_::_=>true
 | a::x,b::y=>decide (a<b)||(a == b&&Zgi x y)
def Zkw (t s:List Nat):Bool:=Zgi t s||t == s
theorem u8_lt {a b:Nat} (ha:a<=255) (hb:b<=255):decide (UInt8.ofNat a<UInt8.ofNat b)=decide (a<b):=by
 rw[decide_eq_decide,UInt8.lt_iff_toNat_lt,UInt8.toNat_ofNat_of_lt' (by simp[UInt8.size]; omega),UInt8.toNat_ofNat_of_lt' (by simp[UInt8.size]; omega)]
theorem Zmz {a b:Nat} (ha:a<=255) (hb:b<=255):UInt8.ofNat a=UInt8.ofNat b↔a=b:=by
 constructor
 ·intro h;have:=congrArg UInt8.toNat h;rwa [UInt8.toNat_ofNat_of_lt' (by simp[UInt8.size]; omega),UInt8.toNat_ofNat_of_lt' (by simp[UInt8.size]; omega)] at this
 ·intro h; rw[h]
theorem Zac: ∀(t s:List Nat),Lb t->Lb s->Op.bytesLess (t.map UInt8.ofNat) (s.map UInt8.ofNat)=Zgi t s
 | t,[],_,_=>by cases t <;> rfl
 | [],b::y,_,_=>rfl
 | a::x,b::y,ht,hs=>by
   have ha:=ht a (by simp);have hb:=hs b (by simp);simp only[List.map_cons,Op.bytesLess,Zgi,u8_lt ha hb,Zac x y (fun v hv=>ht v (List.mem_cons_of_mem _ hv)) (fun v hv=>hs v (List.mem_cons_of_mem _ hv))];congr 2
   rw[Bool.eq_iff_iff];simp[Zmz ha hb]
theorem Zh9 {t s:List Nat} (ht:Lb t) (hs:Lb s):(t.map UInt8.ofNat == s.map UInt8.ofNat)=(t == s):=by
 rw[Bool.eq_iff_iff,beq_iff_eq,beq_iff_eq];refine⟨fun h=> ?_,fun h=>by rw[h]⟩;apply List.ext_getElem?;intro i;have hi:=congrArg (·[i]?) h;simp only[List.getElem?_map] at hi;rcases h1:t[i]? with _|a <;> rcases h2:s[i]? with _|b <;> rw[h1,h2] at hi <;> simp at hi
 rw[(Zmz (ht a (List.mem_of_getElem? h1)) (hs b (List.mem_of_getElem? h2))).1 hi]
theorem XX {t:List Nat} (h:Lb t):(txt t).toList=t.map UInt8.ofNat:=by
 rw[ByteArray.toList_eq];unfold txt ZB;rw[strOfNums_data,List.map_map];apply List.ext_getElem?;intro i;rw[List.getElem?_map,List.getElem?_map];rcases Nat.lt_or_ge i t.length with hi|hi
 ·rw[List.getElem?_range hi,List.getElem?_eq_getElem hi];simp[lF,List.getD,hi]
 ·rw[List.getElem?_eq_none (by simpa using hi),List.getElem?_eq_none hi];rfl
theorem Zns {t s:List Nat} (ht:Lb t) (hs:Lb s):(Op.bytesLess (txt t).toList (txt s).toList||(txt t).toList == (txt s).toList)=Zkw t s:=by
 rw[XX ht,XX hs,Zac t s ht hs,Zh9 ht hs]; rfl
theorem Zm0 {t s:List Nat} (ht:Lb t) (hs:Lb s):((txt t).toList == (txt s).toList)=(t == s):=by
 rw[XX ht,XX hs,Zh9 ht hs]
abbrev NmV:=List Nat × Nat
def nC (x:NmV):List Value:=[.string (txt x.1),.int .i64 x.2]
theorem Zbp (x:NmV):(nC x).length=2:=rfl
theorem Zia (x:NmV): ∀ u∈nC x,u.oneCell'=true:=by
 intro u hu;simp[nC] at hu;rcases hu with rfl|rfl <;> rfl
theorem VO:(Tryz.prog.info? 76).map (fun i=>(i.zero,i.size,i.bytes))=some (some (.agg #[.string ByteArray.empty,.int .i64 0]),2,24):=by kernel_rfl
theorem Up (x:Nat) (t:List Nat) (w:World): ∀ j u,(nC (t,x))[j]? =some u->(w.alloc (.cells #[.string (txt t),.int .i64 x] 76)).cell? ⟨w.heap.size,j,none⟩=some u:=by
 intro j u hu;rcases j with _|_|j
 ·simp[nC] at hu; subst hu; simp[go_sem]
 ·simp[nC] at hu; subst hu; simp[go_sem]
 ·simp[nC] at hu
def Xw (b:List Nat) (atN atI funcs:Nat):Nat->Nat->List Nat->List NmV->Option (List NmV)
 | 0,_,_,acc=>some acc
 | k+1,i,last,acc=>match YO b (Yg (b.drop (atN+4 * i)) 4) 64 with
   | none=>none
   | some t=>if Yu t=true then
      if Zkw t last=true then none
      else if Yg (b.drop (atI+2 * i)) 2<funcs then Xw b atN atI funcs k (i+1) t (acc++[(t,Yg (b.drop (atI+2 * i)) 2)]) else none
     else none
def NamesQ (w w':World) (r:Option (List NmV)) (e:Ending):Prop:=match r with
 | none=>e= .returned (.tuple #[.slice none 0 0,.bool false])
 | some l=> ∃ A cap,e= .returned (.tuple #[.slice A l.length cap,.bool true])/\ZJ nC 2 w' w.heap.size 76 (.slice A l.length cap) l
theorem Zad (A:Option Addr) (cap:Nat) (bs:List Nat) (b0 b1 b2 b3 b4 b5:Nat) (w:World) (hb:Lb bs) (hl:bs.length<=cap) (hc:cap<=9223372036854775807) (hlen:bs.length<=1099511627776) (hs:SlB w A bs.length (lF bs))
 (hn:b2<=256) (aU:b2=0\/(b4+4 * b2<=bs.length/\b5+2 * b2<=bs.length)) :
 Calls Tryz.prog 110 #[.slice A bs.length cap,.agg #[.int .i64 b0,.int .i64 b1,.int .i64 b2,.int .i64 b3,.int .i64 b4,.int .i64 b5]] w fun e w'=>NamesQ w w' (Xw bs b4 b5 b1 b2 0 [] []) e/\Below w.heap.size w w':=by
 have HS:=Zg (fun W (hW:Below w.heap.size w W)=>SlB.below hs hW);have aJ:=Zg hb;have ax:=Zg aU;have kh:=Zg (And.intro hl (And.intro hc hlen));obtain⟨R,hR⟩: ∃ R,Xw bs b4 b5 b1 b2 0 [] []=R:=⟨_,rfl⟩;rw[hR];have HR:=Zg hR;clear hR hs aU;go_enter Tryz.func110,Tryz.ntmps110;have jw:=Zg (heap_alloc_new w (.cells #[.int .i64 b0,.int .i64 b1,.int .i64 b2,.int .i64 b3,.int .i64 b4,.int .i64 b5] 187));have dU:=Zg (show Below w.heap.size w (w.alloc (.cells #[.int .i64 b0,.int .i64 b1,.int .i64 b2,.int .i64 b3,.int .i64 b4,.int .i64 b5] 187)) from(Below.refl w.heap.size w).alloc (Nat.le_refl _) _);have aT:(w.alloc (.cells #[.int .i64 b0,.int .i64 b1,.int .i64 b2,.int .i64 b3,.int .i64 b4,.int .i64 b5] 187)).heap.size=w.heap.size+1:=by simp
 have eV:=Zg aT;have yu:=Zg (show 24 * b2<=281474976710656 from by omega);have tg:=Zg (show b2<=maxLen from by unfold maxLen; omega);have yv:=Zg (show w.heap.size+1<=(w.alloc (.cells #[.int .i64 b0,.int .i64 b1,.int .i64 b2,.int .i64 b3,.int .i64 b4,.int .i64 b5] 187)).heap.size from by rw[aT]; exact Nat.le_refl _);clear aT;go_upto_region 3 with(first
  | (refine UP (C:=nC) (sz:=2) rfl _ _ 43 rfl (w.heap.size+1) 76 _ 24 rfl VO .i64 .i64 b2 rfl rfl yu.out tg.out yv.out ?_; intro w1 kM ao; have cW:=Zg kM; have fg:=Zg ao; clear kM ao)
  | fail)
 have pC:=Zg ((fg.out.block w.heap.size (by rw[eV.out]; omega)).trans jw.out);have av:=Zg (dU.out.trans (fg.out.mono dU.out.size));have uE:=cW.out;rw[eV.out] at uE;have qN:=Zg uE;clear jw dU yu tg yv cW fg eV uE;have fF:w1.cell? ⟨w.heap.size,2,none⟩=some (.int .i64 b2):=by rw[Zh pC.out]; rfl
 go_wp2_with fail
 go_loopw [6,7,18] (fun v6 v7 uH wr=> ∃(i k:Nat) (l:List NmV) (last:List Nat) (A':Option Addr) (c':Nat),i+k=b2/\l.length=i/\Lb last/\last.length<=64/\uH= .int .i64 i/\v6= .slice A' i c'/\v7= .string (txt last)/\ZJ nC 2 wr (w.heap.size+1) 76 (.slice A' i c') l/\Below w.heap.size w wr/\wr.heap[w.heap.size]? =some (.cells #[.int .i64 b0,.int .i64 b1,.int .i64 b2,.int .i64 b3,.int .i64 b4,.int .i64 b5] 187 (0,0))/\Xw bs b4 b5 b1 k i last l=R) (fun _ _ uH _=>b2 - (intOf uH).toNat)
 case atStart=>exact⟨0,b2,[],[],_,_,by omega,rfl,by intro v hv; simp at hv,by simp,rfl,rfl,rfl,qN.out,av.out,pC.out,HR.out⟩
 case round =>
  obtain⟨i,k,l,last,A',c',jD,lV,fM,mr,rfl,rfl,rfl,ae,aq,aY,hR⟩:=hrel;have HO:=Zg ae;have aw:=Zg aq;have cd:=Zg aY;have bk:=Zg hR;have bg:=Zg lV;have Du:=Zg fM;clear ae aq aY hR lV fM;by_cases af:i<b2
  ·obtain⟨k,rfl⟩: ∃ q,k=q+1:=⟨k - 1,by omega⟩;obtain⟨m4,jE⟩: ∃ m,4 * i=m:=⟨_,rfl⟩;obtain⟨m2,uI⟩: ∃ m,2 * i=m:=⟨_,rfl⟩;obtain⟨o,ho⟩: ∃ o,b4+m4=o:=⟨_,rfl⟩;obtain⟨q,hq⟩: ∃ q,b5+m2=q:=⟨_,rfl⟩;have iv:o+4<=bs.length:=by have:=ax.out; omega
   have yw:q+2<=bs.length:=by have:=ax.out; omega
   have em:(4:Int) * (i:Int)=(m4:Int):=by omega
   have wm:IntKind.i64.wrap (m4:Int)=(m4:Int):=by rw[IntKind.wrap_i64]; omega
   have eo:(b4:Int)+(m4:Int)=(o:Int):=by omega
   have wo:IntKind.i64.wrap (o:Int)=(o:Int):=by have:=kh.out; rw[IntKind.wrap_i64]; omega
   have GM:(2:Int) * (i:Int)=(m2:Int):=by omega
   have Ll:IntKind.i64.wrap (m2:Int)=(m2:Int):=by rw[IntKind.wrap_i64]; omega
   have GN:(b5:Int)+(m2:Int)=(q:Int):=by omega
   have GO:IntKind.i64.wrap (q:Int)=(q:Int):=by have:=kh.out; rw[IntKind.wrap_i64]; omega
   have HU:=Zg (fun W (hW:Below w.heap.size w W)=>Wa A cap bs o W (by have:=kh.out; omega) aJ.out iv (HS.out W hW));have iV:=Zg (fun W (hW:Below w.heap.size w W)=>Jb A cap bs q W (by have:=kh.out; omega) aJ.out yw (HS.out W hW));have aa:=bk.out;simp only[Xw] at aa;rw[jE,ho,uI,hq] at aa;obtain⟨v,fj⟩: ∃ v,Yg (bs.drop o) 4=v:=⟨_,rfl⟩;obtain⟨ix,yA⟩: ∃ v,Yg (bs.drop q) 2=v:=⟨_,rfl⟩;rw[fj] at HU aa;rw[yA] at iV aa;have bW:=Zg (fun W (hW:Below w.heap.size w W)=>WK A cap bs v 64 W (by have:=kh.out; omega) kh.out.1 (HS.out W hW));have OY:wr.cell? ⟨w.heap.size,4,none⟩=some (.int .i64 b4):=by rw[Zh cd.out]; rfl
   have OZ:wr.cell? ⟨w.heap.size,5,none⟩=some (.int .i64 b5):=by rw[Zh cd.out]; rfl
   have Lm:wr.cell? ⟨w.heap.size,1,none⟩=some (.int .i64 b1):=by rw[Zh cd.out]; rfl
   have ar:=Zg aa;clear aa fj yA jE uI ho hq iv yw fF;go_wp2_with fail
   refine(HU.out _ aw.out).mono ?_;rintro e w' ⟨rfl,rfl⟩;go_wp2_with fail
   refine(bW.out _ aw.out).mono ?_;rintro e w' ⟨rfl,rfl⟩;rcases htx:YO bs v 64 with _|t
   ·have aa:=ar.out;rw[htx] at aa;simp only at aa ⊢;subst aa;go_wp2_with fail
    go_ret2;exact⟨rfl,aw.out⟩
   ·have aE:=YC aJ.out htx;have aa:=ar.out;rw[htx] at aa;simp only at aa ⊢;have cO:=Zg (fun W=>Zb7 t W aE.1 (by have:=aE.2; omega));have ob:=Zns aE.1 Du.out;have cM:=Zg aE;clear aE htx ar bW;by_cases ba:Yu t=true
    ·rw[if_pos ba] at aa;rw[ba] at cO;by_cases hle:Zkw t last=true
     ·rw[if_pos hle] at aa;subst aa;rw[hle] at ob;go_wp2_with fail
      refine(cO.out _).mono ?_;rintro e w' ⟨rfl,rfl⟩;go_wp2_with fail
      go_ret2;exact⟨rfl,aw.out⟩
     ·rw[if_neg hle] at aa;rw[show Zkw t last=false by simpa using hle] at ob;by_cases pG:ix<b1
      ·rw[if_pos pG] at aa;have bS:=Zg aa;have pD: ¬ (b1:Int)<=(ix:Int):=by omega
       clear aa pG;have aK:=Zg (HO.out.alloc (.cells #[.string (txt t),.int .i64 ix] 76));have cK:=Zg (Up ix t wr);have aV:=Zg (aw.out.alloc aw.out.size (.cells #[.string (txt t),.int .i64 ix] 76));have uF:=Zg (show(wr.alloc (.cells #[.string (txt t),.int .i64 ix] 76)).heap[w.heap.size]? =_ from(Below.heap_alloc _ _ _ (Zi cd.out)).trans cd.out);have H3:=Zg (show w.heap.size+1<=(wr.alloc (.cells #[.string (txt t),.int .i64 ix] 76)).heap.size from Zi uF.out);have H4:=Zg (show l.length+1<=maxLen from by rw[bg.out]; unfold maxLen; omega);have H5:=Zg (show(l.length+1) * 24<=140737488355328 from by rw[bg.out]; omega);have iY:l.length<256:=by have:=bg.out; omega
       have mz:l.length+1<=b2:=by have:=bg.out; omega
       go_wp2_with fail
       refine(cO.out _).mono ?_;rintro e w' ⟨rfl,rfl⟩;go_wp2_with fail
       refine(iV.out _ aw.out).mono ?_;rintro e w' ⟨rfl,rfl⟩;rw[<-bg.out] at aK ⊢;go_wp2_with (first
        | (at_builtin; refine Zq rfl (.tmp 59) (.tmp 63) 43 rfl (w.heap.size+1) 76 _ 24 rfl VO rfl (by omega) Zbp Zia _ l rfl aK.out wr.heap.size 1 rfl (t,ix) cK.out H4.out H5.out H3.out ?_; intro g5 aG w8 ag aI aD)
        | fail)
       have ay:=Zg (aK.out.grew aV.out (by omega) aV.out.size aI);have ai:=Zg ((aI.block w.heap.size (Zi uF.out) (fun h=>by have:=(aK.out.lt _ h.symm).1; omega)).trans uF.out);have di:=Zg ag;clear ag aI aD;go_roundw
       case rel=>exact⟨l.length+1,k,l++[(t,ix)],t,_,aG,by have:=bg.out; omega,by simp,cM.out.1,cM.out.2,by go_num,rfl,rfl,di.out,ay.out,ai.out,by rw[bg.out]; exact bS.out⟩
       case measure=>simp[intOf]; have:=bg.out; omega
      ·rw[if_neg pG] at aa;subst aa;have pD:(b1:Int)<=(ix:Int):=by omega
       go_wp2_with fail
       refine(cO.out _).mono ?_;rintro e w' ⟨rfl,rfl⟩;go_wp2_with fail
       refine(iV.out _ aw.out).mono ?_;rintro e w' ⟨rfl,rfl⟩;go_wp2_with fail
       go_ret2;exact⟨rfl,aw.out⟩
    ·rw[if_neg ba] at aa;subst aa;rw[show Yu t=false by simpa using ba] at cO;go_wp2_with fail
     refine(cO.out _).mono ?_;rintro e w' ⟨rfl,rfl⟩;go_wp2_with fail
     go_ret2;exact⟨rfl,aw.out⟩
  ·obtain rfl:k=0:=by omega
   have aa:=bk.out;simp only[Xw] at aa;subst aa;go_wp2_with fail
   go_ret2;refine⟨⟨A',c',?_,?_⟩,aw.out⟩
   ·rw[bg.out]; rfl
   ·rw[bg.out]; exact Joins.ownsRow_le HO.out (by omega)
theorem SlT.nm {w:World} {F:Option Addr} {fs:List NmV} (h:SlT nC 2 w F fs) {k:Nat} (hk:k<fs.length): ∃ b off,F=some ⟨b,off,none⟩/\b<w.heap.size/\w.cell? ⟨b,off+k * 2,none⟩=some (.string (txt fs[k].1))/\w.cell? ⟨b,off+k * 2+1,none⟩=some (.int .i64 fs[k].2):=by
 rcases h with h|⟨b,off,rfl,af,hc⟩
 ·rw[h] at hk; simp at hk
 ·exact⟨b,off,rfl,af,by have:=hc k hk 0 _ (by simp[nC]; rfl); simpa using this,by have:=hc k hk 1 _ (by simp[nC]; rfl); rwa [<-Nat.add_assoc] at this⟩
theorem fnOne {n:Int} {T:ByteArray}:(#[.int .i64 n,.string T]:Array Value).all (·.oneCell')=true:=by simp[Value.oneCell']
theorem fnInfo {x y:Value}:(Tryz.prog.info? 74).map (·.size)=some (#[x,y]:Array Value).size:=by kernel_rfl
theorem Ze1 (A:Option Addr) (cap:Nat) (bs:List Nat) (o:Nat) (w:World) (hl:bs.length<=9223372036854775807) (hb:Lb bs) (hs:SlB w A bs.length (lF bs)) :
 Calls Tryz.prog 103 #[.slice A bs.length cap,.int .i64 o] w fun e w'=>e= .returned (.tuple #[.int .u64 (if o+8<=bs.length then Yg (bs.drop o) 8 else 0:Nat),.bool (decide (o+8<=bs.length))])/\w=w':=by
 have H:Hid (Calls Tryz.prog 130 #[.slice A bs.length cap,.int .i64 o,.int .i64 8] w fun e w'=>e= .returned (.tuple #[.int .u64 (if o+8<=bs.length then Yg (bs.drop o) 8 else 0:Nat),.bool (decide (o+8<=bs.length))])/\w=w'):=by
  by_cases c:o+8<=bs.length
  ·rw[if_pos c,decide_eq_true c];rcases hs with h'|⟨b,off,rfl,_,hr⟩
   ·omega
   ·rw[<-Wv];exact Zg (Vh b off _ cap _ o 8 w hl (by omega) c hb.b255 hr)
  ·rw[if_neg c,decide_eq_false c];exact Zg (Zjt A _ cap o 8 w hl (by omega) (by omega) (by omega))
 generalize (if o+8<=bs.length then Yg (bs.drop o) 8 else 0:Nat)=x at *;generalize decide (o+8<=bs.length)=y at *;clear hs hb;go_enter Tryz.func103,Tryz.ntmps103;go_wp2_with fail
 refine H.out.mono ?_;rintro e w' ⟨rfl,rfl⟩;go_wp2
 go_ret2;exact⟨rfl,rfl⟩
theorem Xu (A:Option Addr) (cap:Nat) (bs:List Nat) (o:Nat) (w:World) (hl:bs.length<=9223372036854775807) (hb:Lb bs) (h:o+4<=bs.length) (hs:SlB w A bs.length (lF bs)) :
 Calls Tryz.prog 137 #[.slice A bs.length cap,.int .i64 o] w fun e w'=>e= .returned (.int .i64 (Yg (bs.drop o) 4))/\w=w':=by
 have H:=Zg (QZ A cap bs o w hl hb h hs);clear hs hb;go_enter Tryz.func137,Tryz.ntmps137;go_wp2_with fail
 refine H.out.mono ?_;rintro e w' ⟨rfl,rfl⟩;go_wp2_with fail
 go_ret;exact⟨rfl,rfl⟩
structure Ds where
 thunks:Nat
 dll:Nat
 iat:Nat
 stamp:Nat
 delay:Bool
 attrs:Nat
 handle:Nat
def Ds.cells (x:Ds):Array Value:= #[.int .i64 x.thunks,.int .i64 x.dll,.int .i64 x.iat,.int .i64 x.stamp,.bool x.delay,.int .i64 x.attrs,.int .i64 x.handle]
def ZT (b:List Nat) (o:Nat):Ds:=⟨Yg (b.drop o) 4,Yg (b.drop (o+12)) 4,Yg (b.drop (o+16)) 4,Yg (b.drop (o+4)) 4,false,0,0⟩
def Yl (b:List Nat) (o:Nat):Ds:=⟨Yg (b.drop (o+16)) 4,Yg (b.drop (o+4)) 4,Yg (b.drop (o+12)) 4,Yg (b.drop (o+28)) 4,true,Yg (b.drop o) 4,Yg (b.drop (o+8)) 4⟩
theorem dsOne {a b c d e f:Int} {g:Bool}:(#[.int .i64 a,.int .i64 b,.int .i64 c,.int .i64 d,.bool g,.int .i64 e,.int .i64 f]:Array Value).all (·.oneCell')=true:=by simp[Value.oneCell']
theorem Zm1 {a b c d e f g:Value}:(Tryz.prog.info? 219).map (·.size)=some (#[a,b,c,d,e,f,g]:Array Value).size:=by kernel_rfl
theorem Zbq (A:Option Addr) (cap:Nat) (bs:List Nat) (o:Nat) (w:World) (hl:bs.length<=1000000) (hb:Lb bs) (h:o+20<=bs.length) (hs:SlB w A bs.length (lF bs)) :
 Calls Tryz.prog 112 #[.slice A bs.length cap,.int .i64 o] w fun e w'=>e= .returned (.agg (ZT bs o).cells)/\Below w.heap.size w w':=by
 obtain⟨w1,ao⟩: ∃ w1,w.alloc (.cells #[.int .i64 0,.int .i64 0,.int .i64 0,.int .i64 0,.bool false,.int .i64 0,.int .i64 0] 219)=w1:=⟨_,rfl⟩;have cu:=Zg ao;have HB:=Zg (show Below w.heap.size w w1 from by rw[<-ao]; exact(Below.refl _ _).alloc (Nat.le_refl _) _);have H1:=Zg (show w1.heap[w.heap.size]? =some (.cells #[.int .i64 0,.int .i64 0,.int .i64 0,.int .i64 0,.bool false,.int .i64 0,.int .i64 0] 219 (0,0)) from by rw[<-ao]; exact heap_alloc_new w _);clear ao;obtain⟨R,hR⟩: ∃ R,(ZT bs o).cells=R:=⟨_,rfl⟩;rw[hR];unfold ZT Ds.cells at hR;simp only at hR;have iS:=Zg (Xu A cap bs o w1 (by omega) hb (by omega) (SlB.below hs HB.out));obtain⟨x0,kA⟩: ∃ v,Yg (bs.drop o) 4=v:=⟨_,rfl⟩;rw[kA] at iS hR;clear kA;obtain⟨o4,dj⟩: ∃ q,o+4=q:=⟨_,rfl⟩;have um:(o:Int)+4=(o4:Int):=by omega
 have Bx:IntKind.i64.wrap (o4:Int)=(o4:Int):=by rw[IntKind.wrap_i64]; omega
 rw[dj] at hR;have jc:=Zg (Xu A cap bs o4 w1 (by omega) hb (by omega) (SlB.below hs HB.out));obtain⟨x4,yB⟩: ∃ v,Yg (bs.drop o4) 4=v:=⟨_,rfl⟩;rw[yB] at jc hR;clear yB dj;obtain⟨dh,dR⟩: ∃ q,o+12=q:=⟨_,rfl⟩;have n6:(o:Int)+12=(dh:Int):=by omega
 have uo:IntKind.i64.wrap (dh:Int)=(dh:Int):=by rw[IntKind.wrap_i64]; omega
 rw[dR] at hR;have gI:=Zg (Xu A cap bs dh w1 (by omega) hb (by omega) (SlB.below hs HB.out));obtain⟨pH,pI⟩: ∃ v,Yg (bs.drop dh) 4=v:=⟨_,rfl⟩;rw[pI] at gI hR;clear pI dR;obtain⟨cg,cq⟩: ∃ q,o+16=q:=⟨_,rfl⟩;have kx:(o:Int)+16=(cg:Int):=by omega
 have rq:IntKind.i64.wrap (cg:Int)=(cg:Int):=by rw[IntKind.wrap_i64]; omega
 rw[cq] at hR;have dA:=Zg (Xu A cap bs cg w1 (by omega) hb (by omega) (SlB.below hs HB.out));obtain⟨ji,jS⟩: ∃ v,Yg (bs.drop cg) 4=v:=⟨_,rfl⟩;rw[jS] at dA hR;clear jS cq;subst hR;clear hb hs h;go_enter Tryz.func112,Tryz.ntmps112;go_upto_region 1 with(fail)
 refine(congrArg _ cu.out).mpr ?_;go_wp2_with fail
 refine iS.out.mono ?_;rintro e w' ⟨rfl,rfl⟩;go_wp2_with fail
 refine jc.out.mono ?_;rintro e w' ⟨rfl,rfl⟩;go_wp2_with fail
 refine gI.out.mono ?_;rintro e w' ⟨rfl,rfl⟩;go_wp2_with fail
 refine dA.out.mono ?_;rintro e w' ⟨rfl,rfl⟩;obtain⟨w9,ah⟩: ∃ w9,w1.setRow (w.heap.size) #[.int .i64 x0,.int .i64 pH,.int .i64 ji,.int .i64 x4,.bool false,.int .i64 0,.int .i64 0]=w9:=⟨_,rfl⟩;have aP:=Zg ah;have ai:=Zg (show w9.heap[w.heap.size]? =some (.cells #[.int .i64 x0,.int .i64 pH,.int .i64 ji,.int .i64 x4,.bool false,.int .i64 0,.int .i64 0] 219 (0,0)) from by rw[<-ah]; exact setRow_heap _ _ _ _ _ _ H1.out);have ay:=Zg (show Below w.heap.size w w9 from by rw[<-ah]; exact below_setRow HB.out (Nat.le_refl _) _);have k0:w9.cell? ⟨w.heap.size,0,none⟩=some (.int .i64 x0):=by rw[Zh ai.out]; rfl
 have k1:w9.cell? ⟨w.heap.size,1,none⟩=some (.int .i64 pH):=by rw[Zh ai.out]; rfl
 have k2:w9.cell? ⟨w.heap.size,2,none⟩=some (.int .i64 ji):=by rw[Zh ai.out]; rfl
 have k3:w9.cell? ⟨w.heap.size,3,none⟩=some (.int .i64 x4):=by rw[Zh ai.out]; rfl
 have k4:w9.cell? ⟨w.heap.size,4,none⟩=some (.bool false):=by rw[Zh ai.out]; rfl
 have k5:w9.cell? ⟨w.heap.size,5,none⟩=some (.int .i64 0):=by rw[Zh ai.out]; rfl
 have k6:w9.cell? ⟨w.heap.size,6,none⟩=some (.int .i64 0):=by rw[Zh ai.out]; rfl
 clear ah;go_wp2_with (first|(refine wpList_store_row rfl 219 _ _ rfl (w.heap.size) #[.int .i64 x0,.int .i64 pH,.int .i64 ji,.int .i64 x4,.bool false,.int .i64 0,.int .i64 0] rfl rfl 219 #[.int .i64 0,.int .i64 0,.int .i64 0,.int .i64 0,.bool false,.int .i64 0,.int .i64 0] H1.out Zm1 rfl dsOne ?_; refine(congrArg _ aP.out).mpr ?_)|fail)
 refine bodyPost_ret (v:= .agg #[.int .i64 x0,.int .i64 pH,.int .i64 ji,.int .i64 x4,.bool false,.int .i64 0,.int .i64 0]) (by simp[results,Tryz.results112,go_sem,k0,k1,k2,k3,k4,k5,k6]) rfl ⟨rfl,ay.out⟩
theorem Zdh (A:Option Addr) (cap:Nat) (bs:List Nat) (o:Nat) (w:World) (hl:bs.length<=1000000) (hb:Lb bs) (h:o+32<=bs.length) (hs:SlB w A bs.length (lF bs)) :
 Calls Tryz.prog 120 #[.slice A bs.length cap,.int .i64 o] w fun e w'=>e= .returned (.agg (Yl bs o).cells)/\Below w.heap.size w w':=by
 obtain⟨w1,ao⟩: ∃ w1,w.alloc (.cells #[.int .i64 0,.int .i64 0,.int .i64 0,.int .i64 0,.bool false,.int .i64 0,.int .i64 0] 219)=w1:=⟨_,rfl⟩;have cu:=Zg ao;have HB:=Zg (show Below w.heap.size w w1 from by rw[<-ao]; exact(Below.refl _ _).alloc (Nat.le_refl _) _);have H1:=Zg (show w1.heap[w.heap.size]? =some (.cells #[.int .i64 0,.int .i64 0,.int .i64 0,.int .i64 0,.bool false,.int .i64 0,.int .i64 0] 219 (0,0)) from by rw[<-ao]; exact heap_alloc_new w _);clear ao;obtain⟨R,hR⟩: ∃ R,(Yl bs o).cells=R:=⟨_,rfl⟩;rw[hR];unfold Yl Ds.cells at hR;simp only at hR;have iS:=Zg (Xu A cap bs o w1 (by omega) hb (by omega) (SlB.below hs HB.out));obtain⟨x0,kA⟩: ∃ v,Yg (bs.drop o) 4=v:=⟨_,rfl⟩;rw[kA] at iS hR;clear kA;obtain⟨o4,dj⟩: ∃ q,o+4=q:=⟨_,rfl⟩;have um:(o:Int)+4=(o4:Int):=by omega
 have Bx:IntKind.i64.wrap (o4:Int)=(o4:Int):=by rw[IntKind.wrap_i64]; omega
 rw[dj] at hR;have jc:=Zg (Xu A cap bs o4 w1 (by omega) hb (by omega) (SlB.below hs HB.out));obtain⟨x4,yB⟩: ∃ v,Yg (bs.drop o4) 4=v:=⟨_,rfl⟩;rw[yB] at jc hR;clear yB dj;obtain⟨o8,fe⟩: ∃ q,o+8=q:=⟨_,rfl⟩;have Bw:(o:Int)+8=(o8:Int):=by omega
 have Da:IntKind.i64.wrap (o8:Int)=(o8:Int):=by rw[IntKind.wrap_i64]; omega
 rw[fe] at hR;have ye:=Zg (Xu A cap bs o8 w1 (by omega) hb (by omega) (SlB.below hs HB.out));obtain⟨x8,GR⟩: ∃ v,Yg (bs.drop o8) 4=v:=⟨_,rfl⟩;rw[GR] at ye hR;clear GR fe;obtain⟨dh,dR⟩: ∃ q,o+12=q:=⟨_,rfl⟩;have n6:(o:Int)+12=(dh:Int):=by omega
 have uo:IntKind.i64.wrap (dh:Int)=(dh:Int):=by rw[IntKind.wrap_i64]; omega
 rw[dR] at hR;have gI:=Zg (Xu A cap bs dh w1 (by omega) hb (by omega) (SlB.below hs HB.out));obtain⟨pH,pI⟩: ∃ v,Yg (bs.drop dh) 4=v:=⟨_,rfl⟩;rw[pI] at gI hR;clear pI dR;obtain⟨cg,cq⟩: ∃ q,o+16=q:=⟨_,rfl⟩;have kx:(o:Int)+16=(cg:Int):=by omega
 have rq:IntKind.i64.wrap (cg:Int)=(cg:Int):=by rw[IntKind.wrap_i64]; omega
 rw[cq] at hR;have dA:=Zg (Xu A cap bs cg w1 (by omega) hb (by omega) (SlB.below hs HB.out));obtain⟨ji,jS⟩: ∃ v,Yg (bs.drop cg) 4=v:=⟨_,rfl⟩;rw[jS] at dA hR;clear jS cq;obtain⟨eG,eY⟩: ∃ q,o+28=q:=⟨_,rfl⟩;have ru:(o:Int)+28=(eG:Int):=by omega
 have yf:IntKind.i64.wrap (eG:Int)=(eG:Int):=by rw[IntKind.wrap_i64]; omega
 rw[eY] at hR;have fB:=Zg (Xu A cap bs eG w1 (by omega) hb (by omega) (SlB.below hs HB.out));obtain⟨oP,oe⟩: ∃ v,Yg (bs.drop eG) 4=v:=⟨_,rfl⟩;rw[oe] at fB hR;clear oe eY;subst hR;clear hb hs h;go_enter Tryz.func120,Tryz.ntmps120;go_upto_region 1 with(fail)
 refine(congrArg _ cu.out).mpr ?_;go_wp2_with fail
 refine iS.out.mono ?_;rintro e w' ⟨rfl,rfl⟩;go_wp2_with fail
 refine jc.out.mono ?_;rintro e w' ⟨rfl,rfl⟩;go_wp2_with fail
 refine ye.out.mono ?_;rintro e w' ⟨rfl,rfl⟩;go_wp2_with fail
 refine gI.out.mono ?_;rintro e w' ⟨rfl,rfl⟩;go_wp2_with fail
 refine dA.out.mono ?_;rintro e w' ⟨rfl,rfl⟩;go_wp2_with fail
 refine fB.out.mono ?_;rintro e w' ⟨rfl,rfl⟩;obtain⟨w9,ah⟩: ∃ w9,w1.setRow (w.heap.size) #[.int .i64 ji,.int .i64 x4,.int .i64 pH,.int .i64 oP,.bool true,.int .i64 x0,.int .i64 x8]=w9:=⟨_,rfl⟩;have aP:=Zg ah;have ai:=Zg (show w9.heap[w.heap.size]? =some (.cells #[.int .i64 ji,.int .i64 x4,.int .i64 pH,.int .i64 oP,.bool true,.int .i64 x0,.int .i64 x8] 219 (0,0)) from by rw[<-ah]; exact setRow_heap _ _ _ _ _ _ H1.out);have ay:=Zg (show Below w.heap.size w w9 from by rw[<-ah]; exact below_setRow HB.out (Nat.le_refl _) _);have k0:w9.cell? ⟨w.heap.size,0,none⟩=some (.int .i64 ji):=by rw[Zh ai.out]; rfl
 have k1:w9.cell? ⟨w.heap.size,1,none⟩=some (.int .i64 x4):=by rw[Zh ai.out]; rfl
 have k2:w9.cell? ⟨w.heap.size,2,none⟩=some (.int .i64 pH):=by rw[Zh ai.out]; rfl
 have k3:w9.cell? ⟨w.heap.size,3,none⟩=some (.int .i64 oP):=by rw[Zh ai.out]; rfl
 have k4:w9.cell? ⟨w.heap.size,4,none⟩=some (.bool true):=by rw[Zh ai.out]; rfl
 have k5:w9.cell? ⟨w.heap.size,5,none⟩=some (.int .i64 x0):=by rw[Zh ai.out]; rfl
 have k6:w9.cell? ⟨w.heap.size,6,none⟩=some (.int .i64 x8):=by rw[Zh ai.out]; rfl
 clear ah;go_wp2_with (first|(refine wpList_store_row rfl 219 _ _ rfl (w.heap.size) #[.int .i64 ji,.int .i64 x4,.int .i64 pH,.int .i64 oP,.bool true,.int .i64 x0,.int .i64 x8] rfl rfl 219 #[.int .i64 0,.int .i64 0,.int .i64 0,.int .i64 0,.bool false,.int .i64 0,.int .i64 0] H1.out Zm1 rfl dsOne ?_; refine(congrArg _ aP.out).mpr ?_)|fail)
 refine bodyPost_ret (v:= .agg #[.int .i64 ji,.int .i64 x4,.int .i64 pH,.int .i64 oP,.bool true,.int .i64 x0,.int .i64 x8]) (by simp[results,Tryz.results120,go_sem,k0,k1,k2,k3,k4,k5,k6]) rfl ⟨rfl,ay.out⟩
abbrev XV:=List Nat × Nat × Bool
def YX (x:XV):List Value:=[.string (txt x.1),.int .i64 x.2.1,.bool x.2.2]
theorem Xv (x:XV):(YX x).length=3:=rfl
theorem WZ (x:XV): ∀ u∈YX x,u.oneCell'=true:=by
 intro u hu;simp[YX] at hu;rcases hu with rfl|rfl|rfl <;> rfl
def WL (b:List Nat) (v:Nat):Option XV :=
 if 9223372036854775808<=v then(if 65535<v - 9223372036854775808 then none else some ([],v - 9223372036854775808,true))
 else if 2147483647<v then none
 else match YO b (v+2) 64 with
  | none=>none
  | some t=>if Yu t=true then some (t,0,false) else none
def SymQ (r:Option XV) (e:Ending):Prop:= ∃(T:ByteArray) (O:Nat) (B ok:Bool),e= .returned (.tuple #[.agg #[.string T,.int .i64 O,.bool B],.bool ok])/\(r=none->ok=false)/\(∀ s,r=some s->ok=true/\T=txt s.1/\O=s.2.1/\B=s.2.2)
theorem Znt (v:Nat) (h:v<18446744073709551616):bits .and .u64 (v:Int) 9223372036854775808=if 9223372036854775808<=v then 9223372036854775808 else 0:=by
 have e:=u64_and (v:Int) 9223372036854775808 (by omega) (by omega) (by omega) (by omega);rw[e,Int.toNat_natCast,show(9223372036854775808:Int).toNat=2 ^ 63 from rfl];have hb:v.testBit 63=decide (9223372036854775808<=v):=by
  rw[Nat.testBit_eq_decide_div_mod_eq,decide_eq_decide];omega
 by_cases c:9223372036854775808<=v
 ·rw[decide_eq_true c] at hb;rw[if_pos c];have:v &&& 2 ^ 63=2 ^ 63:=by
   apply Nat.eq_of_testBit_eq;intro i;rw[Nat.testBit_and,Nat.testBit_two_pow];by_cases e:63=i
   ·subst e; simp[hb]
   ·simp[e]
  rw[this]; rfl
 ·rw[decide_eq_false c] at hb;rw[if_neg c];have:v &&& 2 ^ 63=0:=by
   apply Nat.eq_of_testBit_eq;intro i;rw[Nat.testBit_and,Nat.testBit_two_pow,Nat.zero_testBit];by_cases e:63=i
   ·subst e; simp[hb]
   ·simp[e]
  rw[this]; rfl
theorem Qi {n:Int} {S:ByteArray} {b:Bool}:(#[.string S,.int .i64 n,.bool b]:Array Value).all (·.oneCell')=true:=by simp[Value.oneCell']
theorem Uq {x y z:Value}:(Tryz.prog.info? 58).map (·.size)=some (#[x,y,z]:Array Value).size:=by kernel_rfl
theorem Qj (A:Option Addr) (cap:Nat) (bs:List Nat) (v:Nat) (w:World) (hl:bs.length<=cap) (hc:cap<=9223372036854775807) (hb:Lb bs) (hs:SlB w A bs.length (lF bs)) (hv:v<18446744073709551616) :
 Calls Tryz.prog 147 #[.slice A bs.length cap,.int .u64 v] w fun e w'=>SymQ (WL bs v) e/\Below w.heap.size w w':=by
 obtain⟨w1,ao⟩: ∃ w1,w.alloc (.cells #[.string ⟨#[]⟩,.int .i64 0,.bool false] 58)=w1:=⟨_,rfl⟩;have cu:=Zg ao;have HB:=Zg (show Below w.heap.size w w1 from by rw[<-ao]; exact(Below.refl _ _).alloc (Nat.le_refl _) _);have H1:=Zg (show w1.heap[w.heap.size]? =some (.cells #[.string ⟨#[]⟩,.int .i64 0,.bool false] 58 (0,0)) from by rw[<-ao]; exact heap_alloc_new w _);clear ao;obtain⟨R,hR⟩: ∃ R,WL bs v=R:=⟨_,rfl⟩;rw[hR];unfold WL at hR;have hand:=Znt v hv;by_cases yz:9223372036854775808<=v
 ·rw[if_pos yz] at hR hand;obtain⟨y,hy⟩: ∃ y,v - 9223372036854775808=y:=⟨_,rfl⟩;have Ln:(v:Int) - 9223372036854775808=(y:Int):=by omega
  have O0:y<9223372036854775808:=by omega
  have Lo:IntKind.u64.wrap (y:Int)=(y:Int):=by rw[IntKind.wrap_u64]; omega
  have O1:IntKind.i64.wrap (y:Int)=(y:Int):=by rw[IntKind.wrap_i64]; omega
  rw[hy] at hR;clear hy yz hs hb;by_cases cy:65535<y
  ·rw[if_pos cy] at hR;have HR:=Zg hR;have dy:(65535:Int)<(y:Int):=by omega
   clear hR cy;go_enter Tryz.func147,Tryz.ntmps147;go_upto_region 1 with(fail)
   refine(congrArg _ cu.out).mpr ?_;obtain⟨w9,ah⟩: ∃ w9,w1.setRow (w.heap.size) #[.string ⟨#[]⟩,.int .i64 0,.bool false]=w9:=⟨_,rfl⟩;have aP:=Zg ah;have ai:=Zg (show w9.heap[w.heap.size]? =some (.cells #[.string ⟨#[]⟩,.int .i64 0,.bool false] 58 (0,0)) from by rw[<-ah]; exact setRow_heap _ _ _ _ _ _ H1.out);have ay:=Zg (show Below w.heap.size w w9 from by rw[<-ah]; exact below_setRow HB.out (Nat.le_refl _) _);have k0:w9.cell? ⟨w.heap.size,0,none⟩=some (.string ⟨#[]⟩):=by rw[Zh ai.out]; rfl
   have k1:w9.cell? ⟨w.heap.size,1,none⟩=some (.int .i64 0):=by rw[Zh ai.out]; rfl
   have k2:w9.cell? ⟨w.heap.size,2,none⟩=some (.bool false):=by rw[Zh ai.out]; rfl
   clear ah;go_upto_region 4 with(fail)
   go_wp2_with (first|(refine wpList_store_row rfl 58 _ _ rfl (w.heap.size) #[.string ⟨#[]⟩,.int .i64 0,.bool false] rfl rfl 58 #[.string ⟨#[]⟩,.int .i64 0,.bool false] H1.out Uq rfl Qi ?_; refine(congrArg _ aP.out).mpr ?_)|fail)
   refine bodyPost_ret (v:= .tuple #[.agg #[.string ⟨#[]⟩,.int .i64 0,.bool false],.bool false]) (by simp[results,Tryz.results147,go_sem,k0,k1,k2]) rfl ⟨⟨_,0,_,_,rfl,fun _=>rfl,fun s hs=>absurd (HR.out.trans hs) (by simp)⟩,ay.out⟩
  ·rw[if_neg cy] at hR;have HR:=Zg hR;have dy: ¬ (65535:Int)<(y:Int):=by omega
   clear hR cy;go_enter Tryz.func147,Tryz.ntmps147;go_upto_region 1 with(fail)
   refine(congrArg _ cu.out).mpr ?_;obtain⟨w9,ah⟩: ∃ w9,w1.setRow (w.heap.size) #[.string ⟨#[]⟩,.int .i64 y,.bool true]=w9:=⟨_,rfl⟩;have aP:=Zg ah;have ai:=Zg (show w9.heap[w.heap.size]? =some (.cells #[.string ⟨#[]⟩,.int .i64 y,.bool true] 58 (0,0)) from by rw[<-ah]; exact setRow_heap _ _ _ _ _ _ H1.out);have ay:=Zg (show Below w.heap.size w w9 from by rw[<-ah]; exact below_setRow HB.out (Nat.le_refl _) _);have k0:w9.cell? ⟨w.heap.size,0,none⟩=some (.string ⟨#[]⟩):=by rw[Zh ai.out]; rfl
   have k1:w9.cell? ⟨w.heap.size,1,none⟩=some (.int .i64 y):=by rw[Zh ai.out]; rfl
   have k2:w9.cell? ⟨w.heap.size,2,none⟩=some (.bool true):=by rw[Zh ai.out]; rfl
   clear ah;go_upto_region 5 with(fail)
   go_wp2_with (first|(refine wpList_store_row rfl 58 _ _ rfl (w.heap.size) #[.string ⟨#[]⟩,.int .i64 y,.bool true] rfl rfl 58 #[.string ⟨#[]⟩,.int .i64 0,.bool false] H1.out Uq rfl Qi ?_; refine(congrArg _ aP.out).mpr ?_)|fail)
   refine bodyPost_ret (v:= .tuple #[.agg #[.string ⟨#[]⟩,.int .i64 y,.bool true],.bool true]) (by simp[results,Tryz.results147,go_sem,k0,k1,k2]) rfl ⟨⟨_,y,_,_,rfl,fun h=>absurd (HR.out.trans h) (by simp),fun s hs=>by have:=HR.out.trans hs; injection this with this; subst this; exact⟨rfl,rfl,rfl,rfl⟩⟩,ay.out⟩
 ·rw[if_neg yz] at hR hand;by_cases BO:2147483647<v
  ·rw[if_pos BO] at hR;have HR:=Zg hR;have dv:(2147483647:Int)<(v:Int):=by omega
   clear hR BO yz hs hb;go_enter Tryz.func147,Tryz.ntmps147;go_upto_region 1 with(fail)
   refine(congrArg _ cu.out).mpr ?_;obtain⟨w9,ah⟩: ∃ w9,w1.setRow (w.heap.size) #[.string ⟨#[]⟩,.int .i64 0,.bool false]=w9:=⟨_,rfl⟩;have aP:=Zg ah;have ai:=Zg (show w9.heap[w.heap.size]? =some (.cells #[.string ⟨#[]⟩,.int .i64 0,.bool false] 58 (0,0)) from by rw[<-ah]; exact setRow_heap _ _ _ _ _ _ H1.out);have ay:=Zg (show Below w.heap.size w w9 from by rw[<-ah]; exact below_setRow HB.out (Nat.le_refl _) _);have k0:w9.cell? ⟨w.heap.size,0,none⟩=some (.string ⟨#[]⟩):=by rw[Zh ai.out]; rfl
   have k1:w9.cell? ⟨w.heap.size,1,none⟩=some (.int .i64 0):=by rw[Zh ai.out]; rfl
   have k2:w9.cell? ⟨w.heap.size,2,none⟩=some (.bool false):=by rw[Zh ai.out]; rfl
   clear ah;go_upto_region 7 with(fail)
   go_wp2_with (first|(refine wpList_store_row rfl 58 _ _ rfl (w.heap.size) #[.string ⟨#[]⟩,.int .i64 0,.bool false] rfl rfl 58 #[.string ⟨#[]⟩,.int .i64 0,.bool false] H1.out Uq rfl Qi ?_; refine(congrArg _ aP.out).mpr ?_)|fail)
   refine bodyPost_ret (v:= .tuple #[.agg #[.string ⟨#[]⟩,.int .i64 0,.bool false],.bool false]) (by simp[results,Tryz.results147,go_sem,k0,k1,k2]) rfl ⟨⟨_,0,_,_,rfl,fun _=>rfl,fun s hs=>absurd (HR.out.trans hs) (by simp)⟩,ay.out⟩
  ·rw[if_neg BO] at hR;have dv: ¬ (2147483647:Int)<(v:Int):=by omega
   obtain⟨y,hy⟩: ∃ y,v+2=y:=⟨_,rfl⟩;have Ln:(v:Int)+2=(y:Int):=by omega
   have O2:IntKind.i64.wrap (v:Int)=(v:Int):=by rw[IntKind.wrap_i64]; omega
   have Lo:IntKind.i64.wrap (y:Int)=(y:Int):=by rw[IntKind.wrap_i64]; omega
   rw[hy] at hR;have bW:=Zg (WK A cap bs y 64 w1 hc hl (SlB.below hs HB.out));clear hy yz BO hs hl hc hv;rcases ht:YO bs y 64 with _|t
   ·rw[ht] at bW hR;simp only at bW hR;have HR:=Zg hR;clear hR ht hb;go_enter Tryz.func147,Tryz.ntmps147;go_upto_region 1 with(fail)
    refine(congrArg _ cu.out).mpr ?_;go_wp2_with fail
    refine bW.out.mono ?_;rintro e w' ⟨rfl,rfl⟩;obtain⟨w9,ah⟩: ∃ w9,w1.setRow (w.heap.size) #[.string ⟨#[]⟩,.int .i64 0,.bool false]=w9:=⟨_,rfl⟩;have aP:=Zg ah;have ai:=Zg (show w9.heap[w.heap.size]? =some (.cells #[.string ⟨#[]⟩,.int .i64 0,.bool false] 58 (0,0)) from by rw[<-ah]; exact setRow_heap _ _ _ _ _ _ H1.out);have ay:=Zg (show Below w.heap.size w w9 from by rw[<-ah]; exact below_setRow HB.out (Nat.le_refl _) _);have k0:w9.cell? ⟨w.heap.size,0,none⟩=some (.string ⟨#[]⟩):=by rw[Zh ai.out]; rfl
    have k1:w9.cell? ⟨w.heap.size,1,none⟩=some (.int .i64 0):=by rw[Zh ai.out]; rfl
    have k2:w9.cell? ⟨w.heap.size,2,none⟩=some (.bool false):=by rw[Zh ai.out]; rfl
    clear ah;go_upto_region 10 with(fail)
    go_wp2_with (first|(refine wpList_store_row rfl 58 _ _ rfl (w.heap.size) #[.string ⟨#[]⟩,.int .i64 0,.bool false] rfl rfl 58 #[.string ⟨#[]⟩,.int .i64 0,.bool false] H1.out Uq rfl Qi ?_; refine(congrArg _ aP.out).mpr ?_)|fail)
    refine bodyPost_ret (v:= .tuple #[.agg #[.string ⟨#[]⟩,.int .i64 0,.bool false],.bool false]) (by simp[results,Tryz.results147,go_sem,k0,k1,k2]) rfl ⟨⟨_,0,_,_,rfl,fun _=>rfl,fun s hs=>absurd (HR.out.trans hs) (by simp)⟩,ay.out⟩
   ·rw[ht] at bW hR;have af:=YC hb ht;have cO:=Zg (fun W=>Zb7 t W af.1 (by have:=af.2; omega));simp only at bW hR;clear ht af hb;by_cases ba:Yu t=true
    ·rw[if_pos ba] at hR;rw[ba] at cO;have HR:=Zg hR;clear hR ba;go_enter Tryz.func147,Tryz.ntmps147;go_upto_region 1 with(fail)
     refine(congrArg _ cu.out).mpr ?_;go_wp2_with fail
     refine bW.out.mono ?_;rintro e w' ⟨rfl,rfl⟩;go_wp2_with fail
     refine(cO.out _).mono ?_;rintro e w' ⟨rfl,rfl⟩;obtain⟨w9,ah⟩: ∃ w9,w1.setRow (w.heap.size) #[.string (txt t),.int .i64 0,.bool false]=w9:=⟨_,rfl⟩;have aP:=Zg ah;have ai:=Zg (show w9.heap[w.heap.size]? =some (.cells #[.string (txt t),.int .i64 0,.bool false] 58 (0,0)) from by rw[<-ah]; exact setRow_heap _ _ _ _ _ _ H1.out);have ay:=Zg (show Below w.heap.size w w9 from by rw[<-ah]; exact below_setRow HB.out (Nat.le_refl _) _);have k0:w9.cell? ⟨w.heap.size,0,none⟩=some (.string (txt t)):=by rw[Zh ai.out]; rfl
     have k1:w9.cell? ⟨w.heap.size,1,none⟩=some (.int .i64 0):=by rw[Zh ai.out]; rfl
     have k2:w9.cell? ⟨w.heap.size,2,none⟩=some (.bool false):=by rw[Zh ai.out]; rfl
     clear ah;go_upto_region 11 with(fail)
     go_wp2_with (first|(refine wpList_store_row rfl 58 _ _ rfl (w.heap.size) #[.string (txt t),.int .i64 0,.bool false] rfl rfl 58 #[.string ⟨#[]⟩,.int .i64 0,.bool false] H1.out Uq rfl Qi ?_; refine(congrArg _ aP.out).mpr ?_)|fail)
     refine bodyPost_ret (v:= .tuple #[.agg #[.string (txt t),.int .i64 0,.bool false],.bool true]) (by simp[results,Tryz.results147,go_sem,k0,k1,k2]) rfl ⟨⟨_,0,_,_,rfl,fun h=>absurd (HR.out.trans h) (by simp),fun s hs=>by have:=HR.out.trans hs; injection this with this; subst this; exact⟨rfl,rfl,rfl,rfl⟩⟩,ay.out⟩
    ·rw[if_neg ba] at hR;rw[show Yu t=false by simpa using ba] at cO;have HR:=Zg hR;clear hR ba;go_enter Tryz.func147,Tryz.ntmps147;go_upto_region 1 with(fail)
     refine(congrArg _ cu.out).mpr ?_;go_wp2_with fail
     refine bW.out.mono ?_;rintro e w' ⟨rfl,rfl⟩;go_wp2_with fail
     refine(cO.out _).mono ?_;rintro e w' ⟨rfl,rfl⟩;obtain⟨w9,ah⟩: ∃ w9,w1.setRow (w.heap.size) #[.string ⟨#[]⟩,.int .i64 0,.bool false]=w9:=⟨_,rfl⟩;have aP:=Zg ah;have ai:=Zg (show w9.heap[w.heap.size]? =some (.cells #[.string ⟨#[]⟩,.int .i64 0,.bool false] 58 (0,0)) from by rw[<-ah]; exact setRow_heap _ _ _ _ _ _ H1.out);have ay:=Zg (show Below w.heap.size w w9 from by rw[<-ah]; exact below_setRow HB.out (Nat.le_refl _) _);have k0:w9.cell? ⟨w.heap.size,0,none⟩=some (.string ⟨#[]⟩):=by rw[Zh ai.out]; rfl
     have k1:w9.cell? ⟨w.heap.size,1,none⟩=some (.int .i64 0):=by rw[Zh ai.out]; rfl
     have k2:w9.cell? ⟨w.heap.size,2,none⟩=some (.bool false):=by rw[Zh ai.out]; rfl
     clear ah;go_upto_region 10 with(fail)
     go_wp2_with (first|(refine wpList_store_row rfl 58 _ _ rfl (w.heap.size) #[.string ⟨#[]⟩,.int .i64 0,.bool false] rfl rfl 58 #[.string ⟨#[]⟩,.int .i64 0,.bool false] H1.out Uq rfl Qi ?_; refine(congrArg _ aP.out).mpr ?_)|fail)
     refine bodyPost_ret (v:= .tuple #[.agg #[.string ⟨#[]⟩,.int .i64 0,.bool false],.bool false]) (by simp[results,Tryz.results147,go_sem,k0,k1,k2]) rfl ⟨⟨_,0,_,_,rfl,fun _=>rfl,fun s hs=>absurd (HR.out.trans hs) (by simp)⟩,ay.out⟩
abbrev Zib:=Nat × List FnV × List NmV
def Xc (b:List Nat) (rva size:Int):Option Zib :=
 if rva=0 then some (0,[],[])
 else match Uv b rva size with
  | none=>none
  | some r=>match YV b rva.toNat size.toNat r.atF r.funcs 0 [] with
    | none=>none
    | some f=>match Xw b r.atN r.atI r.funcs r.names 0 [] [] with
      | none=>none
      | some n=>some (r.base,f,n)
def Zic (w w':World) (r:Option Zib) (e:Ending):Prop:=match r with
 | none=>e= .returned (.tuple #[.agg #[.int .i64 0,.slice none 0 0,.slice none 0 0],.int .i64 11])
 | some x=> ∃ A c A' c',e= .returned (.tuple #[.agg #[.int .i64 x.1,.slice A x.2.1.length c,.slice A' x.2.2.length c'],.int .i64 0])/\ZJ gC 2 w' w.heap.size 74 (.slice A x.2.1.length c) x.2.1/\ZJ nC 2 w' w.heap.size 76 (.slice A' x.2.2.length c') x.2.2
theorem Qk {b:List Nat} {rva size:Int} {r:Rw} (h:Uv b rva size=some r):0<=rva/\40<=size/\rva<=b.length - size/\r.funcs<=256/\r.names<=256/\(r.funcs=0\/r.atF+4 * r.funcs<=b.length)/\(r.names=0\/(r.atN+4 * r.names<=b.length/\r.atI+2 * r.names<=b.length)):=by
 unfold Uv at h;by_cases c:40<=size/\0<=rva/\rva<=b.length - size
 ·rw[if_pos c] at h;by_cases k:(Zgu b rva.toNat).ok b.length=true
  ·rw[if_pos k] at h;injection h with h;subst h;simp only[Rw.ok,inL,Bool.and_eq_true,Bool.or_eq_true,decide_eq_true_eq] at k;omega
  ·rw[if_neg k] at h; exact absurd h (by simp)
 ·rw[if_neg c] at h; exact absurd h (by simp)
theorem Ze2 {n:Int} {A A':Option Addr} {a b c d:Nat}:(#[.int .i64 n,.slice A a b,.slice A' c d]:Array Value).all (·.oneCell')=true:=by simp[Value.oneCell']
theorem ZY {x y z:Value}:(Tryz.prog.info? 45).map (·.size)=some (#[x,y,z]:Array Value).size:=by kernel_rfl
theorem Zgj (A:Option Addr) (cap:Nat) (bs:List Nat) (rva size:Int) (w:World) (hb:Lb bs) (hl:bs.length<=cap) (hc:cap<=9223372036854775807) (hlen:bs.length<=1099511627776) (hs:SlB w A bs.length (lF bs)) (hr: -9223372036854775808<=rva) (tj:rva<=9223372036854775807) (hz: -9223372036854775808<=size) (qM:size<=9223372036854775807) :
 Calls Tryz.prog 79 #[.slice A bs.length cap,.agg #[.int .i64 rva,.int .i64 size]] w fun e w'=>Zic w w' (Xc bs rva size) e/\Below w.heap.size w w':=by
 obtain⟨R,hR⟩: ∃ R,Xc bs rva size=R:=⟨_,rfl⟩;rw[hR];unfold Xc at hR;by_cases c0:rva=0
 ·subst c0;rw[if_pos rfl] at hR;subst hR;clear hs;go_enter Tryz.func79,Tryz.ntmps79;go_wp2_with fail
  refine bodyPost_ret (v:= .tuple #[.agg #[.int .i64 0,.slice none 0 0,.slice none 0 0],.int .i64 0]) (by simp[results,Tryz.results79,go_sem]) rfl ⟨⟨none,0,none,0,rfl,ZJ.nil _ _ _,ZJ.nil _ _ _⟩,by go_grown⟩
 rw[if_neg c0] at hR;have d0:(rva == 0)=false:=beq_eq_false_iff_ne.mpr c0;have HS:=Zg (fun W (hW:Below w.heap.size w W)=>SlB.below hs hW);have aJ:=Zg hb;have GP:=Zg (fun W (hW:Below w.heap.size w W)=>Zmk A cap bs rva size W hb hl hc hlen (HS.out W hW) hr tj hz qM);have kh:=Zg (And.intro hl (And.intro hc hlen));have nw:=Zg (And.intro tj qM);have bk:=Zg hR;clear hs c0 hR;go_enter Tryz.func79,Tryz.ntmps79;go_wp2_with fail
 refine(GP.out _ (by go_grown)).mono ?_;rintro e w1 ⟨hq,ao⟩;have hd1:w1.heap[w.heap.size]? =some (.cells #[.int .i64 rva,.int .i64 size] 37 (0,0)) :=
  (ao.block w.heap.size (by simp; omega)).trans ((Below.heap_alloc _ _ w.heap.size (by simp)).trans (heap_alloc_new w _))
 have xv:w1.heap[w.heap.size+1]? =some (.cells #[.int .i64 0,.slice none 0 0,.slice none 0 0] 45 (0,0)):=(ao.block (w.heap.size+1) (by simp)).trans (by
  have h:=heap_alloc_new (w.alloc (.cells #[.int .i64 rva,.int .i64 size] 37)) (.cells #[.int .i64 0,.slice none 0 0,.slice none 0 0] 45);rwa [show(w.alloc (.cells #[.int .i64 rva,.int .i64 size] 37)).heap.size=w.heap.size+1 by simp] at h)
 have az:Below w.heap.size w w1:=(((Below.refl w.heap.size w).alloc (Nat.le_refl _) _).alloc (by simp) _).trans (ao.mono (by simp; omega));have xw:=Zg hd1;have dw:=Zg xv;have av:=Zg az;clear hd1 xv az ao GP;obtain⟨r,ok,rfl,dO,ej⟩: ∃(r:Rw) (ok:Bool),e= .returned (.tuple #[.agg r.cells,.bool ok])/\(Uv bs rva size=none->ok=false)/\(∀ r',Uv bs rva size=some r'->ok=true/\r'=r):=by
  unfold FindQ at hq;rcases hf:Uv bs rva size with _|r
  ·rw[hf] at hq;obtain⟨r,rfl⟩:=hq;exact⟨r,false,rfl,fun _=>rfl,fun r' h=>absurd h (by simp)⟩
  ·rw[hf] at hq;exact⟨r,true,hq,fun h=>absurd h (by simp),fun r' h=>⟨rfl,by injection h with h; exact h.symm⟩⟩
 obtain⟨b0,b1,b2,b3,b4,b5⟩:=r;obtain⟨w2,aR⟩: ∃ w2,(w1.alloc (.cells #[.int .i64 0,.int .i64 0,.int .i64 0,.int .i64 0,.int .i64 0,.int .i64 0] 187)).setRow w1.heap.size (Rw.cells ⟨b0,b1,b2,b3,b4,b5⟩)=w2:=⟨_,rfl⟩;have hle:w.heap.size+2<=w1.heap.size:=Zi dw.out;have ha:=((Below.refl w1.heap.size w1).alloc (Nat.le_refl _) (.cells #[.int .i64 0,.int .i64 0,.int .i64 0,.int .i64 0,.int .i64 0,.int .i64 0] 187));have jh:Below w1.heap.size w1 w2:=by rw[<-aR]; exact below_setRow ha (Nat.le_refl _) _
 have aj:=Zg (av.out.trans (jh.mono av.out.size));have kz:=Zg ((jh.block w.heap.size (by omega)).trans xw.out);have gZ:=Zg ((jh.block (w.heap.size+1) (by omega)).trans dw.out);have lS:=Zg (show w2.heap[w1.heap.size]? =some (.cells (Rw.cells ⟨b0,b1,b2,b3,b4,b5⟩) 187 (0,0)) from by rw[<-aR]; exact setRow_heap _ _ _ _ _ _ (heap_alloc_new w1 _));have eS:=Zg aR;have O3:=Zg hle;clear aR hle ha jh hq;go_upto_region 4 with(first|(refine wpList_store_row rfl 187 _ _ rfl w1.heap.size (Rw.cells ⟨b0,b1,b2,b3,b4,b5⟩) rfl rfl 187 _ (heap_alloc_new w1 _) (Rw.info _) rfl (Rw.one _) ?_; refine(congrArg _ eS.out).mpr ?_)|fail)
 generalize w1.heap.size=b6 at *;clear xw dw av eS;rcases hf:Uv bs rva size with _|r
 ·obtain rfl:=dO hf;have aa:=bk.out;rw[hf] at aa;simp only at aa;subst aa;clear dO ej hf;obtain⟨w9,ah⟩: ∃ w9,w2.setRow (w.heap.size+1) #[.int .i64 0,.slice none 0 0,.slice none 0 0]=w9:=⟨_,rfl⟩;have aP:=Zg ah;have ai:=Zg (show w9.heap[w.heap.size+1]? =some (.cells #[.int .i64 0,.slice none 0 0,.slice none 0 0] 45 (0,0)) from by rw[<-ah]; exact setRow_heap _ _ _ _ _ _ gZ.out);have ay:=Zg (show Below w.heap.size w w9 from by rw[<-ah]; exact below_setRow aj.out (Nat.le_succ _) _);have k0:w9.cell? ⟨w.heap.size+1,0,none⟩=some (.int .i64 0):=by rw[Zh ai.out]; rfl
  have k1:w9.cell? ⟨w.heap.size+1,1,none⟩=some (.slice none 0 0):=by rw[Zh ai.out]; rfl
  have k2:w9.cell? ⟨w.heap.size+1,2,none⟩=some (.slice none 0 0):=by rw[Zh ai.out]; rfl
  clear ah;go_wp2_with (first|(refine wpList_store_row rfl 45 _ _ rfl (w.heap.size+1) #[.int .i64 0,.slice none 0 0,.slice none 0 0] rfl rfl 45 #[.int .i64 0,.slice none 0 0,.slice none 0 0] gZ.out ZY rfl Ze2 ?_; refine(congrArg _ aP.out).mpr ?_)|fail)
  refine bodyPost_ret (v:= .tuple #[.agg #[.int .i64 0,.slice none 0 0,.slice none 0 0],.int .i64 11]) (by simp[results,Tryz.results79,go_sem,k0,k1,k2]) rfl ⟨?_,ay.out⟩;exact rfl
 ·obtain⟨rfl,xz⟩:=ej _ hf;subst xz;obtain⟨g1,g2,g3,g4,g5,g6,g7⟩:=Qk hf;simp only at g4 g5 g6 g7;have aa:=bk.out;rw[hf] at aa;simp only at aa;obtain⟨o,rfl⟩: ∃ o:Nat,rva=(o:Int):=⟨rva.toNat,by omega⟩;obtain⟨z,rfl⟩: ∃ z:Nat,size=(z:Int):=⟨size.toNat,by omega⟩;rw[Int.toNat_natCast,Int.toNat_natCast] at aa;have ar:=Zg aa;have HF:=Zg (fun W (hW:Below w.heap.size w W)=>Za7 A cap bs o z b0 b1 b2 b3 b4 b5 W aJ.out kh.out.1 kh.out.2.1 kh.out.2.2 (HS.out W hW) (by omega) (by omega) g4 g6);have HN:=Zg (fun W (hW:Below w.heap.size w W)=>Zad A cap bs b0 b1 b2 b3 b4 b5 W aJ.out kh.out.1 kh.out.2.1 kh.out.2.2 (HS.out W hW) g5 g7);clear dO ej hf aa g1 g2 g3 g4 g5 g6 g7 bk hr tj hz qM;have c0:w2.cell? ⟨b6,0,none⟩=some (.int .i64 b0):=by rw[Zh lS.out]; rfl
  have c1:w2.cell? ⟨b6,1,none⟩=some (.int .i64 b1):=by rw[Zh lS.out]; rfl
  have c2:w2.cell? ⟨b6,2,none⟩=some (.int .i64 b2):=by rw[Zh lS.out]; rfl
  have c3:w2.cell? ⟨b6,3,none⟩=some (.int .i64 b3):=by rw[Zh lS.out]; rfl
  have c4:w2.cell? ⟨b6,4,none⟩=some (.int .i64 b4):=by rw[Zh lS.out]; rfl
  have c5:w2.cell? ⟨b6,5,none⟩=some (.int .i64 b5):=by rw[Zh lS.out]; rfl
  have e0:w2.cell? ⟨w.heap.size,0,none⟩=some (.int .i64 o):=by rw[Zh kz.out]; rfl
  have e1:w2.cell? ⟨w.heap.size,1,none⟩=some (.int .i64 z):=by rw[Zh kz.out]; rfl
  simp only[Rw.cells];go_wp2_with fail
  refine(HF.out w2 aj.out).mono ?_;rintro e w3 ⟨hq,dn⟩;have aN:=Zg (aj.out.trans (dn.mono aj.out.size));have GQ:=Zg ((dn.block w.heap.size (Zi kz.out)).trans kz.out);have iw:=Zg ((dn.block (w.heap.size+1) (Zi gZ.out)).trans gZ.out);have ki:=Zg ((dn.block b6 (Zi lS.out)).trans lS.out);have cj:=Zg (Zi gZ.out);clear dn c0 c1 c2 c3 c4 c5 e0 e1 HF;rcases ra:YV bs o z b3 b1 0 [] with _|f
  ·rw[ra] at hq;have fl:e= .returned (.tuple #[.slice none 0 0,.bool false]):=hq;subst fl;have aa:=ar.out;rw[ra] at aa;simp only at aa;subst aa;clear hq ra;obtain⟨w9,ah⟩: ∃ w9,w3.setRow (w.heap.size+1) #[.int .i64 0,.slice none 0 0,.slice none 0 0]=w9:=⟨_,rfl⟩;have aP:=Zg ah;have ai:=Zg (show w9.heap[w.heap.size+1]? =some (.cells #[.int .i64 0,.slice none 0 0,.slice none 0 0] 45 (0,0)) from by rw[<-ah]; exact setRow_heap _ _ _ _ _ _ iw.out);have ay:=Zg (show Below w.heap.size w w9 from by rw[<-ah]; exact below_setRow aN.out (Nat.le_succ _) _);have k0:w9.cell? ⟨w.heap.size+1,0,none⟩=some (.int .i64 0):=by rw[Zh ai.out]; rfl
   have k1:w9.cell? ⟨w.heap.size+1,1,none⟩=some (.slice none 0 0):=by rw[Zh ai.out]; rfl
   have k2:w9.cell? ⟨w.heap.size+1,2,none⟩=some (.slice none 0 0):=by rw[Zh ai.out]; rfl
   clear ah;go_wp2_with (first|(refine wpList_store_row rfl 45 _ _ rfl (w.heap.size+1) #[.int .i64 0,.slice none 0 0,.slice none 0 0] rfl rfl 45 #[.int .i64 0,.slice none 0 0,.slice none 0 0] iw.out ZY rfl Ze2 ?_; refine(congrArg _ aP.out).mpr ?_)|fail)
   refine bodyPost_ret (v:= .tuple #[.agg #[.int .i64 0,.slice none 0 0,.slice none 0 0],.int .i64 11]) (by simp[results,Tryz.results79,go_sem,k0,k1,k2]) rfl ⟨?_,ay.out⟩;exact rfl
  ·rw[ra] at hq;obtain⟨A1,c1,rfl,cG⟩:=hq;have cW:=Zg cG;have aa:=ar.out;rw[ra] at aa;simp only at aa;have bS:=Zg aa;clear ra aa cG ar;have c0:w3.cell? ⟨b6,0,none⟩=some (.int .i64 b0):=by rw[Zh ki.out]; rfl
   have Lp:w3.cell? ⟨b6,1,none⟩=some (.int .i64 b1):=by rw[Zh ki.out]; rfl
   have c2:w3.cell? ⟨b6,2,none⟩=some (.int .i64 b2):=by rw[Zh ki.out]; rfl
   have c3:w3.cell? ⟨b6,3,none⟩=some (.int .i64 b3):=by rw[Zh ki.out]; rfl
   have c4:w3.cell? ⟨b6,4,none⟩=some (.int .i64 b4):=by rw[Zh ki.out]; rfl
   have c5:w3.cell? ⟨b6,5,none⟩=some (.int .i64 b5):=by rw[Zh ki.out]; rfl
   have e0:w3.cell? ⟨w.heap.size,0,none⟩=some (.int .i64 o):=by rw[Zh GQ.out]; rfl
   have e1:w3.cell? ⟨w.heap.size,1,none⟩=some (.int .i64 z):=by rw[Zh GQ.out]; rfl
   simp only;go_wp2_with fail
   refine(HN.out w3 aN.out).mono ?_;rintro e w4 ⟨hq,cX⟩;have bH:=Zg (aN.out.trans (cX.mono aN.out.size));have jd:=Zg ((cX.block (w.heap.size+1) (Zi iw.out)).trans iw.out);have fK:=Zg ((cX.block b6 (Zi ki.out)).trans ki.out);have dH:=Zg (Zi iw.out);replace cW:=Zg (cW.out.below cX);clear cX c0 Lp c2 c3 c4 c5 e0 e1 HN;rcases jz:Xw bs b4 b5 b1 b2 0 [] [] with _|n
   ·rw[jz] at hq;have fl:e= .returned (.tuple #[.slice none 0 0,.bool false]):=hq;subst fl;have aa:=bS.out;rw[jz] at aa;simp only at aa;subst aa;clear hq jz;obtain⟨w9,ah⟩: ∃ w9,w4.setRow (w.heap.size+1) #[.int .i64 0,.slice none 0 0,.slice none 0 0]=w9:=⟨_,rfl⟩;have aP:=Zg ah;have ai:=Zg (show w9.heap[w.heap.size+1]? =some (.cells #[.int .i64 0,.slice none 0 0,.slice none 0 0] 45 (0,0)) from by rw[<-ah]; exact setRow_heap _ _ _ _ _ _ jd.out);have ay:=Zg (show Below w.heap.size w w9 from by rw[<-ah]; exact below_setRow bH.out (Nat.le_succ _) _);have k0:w9.cell? ⟨w.heap.size+1,0,none⟩=some (.int .i64 0):=by rw[Zh ai.out]; rfl
    have k1:w9.cell? ⟨w.heap.size+1,1,none⟩=some (.slice none 0 0):=by rw[Zh ai.out]; rfl
    have k2:w9.cell? ⟨w.heap.size+1,2,none⟩=some (.slice none 0 0):=by rw[Zh ai.out]; rfl
    clear ah;go_wp2_with (first|(refine wpList_store_row rfl 45 _ _ rfl (w.heap.size+1) #[.int .i64 0,.slice none 0 0,.slice none 0 0] rfl rfl 45 #[.int .i64 0,.slice none 0 0,.slice none 0 0] jd.out ZY rfl Ze2 ?_; refine(congrArg _ aP.out).mpr ?_)|fail)
    refine bodyPost_ret (v:= .tuple #[.agg #[.int .i64 0,.slice none 0 0,.slice none 0 0],.int .i64 11]) (by simp[results,Tryz.results79,go_sem,k0,k1,k2]) rfl ⟨?_,ay.out⟩;exact rfl
   ·rw[jz] at hq;obtain⟨A2,c2,rfl,dJ⟩:=hq;have bQ:=Zg dJ;have aa:=bS.out;rw[jz] at aa;simp only at aa;subst aa;clear jz dJ;have O4:w4.cell? ⟨b6,0,none⟩=some (.int .i64 b0):=by rw[Zh fK.out]; rfl
    obtain⟨w9,ah⟩: ∃ w9,w4.setRow (w.heap.size+1) #[.int .i64 b0,.slice A1 f.length c1,.slice A2 n.length c2]=w9:=⟨_,rfl⟩;have aP:=Zg ah;have ai:=Zg (show w9.heap[w.heap.size+1]? =some (.cells #[.int .i64 b0,.slice A1 f.length c1,.slice A2 n.length c2] 45 (0,0)) from by rw[<-ah]; exact setRow_heap _ _ _ _ _ _ jd.out);have ay:=Zg (show Below w.heap.size w w9 from by rw[<-ah]; exact below_setRow bH.out (Nat.le_succ _) _);have k0:w9.cell? ⟨w.heap.size+1,0,none⟩=some (.int .i64 b0):=by rw[Zh ai.out]; rfl
    have k1:w9.cell? ⟨w.heap.size+1,1,none⟩=some (.slice A1 f.length c1):=by rw[Zh ai.out]; rfl
    have k2:w9.cell? ⟨w.heap.size+1,2,none⟩=some (.slice A2 n.length c2):=by rw[Zh ai.out]; rfl
    have lU:=Zg (show ZJ gC 2 w9 w.heap.size 74 (.slice A1 f.length c1) f from by
     rw[<-ah];refine ZJ.of_block (Joins.ownsRow_le cW.out aj.out.size) fun k hk=>setRow_other _ _ _ _ ?_;have:=(cW.out.lt k hk).1;have:=cj.out;omega)
    have tm:=Zg (show ZJ nC 2 w9 w.heap.size 76 (.slice A2 n.length c2) n from by
     rw[<-ah];refine ZJ.of_block (Joins.ownsRow_le bQ.out aN.out.size) fun k hk=>setRow_other _ _ _ _ ?_;have:=(bQ.out.lt k hk).1;have:=dH.out;omega)
    clear ah;go_wp2_with (first|(refine wpList_store_row rfl 45 _ _ rfl (w.heap.size+1) #[.int .i64 b0,.slice A1 f.length c1,.slice A2 n.length c2] rfl rfl 45 #[.int .i64 0,.slice none 0 0,.slice none 0 0] jd.out ZY rfl Ze2 ?_; refine(congrArg _ aP.out).mpr ?_)|fail)
    refine bodyPost_ret (v:= .tuple #[.agg #[.int .i64 b0,.slice A1 f.length c1,.slice A2 n.length c2],.int .i64 0]) (by simp[results,Tryz.results79,go_sem,k0,k1,k2]) rfl ⟨?_,ay.out⟩;exact⟨A1,c1,A2,c2,rfl,lU.out,tm.out⟩
end Go.Proofs.YtplgdpjbkdagfaaGreat
namespace Go.Proofs.YtplgdpjbkdagfaaGreat
open Lib renaming hid→Zg
open Go.ChangeShapes Go.WideShapes Go.ChangeAt Go.RowKit
set_option linter.unusedVariables false
set_option linter.unusedSimpArgs false
noncomputable def Znu:Code:=(Tryz.f38.body).getD .skip
def QX (w:World) (r:Option Zib):Exit->Act->World->Prop :=
 bodyPost Tryz.prog Tryz.f38 fun e w'=>Zic w w' r e/\Below w.heap.size w w'
theorem Ql: ∀(t s:List Nat),(!Zgi s t)=Zkw t s
 | [],[]=>rfl
 | [],_::_=>rfl
 | _::_,[]=>rfl
 | a::x,b::y=>by
   have ih:=Ql x y;simp only[Zkw] at ih ⊢;simp only[Zgi];rcases Nat.lt_trichotomy a b with h|h|h
   ·have h1: ¬ b<a:=by omega
    have h2:(b == a)=false:=beq_eq_false_iff_ne.mpr (by omega);have h3:(a == b)=false:=beq_eq_false_iff_ne.mpr (by omega);simp[h,h1,h2]
   ·subst h;simp at ih ⊢;exact ih
   ·have h1: ¬ a<b:=by omega
    have h2:(b == a)=false:=beq_eq_false_iff_ne.mpr (by omega);have h3:(a == b)=false:=beq_eq_false_iff_ne.mpr (by omega);have h4: ¬ a=b:=by omega
    simp[h,h1,h2,h3,h4]
theorem Zla {t s:List Nat} (ht:Lb t) (hs:Lb s):Op.bytesLess (txt s).toList (txt t).toList= !Zkw t s:=by
 rw[XX ht,XX hs,Zac s t hs ht,<-Ql,Bool.not_not]
theorem Ym {n:Int} {A A':Option Addr} {a b c d:Nat}:(#[.int .i64 n,.slice A a b,.slice A' c d]:Array Value).all (·.oneCell')=true:=by simp[Value.oneCell']
theorem Yi {α :Type} {C: α ->List Value} {sz:Nat} {w:World} {base:Nat} {e:TypeId} {v:Value} {l:List α} (h:ZJ C sz w base e v l) {a:Addr} (ha:a.block<base) (u:Value):ZJ C sz (w.setCell a u) base e v l :=
 ownsRow_setCell_below h ha u
theorem Yz {α :Type} {C: α ->List Value} {sz:Nat} {w:World} {base:Nat} {e:TypeId} {v:Value} {l:List α} (h:ZJ C sz w base e v l) {g:Nat} (hg:g<base) (cs:Array Value):ZJ C sz (w.setRow g cs) base e v l :=
 h.of_block fun k hk=>setRow_other w _ _ _ (by have:=(h.lt k hk).1; omega)
set_option maxRecDepth 100000
theorem Zae {α :Type} (f:Nat-> α):(List.range 244).map f=(f 0::f 1::f 2::f 3::f 4::f 5::f 6::f 7::f 8::f 9::f 10::f 11::f 12::f 13::f 14::f 15::f 16::f 17::f 18::f 19::f 20::f 21::f 22::f 23::f 24::f 25::f 26::f 27::f 28::f 29::f 30::f 31::f 32::f 33::f 34::f 35::f 36::f 37::f 38::f 39::f 40::f 41::f 42::f 43::f 44::f 45::f 46::f 47::f 48::f 49::f 50::f 51::f 52::f 53::f 54::f 55::f 56::f 57::f 58::f 59::f 60::f 61::f 62::f 63::f 64::f 65::f 66::f 67::f 68::f 69::f 70::f 71::f 72::f 73::f 74::f 75::f 76::f 77::f 78::f 79::f 80::f 81::f 82::f 83::f 84::f 85::f 86::f 87::f 88::f 89::f 90::f 91::f 92::f 93::f 94::f 95::f 96::f 97::f 98::f 99::f 100::f 101::f 102::f 103::f 104::f 105::f 106::f 107::f 108::f 109::f 110::f 111::f 112::f 113::f 114::f 115::f 116::f 117::f 118::f 119::f 120::f 121::f 122::f 123::f 124::f 125::f 126::f 127::f 128::f 129::f 130::f 131::f 132::f 133::f 134::f 135::f 136::f 137::f 138::f 139::f 140::f 141::f 142::f 143::f 144::f 145::f 146::f 147::f 148::f 149::f 150::f 151::f 152::f 153::f 154::f 155::f 156::f 157::f 158::f 159::f 160::f 161::f 162::f 163::f 164::f 165::f 166::f 167::f 168::f 169::f 170::f 171::f 172::f 173::f 174::f 175::f 176::f 177::f 178::f 179::f 180::f 181::f 182::f 183::f 184::f 185::f 186::f 187::f 188::f 189::f 190::f 191::f 192::f 193::f 194::f 195::f 196::f 197::f 198::f 199::f 200::f 201::f 202::f 203::f 204::f 205::f 206::f 207::f 208::f 209::f 210::f 211::f 212::f 213::f 214::f 215::f 216::f 217::f 218::f 219::f 220::f 221::f 222::f 223::f 224::f 225::f 226::f 227::f 228::f 229::f 230::f 231::f 232::f 233::f 234::f 235::f 236::f 237::f 238::f 239::f 240::f 241::f 242::f 243::[]):=rfl
end Go.Proofs.YtplgdpjbkdagfaaGreat
namespace Go.Proofs.YtplgdpjbkdagfaaGreat
set_option maxHeartbeats 8000000
open Lib renaming hid→Zg
set_option maxRecDepth 100000
open Go.ChangeShapes Go.WideShapes Go.ChangeAt Go.RowKit
set_option linter.unusedVariables false
set_option linter.unusedSimpArgs false
theorem Ur:(Tryz.prog.info? 58).map (fun i=>(i.zero,i.size,i.bytes))=some (some (.agg #[.string ByteArray.empty,.int .i64 0,.bool false]),3,32):=by kernel_rfl
theorem Va (x:XV) (w:World): ∀ j u,(YX x)[j]? =some u->(w.alloc (.cells #[.string (txt x.1),.int .i64 x.2.1,.bool x.2.2] 58)).cell? ⟨w.heap.size,j,none⟩=some u:=by
 intro j u hu;rcases j with _|_|_|j
 ·simp[YX] at hu; subst hu; simp[go_sem]
 ·simp[YX] at hu; subst hu; simp[go_sem]
 ·simp[YX] at hu; subst hu; simp[go_sem]
 ·simp[YX] at hu
def WM (b:List Nat) (ak iat:Nat):Nat->List XV->Option (List XV)
 | 0,_=>none
 | n+1,acc =>
   if ak+8 * acc.length+8<=b.length then
    if Yg (b.drop (ak+8 * acc.length)) 8=0 then some acc
    else if iat+8 * acc.length+8<=b.length/\acc.length≠64 then
     match WL b (Yg (b.drop (ak+8 * acc.length)) 8) with
     | none=>none
     | some s=>WM b ak iat n (acc++[s])
    else none
   else none
def Zdi (b:List Nat) (x:Ds):Option (List XV):=WM b (if x.thunks=0 then x.iat else x.thunks) x.iat 66 []
def SymsQ (w w':World) (r:Option (List XV)) (e:Ending):Prop:=match r with
 | none=>e= .returned (.tuple #[.slice none 0 0,.bool false])
 | some l=> ∃ A c,e= .returned (.tuple #[.slice A l.length c,.bool true])/\ZJ YX 3 w' w.heap.size 58 (.slice A l.length c) l
def lenV:Value->Nat
 | .slice _ n _=>n
 | _=>0
theorem Zdj (A:Option Addr) (cap:Nat) (bs:List Nat) (x:Ds) (w:World) (hl:bs.length<=cap) (hc:cap<=9223372036854775807) (hlen:bs.length<=1000000) (hb:Lb bs) (hs:SlB w A bs.length (lF bs)) (ht:x.thunks<4294967296) (hi:x.iat<4294967296) :
 Calls Tryz.prog 144 #[.slice A bs.length cap,.agg (Ds.cells x)] w fun e w'=>SymsQ w w' (Zdi bs x) e/\Below w.heap.size w w':=by
 obtain⟨R,hR⟩: ∃ R,Zdi bs x=R:=⟨_,rfl⟩;rw[hR];unfold Zdi at hR;obtain⟨at0,br⟩: ∃ q,(if x.thunks=0 then x.iat else x.thunks)=q:=⟨_,rfl⟩;rw[br] at hR;obtain⟨xt,xd,iat,xs,xy,xa,xh⟩:=x;simp only at br hi ht hR;have yx:at0<4294967296:=by rw[<-br]; split <;> assumption
 have aJ:=Zg hb;have HS:=Zg (fun W (hW:Below w.heap.size w W)=>SlB.below hs hW);have eF:=Zg (And.intro hl hc);have HR:=Zg hR;obtain⟨w1,ao⟩: ∃ w1,w.alloc (.cells #[.int .i64 xt,.int .i64 xd,.int .i64 iat,.int .i64 xs,.bool xy,.int .i64 xa,.int .i64 xh] 219)=w1:=⟨_,rfl⟩;have cu:=Zg ao;have av:=Zg (show Below w.heap.size w w1 from by rw[<-ao]; exact(Below.refl _ _).alloc (Nat.le_refl _) _);have dw:=Zg (show w1.heap[w.heap.size]? =some (.cells #[.int .i64 xt,.int .i64 xd,.int .i64 iat,.int .i64 xs,.bool xy,.int .i64 xa,.int .i64 xh] 219 (0,0)) from by rw[<-ao]; exact heap_alloc_new w _);have eK:=Zg (show w1.heap.size=w.heap.size+1 from by rw[<-ao]; simp);clear ao hb hs hl hc hR;have q0:w1.cell? ⟨w.heap.size,0,none⟩=some (.int .i64 xt):=by rw[Zh dw.out]; rfl
 have q2:w1.cell? ⟨w.heap.size,2,none⟩=some (.int .i64 iat):=by rw[Zh dw.out]; rfl
 simp only[Ds.cells];go_enter Tryz.func144,Tryz.ntmps144;go_upto_region 1 with(fail)
 refine(congrArg _ cu.out).mpr ?_;by_cases kA:xt=0
 ·rw[if_pos kA] at br;have dx:((xt:Int) == 0)=true:=by rw[beq_iff_eq]; omega
  subst br;clear kA yx;go_wp2_with fail
  have pE:=Zg (ZJ.made (C:=YX) (sz:=3) w1 (w.heap.size+1) (by rw[eK.out]; omega) 58);have pF:=Zg (av.out.alloc av.out.size (.cells #[] 58));have yy:=Zg ((Below.heap_alloc w1 (.cells #[] 58) w.heap.size (Zi dw.out)).trans dw.out);go_loopw [7] (fun v7 wr=> ∃(n:Nat) (l:List XV) (A':Option Addr) (c':Nat),l.length+n=66/\l.length<=64/\v7= .slice A' l.length c'/\ZJ YX 3 wr (w.heap.size+1) 58 (.slice A' l.length c') l/\Below w.heap.size w wr/\wr.heap[w.heap.size]? =some (.cells #[.int .i64 xt,.int .i64 xd,.int .i64 iat,.int .i64 xs,.bool xy,.int .i64 xa,.int .i64 xh] 219 (0,0))/\WM bs iat iat n l=R) (fun v7 _=>66 - lenV v7)
  case atStart=>exact⟨66,[],_,_,rfl,by simp,rfl,pE.out,pF.out,yy.out,HR.out⟩
  case round =>
   obtain⟨n,l,A',c',hn,mr,rfl,ae,aq,nj,hR⟩:=hrel;have HO:=Zg ae;have HB:=Zg aq;have HX:=Zg nj;replace HR:=Zg hR;clear ae aq nj hR pE pF yy;obtain⟨n,rfl⟩: ∃ q,n=q+1:=⟨n - 1,by omega⟩;have aa:=HR.out;simp only[WM] at aa;obtain⟨L,hL⟩: ∃ L,l.length=L:=⟨_,rfl⟩;rw[hL] at aa hn mr HO;obtain⟨m8,gU⟩: ∃ q,8 * L=q:=⟨_,rfl⟩;obtain⟨o,ho⟩: ∃ q,iat+m8=q:=⟨_,rfl⟩;rw[gU,ho] at aa;have em:(8:Int) * (L:Int)=(m8:Int):=by omega
   have wm:IntKind.i64.wrap (m8:Int)=(m8:Int):=by rw[IntKind.wrap_i64]; omega
   have eo:(iat:Int)+(m8:Int)=(o:Int):=by omega
   have wo:IntKind.i64.wrap (o:Int)=(o:Int):=by rw[IntKind.wrap_i64]; omega
   have HL:=Zg hL;have HU:=Zg (Ze1 A cap bs o wr (by omega) aJ.out (HS.out wr HB.out));have ax:=Zg (ZV A bs.length cap o 8 (decide (o+8<=bs.length)) wr (by omega) (by omega) (by omega) (by rw[decide_eq_true_iff]; omega));have hv:=ZG (aJ.out.drop o) 8;rw[show(256:Nat) ^ 8=18446744073709551616 from rfl] at hv;obtain⟨v,fj⟩: ∃ v,Yg (bs.drop o) 8=v:=⟨_,rfl⟩;rw[fj] at HU aa hv;have e2:wr.cell? ⟨w.heap.size,2,none⟩=some (.int .i64 iat):=by rw[Zh HX.out]; rfl
   have cO:=Zg (fun W (hW:Below w.heap.size w W)=>Qj A cap bs v W eF.out.1 eF.out.2 aJ.out (HS.out W hW) hv);have Lq:=Zg hv;rw[hL];clear gU ho fj hL hv;by_cases c1:o+8<=bs.length
   ·rw[if_pos c1] at aa;rw[if_pos c1,decide_eq_true c1] at HU;clear c1;by_cases c2:v=0
    ·rw[if_pos c2] at aa;have dv:((v:Int) == 0)=true:=by rw[beq_iff_eq]; omega
     have mf:=aa;subst mf;clear c2 aa;go_wp2_with fail
     refine HU.out.mono ?_;rintro e w' ⟨rfl,rfl⟩;go_wp2_with fail
     go_ret2;refine⟨⟨A',c',by rw[HL.out]; rfl,by rw[HL.out]; exact Joins.ownsRow_le HO.out (by omega)⟩,HB.out⟩
    ·rw[if_neg c2] at aa;have dv:((v:Int) == 0)=false:=beq_eq_false_iff_ne.mpr (by omega);clear c2;by_cases c3:o+8<=bs.length
     ·rw[decide_eq_true c3] at ax;by_cases c4:L=64
      ·rw[if_neg (by omega)] at aa;subst aa;have d4:((L:Int) == 64)=true:=by rw[beq_iff_eq]; omega
       have oc:=Zg c4;clear c4 c3;go_wp2_with fail
       refine HU.out.mono ?_;rintro e w' ⟨rfl,rfl⟩;go_wp2_with fail
       refine ax.out.mono ?_;rintro e w' ⟨rfl,rfl⟩;go_wp2_with fail
       go_ret2;exact⟨rfl,HB.out⟩
      ·rw[if_pos ⟨c3,c4⟩] at aa;have d4:((L:Int) == 64)=false:=beq_eq_false_iff_ne.mpr (by omega);have uG:L<64:=by omega
       have ar:=Zg aa;clear c3 c4 aa;go_wp2_with fail
       refine HU.out.mono ?_;rintro e w' ⟨rfl,rfl⟩;go_wp2_with fail
       refine ax.out.mono ?_;rintro e w' ⟨rfl,rfl⟩;go_wp2_with fail
       refine(cO.out _ HB.out).mono ?_;rintro e w2 ⟨⟨T,O,B,ok,rfl,dO,ej⟩,aR⟩;obtain⟨w3,dn⟩: ∃ w3,w2.alloc (.cells #[.string T,.int .i64 O,.bool B] 58)=w3:=⟨_,rfl⟩;have jC:=Zg dn;have rM:Below wr.heap.size wr w3:=by rw[<-dn]; exact aR.alloc aR.size _
       have aN:=Zg (HB.out.trans (rM.mono HB.out.size));have cT:=Zg (HO.out.below rM);have iw:=Zg ((rM.block _ (Zi HX.out)).trans HX.out);have fL:=Zg (show w3.heap[w2.heap.size]? =some (.cells #[.string T,.int .i64 O,.bool B] 58 (0,0)) from by rw[<-dn]; exact heap_alloc_new w2 _);clear aR dn rM e2;go_upto_region 14 with(fail)
       refine(congrArg _ jC.out).mpr ?_;rcases du:WL bs v with _|s
       ·obtain rfl:=dO du;have aa:=ar.out;rw[du] at aa;simp only at aa;subst aa;clear dO ej du;go_wp2_with fail
        go_ret2;exact⟨rfl,aN.out⟩
       ·obtain⟨rfl,rfl,rfl,rfl⟩:=ej _ du;have aa:=ar.out;rw[du] at aa;simp only at aa;have bS:=Zg aa;clear dO ej du aa;have t0:w3.cell? ⟨w2.heap.size,0,none⟩=some (.string (txt s.1)):=by rw[Zh fL.out]; rfl
        have t1:w3.cell? ⟨w2.heap.size,1,none⟩=some (.int .i64 s.2.1):=by rw[Zh fL.out]; rfl
        have t2:w3.cell? ⟨w2.heap.size,2,none⟩=some (.bool s.2.2):=by rw[Zh fL.out]; rfl
        have aK:=Zg (cT.out.alloc (.cells #[.string (txt s.1),.int .i64 s.2.1,.bool s.2.2] 58));have cK:=Zg (Va s w3);have aV:=Zg (aN.out.alloc aN.out.size (.cells #[.string (txt s.1),.int .i64 s.2.1,.bool s.2.2] 58));have je:=Zg (show(w3.alloc (.cells #[.string (txt s.1),.int .i64 s.2.1,.bool s.2.2] 58)).heap[w.heap.size]? =_ from(Below.heap_alloc _ _ _ (Zi iw.out)).trans iw.out);have cj:=Zg (show w.heap.size+1<=(w3.alloc (.cells #[.string (txt s.1),.int .i64 s.2.1,.bool s.2.2] 58)).heap.size from Zi je.out);rw[<-HL.out] at aK uG hn ⊢;have dH:=Zg (show l.length+1<=maxLen from by unfold maxLen; omega);have dX:=Zg (show(l.length+1) * 32<=140737488355328 from by omega);go_wp2_with (first
         | (at_builtin; refine Zq rfl (.tmp 55) (.tmp 57) 59 rfl (w.heap.size+1) 58 _ 32 rfl Ur rfl (by omega) Xv WZ _ l rfl aK.out w3.heap.size 1 rfl s cK.out dH.out dX.out cj.out ?_; intro g5 aG w8 ag aI aD)
         | fail)
        have ay:=Zg (aK.out.grew aV.out (by omega) aV.out.size aI);have mj:=Zg ((aI.block w.heap.size (Zi je.out) (fun h=>by have:=(aK.out.lt _ h.symm).1; omega)).trans je.out);have di:=Zg ag;clear ag aI aD;go_roundw
        case rel=>exact⟨n,l++[s],some ⟨g5,0,none⟩,aG,by simp; omega,by simp; omega,by simp,by simpa using di.out,ay.out,mj.out,bS.out⟩
        case measure =>
         show 66 - (l.length+1)<66 - L
         have:=HL.out;omega
     ·rw[decide_eq_false c3] at ax;rw[if_neg (fun h=>c3 h.1)] at aa;subst aa;clear c3;go_wp2_with fail
      refine HU.out.mono ?_;rintro e w' ⟨rfl,rfl⟩;go_wp2_with fail
      refine ax.out.mono ?_;rintro e w' ⟨rfl,rfl⟩;go_wp2_with fail
      go_ret2;exact⟨rfl,HB.out⟩
   ·rw[if_neg c1] at aa;subst aa;rw[if_neg c1,decide_eq_false c1] at HU;clear c1;go_wp2_with fail
    refine HU.out.mono ?_;rintro e w' ⟨rfl,rfl⟩;go_wp2_with fail
    go_ret2;exact⟨rfl,HB.out⟩
 ·rw[if_neg kA] at br;have dx:((xt:Int) == 0)=false:=beq_eq_false_iff_ne.mpr (by omega);subst br;clear kA yx;go_wp2_with fail
  have pE:=Zg (ZJ.made (C:=YX) (sz:=3) w1 (w.heap.size+1) (by rw[eK.out]; omega) 58);have pF:=Zg (av.out.alloc av.out.size (.cells #[] 58));have yy:=Zg ((Below.heap_alloc w1 (.cells #[] 58) w.heap.size (Zi dw.out)).trans dw.out);go_loopw [7] (fun v7 wr=> ∃(n:Nat) (l:List XV) (A':Option Addr) (c':Nat),l.length+n=66/\l.length<=64/\v7= .slice A' l.length c'/\ZJ YX 3 wr (w.heap.size+1) 58 (.slice A' l.length c') l/\Below w.heap.size w wr/\wr.heap[w.heap.size]? =some (.cells #[.int .i64 xt,.int .i64 xd,.int .i64 iat,.int .i64 xs,.bool xy,.int .i64 xa,.int .i64 xh] 219 (0,0))/\WM bs xt iat n l=R) (fun v7 _=>66 - lenV v7)
  case atStart=>exact⟨66,[],_,_,rfl,by simp,rfl,pE.out,pF.out,yy.out,HR.out⟩
  case round =>
   obtain⟨n,l,A',c',hn,mr,rfl,ae,aq,nj,hR⟩:=hrel;have HO:=Zg ae;have HB:=Zg aq;have HX:=Zg nj;replace HR:=Zg hR;clear ae aq nj hR pE pF yy;obtain⟨n,rfl⟩: ∃ q,n=q+1:=⟨n - 1,by omega⟩;have aa:=HR.out;simp only[WM] at aa;obtain⟨L,hL⟩: ∃ L,l.length=L:=⟨_,rfl⟩;rw[hL] at aa hn mr HO;obtain⟨m8,gU⟩: ∃ q,8 * L=q:=⟨_,rfl⟩;obtain⟨o,ho⟩: ∃ q,xt+m8=q:=⟨_,rfl⟩;obtain⟨o2,dJ⟩: ∃ q,iat+m8=q:=⟨_,rfl⟩;rw[gU,ho,dJ] at aa;have em:(8:Int) * (L:Int)=(m8:Int):=by omega
   have wm:IntKind.i64.wrap (m8:Int)=(m8:Int):=by rw[IntKind.wrap_i64]; omega
   have eo:(xt:Int)+(m8:Int)=(o:Int):=by omega
   have wo:IntKind.i64.wrap (o:Int)=(o:Int):=by rw[IntKind.wrap_i64]; omega
   have Gy:(iat:Int)+(m8:Int)=(o2:Int):=by omega
   have Gz:IntKind.i64.wrap (o2:Int)=(o2:Int):=by rw[IntKind.wrap_i64]; omega
   have HL:=Zg hL;have HU:=Zg (Ze1 A cap bs o wr (by omega) aJ.out (HS.out wr HB.out));have ax:=Zg (ZV A bs.length cap o2 8 (decide (o2+8<=bs.length)) wr (by omega) (by omega) (by omega) (by rw[decide_eq_true_iff]; omega));have hv:=ZG (aJ.out.drop o) 8;rw[show(256:Nat) ^ 8=18446744073709551616 from rfl] at hv;obtain⟨v,fj⟩: ∃ v,Yg (bs.drop o) 8=v:=⟨_,rfl⟩;rw[fj] at HU aa hv;have e2:wr.cell? ⟨w.heap.size,2,none⟩=some (.int .i64 iat):=by rw[Zh HX.out]; rfl
   have cO:=Zg (fun W (hW:Below w.heap.size w W)=>Qj A cap bs v W eF.out.1 eF.out.2 aJ.out (HS.out W hW) hv);have Lq:=Zg hv;rw[hL];clear gU ho dJ fj hL hv;by_cases c1:o+8<=bs.length
   ·rw[if_pos c1] at aa;rw[if_pos c1,decide_eq_true c1] at HU;clear c1;by_cases c2:v=0
    ·rw[if_pos c2] at aa;have dv:((v:Int) == 0)=true:=by rw[beq_iff_eq]; omega
     have mf:=aa;subst mf;clear c2 aa;go_wp2_with fail
     refine HU.out.mono ?_;rintro e w' ⟨rfl,rfl⟩;go_wp2_with fail
     go_ret2;refine⟨⟨A',c',by rw[HL.out]; rfl,by rw[HL.out]; exact Joins.ownsRow_le HO.out (by omega)⟩,HB.out⟩
    ·rw[if_neg c2] at aa;have dv:((v:Int) == 0)=false:=beq_eq_false_iff_ne.mpr (by omega);clear c2;by_cases c3:o2+8<=bs.length
     ·rw[decide_eq_true c3] at ax;by_cases c4:L=64
      ·rw[if_neg (by omega)] at aa;subst aa;have d4:((L:Int) == 64)=true:=by rw[beq_iff_eq]; omega
       have oc:=Zg c4;clear c4 c3;go_wp2_with fail
       refine HU.out.mono ?_;rintro e w' ⟨rfl,rfl⟩;go_wp2_with fail
       refine ax.out.mono ?_;rintro e w' ⟨rfl,rfl⟩;go_wp2_with fail
       go_ret2;exact⟨rfl,HB.out⟩
      ·rw[if_pos ⟨c3,c4⟩] at aa;have d4:((L:Int) == 64)=false:=beq_eq_false_iff_ne.mpr (by omega);have uG:L<64:=by omega
       have ar:=Zg aa;clear c3 c4 aa;go_wp2_with fail
       refine HU.out.mono ?_;rintro e w' ⟨rfl,rfl⟩;go_wp2_with fail
       refine ax.out.mono ?_;rintro e w' ⟨rfl,rfl⟩;go_wp2_with fail
       refine(cO.out _ HB.out).mono ?_;rintro e w2 ⟨⟨T,O,B,ok,rfl,dO,ej⟩,aR⟩;obtain⟨w3,dn⟩: ∃ w3,w2.alloc (.cells #[.string T,.int .i64 O,.bool B] 58)=w3:=⟨_,rfl⟩;have jC:=Zg dn;have rM:Below wr.heap.size wr w3:=by rw[<-dn]; exact aR.alloc aR.size _
       have aN:=Zg (HB.out.trans (rM.mono HB.out.size));have cT:=Zg (HO.out.below rM);have iw:=Zg ((rM.block _ (Zi HX.out)).trans HX.out);have fL:=Zg (show w3.heap[w2.heap.size]? =some (.cells #[.string T,.int .i64 O,.bool B] 58 (0,0)) from by rw[<-dn]; exact heap_alloc_new w2 _);clear aR dn rM e2;go_upto_region 14 with(fail)
       refine(congrArg _ jC.out).mpr ?_;rcases du:WL bs v with _|s
       ·obtain rfl:=dO du;have aa:=ar.out;rw[du] at aa;simp only at aa;subst aa;clear dO ej du;go_wp2_with fail
        go_ret2;exact⟨rfl,aN.out⟩
       ·obtain⟨rfl,rfl,rfl,rfl⟩:=ej _ du;have aa:=ar.out;rw[du] at aa;simp only at aa;have bS:=Zg aa;clear dO ej du aa;have t0:w3.cell? ⟨w2.heap.size,0,none⟩=some (.string (txt s.1)):=by rw[Zh fL.out]; rfl
        have t1:w3.cell? ⟨w2.heap.size,1,none⟩=some (.int .i64 s.2.1):=by rw[Zh fL.out]; rfl
        have t2:w3.cell? ⟨w2.heap.size,2,none⟩=some (.bool s.2.2):=by rw[Zh fL.out]; rfl
        have aK:=Zg (cT.out.alloc (.cells #[.string (txt s.1),.int .i64 s.2.1,.bool s.2.2] 58));have cK:=Zg (Va s w3);have aV:=Zg (aN.out.alloc aN.out.size (.cells #[.string (txt s.1),.int .i64 s.2.1,.bool s.2.2] 58));have je:=Zg (show(w3.alloc (.cells #[.string (txt s.1),.int .i64 s.2.1,.bool s.2.2] 58)).heap[w.heap.size]? =_ from(Below.heap_alloc _ _ _ (Zi iw.out)).trans iw.out);have cj:=Zg (show w.heap.size+1<=(w3.alloc (.cells #[.string (txt s.1),.int .i64 s.2.1,.bool s.2.2] 58)).heap.size from Zi je.out);rw[<-HL.out] at aK uG hn ⊢;have dH:=Zg (show l.length+1<=maxLen from by unfold maxLen; omega);have dX:=Zg (show(l.length+1) * 32<=140737488355328 from by omega);go_wp2_with (first
         | (at_builtin; refine Zq rfl (.tmp 55) (.tmp 57) 59 rfl (w.heap.size+1) 58 _ 32 rfl Ur rfl (by omega) Xv WZ _ l rfl aK.out w3.heap.size 1 rfl s cK.out dH.out dX.out cj.out ?_; intro g5 aG w8 ag aI aD)
         | fail)
        have ay:=Zg (aK.out.grew aV.out (by omega) aV.out.size aI);have mj:=Zg ((aI.block w.heap.size (Zi je.out) (fun h=>by have:=(aK.out.lt _ h.symm).1; omega)).trans je.out);have di:=Zg ag;clear ag aI aD;go_roundw
        case rel=>exact⟨n,l++[s],some ⟨g5,0,none⟩,aG,by simp; omega,by simp; omega,by simp,by simpa using di.out,ay.out,mj.out,bS.out⟩
        case measure =>
         show 66 - (l.length+1)<66 - L
         have:=HL.out;omega
     ·rw[decide_eq_false c3] at ax;rw[if_neg (fun h=>c3 h.1)] at aa;subst aa;clear c3;go_wp2_with fail
      refine HU.out.mono ?_;rintro e w' ⟨rfl,rfl⟩;go_wp2_with fail
      refine ax.out.mono ?_;rintro e w' ⟨rfl,rfl⟩;go_wp2_with fail
      go_ret2;exact⟨rfl,HB.out⟩
   ·rw[if_neg c1] at aa;subst aa;rw[if_neg c1,decide_eq_false c1] at HU;clear c1;go_wp2_with fail
    refine HU.out.mono ?_;rintro e w' ⟨rfl,rfl⟩;go_wp2_with fail
    go_ret2;exact⟨rfl,HB.out⟩
end Go.Proofs.YtplgdpjbkdagfaaGreat
