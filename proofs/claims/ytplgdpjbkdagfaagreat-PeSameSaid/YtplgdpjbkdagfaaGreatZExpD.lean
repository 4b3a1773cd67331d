import Derived.Test.YtplgdpjbkdagfaaGreatZExpM
import Derived.Laws.Cover1
import Derived.Laws.CopyOwn
import Derived.Test.YtplgdpjbkdagfaaGreatZRefB
namespace Go.Proofs.YtplgdpjbkdagfaaGreat
open Lib renaming hid→Zg
set_option maxRecDepth 100000
open Go.ChangeShapes Go.WideShapes Go.ChangeAt Go.RowKit
set_option linter.unusedVariables false
set_option linter.unusedSimpArgs false
def Zdi:List Nat→List Nat→Bool
 | _,[]=>false
 | [],_::_=>true
 | a::x,b::y=>decide (a<b)||(a == b&&Zdi x y)
def Zi1 (t s:List Nat):Bool:=Zdi t s||t == s
theorem u8_lt {a b:Nat} (ha:a≤255) (hb:b≤255):decide (UInt8.ofNat a<UInt8.ofNat b)=decide (a<b):=by
 rw[decide_eq_decide,UInt8.lt_iff_toNat_lt,UInt8.toNat_ofNat_of_lt' (by simp[UInt8.size]; omega),UInt8.toNat_ofNat_of_lt' (by simp[UInt8.size]; omega)]
theorem u8_inj {a b:Nat} (ha:a≤255) (hb:b≤255):UInt8.ofNat a=UInt8.ofNat b↔a=b:=by
 constructor
 ·intro h
  have:=congrArg UInt8.toNat h
  rwa [UInt8.toNat_ofNat_of_lt' (by simp[UInt8.size]; omega),UInt8.toNat_ofNat_of_lt' (by simp[UInt8.size]; omega)] at this
 ·intro h; rw[h]
theorem Zb9: ∀(t s:List Nat),Lb t→Lb s→Op.bytesLess (t.map UInt8.ofNat) (s.map UInt8.ofNat)=Zdi t s
 | t,[],_,_=>by cases t <;> rfl
 | [],b::y,_,_=>rfl
 | a::x,b::y,ht,hs=>by
   have ha:=ht a (by simp)
   have hb:=hs b (by simp)
   simp only[List.map_cons,Op.bytesLess,Zdi,u8_lt ha hb,Zb9 x y (fun v hv=>ht v (List.mem_cons_of_mem _ hv)) (fun v hv=>hs v (List.mem_cons_of_mem _ hv))]
   congr 2
   rw[Bool.eq_iff_iff]
   simp[u8_inj ha hb]
theorem Uw {t:List Nat} (h:Lb t):(txt t).toList=t.map UInt8.ofNat:=by
 rw[ByteArray.toList_eq]
 unfold txt ZB
 rw[strOfNums_data,List.map_map]
 apply List.ext_getElem?
 intro i
 rw[List.getElem?_map,List.getElem?_map]
 rcases Nat.lt_or_ge i t.length with hi|hi
 ·rw[List.getElem?_range hi,List.getElem?_eq_getElem hi]
  simp[lF,List.getD,hi]
 ·rw[List.getElem?_eq_none (by simpa using hi),List.getElem?_eq_none hi]
  rfl
abbrev NmV:=List Nat × Nat
def nC (x:NmV):List Value:=[.string (txt x.1),.int .i64 x.2]
theorem UL (x:NmV):(nC x).length=2:=rfl
theorem Zca (x:NmV): ∀ u∈nC x,u.oneCell'=true:=by
 intro u hu
 simp[nC] at hu
 rcases hu with rfl|rfl <;> rfl
theorem Vx:(Tryz.prog.info? 76).map (fun i=>(i.zero,i.size,i.bytes))=some (some (.agg #[.string ByteArray.empty,.int .i64 0]),2,24):=by kernel_rfl
theorem Jv (x:Nat) (t:List Nat) (w:World): ∀ j u,(nC (t,x))[j]? =some u→(w.alloc (.cells #[.string (txt t),.int .i64 x] 76)).cell? ⟨w.heap.size,j,none⟩=some u:=by
 intro j u hu
 rcases j with _|_|j
 ·simp[nC] at hu; subst hu; simp[go_sem]
 ·simp[nC] at hu; subst hu; simp[go_sem]
 ·simp[nC] at hu
def WC (b:List Nat) (atN atI funcs:Nat):Nat→Nat→List Nat→List NmV→Option (List NmV)
 | 0,_,_,acc=>some acc
 | k+1,i,last,acc=>match XV b (YS (b.drop (atN+4 * i)) 4) 64 with
   | none=>none
   | some t=>if Xx t=true then
      if Zi1 t last=true then none
      else if YS (b.drop (atI+2 * i)) 2<funcs then WC b atN atI funcs k (i+1) t (acc++[(t,YS (b.drop (atI+2 * i)) 2)]) else none
     else none
theorem SlT.nm {w:World} {F:Option Addr} {fs:List NmV} (h:SlT nC 2 w F fs) {k:Nat} (hk:k<fs.length): ∃ b off,F=some ⟨b,off,none⟩∧b<w.heap.size∧w.cell? ⟨b,off+k * 2,none⟩=some (.string (txt fs[k].1))∧w.cell? ⟨b,off+k * 2+1,none⟩=some (.int .i64 fs[k].2):=by
 rcases h with h|⟨b,off,rfl,hlt,hc⟩
 ·rw[h] at hk; simp at hk
 ·exact⟨b,off,rfl,hlt,by have:=hc k hk 0 _ (by simp[nC]; rfl); simpa using this,by have:=hc k hk 1 _ (by simp[nC]; rfl); rwa [←Nat.add_assoc] at this⟩
theorem fnOne {n:Int} {T:ByteArray}:(#[.int .i64 n,.string T]:Array Value).all (·.oneCell')=true:=by simp[Value.oneCell']
theorem fnInfo {x y:Value}:(Tryz.prog.info? 74).map (·.size)=some (#[x,y]:Array Value).size:=by kernel_rfl
structure Ds where
 thunks:Nat
 dll:Nat
 iat:Nat
 stamp:Nat
 delay:Bool
 attrs:Nat
 handle:Nat
def Vr (b:List Nat) (o:Nat):Ds:=⟨YS (b.drop o) 4,YS (b.drop (o+12)) 4,YS (b.drop (o+16)) 4,YS (b.drop (o+4)) 4,false,0,0⟩
def UM (b:List Nat) (o:Nat):Ds:=⟨YS (b.drop (o+16)) 4,YS (b.drop (o+4)) 4,YS (b.drop (o+12)) 4,YS (b.drop (o+28)) 4,true,YS (b.drop o) 4,YS (b.drop (o+8)) 4⟩
abbrev Wg:=List Nat × Nat × Bool
def Xu (x:Wg):List Value:=[.string (txt x.1),.int .i64 x.2.1,.bool x.2.2]
theorem WR (x:Wg):(Xu x).length=3:=rfl
theorem Ux (x:Wg): ∀ u∈Xu x,u.oneCell'=true:=by
 intro u hu
 simp[Xu] at hu
 rcases hu with rfl|rfl|rfl <;> rfl
def Za6 (b:List Nat) (v:Nat):Option Wg :=
 if 9223372036854775808≤v then(if 65535<v - 9223372036854775808 then none else some ([],v - 9223372036854775808,true))
 else if 2147483647<v then none
 else match XV b (v+2) 64 with
  | none=>none
  | some t=>if Xx t=true then some (t,0,false) else none
abbrev Zg6:=Nat × List FnV × List NmV
def Uh (b:List Nat) (rva size:Int):Option Zg6 :=
 if rva=0 then some (0,[],[])
 else match Zdn b rva size with
  | none=>none
  | some r=>match Wz b rva.toNat size.toNat r.atF r.funcs 0 [] with
    | none=>none
    | some f=>match WC b r.atN r.atI r.funcs r.names 0 [] [] with
      | none=>none
      | some n=>some (r.base,f,n)
def Zim (w w':World) (r:Option Zg6) (e:Ending):Prop:=match r with
 | none=>e= .returned (.tuple #[.agg #[.int .i64 0,.slice none 0 0,.slice none 0 0],.int .i64 11])
 | some x=> ∃ A c A' c',e= .returned (.tuple #[.agg #[.int .i64 x.1,.slice A x.2.1.length c,.slice A' x.2.2.length c'],.int .i64 0])∧ZR gC 2 w' w.heap.size 74 (.slice A x.2.1.length c) x.2.1∧ZR nC 2 w' w.heap.size 76 (.slice A' x.2.2.length c') x.2.2
theorem Zdj {b:List Nat} {rva size:Int} {r:Rw} (h:Zdn b rva size=some r):0≤rva∧40≤size∧rva≤b.length - size∧r.funcs≤256∧r.names≤256∧(r.funcs=0∨r.atF+4 * r.funcs≤b.length)∧(r.names=0∨(r.atN+4 * r.names≤b.length∧r.atI+2 * r.names≤b.length)):=by
 unfold Zdn at h
 by_cases c:40≤size∧0≤rva∧rva≤b.length - size
 ·rw[if_pos c] at h
  by_cases k:(Zhg b rva.toNat).ok b.length=true
  ·rw[if_pos k] at h
   injection h with h
   subst h
   simp only[Rw.ok,inL,Bool.and_eq_true,Bool.or_eq_true,decide_eq_true_eq] at k
   omega
  ·rw[if_neg k] at h; exact absurd h (by simp)
 ·rw[if_neg c] at h; exact absurd h (by simp)
theorem Yg {x y z:Value}:(Tryz.prog.info? 45).map (·.size)=some (#[x,y,z]:Array Value).size:=by kernel_rfl
end Go.Proofs.YtplgdpjbkdagfaaGreat
namespace Go.Proofs.YtplgdpjbkdagfaaGreat
open Lib renaming hid→Zg
open Go.ChangeShapes Go.WideShapes Go.ChangeAt Go.RowKit
set_option linter.unusedVariables false
set_option linter.unusedSimpArgs false
noncomputable def Zi2:Code:=(Tryz.f38.body).getD .skip
def QX (w:World) (r:Option Zg6):Exit→Act→World→Prop :=
 bodyPost Tryz.prog Tryz.f38 fun e w'=>Zim w w' r e∧Below w.heap.size w w'
theorem Jw: ∀(t s:List Nat),(!Zdi s t)=Zi1 t s
 | [],[]=>rfl
 | [],_::_=>rfl
 | _::_,[]=>rfl
 | a::x,b::y=>by
   have ih:=Jw x y
   simp only[Zi1] at ih ⊢
   simp only[Zdi]
   rcases Nat.lt_trichotomy a b with h|h|h
   ·have h1: ¬ b<a:=by omega
    have h2:(b == a)=false:=beq_eq_false_iff_ne.mpr (by omega)
    have h3:(a == b)=false:=beq_eq_false_iff_ne.mpr (by omega)
    simp[h,h1,h2]
   ·subst h
    simp at ih ⊢
    exact ih
   ·have h1: ¬ a<b:=by omega
    have h2:(b == a)=false:=beq_eq_false_iff_ne.mpr (by omega)
    have h3:(a == b)=false:=beq_eq_false_iff_ne.mpr (by omega)
    have h4: ¬ a=b:=by omega
    simp[h,h1,h2,h3,h4]
theorem Zg7 {t s:List Nat} (ht:Lb t) (hs:Lb s):Op.bytesLess (txt s).toList (txt t).toList= !Zi1 t s:=by
 rw[Uw ht,Uw hs,Zb9 s t hs ht,←Jw,Bool.not_not]
theorem Yh {n:Int} {A A':Option Addr} {a b c d:Nat}:(#[.int .i64 n,.slice A a b,.slice A' c d]:Array Value).all (·.oneCell')=true:=by simp[Value.oneCell']
theorem Zy {α :Type} {C: α →List Value} {sz:Nat} {w:World} {base:Nat} {e:TypeId} {v:Value} {l:List α} (h:ZR C sz w base e v l) {a:Addr} (ha:a.block<base) (u:Value):ZR C sz (w.setCell a u) base e v l :=
 ownsRow_setCell_below h ha u
theorem XC {α :Type} {C: α →List Value} {sz:Nat} {w:World} {base:Nat} {e:TypeId} {v:Value} {l:List α} (h:ZR C sz w base e v l) {g:Nat} (hg:g<base) (cs:Array Value):ZR C sz (w.setRow g cs) base e v l :=
 h.of_block fun k hk=>setRow_other w _ _ _ (by have:=(h.lt k hk).1; omega)
set_option maxRecDepth 100000
theorem Zcb {α :Type} (f:Nat→ α):(List.range 244).map f=(f 0::f 1::f 2::f 3::f 4::f 5::f 6::f 7::f 8::f 9::f 10::f 11::f 12::f 13::f 14::f 15::f 16::f 17::f 18::f 19::f 20::f 21::f 22::f 23::f 24::f 25::f 26::f 27::f 28::f 29::f 30::f 31::f 32::f 33::f 34::f 35::f 36::f 37::f 38::f 39::f 40::f 41::f 42::f 43::f 44::f 45::f 46::f 47::f 48::f 49::f 50::f 51::f 52::f 53::f 54::f 55::f 56::f 57::f 58::f 59::f 60::f 61::f 62::f 63::f 64::f 65::f 66::f 67::f 68::f 69::f 70::f 71::f 72::f 73::f 74::f 75::f 76::f 77::f 78::f 79::f 80::f 81::f 82::f 83::f 84::f 85::f 86::f 87::f 88::f 89::f 90::f 91::f 92::f 93::f 94::f 95::f 96::f 97::f 98::f 99::f 100::f 101::f 102::f 103::f 104::f 105::f 106::f 107::f 108::f 109::f 110::f 111::f 112::f 113::f 114::f 115::f 116::f 117::f 118::f 119::f 120::f 121::f 122::f 123::f 124::f 125::f 126::f 127::f 128::f 129::f 130::f 131::f 132::f 133::f 134::f 135::f 136::f 137::f 138::f 139::f 140::f 141::f 142::f 143::f 144::f 145::f 146::f 147::f 148::f 149::f 150::f 151::f 152::f 153::f 154::f 155::f 156::f 157::f 158::f 159::f 160::f 161::f 162::f 163::f 164::f 165::f 166::f 167::f 168::f 169::f 170::f 171::f 172::f 173::f 174::f 175::f 176::f 177::f 178::f 179::f 180::f 181::f 182::f 183::f 184::f 185::f 186::f 187::f 188::f 189::f 190::f 191::f 192::f 193::f 194::f 195::f 196::f 197::f 198::f 199::f 200::f 201::f 202::f 203::f 204::f 205::f 206::f 207::f 208::f 209::f 210::f 211::f 212::f 213::f 214::f 215::f 216::f 217::f 218::f 219::f 220::f 221::f 222::f 223::f 224::f 225::f 226::f 227::f 228::f 229::f 230::f 231::f 232::f 233::f 234::f 235::f 236::f 237::f 238::f 239::f 240::f 241::f 242::f 243::[]):=rfl
theorem Wt {a:Act} {v0 v4 v6 v7 v8 v9 v11 v12:Value} (h:Has 244 [0,4,6,7,8,9,11,12] [v0,v4,v6,v7,v8,v9,v11,v12] a): ∃ u:Nat→Value,a=⟨(v0::u 1::u 2::u 3::v4::u 5::v6::v7::v8::v9::u 10::v11::v12::u 13::u 14::u 15::u 16::u 17::u 18::u 19::u 20::u 21::u 22::u 23::u 24::u 25::u 26::u 27::u 28::u 29::u 30::u 31::u 32::u 33::u 34::u 35::u 36::u 37::u 38::u 39::u 40::u 41::u 42::u 43::u 44::u 45::u 46::u 47::u 48::u 49::u 50::u 51::u 52::u 53::u 54::u 55::u 56::u 57::u 58::u 59::u 60::u 61::u 62::u 63::u 64::u 65::u 66::u 67::u 68::u 69::u 70::u 71::u 72::u 73::u 74::u 75::u 76::u 77::u 78::u 79::u 80::u 81::u 82::u 83::u 84::u 85::u 86::u 87::u 88::u 89::u 90::u 91::u 92::u 93::u 94::u 95::u 96::u 97::u 98::u 99::u 100::u 101::u 102::u 103::u 104::u 105::u 106::u 107::u 108::u 109::u 110::u 111::u 112::u 113::u 114::u 115::u 116::u 117::u 118::u 119::u 120::u 121::u 122::u 123::u 124::u 125::u 126::u 127::u 128::u 129::u 130::u 131::u 132::u 133::u 134::u 135::u 136::u 137::u 138::u 139::u 140::u 141::u 142::u 143::u 144::u 145::u 146::u 147::u 148::u 149::u 150::u 151::u 152::u 153::u 154::u 155::u 156::u 157::u 158::u 159::u 160::u 161::u 162::u 163::u 164::u 165::u 166::u 167::u 168::u 169::u 170::u 171::u 172::u 173::u 174::u 175::u 176::u 177::u 178::u 179::u 180::u 181::u 182::u 183::u 184::u 185::u 186::u 187::u 188::u 189::u 190::u 191::u 192::u 193::u 194::u 195::u 196::u 197::u 198::u 199::u 200::u 201::u 202::u 203::u 204::u 205::u 206::u 207::u 208::u 209::u 210::u 211::u 212::u 213::u 214::u 215::u 216::u 217::u 218::u 219::u 220::u 221::u 222::u 223::u 224::u 225::u 226::u 227::u 228::u 229::u 230::u 231::u 232::u 233::u 234::u 235::u 236::u 237::u 238::u 239::u 240::u 241::u 242::u 243::[]).toArray,[]⟩:=by
 obtain⟨⟨l⟩,d⟩:=a
 obtain⟨hs,hd,hl⟩:=h
 have hs':l.length=244:=hs
 have hd':d=[]:=hd
 subst hd'
 simp only[at_,List.map_cons,List.map_nil,List.cons.injEq,and_true] at hl
 obtain⟨e0,e4,e6,e7,e8,e9,e11,e12⟩:=hl
 refine⟨sl ⟨⟨l⟩,[]⟩,?_⟩
 have key:=Zz l [] 244 hs'
 rw[Zcb] at key
 have u0:sl ⟨⟨l⟩,[]⟩ 0=v0:=by unfold sl; rw[e0]; rfl
 have u4:sl ⟨⟨l⟩,[]⟩ 4=v4:=by unfold sl; rw[e4]; rfl
 have u6:sl ⟨⟨l⟩,[]⟩ 6=v6:=by unfold sl; rw[e6]; rfl
 have u7:sl ⟨⟨l⟩,[]⟩ 7=v7:=by unfold sl; rw[e7]; rfl
 have u8:sl ⟨⟨l⟩,[]⟩ 8=v8:=by unfold sl; rw[e8]; rfl
 have u9:sl ⟨⟨l⟩,[]⟩ 9=v9:=by unfold sl; rw[e9]; rfl
 have u11:sl ⟨⟨l⟩,[]⟩ 11=v11:=by unfold sl; rw[e11]; rfl
 have u12:sl ⟨⟨l⟩,[]⟩ 12=v12:=by unfold sl; rw[e12]; rfl
 rw[←u0,←u4,←u6,←u7,←u8,←u9,←u11,←u12]
 exact congrArg (fun x=>(⟨⟨x⟩,[]⟩:Act)) key
theorem YK {a:Act} {v0 v3 v4 v6 v7 v8 v9 v10 v11 v12:Value} (h:Has 244 [0,3,4,6,7,8,9,10,11,12] [v0,v3,v4,v6,v7,v8,v9,v10,v11,v12] a): ∃ u:Nat→Value,a=⟨(v0::u 1::u 2::v3::v4::u 5::v6::v7::v8::v9::v10::v11::v12::u 13::u 14::u 15::u 16::u 17::u 18::u 19::u 20::u 21::u 22::u 23::u 24::u 25::u 26::u 27::u 28::u 29::u 30::u 31::u 32::u 33::u 34::u 35::u 36::u 37::u 38::u 39::u 40::u 41::u 42::u 43::u 44::u 45::u 46::u 47::u 48::u 49::u 50::u 51::u 52::u 53::u 54::u 55::u 56::u 57::u 58::u 59::u 60::u 61::u 62::u 63::u 64::u 65::u 66::u 67::u 68::u 69::u 70::u 71::u 72::u 73::u 74::u 75::u 76::u 77::u 78::u 79::u 80::u 81::u 82::u 83::u 84::u 85::u 86::u 87::u 88::u 89::u 90::u 91::u 92::u 93::u 94::u 95::u 96::u 97::u 98::u 99::u 100::u 101::u 102::u 103::u 104::u 105::u 106::u 107::u 108::u 109::u 110::u 111::u 112::u 113::u 114::u 115::u 116::u 117::u 118::u 119::u 120::u 121::u 122::u 123::u 124::u 125::u 126::u 127::u 128::u 129::u 130::u 131::u 132::u 133::u 134::u 135::u 136::u 137::u 138::u 139::u 140::u 141::u 142::u 143::u 144::u 145::u 146::u 147::u 148::u 149::u 150::u 151::u 152::u 153::u 154::u 155::u 156::u 157::u 158::u 159::u 160::u 161::u 162::u 163::u 164::u 165::u 166::u 167::u 168::u 169::u 170::u 171::u 172::u 173::u 174::u 175::u 176::u 177::u 178::u 179::u 180::u 181::u 182::u 183::u 184::u 185::u 186::u 187::u 188::u 189::u 190::u 191::u 192::u 193::u 194::u 195::u 196::u 197::u 198::u 199::u 200::u 201::u 202::u 203::u 204::u 205::u 206::u 207::u 208::u 209::u 210::u 211::u 212::u 213::u 214::u 215::u 216::u 217::u 218::u 219::u 220::u 221::u 222::u 223::u 224::u 225::u 226::u 227::u 228::u 229::u 230::u 231::u 232::u 233::u 234::u 235::u 236::u 237::u 238::u 239::u 240::u 241::u 242::u 243::[]).toArray,[]⟩:=by
 obtain⟨⟨l⟩,d⟩:=a
 obtain⟨hs,hd,hl⟩:=h
 have hs':l.length=244:=hs
 have hd':d=[]:=hd
 subst hd'
 simp only[at_,List.map_cons,List.map_nil,List.cons.injEq,and_true] at hl
 obtain⟨e0,e3,e4,e6,e7,e8,e9,e10,e11,e12⟩:=hl
 refine⟨sl ⟨⟨l⟩,[]⟩,?_⟩
 have key:=Zz l [] 244 hs'
 rw[Zcb] at key
 have u0:sl ⟨⟨l⟩,[]⟩ 0=v0:=by unfold sl; rw[e0]; rfl
 have u3:sl ⟨⟨l⟩,[]⟩ 3=v3:=by unfold sl; rw[e3]; rfl
 have u4:sl ⟨⟨l⟩,[]⟩ 4=v4:=by unfold sl; rw[e4]; rfl
 have u6:sl ⟨⟨l⟩,[]⟩ 6=v6:=by unfold sl; rw[e6]; rfl
 have u7:sl ⟨⟨l⟩,[]⟩ 7=v7:=by unfold sl; rw[e7]; rfl
 have u8:sl ⟨⟨l⟩,[]⟩ 8=v8:=by unfold sl; rw[e8]; rfl
 have u9:sl ⟨⟨l⟩,[]⟩ 9=v9:=by unfold sl; rw[e9]; rfl
 have u10:sl ⟨⟨l⟩,[]⟩ 10=v10:=by unfold sl; rw[e10]; rfl
 have u11:sl ⟨⟨l⟩,[]⟩ 11=v11:=by unfold sl; rw[e11]; rfl
 have u12:sl ⟨⟨l⟩,[]⟩ 12=v12:=by unfold sl; rw[e12]; rfl
 rw[←u0,←u3,←u4,←u6,←u7,←u8,←u9,←u10,←u11,←u12]
 exact congrArg (fun x=>(⟨⟨x⟩,[]⟩:Act)) key
end Go.Proofs.YtplgdpjbkdagfaaGreat
namespace Go.Proofs.YtplgdpjbkdagfaaGreat
open Lib renaming hid→Zg
set_option maxRecDepth 100000
open Go.ChangeShapes Go.WideShapes Go.ChangeAt Go.RowKit
set_option linter.unusedVariables false
set_option linter.unusedSimpArgs false
theorem JV:(Tryz.prog.info? 58).map (fun i=>(i.zero,i.size,i.bytes))=some (some (.agg #[.string ByteArray.empty,.int .i64 0,.bool false]),3,32):=by kernel_rfl
theorem Uy (x:Wg) (w:World): ∀ j u,(Xu x)[j]? =some u→(w.alloc (.cells #[.string (txt x.1),.int .i64 x.2.1,.bool x.2.2] 58)).cell? ⟨w.heap.size,j,none⟩=some u:=by
 intro j u hu
 rcases j with _|_|_|j
 ·simp[Xu] at hu; subst hu; simp[go_sem]
 ·simp[Xu] at hu; subst hu; simp[go_sem]
 ·simp[Xu] at hu; subst hu; simp[go_sem]
 ·simp[Xu] at hu
def VY (b:List Nat) (at' iat:Nat):Nat→List Wg→Option (List Wg)
 | 0,_=>none
 | n+1,acc =>
   if at'+8 * acc.length+8≤b.length then
    if YS (b.drop (at'+8 * acc.length)) 8=0 then some acc
    else if iat+8 * acc.length+8≤b.length∧acc.length≠64 then
     match Za6 b (YS (b.drop (at'+8 * acc.length)) 8) with
     | none=>none
     | some s=>VY b at' iat n (acc++[s])
    else none
   else none
def Zi3 (b:List Nat) (x:Ds):Option (List Wg):=VY b (if x.thunks=0 then x.iat else x.thunks) x.iat 66 []
structure Za7 where
 dll:List Nat
 iat:Nat
 stamp:Nat
 handle:Nat
 syms:List Wg
def Zg8 (b:List Nat) (x:Ds):Option Za7 :=
 match XV b x.dll 40 with
 | none=>none
 | some t=>if Zc4 t=true then
    (if x.delay=true∧(x.attrs≠1∨ ¬ x.handle+8≤b.length) then none
     else match Zi3 b x with
      | none=>none
      | some l=>some ⟨t,x.iat,x.stamp,x.handle,l⟩)
   else none
structure XT where
 v:Za7
 A:Option Addr
 c:Nat
def YO (y:XT):List Value:=[.string (txt y.v.dll),.int .i64 y.v.iat,.int .i64 y.v.stamp,.int .i64 y.v.handle,.slice y.A y.v.syms.length y.c]
theorem Xv (y:XT):(YO y).length=5:=rfl
theorem WS (y:XT): ∀ u∈YO y,u.oneCell'=true:=by
 intro u hu
 simp[YO] at hu
 rcases hu with rfl|rfl|rfl|rfl|rfl <;> rfl
theorem VZ:(Tryz.prog.info? 78).map (fun i=>(i.zero,i.size,i.bytes))=some (some (.agg #[.string ByteArray.empty,.int .i64 0,.int .i64 0,.int .i64 0,.slice none 0 0]),5,64):=by kernel_rfl
theorem Zcc (y:XT) (w:World): ∀ j u,(YO y)[j]? =some u→(w.alloc (.cells #[.string (txt y.v.dll),.int .i64 y.v.iat,.int .i64 y.v.stamp,.int .i64 y.v.handle,.slice y.A y.v.syms.length y.c] 78)).cell? ⟨w.heap.size,j,none⟩=some u:=by
 intro j u hu
 rcases j with _|_|_|_|_|j
 ·simp[YO] at hu; subst hu; simp[go_sem]
 ·simp[YO] at hu; subst hu; simp[go_sem]
 ·simp[YO] at hu; subst hu; simp[go_sem]
 ·simp[YO] at hu; subst hu; simp[go_sem]
 ·simp[YO] at hu; subst hu; simp[go_sem]
 ·simp[YO] at hu
def JW (b:List Nat) (n:Nat) (rd:List Nat→Nat→Ds):Nat→Nat→List Za7→Option (List Za7)
 | 0,_,_=>none
 | k+1,o,acc =>
   if Xj b o n=true then some acc
   else if o+n≤b.length∧acc.length≠16 then
    match Zg8 b (rd b o) with
    | none=>none
    | some v=>JW b n rd k (o+n) (acc++[v])
   else none
def XX (b:List Nat) (rva n:Nat) (rd:List Nat→Nat→Ds):Option (List Za7):=if rva=0 then some [] else JW b n rd 18 rva []
def JX (w:World) (base:Nat) (A:Option Addr) (c:Nat) (l:List XT):Prop :=
 ZR YO 5 w base 78 (.slice A l.length c) l∧ ∀ y∈l,SlT Xu 3 w y.A y.v.syms∧ ∀ b,y.A.map (·.block)=some b→base≤b
def ImpQ (w w':World) (r:Option (List Za7)) (e:Ending):Prop:=match r with
 | none=>e= .returned (.tuple #[.slice none 0 0,.int .i64 10])
 | some vs=> ∃ A c l,e= .returned (.tuple #[.slice A l.length c,.int .i64 0])∧JX w' w.heap.size A c l∧l.map (·.v)=vs
set_option maxRecDepth 100000 in
set_option maxHeartbeats 8000000 in
theorem Zer (bs:List Nat) (b0 b1 b2 b4 b5:Nat) (w wr:World) (fs:List FnV) (F:Option Addr) (fc:Nat) (R:Option (List NmV)) (RR:Option Zg6)
 (HLB:Hid (Lb bs)) (hlen:bs.length≤1000000) (hn:b2≤256) (HIN:Hid (b2=0∨(b4+4 * b2≤bs.length∧b5+2 * b2≤bs.length)))
 (HR:Hid (WC bs b4 b5 b1 b2 0 [] []=R)) (HRR:Hid (RR=R.map fun n=>(b0,fs,n)))
 (HB:Hid (Below w.heap.size w wr)) (H1:Hid (wr.heap[w.heap.size+1]? =some (.cells #[.int .i64 0,.slice none 0 0,.slice none 0 0] 45 (0,0)))) (H2:Hid (wr.heap[w.heap.size+2]? =some (.cells #[.int .i64 0,.slice none 0 0,.slice none 0 0] 45 (0,0))))
 (H3:Hid (wr.heap[w.heap.size+3]? =some (.cells #[.int .i64 b0,.slice F fs.length fc,.slice none 0 0] 45 (0,0))))
 (HO:Hid (ZR gC 2 wr (w.heap.size+4) 74 (.slice F fs.length fc) fs)) (a:Act)
 (ha:Has 244 [0,4,6,7,8,9,11,12] [.string (txt bs),.pointer (some ⟨w.heap.size+1,0,none⟩),.pointer (some ⟨w.heap.size+2,0,none⟩),.pointer (some ⟨w.heap.size+3,0,none⟩),.int .i64 b1,.int .i64 b2,.int .i64 b4,.int .i64 b5] a):(ZY 9 Zi2).wp Tryz.prog (QX w RR) a wr:=by
 obtain⟨u,rfl⟩:=Wt ha
 clear ha
 conv=>arg 2; whnf
 go_wp2_with fail
 go_loopw [19] (fun v19 wr=> ∃(i k:Nat) (l:List NmV) (last:List Nat) (A':Option Addr) (c':Nat),i+k=b2∧l.length=i∧Lb last∧last.length≤64∧((i=0∧last=[])∨(1≤i∧(l.getD (i - 1) ([],0)).1=last))∧v19= .int .i64 i∧ZR nC 2 wr (w.heap.size+4) 76 (.slice A' l.length c') l∧ZR gC 2 wr (w.heap.size+4) 74 (.slice F fs.length fc) fs∧(∀ k,(Value.slice A' l.length c').ownBlock=some k→(Value.slice F fs.length fc).ownBlock≠some k)∧Below w.heap.size w wr∧wr.heap[w.heap.size+1]? =some (.cells #[.int .i64 0,.slice none 0 0,.slice none 0 0] 45 (0,0))∧wr.heap[w.heap.size+2]? =some (.cells #[.int .i64 0,.slice none 0 0,.slice none 0 0] 45 (0,0))∧wr.heap[w.heap.size+3]? =some (.cells #[.int .i64 b0,.slice F fs.length fc,.slice A' l.length c'] 45 (0,0))∧WC bs b4 b5 b1 k i last l=R) (fun v19 _=>b2 - (intOf v19).toNat)
 case atStart=>exact⟨0,b2,[],[],none,0,by omega,rfl,by intro v hv; simp at hv,by simp,.inl ⟨rfl,rfl⟩,rfl,ZR.nil _ _ _,HO.out,by intro k hk; simp[Value.ownBlock] at hk,HB.out,H1.out,H2.out,H3.out,HR.out⟩
 case round =>
  obtain⟨i,k,l,last,A',c',hik,hli,hlb,hl64,hlast,rfl,hown,hownf,hne,hbel,h1,h2,h3,hR⟩:=hrel
  replace HO:=Zg hownf
  have HN:=Zg hown
  have HNE:=Zg hne
  replace HB:=Zg hbel
  replace H1:=Zg h1
  replace H2:=Zg h2
  replace H3:=Zg h3
  replace HR:=Zg hR
  have HLI:=Zg hli
  have HLA:=Zg hlb
  have HLS:=Zg hlast
  clear hown hownf hne hbel h1 h2 h3 hR hli hlb hlast
  by_cases hlt:i<b2
  ·obtain⟨k,rfl⟩: ∃ q,k=q+1:=⟨k - 1,by omega⟩
   obtain⟨m4,hm4⟩: ∃ m,4 * i=m:=⟨_,rfl⟩
   obtain⟨m2,hm2⟩: ∃ m,2 * i=m:=⟨_,rfl⟩
   obtain⟨o,ho⟩: ∃ o,b4+m4=o:=⟨_,rfl⟩
   obtain⟨q,hq⟩: ∃ q,b5+m2=q:=⟨_,rfl⟩
   have hob:o+4≤bs.length:=by have:=HIN.out; omega
   have hqb:q+2≤bs.length:=by have:=HIN.out; omega
   have em:(4:Int) * (i:Int)=(m4:Int):=by omega
   have wm:IntKind.i64.wrap (m4:Int)=(m4:Int):=by rw[IntKind.wrap_i64]; omega
   have eo:(b4:Int)+(m4:Int)=(o:Int):=by omega
   have wo:IntKind.i64.wrap (o:Int)=(o:Int):=by rw[IntKind.wrap_i64]; omega
   have em2:(2:Int) * (i:Int)=(m2:Int):=by omega
   have wm2:IntKind.i64.wrap (m2:Int)=(m2:Int):=by rw[IntKind.wrap_i64]; omega
   have eq2:(b5:Int)+(m2:Int)=(q:Int):=by omega
   have wq2:IntKind.i64.wrap (q:Int)=(q:Int):=by rw[IntKind.wrap_i64]; omega
   have HU:=Zg (fun W=>ZL bs o 4 W HLB.out (by omega) (by omega) hob)
   have H16:=Zg (fun W=>ZL bs q 2 W HLB.out (by omega) (by omega) hqb)
   have hre:=HR.out
   simp only[WC] at hre
   rw[hm4,ho,hm2,hq] at hre
   obtain⟨v,hvv⟩: ∃ v,YS (bs.drop o) 4=v:=⟨_,rfl⟩
   obtain⟨ix,hix⟩: ∃ v,YS (bs.drop q) 2=v:=⟨_,rfl⟩
   rw[hvv] at HU hre
   rw[hix] at H16 hre
   have HTX:=Zg (fun W=>Xs bs v 64 W HLB.out (by omega))
   have HRE2:=Zg hre
   have hlt6:=(show XV bs v 64=XV bs v 64 from rfl)
   clear hre hvv hix hm4 hm2 ho hq hob hqb hlt6
   go_wp2_with fail
   refine(HU.out _).mono ?_
   rintro e w' ⟨rfl,rfl⟩
   go_wp2_with fail
   refine(HTX.out _).mono ?_
   rintro e w' ⟨rfl,rfl⟩
   rcases htx:XV bs v 64 with _|t
   ·have hre:=HRE2.out
    rw[htx] at hre
    simp only at hre ⊢
    subst hre
    have hrr:=HRR.out
    simp only[Option.map_none] at hrr
    subst hrr
    have z0:wr.cell? ⟨w.heap.size+2,0,none⟩=some (.int .i64 0):=by rw[Zh H2.out]; rfl
    have z1:wr.cell? ⟨w.heap.size+2,1,none⟩=some (.slice none 0 0):=by rw[Zh H2.out]; rfl
    have z2:wr.cell? ⟨w.heap.size+2,2,none⟩=some (.slice none 0 0):=by rw[Zh H2.out]; rfl
    obtain⟨w9,hw9⟩: ∃ w9,wr.setRow (w.heap.size+1) #[.int .i64 0,.slice none 0 0,.slice none 0 0]=w9:=⟨_,rfl⟩
    have HE9:=Zg hw9
    have HR9:=Zg (show w9.heap[w.heap.size+1]? =some (.cells #[.int .i64 0,.slice none 0 0,.slice none 0 0] 45 (0,0)) from by rw[←hw9]; exact setRow_heap _ _ _ _ _ _ H1.out)
    have HB9:=Zg (show Below w.heap.size w w9 from by rw[←hw9]; exact below_setRow HB.out (Nat.le_succ _) _)
    have k0:w9.cell? ⟨w.heap.size+1,0,none⟩=some (.int .i64 0):=by rw[Zh HR9.out]; rfl
    have k1:w9.cell? ⟨w.heap.size+1,1,none⟩=some (.slice none 0 0):=by rw[Zh HR9.out]; rfl
    have k2:w9.cell? ⟨w.heap.size+1,2,none⟩=some (.slice none 0 0):=by rw[Zh HR9.out]; rfl
    clear hw9
    go_wp2_with (first|(refine wpList_store_row rfl 45 _ _ rfl (w.heap.size+1) #[.int .i64 0,.slice none 0 0,.slice none 0 0] rfl rfl 45 #[.int .i64 0,.slice none 0 0,.slice none 0 0] H1.out Yg rfl Yh ?_; refine(congrArg _ HE9.out).mpr ?_)|fail)
    refine bodyPost_ret (v:= .tuple #[.agg #[.int .i64 0,.slice none 0 0,.slice none 0 0],.int .i64 11]) (by simp[results,Tryz.results38,go_sem,k0,k1,k2]) rfl ⟨?_,HB9.out⟩
    exact rfl
   ·have hlt':=XP HLB.out htx
    have hre:=HRE2.out
    rw[htx] at hre
    simp only at hre ⊢
    have HSY:=Zg (fun W=>VR t W hlt'.1 (by have:=hlt'.2; omega))
    have hleq:=Zg7 hlt'.1 HLA.out
    have HLT:=Zg hlt'
    clear hlt' htx HRE2 HTX
    by_cases hok:Xx t=true
    ·rw[if_pos hok] at hre
     rw[hok] at HSY
     rcases HLS.out with⟨hi0,rfl⟩|⟨hi1,hla⟩
     ·have hle0:Zi1 t []=false:=by
       cases t with
       | nil=>simp[Xx] at hok
       | cons c r=>rfl
      rw[if_neg (by rw[hle0]; simp)] at hre
      have hip: ¬ (0:Int)<(i:Int):=by omega
      clear hi0 hle0 hleq
      have e3n:wr.cell? ⟨w.heap.size+3,2,none⟩=some (.slice A' l.length c'):=by rw[Zh H3.out]; rfl
      by_cases hfn:ix<b1
      ·rw[if_pos hfn] at hre
       have HRE3:=Zg hre
       have hfn': ¬ (b1:Int)≤(ix:Int):=by omega
       clear hre hfn
       have HA1:=Zg (HN.out.alloc (.cells #[.string (txt t),.int .i64 ix] 76))
       have HF1:=Zg (HO.out.alloc (.cells #[.string (txt t),.int .i64 ix] 76))
       have HY1:=Zg (Jv ix t wr)
       have HB8:=Zg (HB.out.alloc HB.out.size (.cells #[.string (txt t),.int .i64 ix] 76))
       have H18:=Zg (show(wr.alloc (.cells #[.string (txt t),.int .i64 ix] 76)).heap[w.heap.size+1]? =_ from(Below.heap_alloc _ _ _ (Zi H1.out)).trans H1.out)
       have H28:=Zg (show(wr.alloc (.cells #[.string (txt t),.int .i64 ix] 76)).heap[w.heap.size+2]? =_ from(Below.heap_alloc _ _ _ (Zi H2.out)).trans H2.out)
       have H38:=Zg (show(wr.alloc (.cells #[.string (txt t),.int .i64 ix] 76)).heap[w.heap.size+3]? =_ from(Below.heap_alloc _ _ _ (Zi H3.out)).trans H3.out)
       have HG3:=Zg (show w.heap.size+4≤(wr.alloc (.cells #[.string (txt t),.int .i64 ix] 76)).heap.size from Zi H38.out)
       have HG4:=Zg (show l.length+1≤maxLen from by rw[HLI.out]; unfold maxLen; omega)
       have HG5:=Zg (show(l.length+1) * 24≤140737488355328 from by rw[HLI.out]; omega)
       have hll:l.length<256:=by have:=HLI.out; omega
       have hll2:l.length+1≤b2:=by have:=HLI.out; omega
       go_wp2_with fail
       refine(HSY.out _).mono ?_
       rintro e w' ⟨rfl,rfl⟩
       go_wp2_with fail
       refine(H16.out _).mono ?_
       rintro e w' ⟨rfl,rfl⟩
       go_wp2_with (first
        | (at_builtin; refine Zv rfl (.tmp 236) (.tmp 240) 43 rfl (w.heap.size+4) 76 _ 24 rfl Vx rfl (by omega) UL Zca _ l rfl HA1.out wr.heap.size 1 rfl (t,ix) HY1.out HG4.out HG5.out HG3.out ?_; intro g5 cap5 w8 hown5 hg5 hat5
           have HAT5:=Zg (show(Value.slice A' l.length c').ownBlock=some g5∨g5=(wr.alloc (.cells #[.string (txt t),.int .i64 ix] 76)).heap.size from hat5)
           have HG6:=Zg hg5
           have HN8:=Zg hown5
           have H39:=Zg ((hg5.block (w.heap.size+3) (Zi H38.out) (fun h=>by have:=(HA1.out.lt _ h.symm).1; omega)).trans H38.out)
           have hc8:w8.cell? ⟨w.heap.size+3,2,none⟩=some (.slice A' l.length c'):=by rw[Zh H39.out]; rfl
           have hf8:w8.frozen? ⟨w.heap.size+3,2,none⟩=false:=frozen_of_row _ _ _ _ _ H39.out
           clear hat5 hg5 hown5)
        | fail)
       have HB9:=Zg (HA1.out.grew HB8.out (by omega) HB8.out.size HG6.out)
       have H19:=Zg ((HG6.out.block (w.heap.size+1) (Zi H18.out) (fun h=>by have:=(HA1.out.lt _ h.symm).1; omega)).trans H18.out)
       have H29:=Zg ((HG6.out.block (w.heap.size+2) (Zi H28.out) (fun h=>by have:=(HA1.out.lt _ h.symm).1; omega)).trans H28.out)
       have HF9:=Zg (HF1.out.grown HG6.out (fun k hk h=>HNE.out k h hk))
       have HNEW:=Zg (show ∀ k,(Value.slice (some ⟨g5,0,none⟩) (l++[(t,ix)]).length cap5).ownBlock=some k→(Value.slice F fs.length fc).ownBlock≠some k from by
        intro k hk hk2
        have hgk:g5=k:=by simpa [Value.ownBlock] using hk
        rcases HAT5.out with h|h
        ·exact HNE.out k (by rw[h,hgk]) hk2
        ·have:=(HF1.out.lt k hk2).2
         omega)
       go_roundw
       case rel=>exact⟨l.length+1,k,l++[(t,ix)],t,_,cap5,by have:=HLI.out; omega,by simp,HLT.out.1,HLT.out.2,.inr ⟨by omega,by simp⟩,by first|go_num|(have:=HLI.out; congr 1; omega),by simpa using Zy HN8.out (by simp) _,Zy HF9.out (by simp) _,by simpa using HNEW.out,HB9.out.setCell (p:=⟨w.heap.size+3,2,none⟩) (Nat.le_add_right _ _) _,(heap_setCell_other w8 _ _ _ (by simp)).trans H19.out,(heap_setCell_other w8 _ _ _ (by simp)).trans H29.out,(by simpa using heap_setCell_same w8 (w.heap.size+3) 2 _ _ _ H39.out),by rw[HLI.out]; exact HRE3.out⟩
       case measure=>simp[intOf]; have:=HLI.out; omega
      ·rw[if_neg hfn] at hre
       subst hre
       have hrr:=HRR.out
       simp only[Option.map_none] at hrr
       subst hrr
       have hfn':(b1:Int)≤(ix:Int):=by omega
       go_wp2_with fail
       refine(HSY.out _).mono ?_
       rintro e w' ⟨rfl,rfl⟩
       go_wp2_with fail
       refine(H16.out _).mono ?_
       rintro e w' ⟨rfl,rfl⟩
       have z0:wr.cell? ⟨w.heap.size+2,0,none⟩=some (.int .i64 0):=by rw[Zh H2.out]; rfl
       have z1:wr.cell? ⟨w.heap.size+2,1,none⟩=some (.slice none 0 0):=by rw[Zh H2.out]; rfl
       have z2:wr.cell? ⟨w.heap.size+2,2,none⟩=some (.slice none 0 0):=by rw[Zh H2.out]; rfl
       obtain⟨w9,hw9⟩: ∃ w9,wr.setRow (w.heap.size+1) #[.int .i64 0,.slice none 0 0,.slice none 0 0]=w9:=⟨_,rfl⟩
       have HE9:=Zg hw9
       have HR9:=Zg (show w9.heap[w.heap.size+1]? =some (.cells #[.int .i64 0,.slice none 0 0,.slice none 0 0] 45 (0,0)) from by rw[←hw9]; exact setRow_heap _ _ _ _ _ _ H1.out)
       have HB9:=Zg (show Below w.heap.size w w9 from by rw[←hw9]; exact below_setRow HB.out (Nat.le_succ _) _)
       have k0:w9.cell? ⟨w.heap.size+1,0,none⟩=some (.int .i64 0):=by rw[Zh HR9.out]; rfl
       have k1:w9.cell? ⟨w.heap.size+1,1,none⟩=some (.slice none 0 0):=by rw[Zh HR9.out]; rfl
       have k2:w9.cell? ⟨w.heap.size+1,2,none⟩=some (.slice none 0 0):=by rw[Zh HR9.out]; rfl
       clear hw9
       go_wp2_with (first|(refine wpList_store_row rfl 45 _ _ rfl (w.heap.size+1) #[.int .i64 0,.slice none 0 0,.slice none 0 0] rfl rfl 45 #[.int .i64 0,.slice none 0 0,.slice none 0 0] H1.out Yg rfl Yh ?_; refine(congrArg _ HE9.out).mpr ?_)|fail)
       refine bodyPost_ret (v:= .tuple #[.agg #[.int .i64 0,.slice none 0 0,.slice none 0 0],.int .i64 11]) (by simp[results,Tryz.results38,go_sem,k0,k1,k2]) rfl ⟨?_,HB9.out⟩
       exact rfl
     ·have hil:i - 1<l.length:=by have:=HLI.out; omega
      obtain⟨bn,off,hA',hbl,q0,q1⟩:=(HN.out.sl UL).nm hil
      have hpl:(l[i - 1]).1=last:=by
       rw[←hla,List.getD_eq_getElem?_getD,List.getElem?_eq_getElem hil,Option.getD_some]
      rw[hpl] at q0
      obtain⟨j,hj⟩: ∃ j,i - 1=j:=⟨_,rfl⟩
      clear q1
      rw[hj] at q0 hil
      have hip:(0:Int)<(i:Int):=by omega
      have hij:(i:Int) - 1=(j:Int):=by omega
      have hjl:(j:Int)<(l.length:Int):=by omega
      subst hA'
      clear hla hpl hj hi1
      by_cases hle:Zi1 t last=true
      ·rw[if_pos hle] at hre
       subst hre
       have hrr:=HRR.out
       simp only[Option.map_none] at hrr
       subst hrr
       rw[hle] at hleq
       have e3n:wr.cell? ⟨w.heap.size+3,2,none⟩=some (.slice (some ⟨bn,off,none⟩) l.length c'):=by rw[Zh H3.out]; rfl
       go_wp2_with fail
       refine(HSY.out _).mono ?_
       rintro e w' ⟨rfl,rfl⟩
       have z0:wr.cell? ⟨w.heap.size+2,0,none⟩=some (.int .i64 0):=by rw[Zh H2.out]; rfl
       have z1:wr.cell? ⟨w.heap.size+2,1,none⟩=some (.slice none 0 0):=by rw[Zh H2.out]; rfl
       have z2:wr.cell? ⟨w.heap.size+2,2,none⟩=some (.slice none 0 0):=by rw[Zh H2.out]; rfl
       obtain⟨w9,hw9⟩: ∃ w9,wr.setRow (w.heap.size+1) #[.int .i64 0,.slice none 0 0,.slice none 0 0]=w9:=⟨_,rfl⟩
       have HE9:=Zg hw9
       have HR9:=Zg (show w9.heap[w.heap.size+1]? =some (.cells #[.int .i64 0,.slice none 0 0,.slice none 0 0] 45 (0,0)) from by rw[←hw9]; exact setRow_heap _ _ _ _ _ _ H1.out)
       have HB9:=Zg (show Below w.heap.size w w9 from by rw[←hw9]; exact below_setRow HB.out (Nat.le_succ _) _)
       have k0:w9.cell? ⟨w.heap.size+1,0,none⟩=some (.int .i64 0):=by rw[Zh HR9.out]; rfl
       have k1:w9.cell? ⟨w.heap.size+1,1,none⟩=some (.slice none 0 0):=by rw[Zh HR9.out]; rfl
       have k2:w9.cell? ⟨w.heap.size+1,2,none⟩=some (.slice none 0 0):=by rw[Zh HR9.out]; rfl
       clear hw9
       go_wp2_with (first|(refine wpList_store_row rfl 45 _ _ rfl (w.heap.size+1) #[.int .i64 0,.slice none 0 0,.slice none 0 0] rfl rfl 45 #[.int .i64 0,.slice none 0 0,.slice none 0 0] H1.out Yg rfl Yh ?_; refine(congrArg _ HE9.out).mpr ?_)|fail)
       refine bodyPost_ret (v:= .tuple #[.agg #[.int .i64 0,.slice none 0 0,.slice none 0 0],.int .i64 11]) (by simp[results,Tryz.results38,go_sem,k0,k1,k2]) rfl ⟨?_,HB9.out⟩
       exact rfl
      ·rw[if_neg hle] at hre
       rw[show Zi1 t last=false by simpa using hle] at hleq
       clear hle
       have e3n:wr.cell? ⟨w.heap.size+3,2,none⟩=some (.slice (some ⟨bn,off,none⟩) l.length c'):=by rw[Zh H3.out]; rfl
       by_cases hfn:ix<b1
       ·rw[if_pos hfn] at hre
        have HRE3:=Zg hre
        have hfn': ¬ (b1:Int)≤(ix:Int):=by omega
        clear hre hfn
        have HA1:=Zg (HN.out.alloc (.cells #[.string (txt t),.int .i64 ix] 76))
        have HF1:=Zg (HO.out.alloc (.cells #[.string (txt t),.int .i64 ix] 76))
        have HY1:=Zg (Jv ix t wr)
        have HB8:=Zg (HB.out.alloc HB.out.size (.cells #[.string (txt t),.int .i64 ix] 76))
        have H18:=Zg (show(wr.alloc (.cells #[.string (txt t),.int .i64 ix] 76)).heap[w.heap.size+1]? =_ from(Below.heap_alloc _ _ _ (Zi H1.out)).trans H1.out)
        have H28:=Zg (show(wr.alloc (.cells #[.string (txt t),.int .i64 ix] 76)).heap[w.heap.size+2]? =_ from(Below.heap_alloc _ _ _ (Zi H2.out)).trans H2.out)
        have H38:=Zg (show(wr.alloc (.cells #[.string (txt t),.int .i64 ix] 76)).heap[w.heap.size+3]? =_ from(Below.heap_alloc _ _ _ (Zi H3.out)).trans H3.out)
        have HG3:=Zg (show w.heap.size+4≤(wr.alloc (.cells #[.string (txt t),.int .i64 ix] 76)).heap.size from Zi H38.out)
        have HG4:=Zg (show l.length+1≤maxLen from by rw[HLI.out]; unfold maxLen; omega)
        have HG5:=Zg (show(l.length+1) * 24≤140737488355328 from by rw[HLI.out]; omega)
        have hll:l.length<256:=by have:=HLI.out; omega
        have hll2:l.length+1≤b2:=by have:=HLI.out; omega
        go_wp2_with fail
        refine(HSY.out _).mono ?_
        rintro e w' ⟨rfl,rfl⟩
        go_wp2_with fail
        refine(H16.out _).mono ?_
        rintro e w' ⟨rfl,rfl⟩
        go_wp2_with (first
         | (at_builtin; refine Zv rfl (.tmp 236) (.tmp 240) 43 rfl (w.heap.size+4) 76 _ 24 rfl Vx rfl (by omega) UL Zca _ l rfl HA1.out wr.heap.size 1 rfl (t,ix) HY1.out HG4.out HG5.out HG3.out ?_; intro g5 cap5 w8 hown5 hg5 hat5
            have HAT5:=Zg (show(Value.slice (some ⟨bn,off,none⟩) l.length c').ownBlock=some g5∨g5=(wr.alloc (.cells #[.string (txt t),.int .i64 ix] 76)).heap.size from hat5)
            have HG6:=Zg hg5
            have HN8:=Zg hown5
            have H39:=Zg ((hg5.block (w.heap.size+3) (Zi H38.out) (fun h=>by have:=(HA1.out.lt _ h.symm).1; omega)).trans H38.out)
            have hc8:w8.cell? ⟨w.heap.size+3,2,none⟩=some (.slice (some ⟨bn,off,none⟩) l.length c'):=by rw[Zh H39.out]; rfl
            have hf8:w8.frozen? ⟨w.heap.size+3,2,none⟩=false:=frozen_of_row _ _ _ _ _ H39.out
            clear hat5 hg5 hown5)
         | fail)
        have HB9:=Zg (HA1.out.grew HB8.out (by omega) HB8.out.size HG6.out)
        have H19:=Zg ((HG6.out.block (w.heap.size+1) (Zi H18.out) (fun h=>by have:=(HA1.out.lt _ h.symm).1; omega)).trans H18.out)
        have H29:=Zg ((HG6.out.block (w.heap.size+2) (Zi H28.out) (fun h=>by have:=(HA1.out.lt _ h.symm).1; omega)).trans H28.out)
        have HF9:=Zg (HF1.out.grown HG6.out (fun k hk h=>HNE.out k h hk))
        have HNEW:=Zg (show ∀ k,(Value.slice (some ⟨g5,0,none⟩) (l++[(t,ix)]).length cap5).ownBlock=some k→(Value.slice F fs.length fc).ownBlock≠some k from by
         intro k hk hk2
         have hgk:g5=k:=by simpa [Value.ownBlock] using hk
         rcases HAT5.out with h|h
         ·exact HNE.out k (by rw[h,hgk]) hk2
         ·have:=(HF1.out.lt k hk2).2
          omega)
        go_roundw
        case rel=>exact⟨l.length+1,k,l++[(t,ix)],t,_,cap5,by have:=HLI.out; omega,by simp,HLT.out.1,HLT.out.2,.inr ⟨by omega,by simp⟩,by first|go_num|(have:=HLI.out; congr 1; omega),by simpa using Zy HN8.out (by simp) _,Zy HF9.out (by simp) _,by simpa using HNEW.out,HB9.out.setCell (p:=⟨w.heap.size+3,2,none⟩) (Nat.le_add_right _ _) _,(heap_setCell_other w8 _ _ _ (by simp)).trans H19.out,(heap_setCell_other w8 _ _ _ (by simp)).trans H29.out,(by simpa using heap_setCell_same w8 (w.heap.size+3) 2 _ _ _ H39.out),by rw[HLI.out]; exact HRE3.out⟩
        case measure=>simp[intOf]; have:=HLI.out; omega
       ·rw[if_neg hfn] at hre
        subst hre
        have hrr:=HRR.out
        simp only[Option.map_none] at hrr
        subst hrr
        have hfn':(b1:Int)≤(ix:Int):=by omega
        go_wp2_with fail
        refine(HSY.out _).mono ?_
        rintro e w' ⟨rfl,rfl⟩
        go_wp2_with fail
        refine(H16.out _).mono ?_
        rintro e w' ⟨rfl,rfl⟩
        have z0:wr.cell? ⟨w.heap.size+2,0,none⟩=some (.int .i64 0):=by rw[Zh H2.out]; rfl
        have z1:wr.cell? ⟨w.heap.size+2,1,none⟩=some (.slice none 0 0):=by rw[Zh H2.out]; rfl
        have z2:wr.cell? ⟨w.heap.size+2,2,none⟩=some (.slice none 0 0):=by rw[Zh H2.out]; rfl
        obtain⟨w9,hw9⟩: ∃ w9,wr.setRow (w.heap.size+1) #[.int .i64 0,.slice none 0 0,.slice none 0 0]=w9:=⟨_,rfl⟩
        have HE9:=Zg hw9
        have HR9:=Zg (show w9.heap[w.heap.size+1]? =some (.cells #[.int .i64 0,.slice none 0 0,.slice none 0 0] 45 (0,0)) from by rw[←hw9]; exact setRow_heap _ _ _ _ _ _ H1.out)
        have HB9:=Zg (show Below w.heap.size w w9 from by rw[←hw9]; exact below_setRow HB.out (Nat.le_succ _) _)
        have k0:w9.cell? ⟨w.heap.size+1,0,none⟩=some (.int .i64 0):=by rw[Zh HR9.out]; rfl
        have k1:w9.cell? ⟨w.heap.size+1,1,none⟩=some (.slice none 0 0):=by rw[Zh HR9.out]; rfl
        have k2:w9.cell? ⟨w.heap.size+1,2,none⟩=some (.slice none 0 0):=by rw[Zh HR9.out]; rfl
        clear hw9
        go_wp2_with (first|(refine wpList_store_row rfl 45 _ _ rfl (w.heap.size+1) #[.int .i64 0,.slice none 0 0,.slice none 0 0] rfl rfl 45 #[.int .i64 0,.slice none 0 0,.slice none 0 0] H1.out Yg rfl Yh ?_; refine(congrArg _ HE9.out).mpr ?_)|fail)
        refine bodyPost_ret (v:= .tuple #[.agg #[.int .i64 0,.slice none 0 0,.slice none 0 0],.int .i64 11]) (by simp[results,Tryz.results38,go_sem,k0,k1,k2]) rfl ⟨?_,HB9.out⟩
        exact rfl
    ·rw[if_neg hok] at hre
     subst hre
     have hrr:=HRR.out
     simp only[Option.map_none] at hrr
     subst hrr
     rw[show Xx t=false by simpa using hok] at HSY
     go_wp2_with fail
     refine(HSY.out _).mono ?_
     rintro e w' ⟨rfl,rfl⟩
     have z0:wr.cell? ⟨w.heap.size+2,0,none⟩=some (.int .i64 0):=by rw[Zh H2.out]; rfl
     have z1:wr.cell? ⟨w.heap.size+2,1,none⟩=some (.slice none 0 0):=by rw[Zh H2.out]; rfl
     have z2:wr.cell? ⟨w.heap.size+2,2,none⟩=some (.slice none 0 0):=by rw[Zh H2.out]; rfl
     obtain⟨w9,hw9⟩: ∃ w9,wr.setRow (w.heap.size+1) #[.int .i64 0,.slice none 0 0,.slice none 0 0]=w9:=⟨_,rfl⟩
     have HE9:=Zg hw9
     have HR9:=Zg (show w9.heap[w.heap.size+1]? =some (.cells #[.int .i64 0,.slice none 0 0,.slice none 0 0] 45 (0,0)) from by rw[←hw9]; exact setRow_heap _ _ _ _ _ _ H1.out)
     have HB9:=Zg (show Below w.heap.size w w9 from by rw[←hw9]; exact below_setRow HB.out (Nat.le_succ _) _)
     have k0:w9.cell? ⟨w.heap.size+1,0,none⟩=some (.int .i64 0):=by rw[Zh HR9.out]; rfl
     have k1:w9.cell? ⟨w.heap.size+1,1,none⟩=some (.slice none 0 0):=by rw[Zh HR9.out]; rfl
     have k2:w9.cell? ⟨w.heap.size+1,2,none⟩=some (.slice none 0 0):=by rw[Zh HR9.out]; rfl
     clear hw9
     go_wp2_with (first|(refine wpList_store_row rfl 45 _ _ rfl (w.heap.size+1) #[.int .i64 0,.slice none 0 0,.slice none 0 0] rfl rfl 45 #[.int .i64 0,.slice none 0 0,.slice none 0 0] H1.out Yg rfl Yh ?_; refine(congrArg _ HE9.out).mpr ?_)|fail)
     refine bodyPost_ret (v:= .tuple #[.agg #[.int .i64 0,.slice none 0 0,.slice none 0 0],.int .i64 11]) (by simp[results,Tryz.results38,go_sem,k0,k1,k2]) rfl ⟨?_,HB9.out⟩
     exact rfl
  ·obtain rfl:k=0:=by omega
   have hre:=HR.out
   simp only[WC] at hre
   subst hre
   have hrr:=HRR.out
   simp only[Option.map_some] at hrr
   subst hrr
   have z0:wr.cell? ⟨w.heap.size+3,0,none⟩=some (.int .i64 b0):=by rw[Zh H3.out]; rfl
   have z1:wr.cell? ⟨w.heap.size+3,1,none⟩=some (.slice F fs.length fc):=by rw[Zh H3.out]; rfl
   have z2:wr.cell? ⟨w.heap.size+3,2,none⟩=some (.slice A' l.length c'):=by rw[Zh H3.out]; rfl
   obtain⟨w9,hw9⟩: ∃ w9,wr.setRow (w.heap.size+1) #[.int .i64 b0,.slice F fs.length fc,.slice A' l.length c']=w9:=⟨_,rfl⟩
   have HE9:=Zg hw9
   have HR9:=Zg (show w9.heap[w.heap.size+1]? =some (.cells #[.int .i64 b0,.slice F fs.length fc,.slice A' l.length c'] 45 (0,0)) from by rw[←hw9]; exact setRow_heap _ _ _ _ _ _ H1.out)
   have HB9:=Zg (show Below w.heap.size w w9 from by rw[←hw9]; exact below_setRow HB.out (Nat.le_succ _) _)
   have k0:w9.cell? ⟨w.heap.size+1,0,none⟩=some (.int .i64 b0):=by rw[Zh HR9.out]; rfl
   have k1:w9.cell? ⟨w.heap.size+1,1,none⟩=some (.slice F fs.length fc):=by rw[Zh HR9.out]; rfl
   have k2:w9.cell? ⟨w.heap.size+1,2,none⟩=some (.slice A' l.length c'):=by rw[Zh HR9.out]; rfl
   clear hw9
   go_wp2_with (first|(refine wpList_store_row rfl 45 _ _ rfl (w.heap.size+1) #[.int .i64 b0,.slice F fs.length fc,.slice A' l.length c'] rfl rfl 45 #[.int .i64 0,.slice none 0 0,.slice none 0 0] H1.out Yg rfl Yh ?_; refine(congrArg _ HE9.out).mpr ?_)|fail)
   refine bodyPost_ret (v:= .tuple #[.agg #[.int .i64 b0,.slice F fs.length fc,.slice A' l.length c'],.int .i64 0]) (by simp[results,Tryz.results38,go_sem,k0,k1,k2]) rfl ⟨?_,HB9.out⟩
   exact⟨F,fc,A',c',rfl,by rw[←HE9.out]; exact Joins.ownsRow_le (XC HO.out (by omega) _) (by omega),by rw[←HE9.out]; exact Joins.ownsRow_le (XC HN.out (by omega) _) (by omega)⟩
end Go.Proofs.YtplgdpjbkdagfaaGreat
