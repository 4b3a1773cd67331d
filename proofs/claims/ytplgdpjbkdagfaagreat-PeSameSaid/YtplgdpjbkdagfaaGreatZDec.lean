import Derived.Test.YtplgdpjbkdagfaaGreatZMd
import Derived.Test.YtplgdpjbkdagfaaGreatZPeC
import Derived.Lib.ItoaNum
namespace Go.Proofs.YtplgdpjbkdagfaaGreat
open Lib renaming hid→Zg
set_option maxRecDepth 100000
open Go.ChangeShapes Go.WideShapes Go.ChangeAt Go.RowKit
set_option linter.unusedVariables false
set_option linter.unusedSimpArgs false
def XW (f:Nat→Int):Nat→Int
 | 0=>0
 | i+1=>XW f i * 10+(f i - 48)
theorem WP {f g:Nat→Int}: ∀(k:Nat),(∀ i,i<k→f i=g i)→XW f k=XW g k
 | 0,_=>rfl
 | k+1,h=>by unfold XW; rw[WP k (fun i hi=>h i (by omega)),h k (by omega)]
def Ju (n:Nat):ByteArray:=⟨(Lib.decDigits n).toArray⟩
def Zen (k:Nat):ByteArray:=⟨#[UInt8.ofNat (48+k)]⟩
theorem Ziy {k:Nat} (h:k<10):PlainAid.bt (Zen k) 0=48+k:=by
 have: ∀ k:Fin 10,PlainAid.bt (Zen k.val) 0=48+k.val:=by decide
 exact this ⟨k,h⟩
theorem Zg0 {k:Nat} (h:k<10):(⟨#[48,49,50,51,52,53,54,55,56,57]⟩:ByteArray).extract k (k+1)=Zen k:=by
 have: ∀ k:Fin 10,(⟨#[48,49,50,51,52,53,54,55,56,57]⟩:ByteArray).extract k.val (k.val+1)=Zen k.val:=by decide
 exact this ⟨k,h⟩
theorem WQ {n:Nat} (h:n<10):Ju n=Zen n:=by unfold Ju Zen; rw[Lib.decDigits_one h]
theorem JU {n:Nat} (h: ¬ n<10):Ju n=Ju (n / 10)++Zen (n % 10):=by
 unfold Ju Zen
 conv=>lhs; rw[Lib.decDigits,dif_neg h]
 apply ByteArray.ext
 rw[Qy]
 simp
theorem UK (n:Nat):(Ju n).size=Lib.nDigits n:=by
 show(Lib.decDigits n).toArray.size=_
 rw[List.size_toArray,Lib.decDigits_length]
theorem Zg1 (n:Nat):1≤(Ju n).size:=by rw[UK]; exact Lib.nDigits_pos n
theorem Zeo {n:Nat} (h:1≤n):PlainAid.bt (Ju n) 0≠48:=by
 induction n using Nat.strongRecOn with
 | _ n ih =>
   by_cases c:n<10
   ·rw[WQ c,Ziy c]; omega
   ·rw[JU c,bt_cat,if_pos (show 0<(Ju (n / 10)).size from Zg1 _)]
    exact ih (n / 10) (by omega) (by omega)
theorem QJ {n:Nat} (h:n<100000):(Ju n).size≤5:=by
 rw[UK]
 rcases(by omega:n<10∨(10≤n∧n<100)∨(100≤n∧n<1000)∨(1000≤n∧n<10000)∨(10000≤n∧n<100000)) with h|⟨a,b⟩|⟨a,b⟩|⟨a,b⟩|⟨a,b⟩
 ·rw[Lib.nDigits_small h]; omega
 ·rw[Lib.nDigits_unique 1 n (by omega) (by omega)]; omega
 ·rw[Lib.nDigits_unique 2 n (by omega) (by omega)]; omega
 ·rw[Lib.nDigits_unique 3 n (by omega) (by omega)]; omega
 ·rw[Lib.nDigits_unique 4 n (by omega) (by omega)]; omega
theorem Zg2 {n:Nat} (h:100000≤n) (h2:n<1000000):(Ju n).size=6:=by
 rw[UK,Lib.nDigits_unique 5 n (by omega) (by omega)]
theorem Zg3 {n:Nat} (h:n<1000000):(Ju n).size≤6:=by
 by_cases c:n<100000
 ·have:=QJ c; omega
 ·rw[Zg2 (by omega) h]; omega
theorem Zdh (n:Nat) (w:World) (hn:n<1000000) :
 Calls Tryz.prog 128 #[.int .i64 n] w fun e w'=>e= .returned (.string (Ju n))∧Below w.heap.size w w':=by
 go_enter Tryz.func128,Tryz.ntmps128
 go_wp2_with fail
 go_loopw [0,3] (fun v0 v3 wr=> ∃(m:Nat) (T:ByteArray),v0= .int .i64 m∧v3= .string T∧m≤n∧Ju n=Ju m++T∧T.size≤6∧Below w.heap.size w wr) (fun v0 _ _=>(intOf v0).toNat)
 case atStart=>exact⟨n,ByteArray.empty,rfl,rfl,Nat.le_refl _,by apply ByteArray.ext; simp[Qy],by simp,Below.refl _ _⟩
 case round =>
  obtain⟨m,T,rfl,rfl,hm,hT,hz,hb⟩:=hrel
  have HT:=Zg hT
  have HB:=Zg hb
  clear hT hb
  have hr:(m:Int).tmod 10=((m % 10:Nat):Int):=by rw[Int.tmod_eq_emod_of_nonneg (by omega)]; omega
  have hd:(m:Int).tdiv 10=((m / 10:Nat):Int):=by rw[Int.tdiv_eq_ediv_of_nonneg (by omega)]; omega
  have HN:=Zg (fun(c: ¬ m<10)=>JU c)
  have HS:=Zg (fun(c:m<10)=>WQ c)
  have hdm:m / 10≤m:=by omega
  obtain⟨k,hk⟩: ∃ k,m % 10=k:=⟨_,rfl⟩
  have hk9:k<10:=by omega
  have HKM:=Zg (fun(c:m<10)=>show m=k by omega)
  rw[hk] at hr HN
  have HC:=Zg (Zg0 hk9)
  have k0:(0:Int)≤(k:Int):=by omega
  have k1:(k:Int)≤(k:Int)+1:=by omega
  have k2:(k:Int)+1≤10:=by omega
  have k3:IntKind.i64.wrap ((k:Int)+1)=(k:Int)+1:=IntWalk.i64_in _ ⟨by omega,by omega⟩
  have k4:(k:Int).toNat=k:=by omega
  have k5:((k:Int)+1).toNat=k+1:=by omega
  have hsz:(ByteArray.mk #[48,49,50,51,52,53,54,55,56,57]).size=10:=rfl
  clear hk
  have HW:=Zg hm
  have hm6:(m:Int)<1000000:=by omega
  clear hm
  by_cases h:9<(m:Int)
  ·go_wp2_with fail
   go_roundw
   case rel =>
    have e:=HN.out (by omega)
    refine⟨m / 10,Zen k++T,by go_num,by rw[HC.out],Nat.le_trans hdm HW.out,?_,?_,HB.out⟩
    ·rw[HT.out,e,ByteArray.append_assoc]
    ·have h1:(Ju n).size≤6:=Zg3 hn
     rw[HT.out,e,ByteArray.size_append,ByteArray.size_append] at h1
     rw[ByteArray.size_append]; omega
   case measure=>simp[intOf]; omega
  ·go_wp2_with fail
   go_ret
   refine⟨?_,HB.out⟩
   have c:m<10:=by omega
   show Ending.returned (.string (ByteArray.extract ⟨#[48,49,50,51,52,53,54,55,56,57]⟩ k (k+1)++T))=_
   rw[HC.out,HT.out,HS.out c,HKM.out c]
structure OrdOk (D:ByteArray):Prop where
 pos:1≤D.size
 five:D.size≤5
 lead:PlainAid.bt D 0=48→D.size=1
 dig: ∀ i,i<D.size→48≤PlainAid.bt D i∧PlainAid.bt D i≤57
 num:XW (PlainAid.bt D) D.size≤65535
end Go.Proofs.YtplgdpjbkdagfaaGreat
