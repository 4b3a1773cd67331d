import Derived.Test.YtplgdpjbkdagfaaGreatRows
import Derived.WalkKit
import Derived.ProofKit
import Derived.OpenShut
import Derived.ShutString
import Derived.ChangeOld
import Derived.Below
import Derived.Lib.Hide
import Derived.Outline
import Derived.IntWalk
import Derived.Handy
import Derived.Deep.OwnRows
import Derived.Laws.BitsAllLaws
import Derived.Maps.AppendAt
import Derived.Deep.AppendLies
import Derived.Test.YtplgdpjbkdagfaaGreatNum
namespace Go.Proofs.YtplgdpjbkdagfaaGreat
open Lib renaming hid→Zg
set_option maxRecDepth 100000
open Go.ChangeShapes Go.WideShapes Go.ChangeAt Go.RowKit
open Go.ChangeMaps (open_string shut_string)
set_option linter.unusedVariables false
set_option linter.unusedSimpArgs false
def Own (w:World) (g n:Nat) (f:Nat->Value):Prop:=g<w.heap.size/\ ∀ i,i<n->w.cell? ⟨g,i,none⟩=some (f i)/\w.frozen? ⟨g,i,none⟩=false
namespace Own
variable {w w':World} {g n:Nat} {f f':Nat->Value}
theorem cell (h:Own w g n f) {i:Nat} (hi:i<n):w.cell? ⟨g,i,none⟩=some (f i):=(h.2 i hi).1
theorem frozen (h:Own w g n f) {i:Nat} (hi:i<n):w.frozen? ⟨g,i,none⟩=false:=(h.2 i hi).2
theorem congr (h:Own w g n f) (e: ∀ i,i<n->f i=f' i):Own w g n f':=⟨h.1,fun i hi=>by rw[<-e i hi]; exact h.2 i hi⟩
theorem of_block (h:Own w g n f) (e:w'.heap[g]? =w.heap[g]?) (hs:w.heap.size<=w'.heap.size):Own w' g n f :=
 ⟨Nat.lt_of_lt_of_le h.1 hs,fun i hi=>⟨(World.cell?_of_block (a:=⟨g,i,none⟩) e).trans (h.2 i hi).1,(World.frozen?_of_block (a:=⟨g,i,none⟩) e).trans (h.2 i hi).2⟩⟩
theorem below {B:Nat} (h:Own w g n f) (hb:Below B w w') (hg:g<B):Own w' g n f:=h.of_block (hb.block g hg) hb.size
theorem grown {row:Option Nat} (h:Own w g n f) (hb:w.grownBy w' row) (hg:some g≠row):Own w' g n f:=h.of_block (hb.block g h.1 hg) hb.size
theorem alloc (h:Own w g n f) (o:Obj):Own (w.alloc o) g n f:=h.of_block (Below.heap_alloc w o g h.1) (by simp)
theorem drew (h:Own w g n f):Own w.drew g n f:=h
theorem set (h:Own w g n f) {i:Nat} (hi:i<n) (v:Value):Own (w.setCell ⟨g,i,none⟩ v) g n (fun j=>if j=i then v else f j):=by
 refine⟨by simpa [World.setCell] using h.1,fun j hj=>⟨?_,?_⟩⟩
 ·by_cases e:j=i
  ·subst e;show _=some (if j=j then v else f j)
   rw[if_pos rfl];exact World.cell?_setCell_same w _ v (h.cell hj)
  ·show _=some (if j=i then v else f j)
   rw[if_neg e];rw[World.cell?_setCell_other w _ _ v (fun e'=>e (by injection e' with _ e'; exact e'.symm))];exact h.cell hj
 ·rw[World.frozen?_setCell]; exact h.frozen hj
theorem of_own {base:Nat} {e:TypeId} {c:Nat} {A:Option Addr} {n:Nat} {xs:List Value} (h:w.ownsRow base e 1 (.slice A n c) n xs) (hn:0<n) (hx: ∀ i,i<n->xs[i]? =some (f i)) :
 ∃ g,A=some ⟨g,0,none⟩/\base<=g/\Own w g n f:=by
 obtain⟨g,cap,hv,hb,af⟩:=h.form hn;have hA:A=some ⟨g,0,none⟩:=by injection hv
 subst hA;refine⟨g,rfl,hb,af,fun i hi=>⟨?_,?_⟩⟩
 ·rw[h.cellAt i (by omega)]; exact hx i hi
 ·exact h.frozenAt i
end Own
theorem Zco {a w:World} {g:Nat} (h:a.grownBy w (some g)) {p:Addr} (hp:p.block=g\/a.heap.size<=p.block) (u:Value):a.grownBy (w.setCell p u) (some g) :=
 ⟨h.os,h.tape,h.output,by simpa [World.setCell] using h.size,fun i hi bK=>(Below.heap_setCell w p u i (by
   rintro rfl;rcases hp with hp|hp
   ·exact bK (by rw[hp])
   ·omega)).trans (h.block i hi bK)⟩
def Yj (v:Int) (i:Nat):Int:=v / 2 ^ (8 * i) % 256
theorem Ws:(Tryz.prog.info? 5).map (fun i=>(i.zero,i.size,i.bytes))=some (some (.int .u8 0),1,1):=by kernel_rfl
def ZB (f:Nat->Int) (o n:Nat):ByteArray:=strOfNums ((List.range n).map fun i=>f (o+i))
theorem Zr (f:Nat->Int) (o n:Nat):(ZB f o n).size=n:=by simp[ZB,strOfNums_size]
theorem YL {w:World} {b off n cap:Nat} {f:Nat->Int} (h:Row w b off n f) :
 (convert 25 9 (.slice (some ⟨b,off,none⟩) n cap)).run Tryz.prog w= .ok (.string (ZB f 0 n)) w:=by
 rw[run_convert_bytes_arg (P:=Tryz.prog) w 25 5 Tryz.underlying25 Tryz.underlying5 b off n cap ((List.range n).map f) (by simp) (fun i hi=>by rw[h i hi]; simp[hi]) 9 Tryz.underlying9];simp[ZB]
theorem QC {w:World} {b off len n o cap:Nat} {f:Nat->Int} (h:Row w b off len f) (hn:o+n<=len) :
 (convert 25 9 (.slice (some ⟨b,off+o,none⟩) n cap)).run Tryz.prog w= .ok (.string (ZB f o n)) w:=by
 rw[run_convert_bytes_arg (P:=Tryz.prog) w 25 5 Tryz.underlying25 Tryz.underlying5 b (off+o) n cap ((List.range n).map fun i=>f (o+i)) (by simp) (fun i hi=>by rw[Nat.add_assoc,h (o+i) (by omega)]; simp[hi]) 9 Tryz.underlying9];rfl
theorem Zl6 (a:Option Addr) (len cap:Nat) (ak most:Int) (w:World) (h0:len<=9223372036854775807) (h:ak<0\/len<=ak) :
 Calls Tryz.prog 135 #[.slice a len cap,.int .i64 ak,.int .i64 most] w fun e w'=>e= .returned (.tuple #[.string ByteArray.empty,.bool false])/\w=w':=by
 by_cases h1:ak<0
 ·go_enter Tryz.func135,Tryz.ntmps135;go_wp2
  go_ret2;exact⟨rfl,rfl⟩
 ·have h2:(len:Int)<=ak:=by omega
  go_enter Tryz.func135,Tryz.ntmps135;go_wp2
  go_ret2;exact⟨rfl,rfl⟩
theorem Zl7 (b off len cap:Nat) (f:Nat->Int) (o n:Nat) (most:Int) (w:World) (h0:cap<=9223372036854775807) (h1:len<=cap) (h:o+n<len) (hm:n=0\/n<=most) (hz:f (o+n)=0)
 (Ej: ∀ i,i<n->f (o+i)≠0) (hc:Row w b off len f) :
 Calls Tryz.prog 135 #[.slice (some ⟨b,off,none⟩) len cap,.int .i64 o,.int .i64 most] w fun e w'=>e= .returned (.tuple #[.string (ZB f o n),.bool true])/\w=w':=by
 have hs:=fun(c:Nat)=>QC (n:=n) (o:=o) (cap:=c) hc (by omega);have HZ:=Zg hz;clear hz;go_enter Tryz.func135,Tryz.ntmps135;go_wp2
 go_loop [8,9,22] (fun _ _ i=> ∃ k:Nat,k<=n/\i= .int .i64 k) (fun _ _ i=>n - (intOf i).toNat)
 case atStart=>exact⟨0,by omega,rfl⟩
 case round =>
  obtain⟨k,hk,rfl⟩:=hrel;by_cases af:k<n
  ·have bj:=hc (o+k) (by omega);have hf:(f (o+k) == 0)=false:=by simpa using Ej k af
   rw[<-Nat.add_assoc] at bj;have rn:(k:Int)<most:=by omega
   go_wp2
   go_round
   case rel=>exact⟨k+1,by omega,by go_num⟩
   case measure=>simp[intOf]; omega
  ·obtain rfl:k=n:=by omega
   have bj:=hc (o+k) (by omega);rw[<-Nat.add_assoc] at bj;have hf:(f (o+k) == 0)=true:=by simpa using HZ.out
   go_wp2
   go_ret2;exact⟨rfl,rfl⟩
theorem Zoh (b off len cap:Nat) (f:Nat->Int) (o:Nat) (most:Int) (w:World) (h0:cap<=9223372036854775807) (h1:len<=cap) (h:o<len) (mc: ∀ i:Nat,o+i<len->(i=0\/i<=most)->f (o+i)≠0) (hc:Row w b off len f) :
 Calls Tryz.prog 135 #[.slice (some ⟨b,off,none⟩) len cap,.int .i64 o,.int .i64 most] w fun e w'=>e= .returned (.tuple #[.string ByteArray.empty,.bool false])/\w=w':=by
 go_enter Tryz.func135,Tryz.ntmps135;go_wp2
 go_loop [8,9,22] (fun _ _ i=> ∃ k:Nat,k<=len - o/\i= .int .i64 k/\(k=0\/k<=most)) (fun _ _ i=>len - (intOf i).toNat)
 case atStart=>exact⟨0,by omega,rfl,.inl rfl⟩
 case round =>
  obtain⟨k,hk,rfl,Ei⟩:=hrel;by_cases af:k<len - o
  ·have bj:=hc (o+k) (by omega);have hf:(f (o+k) == 0)=false:=by simpa using mc k (by omega) Ei
   rw[<-Nat.add_assoc] at bj;by_cases rn:(k:Int)<most
   ·go_wp2
    go_round
    case rel=>exact⟨k+1,by omega,by go_num,.inr (by omega)⟩
    case measure=>simp[intOf]; omega
   ·go_wp2
    go_ret2;exact⟨rfl,rfl⟩
  ·obtain rfl:k=len - o:=by omega
   go_wp2
   go_ret2;exact⟨rfl,rfl⟩
end Go.Proofs.YtplgdpjbkdagfaaGreat
