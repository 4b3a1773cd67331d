import Derived.Test.YtplgdpjbkdagfaaGreatRows
import Derived.WalkKit
import Derived.ProofKit
import Derived.OpenShut
import Derived.ShutString
import Derived.ChangeOld
import Derived.Below
import Derived.Lib.Hide
import Derived.Outline
import Derived.IntWalk
import Derived.Laws.BitsAllLaws
namespace Go.Proofs.YtplgdpjbkdagfaaGreat
set_option maxRecDepth 100000
open Go.ChangeShapes Go.WideShapes Go.ChangeAt Go.RowKit
open Go.ChangeMaps (open_string shut_string)
set_option linter.unusedVariables false
set_option linter.unusedSimpArgs false
theorem Zav {a b:Bool} (h:a=b):Ending.returned (.bool a)= .returned (.bool b):=by rw[h]
def rdF (f:Nat->Int) (o:Nat):Nat->Int
 | 0=>0
 | n+1=>f o+256 * rdF f (o+1) n
def Zm (f:Nat->Int):Prop:= ∀ i,0<=f i/\f i<=255
theorem ZR (f:Nat->Int) (h:Zm f) (n:Nat): ∀ o,0<=rdF f o n/\rdF f o n<256 ^ n:=by
 induction n with
 | zero=>intro o; simp[rdF]
 | succ n ih =>
   intro o;have h1:=h o;have h2:=ih (o+1);simp only[rdF];rw[Int.pow_succ];omega
def Row (w:World) (b off len:Nat) (f:Nat->Int):Prop:= ∀ i,i<len->w.cell? ⟨b,off+i,none⟩=some (.int .u8 (f i))
theorem Zoi (f:Nat->Int) (m n:Nat): ∀ o,rdF f o (m+n)=rdF f o m+256 ^ m * rdF f (o+m) n:=by
 induction m with
 | zero=>intro o; simp[rdF]
 | succ m ih =>
   intro o;rw[show m+1+n=(m+n)+1 from by omega];simp only[rdF];rw[ih,show o+1+m=o+(m+1) from by omega,Int.pow_succ];rw[show(256:Int) ^ m * 256=256 * 256 ^ m from Int.mul_comm _ _,Int.mul_add,Int.mul_assoc,Int.add_assoc]
theorem Zcp {k n:Nat} (h:k<=n):(256:Int) ^ k<=256 ^ n:=by
 obtain⟨d,rfl⟩:=Nat.exists_eq_add_of_le h;have h1:(1:Int)<=256 ^ d:=by
  have:=Int.pow_pos (n:=256) (m:=d) (by omega); omega
 have h2:(0:Int)<=256 ^ k:=by have:=Int.pow_pos (n:=256) (m:=k) (by omega); omega
 rw[Int.pow_add];have:=Int.mul_le_mul_of_nonneg_left h1 h2;simpa using this
theorem Zoj {v c:Int} (h0:0<=v) (h1:v<72057594037927936) (c0:0<=c) (c1:c<=255) :
 bits BinOp.or IntKind.u64 (v * 256) c=c+256 * v:=by
 rw[u64_or _ _ (by omega) (by omega) (by omega) (by omega)];obtain⟨x,rfl⟩:=Int.eq_ofNat_of_zero_le h0;obtain⟨y,rfl⟩:=Int.eq_ofNat_of_zero_le c0;have e1:((x:Int) * 256).toNat=2 ^ 8 * x:=by omega
 have e2:((y:Int)).toNat=y:=by omega
 rw[e1,e2];rw[<-Nat.two_pow_add_eq_or_of_lt (show y<2 ^ 8 by omega)];omega
theorem Zl8 (a:Option Addr) (len cap:Nat) (ak n:Int) (w:World) (h0:len<=9223372036854775807) (h1:0<=n) (h2:n<=8) (h:0<=ak) (h':ak<=len - n) :
 Calls Tryz.prog 142 #[.slice a len cap,.int .i64 ak,.int .i64 n] w fun e w'=>e= .returned (.bool true)/\w=w':=by
 go_enter Tryz.func142,Tryz.ntmps142;go_wp2
 go_ret;exact⟨rfl,rfl⟩
theorem Zok (a:Option Addr) (len cap:Nat) (ak n:Int) (w:World) (h0:len<=9223372036854775807) (h1:0<=n) (h2:n<=8) (h: ¬ (0<=ak/\ak<=len - n)) :
 Calls Tryz.prog 142 #[.slice a len cap,.int .i64 ak,.int .i64 n] w fun e w'=>e= .returned (.bool false)/\w=w':=by
 by_cases h3:0<=ak
 ·have h4: ¬ ak<=len - n:=by omega
  go_enter Tryz.func142,Tryz.ntmps142;go_wp2
  go_ret;exact⟨rfl,rfl⟩
 ·go_enter Tryz.func142,Tryz.ntmps142;go_wp2
  go_ret;exact⟨rfl,rfl⟩
theorem Zjt (a:Option Addr) (len cap:Nat) (ak n:Int) (w:World) (h0:len<=9223372036854775807) (h1:0<=n) (h2:n<=8) (h: ¬ (0<=ak/\ak<=len - n)) :
 Calls Tryz.prog 130 #[.slice a len cap,.int .i64 ak,.int .i64 n] w fun e w'=>e= .returned (.tuple #[.int .u64 0,.bool false])/\w=w':=by
 go_enter Tryz.func130,Tryz.ntmps130;go_wp2_with (go_at_call 142; refine(Zok _ _ _ _ _ _ h0 h1 h2 h).mono ?_; rintro e w' ⟨rfl,rfl⟩)
 go_ret2;exact⟨rfl,rfl⟩
theorem Vh (b off len cap:Nat) (f:Nat->Int) (o n:Nat) (w:World) (h0:len<=9223372036854775807) (h2:n<=8) (h:o+n<=len) (hb:Zm f)
 (hc:Row w b off len f) :
 Calls Tryz.prog 130 #[.slice (some ⟨b,off,none⟩) len cap,.int .i64 o,.int .i64 n] w fun e w'=>e= .returned (.tuple #[.int .u64 (rdF f o n),.bool true])/\w=w':=by
 go_enter Tryz.func130,Tryz.ntmps130;go_wp2_with (go_at_call 142; refine(Zl8 _ _ _ _ _ _ h0 (by omega) (by omega) (by omega) (by omega)).mono ?_; rintro e w' ⟨rfl,rfl⟩)
 go_loop [8,9] (fun v i=> ∃ k:Nat,k<=n/\i= .int .i64 ((n:Int) - 1 - k)/\v= .int .u64 (rdF f (o+(n - k)) k)) (fun _ i=>(intOf i+1).toNat)
 case atStart=>exact⟨0,by omega,by simp,by simp[rdF]⟩
 case round =>
  obtain⟨k,hk,rfl,rfl⟩:=hrel;by_cases af:k<n
  ·have bj:=hc (o+(n - 1 - k)) (by omega);have h3:=ZR f hb k (o+(n - k));have h4:=Zcp (show k<=7 by omega);have h5:=hb (o+(n - 1 - k));have H:Hid (rdF f (o+(n - (k+1))) (k+1)=f (o+(n - 1 - k))+256 * rdF f (o+(n - k)) k):=by
    have e1:n - (k+1)=n - 1 - k:=by omega
    have e2:o+(n - 1 - k)+1=o+(n - k):=by omega
    rw[e1,rdF,e2]; exact rfl
   go_wp2
   go_round
   case rel =>
    refine⟨k+1,by omega,by go_num,?_⟩;rw[H.out,Zoj h3.1 (by omega) h5.1 h5.2]
   case measure=>simp[intOf]; omega
  ·obtain rfl:k=n:=by omega
   go_wp2
   go_ret2;exact⟨by simp,rfl⟩
theorem Zd6 (b off len cap:Nat) (f:Nat->Int) (o:Nat) (w:World) (h0:len<=9223372036854775807) (h:o+2<=len) (hb:Zm f)
 (hc:Row w b off len f) :
 Calls Tryz.prog 104 #[.slice (some ⟨b,off,none⟩) len cap,.int .i64 o] w fun e w'=>e= .returned (.tuple #[.int .i64 (rdF f o 2),.bool true])/\w=w':=by
 have jr:=ZR f hb 2 o;go_enter Tryz.func104,Tryz.ntmps104;go_wp2_with (go_at_call 130; refine(Vh _ _ _ _ f o 2 _ h0 (by omega) h hb hc).mono ?_; rintro e w' ⟨rfl,rfl⟩)
 go_ret2;exact⟨rfl,rfl⟩
theorem Zaw (b off len cap:Nat) (f:Nat->Int) (o:Nat) (w:World) (h0:len<=9223372036854775807) (h:o+4<=len) (hb:Zm f)
 (hc:Row w b off len f) :
 Calls Tryz.prog 129 #[.slice (some ⟨b,off,none⟩) len cap,.int .i64 o] w fun e w'=>e= .returned (.tuple #[.int .i64 (rdF f o 4),.bool true])/\w=w':=by
 have jr:=ZR f hb 4 o;go_enter Tryz.func129,Tryz.ntmps129;go_wp2_with (go_at_call 130; refine(Vh _ _ _ _ f o 4 _ h0 (by omega) h hb hc).mono ?_; rintro e w' ⟨rfl,rfl⟩)
 go_ret2;exact⟨rfl,rfl⟩
theorem Zax (b off len cap:Nat) (f:Nat->Int) (o:Nat) (w:World) (h0:len<=9223372036854775807) (h:o+8<=len) (hb:Zm f)
 (hc:Row w b off len f) :
 Calls Tryz.prog 103 #[.slice (some ⟨b,off,none⟩) len cap,.int .i64 o] w fun e w'=>e= .returned (.tuple #[.int .u64 (rdF f o 8),.bool true])/\w=w':=by
 have jr:=ZR f hb 8 o;go_enter Tryz.func103,Tryz.ntmps103;go_wp2_with (go_at_call 130; refine(Vh _ _ _ _ f o 8 _ h0 (by omega) h hb hc).mono ?_; rintro e w' ⟨rfl,rfl⟩)
 go_ret2;exact⟨rfl,rfl⟩
end Go.Proofs.YtplgdpjbkdagfaaGreat
