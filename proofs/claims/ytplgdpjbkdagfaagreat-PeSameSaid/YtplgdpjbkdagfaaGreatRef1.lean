import Derived.Test.YtplgdpjbkdagfaaGreatZMem
namespace Go.Proofs.YtplgdpjbkdagfaaGreat
open Lib renaming hid→Zg
set_option maxRecDepth 100000
open Go.ChangeShapes Go.WideShapes Go.ChangeAt Go.RowKit
set_option linter.unusedVariables false
set_option linter.unusedSimpArgs false
theorem Vl (long at' n:Int) (w:World) (hl:long≤9223372036854775807) (h1:0≤at') (h2:0≤n) (h3:at'≤long - n) :
 Calls Tryz.prog 73 #[.int .i64 long,.int .i64 at',.int .i64 n] w fun e w'=>e= .returned (.bool true)∧w=w':=by
 have h4:at'≤long:=by omega
 have h5:n≤long - at':=by omega
 go_enter Tryz.func73,Tryz.ntmps73
 go_wp2
 go_ret
 exact⟨rfl,rfl⟩
theorem QU (long at' n:Int) (w:World) (hl0:0≤long) (hl:long≤9223372036854775807) (h: ¬ (0≤at'∧0≤n∧at'≤long - n)) :
 Calls Tryz.prog 73 #[.int .i64 long,.int .i64 at',.int .i64 n] w fun e w'=>e= .returned (.bool false)∧w=w':=by
 by_cases h1:0≤at'
 ·by_cases h2:0≤n
  ·by_cases h3:at'≤long
   ·have h4: ¬ n≤long - at':=by omega
    go_enter Tryz.func73,Tryz.ntmps73
    go_wp2
    go_ret
    exact⟨rfl,rfl⟩
   ·go_enter Tryz.func73,Tryz.ntmps73
    go_wp2
    go_ret
    exact⟨rfl,rfl⟩
  ·go_enter Tryz.func73,Tryz.ntmps73
   go_wp2
   go_ret
   exact⟨rfl,rfl⟩
 ·go_enter Tryz.func73,Tryz.ntmps73
  go_wp2
  go_ret
  exact⟨rfl,rfl⟩
theorem Zjd {v c:Int} (k:Nat) (hk:k≤56) (v0:0≤v) (v1:v<2 ^ k) (c0:0≤c) (c1:c≤255) :
 bits BinOp.or IntKind.u64 v (c * 2 ^ k)=v+2 ^ k * c:=by
 obtain⟨x,rfl⟩:=Int.eq_ofNat_of_zero_le v0
 obtain⟨y,rfl⟩:=Int.eq_ofNat_of_zero_le c0
 have hx:x<2 ^ k:=by
  have:((x:Nat):Int)<((2 ^ k:Nat):Int):=by rw[Int.natCast_pow]; exact v1
  omega
 have hp:2 ^ k≤2 ^ 56:=Nat.pow_le_pow_right (by omega) hk
 have hy:y * 2 ^ k≤255 * 2 ^ 56:=Nat.mul_le_mul (by omega) hp
 have e1:((y:Int) * 2 ^ k)=((y * 2 ^ k:Nat):Int):=by rw[Int.natCast_mul,Int.natCast_pow]; rfl
 rw[e1,u64_or _ _ (by omega) (by omega) (by omega) (by omega)]
 have e2:((x:Int)).toNat=x:=by omega
 have e3:(((y * 2 ^ k:Nat):Int)).toNat=y * 2 ^ k:=by omega
 rw[e2,e3,Nat.or_comm,Nat.mul_comm,←Nat.two_pow_add_eq_or_of_lt hx]
 rw[Int.natCast_add,Int.natCast_mul,Int.natCast_pow]
 exact Int.add_comm _ _
theorem Zje (s:ByteArray) (at' n:Int) (w:World) (hs:s.size≤9223372036854775807) (h0:0≤n) (h: ¬ (0≤at'∧at'≤s.size - n)) :
 Calls Tryz.prog 74 #[.string s,.int .i64 at',.int .i64 n] w fun e w'=>e= .returned (.tuple #[.int .u64 0,.bool false])∧w=w':=by
 go_enter Tryz.func74,Tryz.ntmps74
 go_wp2_with (go_at_call 73; refine(QU _ _ _ _ (by omega) (by omega) (by omega)).mono ?_; rintro e w' ⟨rfl,rfl⟩)
 go_ret2
 exact⟨rfl,rfl⟩
theorem WW (s:ByteArray) (o n:Nat) (w:World) (hs:s.size≤9223372036854775807) (hn:n≤8) (h:o+n≤s.size) :
 Calls Tryz.prog 74 #[.string s,.int .i64 o,.int .i64 n] w fun e w'=>e= .returned (.tuple #[.int .u64 (rdF (PlainAid.bt s) o n),.bool true])∧w=w':=by
 have gb:=PlainAid.get_bt s
 go_enter Tryz.func74,Tryz.ntmps74
 go_wp2_with (go_at_call 73; refine(Vl _ _ _ _ (by omega) (by omega) (by omega) (by omega)).mono ?_; rintro e w' ⟨rfl,rfl⟩)
 go_loop [8,9] (fun v i=> ∃ k:Nat,k≤n∧i= .int .i64 k∧v= .int .u64 (rdF (PlainAid.bt s) o k)) (fun _ i=>n - (intOf i).toNat)
 case atStart=>exact⟨0,by omega,rfl,rfl⟩
 case round =>
  obtain⟨k,hk,rfl,rfl⟩:=hrel
  by_cases hlt:k<n
  ·have h5:=WA s (o+k)
   have h5a:=h5.1
   have h5b:=h5.2
   have h3:=ZS (PlainAid.bt s) (WA s) k o
   have hp:(256:Int) ^ k=2 ^ (8 * k):=by rw[Int.pow_mul]; rfl
   have hm1:0≤PlainAid.bt s (o+k) * 2 ^ (8 * k):=Int.mul_nonneg h5.1 (Int.pow_nonneg (by omega))
   have hm2:PlainAid.bt s (o+k) * 2 ^ (8 * k)≤18446744073709551615:=by
    have h6:(2:Int) ^ (8 * k)≤2 ^ 56:=by
     rw[←hp]; have:=Zad (show k≤7 by omega); omega
    have h7:(0:Int)≤2 ^ (8 * k):=Int.pow_nonneg (by omega)
    have:=Int.mul_le_mul h5.2 h6 h7 (by omega)
    omega
   have H:Hid (rdF (PlainAid.bt s) o (k+1)=bits BinOp.or IntKind.u64 (rdF (PlainAid.bt s) o k) (PlainAid.bt s (o+k) * 2 ^ (8 * k))):=by
    rw[Zjd (8 * k) (by omega) h3.1 (by rw[←hp]; exact h3.2) h5.1 h5.2,Zhp,hp]; exact rfl
   clear h3 hp h5
   go_wp2
   go_round
   case rel=>exact⟨k+1,by omega,by go_num,by rw[H.out]⟩
   case measure=>simp[intOf]; omega
  ·obtain rfl:k=n:=by omega
   go_wp2
   go_ret2
   exact⟨rfl,rfl⟩
theorem Zfh (s:ByteArray) (at' most:Int) (w:World) (hs:s.size≤9223372036854775807) (h:at'<0∨s.size≤at') :
 Calls Tryz.prog 75 #[.string s,.int .i64 at',.int .i64 most] w fun e w'=>e= .returned (.tuple #[.string ByteArray.empty,.bool false])∧w=w':=by
 by_cases h1:at'<0
 ·go_enter Tryz.func75,Tryz.ntmps75
  go_wp2
  go_ret2
  exact⟨rfl,rfl⟩
 ·have h2:(s.size:Int)≤at':=by omega
  go_enter Tryz.func75,Tryz.ntmps75
  go_wp2
  go_ret2
  exact⟨rfl,rfl⟩
theorem QV (s:ByteArray) (o n:Nat) (most:Int) (w:World) (hs:s.size≤9223372036854775807) (h:o+n<s.size) (hm:n=0∨n≤most) (hz:PlainAid.bt s (o+n)=0)
 (hnz: ∀ i,i<n→PlainAid.bt s (o+i)≠0) :
 Calls Tryz.prog 75 #[.string s,.int .i64 o,.int .i64 most] w fun e w'=>e= .returned (.tuple #[.string (ZB (PlainAid.bt s) o n),.bool true])∧w=w':=by
 have gb:=PlainAid.get_bt s
 have HX:=Zg (YF s o n (by omega))
 have HZ:=Zg hz
 clear hz
 by_cases hm0:0≤most
 ·have hmm:max most 0=most:=by omega
  have hnm:(n:Int)≤most:=by omega
  go_enter Tryz.func75,Tryz.ntmps75
  go_wp2
  go_loop [8] (fun i=> ∃ k:Nat,k≤n∧i= .int .i64 k) (fun i=>n - (intOf i).toNat)
  case atStart=>exact⟨0,by omega,rfl⟩
  case round =>
   obtain⟨k,hk,rfl⟩:=hrel
   have hkm:(k:Int)≤most:=by omega
   have hks:(k:Int)<(s.size:Int) - o:=by omega
   by_cases hlt:k<n
   ·have hf:(PlainAid.bt s (o+k) == 0)=false:=by simpa using hnz k hlt
    go_wp2
    go_round
    case rel=>exact⟨k+1,by omega,by go_num⟩
    case measure=>simp[intOf]; omega
   ·obtain rfl:k=n:=by omega
    have hf:(PlainAid.bt s (o+k) == 0)=true:=by simpa using HZ.out
    have d1:(o:Int)≤(o:Int)+k:=by omega
    have d2:(o:Int)+k≤s.size:=by omega
    go_wp2
    go_ret2
    exact⟨by rw[←HX.out]; rfl,rfl⟩
 ·have hmm:max most 0=0:=by omega
  obtain rfl:n=0:=by omega
  have hf:(PlainAid.bt s o == 0)=true:=by simpa using HZ.out
  have d3:(o:Int)<s.size:=by omega
  have d4:(o:Int)≤s.size:=by omega
  have d5:o≤s.size:=by omega
  go_enter Tryz.func75,Tryz.ntmps75
  go_wp2
  refine wp_loop_rounds 1 ?_
  rw[rounds_succ]
  go_wp2
  go_ret2
  exact⟨rfl,rfl⟩
theorem Zct (s:ByteArray) (o:Nat) (most:Int) (w:World) (hs:s.size≤9223372036854775807) (h:o<s.size) (hno: ∀ i:Nat,o+i<s.size→(i=0∨i≤most)→PlainAid.bt s (o+i)≠0) :
 Calls Tryz.prog 75 #[.string s,.int .i64 o,.int .i64 most] w fun e w'=>e= .returned (.tuple #[.string ByteArray.empty,.bool false])∧w=w':=by
 have gb:=PlainAid.get_bt s
 by_cases hm0:0≤most
 ·have hmm:max most 0=most:=by omega
  go_enter Tryz.func75,Tryz.ntmps75
  go_wp2
  go_loop [8] (fun i=> ∃ k:Nat,k≤s.size - o∧i= .int .i64 k) (fun i=>s.size - (intOf i).toNat)
  case atStart=>exact⟨0,by omega,rfl⟩
  case round =>
   obtain⟨k,hk,rfl⟩:=hrel
   by_cases hkm:(k:Int)≤most
   ·by_cases hlt:(k:Int)<(s.size:Int) - o
    ·have hf:(PlainAid.bt s (o+k) == 0)=false:=by simpa using hno k (by omega) (by omega)
     go_wp2
     go_round
     case rel=>exact⟨k+1,by omega,by go_num⟩
     case measure=>simp[intOf]; omega
    ·go_wp2
     go_ret2
     exact⟨rfl,rfl⟩
   ·go_wp2
    go_ret2
    exact⟨rfl,rfl⟩
 ·have hmm:max most 0=0:=by omega
  have hf:(PlainAid.bt s o == 0)=false:=by simpa using hno 0 (by omega) (.inl rfl)
  have d3:(o:Int)<s.size:=by omega
  go_enter Tryz.func75,Tryz.ntmps75
  go_wp2
  refine wp_loop_rounds 2 ?_
  rw[rounds_succ]
  go_wp2
  rw[rounds_succ]
  go_wp2
  go_ret2
  exact⟨rfl,rfl⟩
end Go.Proofs.YtplgdpjbkdagfaaGreat
