import Derived.Test.YtplgdpjbkdagfaaGreatZExpM
import Derived.Test.YtplgdpjbkdagfaaGreatRef1
namespace Go.Proofs.YtplgdpjbkdagfaaGreat
open Lib renaming hid→Zg
set_option maxRecDepth 100000
open Go.ChangeShapes Go.WideShapes Go.ChangeAt Go.RowKit
set_option linter.unusedVariables false
set_option linter.unusedSimpArgs false
theorem ZL (bs:List Nat) (o n:Nat) (w:World) (hb:Lb bs) (hl:bs.length≤9223372036854775807) (hn:n≤4) (h:o+n≤bs.length) :
 Calls Tryz.prog 72 #[.string (txt bs),.int .i64 o,.int .i64 n] w fun e w'=>e= .returned (.int .i64 (YS (bs.drop o) n))∧w=w':=by
 have e1:rdF (PlainAid.bt (txt bs)) o n=((YS (bs.drop o) n:Nat):Int):=by
  rw[←UE]
  exact Xi n o fun i hi=>Yr hb (by omega)
 have HR:=Zg (WW (txt bs) o n w (by rw[Zm]; exact hl) (by omega) (by rw[Zm]; exact h))
 rw[e1] at HR
 have hv:=Ym (hb.drop o) n
 have hp:(256:Nat) ^ n≤4294967296:=by
  rcases(by omega:n=0∨n=1∨n=2∨n=3∨n=4) with rfl|rfl|rfl|rfl|rfl <;> decide
 have h1:YS (bs.drop o) n<4294967296:=by omega
 clear hv hp e1
 generalize YS (bs.drop o) n=x at *
 generalize txt bs=S at *
 go_enter Tryz.func72,Tryz.ntmps72
 go_wp2_with fail
 refine HR.out.mono ?_
 rintro e u ⟨rfl,rfl⟩
 go_wp2
 go_ret
 exact⟨rfl,rfl⟩
theorem Xs (bs:List Nat) (o most:Nat) (w:World) (hb:Lb bs) (hl:bs.length≤9223372036854775807) :
 Calls Tryz.prog 75 #[.string (txt bs),.int .i64 o,.int .i64 most] w fun e w'=>e= .returned (match XV bs o most with|some t=> .tuple #[.string (txt t),.bool true]|none=> .tuple #[.string ByteArray.empty,.bool false])∧w=w':=by
 have hz:(txt bs).size≤9223372036854775807:=by rw[Zm]; exact hl
 rcases ht:XV bs o most with _|t
 ·by_cases hc:o<bs.length
  ·exact Zct (txt bs) o most w hz (by rw[Zm]; exact hc) fun i h1 h2=>by
    rw[Zm] at h1
    rw[Yr hb h1]
    exact Zd4 ht i h1 (by omega)
  ·exact Zfh (txt bs) o most w hz (by rw[Zm]; omega)
 ·obtain⟨h1,h2,h3,h4,h5⟩:=JG ht
  have e:ZB (PlainAid.bt (txt bs)) o t.length=txt t:=by
   rw[show ZB (PlainAid.bt (txt bs)) o t.length=ZB (lF bs) o t.length from ZH fun i hi=>Yr hb (by omega),Qr _ _ _ (by omega)]
   rw[←h5]
  have k:=QV (txt bs) o t.length most w hz (by rw[Zm]; omega) (by omega) (by rw[Yr hb (by omega)]; exact h3) (fun i hi=>by rw[Yr hb (by omega)]; exact h4 i hi)
  rw[e] at k
  exact k
theorem VQ {S:ByteArray} (h:1≤S.size):(S.toList == ([]:List UInt8))=false:=by
 rw[Bool.eq_false_iff,ne_eq,beq_iff_eq,ByteArray.toList_eq]
 intro q
 have h2:=congrArg List.length q
 rw[List.length_nil,Array.length_toList] at h2
 have:S.data.size=S.size:=rfl
 omega
theorem Qs {S:ByteArray} (h:S.size<1):(S.toList == ([]:List UInt8))=true:=by
 rw[beq_iff_eq,ByteArray.toList_eq]
 refine List.eq_nil_of_length_eq_zero ?_
 rw[Array.length_toList]
 have:S.data.size=S.size:=rfl
 omega
theorem JK {c:Int} (h:Zai c=true):(97≤c∧c≤122)∨(65≤c∧c≤90)∨(48≤c∧c≤57)∨c=46∨c=95∨c=45:=by
 simpa [Zai] using h
theorem Zgd {c:Int} (h:Zai c=false): ¬ ((97≤c∧c≤122)∨(65≤c∧c≤90)∨(48≤c∧c≤57)∨c=46∨c=95∨c=45):=by
 simpa [Zai] using h
set_option maxHeartbeats 1000000 in
theorem Zge (S:ByteArray) (w:World) (h:Zc3 S):Calls Tryz.prog 93 #[.string S] w fun e w'=>e= .returned (.bool true)∧w=w':=by
 obtain⟨h1,h2,h3⟩:=h
 have gb:=PlainAid.get_bt S
 have d1:=VQ h1
 have d2: ¬ (40:Int)<S.size:=by omega
 have H3:=Zg h3
 clear h3
 go_enter Tryz.func93,Tryz.ntmps93
 go_wp2
 go_loop [3] (fun i=> ∃ k:Nat,k≤S.size∧i= .int .i64 k) (fun i=>S.size - (intOf i).toNat)
 case atStart=>exact⟨0,by omega,rfl⟩
 case round =>
  obtain⟨k,hk,rfl⟩:=hrel
  by_cases hlt:k<S.size
  ·rcases JK (H3.out k hlt) with⟨h4,h5⟩|⟨h4,h5⟩|⟨h4,h5⟩|h4|h4|h4
   all_goals
    go_wp2
    go_round
    case rel=>exact⟨k+1,by omega,by go_num⟩
    case measure=>simp[intOf]; omega
  ·obtain rfl:k=S.size:=by omega
   go_wp2
   go_ret
   exact⟨rfl,rfl⟩
theorem Jb (P:Nat→Prop) [DecidablePred P] (n:Nat) (h: ¬ ∀ i,i<n→P i): ∃ z,z<n∧ ¬ P z∧ ∀ i,i<z→P i:=by
 by_cases hz: ∃ z,z<n∧ ¬ P z∧ ∀ i,i<z→P i
 ·exact hz
 ·exfalso
  apply h
  intro i
  induction i using Nat.strongRecOn with
  | ind i ih =>
    intro hi
    by_cases hb:P i
    ·exact hb
    ·exact absurd ⟨i,hi,hb,fun j hj=>ih j hj (by omega)⟩ hz
set_option maxHeartbeats 1000000 in
theorem Zh4 (S:ByteArray) (w:World) (hs:S.size≤9223372036854775807) (h: ¬ Zc3 S):Calls Tryz.prog 93 #[.string S] w fun e w'=>e= .returned (.bool false)∧w=w':=by
 by_cases h1:S.size<1
 ·have d1:=Qs h1
  go_enter Tryz.func93,Tryz.ntmps93
  go_wp2
  go_ret
  exact⟨rfl,rfl⟩
 have d1:=VQ (show 1≤S.size by omega)
 by_cases h2:40<S.size
 ·have d2:(40:Int)<S.size:=by omega
  go_enter Tryz.func93,Tryz.ntmps93
  go_wp2
  go_ret
  exact⟨rfl,rfl⟩
 obtain⟨z,hz1,hz2,hz3⟩:=Jb (fun i=>Zai (PlainAid.bt S i)=true) S.size (fun q=>h ⟨by omega,by omega,q⟩)
 have HZ:=Zg hz2
 have H3:=Zg hz3
 clear hz2 hz3 h
 have gb:=PlainAid.get_bt S
 have d2: ¬ (40:Int)<S.size:=by omega
 go_enter Tryz.func93,Tryz.ntmps93
 go_wp2
 go_loop [3] (fun i=> ∃ k:Nat,k≤z∧i= .int .i64 k) (fun i=>z - (intOf i).toNat)
 case atStart=>exact⟨0,by omega,rfl⟩
 case round =>
  obtain⟨k,hk,rfl⟩:=hrel
  have hks:k<S.size:=by omega
  by_cases hlt:k<z
  ·rcases JK (H3.out k hlt) with⟨h4,h5⟩|⟨h4,h5⟩|⟨h4,h5⟩|h4|h4|h4
   all_goals
    go_wp2
    go_round
    case rel=>exact⟨k+1,by omega,by go_num⟩
    case measure=>simp[intOf]; omega
  ·obtain rfl:k=z:=by omega
   have hf:=Zgd (by simpa using HZ.out)
   have e1:(PlainAid.bt S k == 46)=false:=beq_eq_false_iff_ne.mpr (by omega)
   have e2:(PlainAid.bt S k == 95)=false:=beq_eq_false_iff_ne.mpr (by omega)
   have e3:(PlainAid.bt S k == 45)=false:=beq_eq_false_iff_ne.mpr (by omega)
   rcases(show PlainAid.bt S k<48∨(58≤PlainAid.bt S k∧PlainAid.bt S k<65)∨(91≤PlainAid.bt S k∧PlainAid.bt S k<97)∨122<PlainAid.bt S k by omega) with h4|⟨h4,h5⟩|⟨h4,h5⟩|h4
   all_goals
    clear hf
    go_wp2
   all_goals first
    | (go_ret; exact⟨rfl,rfl⟩)
    | (rename_i hbad; simp at hbad; omega)
theorem Zh5 (S:ByteArray) (w:World) (h:Zhy S):Calls Tryz.prog 92 #[.string S] w fun e w'=>e= .returned (.bool true)∧w=w':=by
 obtain⟨h1,h2,h0,h3⟩:=h
 have gb:=PlainAid.get_bt S
 have d1:=VQ h1
 have d2: ¬ (60:Int)<S.size:=by omega
 have d3:0<S.size:=by omega
 have d4:(PlainAid.bt S 0 == 35)=false:=by simpa using h0
 have H3:=Zg h3
 clear h3 h0
 go_enter Tryz.func92,Tryz.ntmps92
 go_wp2
 go_loop [3] (fun i=> ∃ k:Nat,k≤S.size∧i= .int .i64 k) (fun i=>S.size - (intOf i).toNat)
 case atStart=>exact⟨0,by omega,rfl⟩
 case round =>
  obtain⟨k,hk,rfl⟩:=hrel
  by_cases hlt:k<S.size
  ·have hf:=H3.out k hlt
   have f1: ¬ PlainAid.bt S k<33:=by omega
   have f2: ¬ 126<PlainAid.bt S k:=by omega
   go_wp2
   go_round
   case rel=>exact⟨k+1,by omega,by go_num⟩
   case measure=>simp[intOf]; omega
  ·obtain rfl:k=S.size:=by omega
   go_wp2
   go_ret
   exact⟨rfl,rfl⟩
theorem Zjz (S:ByteArray) (w:World) (hs:S.size≤9223372036854775807) (h: ¬ Zhy S):Calls Tryz.prog 92 #[.string S] w fun e w'=>e= .returned (.bool false)∧w=w':=by
 by_cases h1:S.size<1
 ·have d1:=Qs h1
  go_enter Tryz.func92,Tryz.ntmps92
  go_wp2
  go_ret
  exact⟨rfl,rfl⟩
 have d1:=VQ (show 1≤S.size by omega)
 by_cases h2:60<S.size
 ·have d2:(60:Int)<S.size:=by omega
  go_enter Tryz.func92,Tryz.ntmps92
  go_wp2
  go_ret
  exact⟨rfl,rfl⟩
 have d2: ¬ (60:Int)<S.size:=by omega
 have gb:=PlainAid.get_bt S
 have d3:0<S.size:=by omega
 by_cases h0:PlainAid.bt S 0=35
 ·have d4:(PlainAid.bt S 0 == 35)=true:=by simpa using h0
  clear h0
  go_enter Tryz.func92,Tryz.ntmps92
  go_wp2
  go_ret
  exact⟨rfl,rfl⟩
 have d4:(PlainAid.bt S 0 == 35)=false:=by simpa using h0
 obtain⟨z,hz1,hz2,hz3⟩:=Jb (fun i=>33≤PlainAid.bt S i∧PlainAid.bt S i≤126) S.size (fun q=>h ⟨by omega,by omega,h0,q⟩)
 have HZ:=Zg hz2
 have H3:=Zg hz3
 clear hz2 hz3 h h0
 go_enter Tryz.func92,Tryz.ntmps92
 go_wp2
 go_loop [3] (fun i=> ∃ k:Nat,k≤z∧i= .int .i64 k) (fun i=>z - (intOf i).toNat)
 case atStart=>exact⟨0,by omega,rfl⟩
 case round =>
  obtain⟨k,hk,rfl⟩:=hrel
  have hks:k<S.size:=by omega
  by_cases hlt:k<z
  ·have hf:=H3.out k hlt
   have f1: ¬ PlainAid.bt S k<33:=by omega
   have f2: ¬ 126<PlainAid.bt S k:=by omega
   go_wp2
   go_round
   case rel=>exact⟨k+1,by omega,by go_num⟩
   case measure=>simp[intOf]; omega
  ·obtain rfl:k=z:=by omega
   by_cases f1:PlainAid.bt S k<33
   ·go_wp2
    go_ret
    exact⟨rfl,rfl⟩
   ·have f2:126<PlainAid.bt S k:=by have:=HZ.out; omega
    go_wp2
    go_ret
    exact⟨rfl,rfl⟩
theorem Vb (t:List Nat) (w:World) (h:Lb t) (hl:t.length≤9223372036854775807):Calls Tryz.prog 93 #[.string (txt t)] w fun e w'=>e= .returned (.bool (Zc4 t))∧w=w':=by
 by_cases k:Zc4 t=true
 ·rw[k]; exact Zge _ w ((Zc5 h).2 k)
 ·rw[show Zc4 t=false by simpa using k]
  exact Zh4 _ w (by rw[Zm]; exact hl) (fun q=>k ((Zc5 h).1 q))
theorem VR (t:List Nat) (w:World) (h:Lb t) (hl:t.length≤9223372036854775807):Calls Tryz.prog 92 #[.string (txt t)] w fun e w'=>e= .returned (.bool (Xx t))∧w=w':=by
 by_cases k:Xx t=true
 ·rw[k]; exact Zh5 _ w ((QN h).2 k)
 ·rw[show Xx t=false by simpa using k]
  exact Zjz _ w (by rw[Zm]; exact hl) (fun q=>k ((QN h).1 q))
end Go.Proofs.YtplgdpjbkdagfaaGreat
