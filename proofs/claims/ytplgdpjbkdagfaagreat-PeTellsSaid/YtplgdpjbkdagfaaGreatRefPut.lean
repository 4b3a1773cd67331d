import Derived.Test.YtplgdpjbkdagfaaGreatZAwake1
import Derived.Deep.RegionHeld3
namespace Go.Proofs.YtplgdpjbkdagfaaGreat
set_option maxHeartbeats 8000000
open Lib renaming hid→Zg
set_option maxRecDepth 100000
open Go.ChangeShapes Go.WideShapes Go.ChangeAt Go.RowKit
set_option linter.unusedVariables false
set_option linter.unusedSimpArgs false
theorem Zlb {w:World} {g:Nat} {x:Int} (hg:g=w.heap.size):(convert 25 9 (.slice (some ⟨g,0,none⟩) 1 1)).run Tryz.prog (w.alloc (.cells #[.int .u8 x] 5))= .ok (.string (ZB (fun _=>x) 0 1)) (w.alloc (.cells #[.int .u8 x] 5)):=by
 have h:=YL (cap:=1) (Zig (t:=5) (fr:=(0,0)) [x] hg);rw[ZA (f':=fun _=>x) (o':=0) (fun i hi=>by
  have ef:i<1:=hi;obtain rfl:i=0:=by omega
  rfl)] at h
 exact h
theorem Ze3 (f:Nat->Int) (k:Nat) (x:Int) (h:f k=x):ZB f 0 k++ZB (fun _=>x) 0 1=ZB f 0 (k+1):=by
 rw[<-XY f 0 k 1];congr 1
 exact ZA fun i hi=>by
  obtain rfl:i=0:=by omega
  simp[h]
theorem Yp (v n:Int) (m:Nat) (w:World) (h0:0<=v) (h1:v<=18446744073709551615) (hm:min (max n 0) 8=(m:Int)) :
 Calls Tryz.prog 10 #[.int .u64 v,.int .i64 n] w fun e w'=>e= .returned (.string (ZB (Yj v) 0 m))/\Below w.heap.size w w':=by
 have gU:m<=8:=by omega
 have cY:=fun(W:World) (x:Int) (g:Nat) (hg:g=W.heap.size)=>Zlb (w:=W) (x:=x) hg;by_cases hn:n<=8
 ·have HM:=Zg hm;clear hm;go_enter Tryz.func10,Tryz.ntmps10;go_wp2
  go_loopw [5,6] (fun s i wr=> ∃ k:Nat,k<=m/\i= .int .i64 k/\s= .string (ZB (Yj v) 0 k)/\Below w.heap.size w wr) (fun _ i _=>m - (intOf i).toNat)
  case atStart=>exact⟨0,by omega,rfl,rfl,Below.refl _ _⟩
  case round =>
   obtain⟨k,hk,rfl,rfl,aq⟩:=hrel;by_cases af:k<m
   ·have aE:(k:Int)<n:=by have:=HM.out; omega
    have jh:(ZB (Yj v) 0 k).size<=8:=by rw[Zr]; omega
    have d':(ZB (fun _=>v / 2 ^ (8 * k) % 256) 0 1).size<=1:=by rw[Zr]; omega
    go_wp2
    go_roundw
    case rel=>exact⟨k+1,by omega,by go_num,congrArg Value.string (Ze3 (Yj v) k _ rfl),aq.alloc aq.size _⟩
    case measure=>simp[intOf]; omega
   ·have aE: ¬ (k:Int)<n:=by have:=HM.out; omega
    obtain rfl:k=m:=by omega
    go_wp2
    go_ret;exact⟨rfl,aq⟩
 ·obtain rfl:m=8:=by omega
  clear hm;go_enter Tryz.func10,Tryz.ntmps10;go_wp2
  go_loopw [5,6] (fun s i wr=> ∃ k:Nat,k<=8/\i= .int .i64 k/\s= .string (ZB (Yj v) 0 k)/\Below w.heap.size w wr) (fun _ i _=>8 - (intOf i).toNat)
  case atStart=>exact⟨0,by omega,rfl,rfl,Below.refl _ _⟩
  case round =>
   obtain⟨k,hk,rfl,rfl,aq⟩:=hrel;by_cases af:k<8
   ·have aE:(k:Int)<8:=by omega
    have jh:(ZB (Yj v) 0 k).size<=8:=by rw[Zr]; omega
    have d':(ZB (fun _=>v / 2 ^ (8 * k) % 256) 0 1).size<=1:=by rw[Zr]; omega
    go_wp2
    go_roundw
    case rel=>exact⟨k+1,by omega,by go_num,congrArg Value.string (Ze3 (Yj v) k _ rfl),aq.alloc aq.size _⟩
    case measure=>simp[intOf]; omega
   ·obtain rfl:k=8:=by omega
    go_wp2
    go_ret;exact⟨rfl,aq⟩
theorem Zlc (S:ByteArray) (o n:Nat) (v:Int) (h:o+n<=S.size) :
 S.extract 0 o++ZB (Yj v) 0 n++S.extract (o+n) S.size=ZB (Xk (PlainAid.bt S) o v n) 0 S.size:=by
 have e1:=Yq S 0 o (by omega);rw[Nat.zero_add] at e1;have e2:=Yq S (o+n) (S.size - (o+n)) (by omega);rw[show o+n+(S.size - (o+n))=S.size by omega] at e2;rw[e1,e2,ZA (f:=PlainAid.bt S) (f':=Xk (PlainAid.bt S) o v n) (o:=0) (o':=0) (n:=o) (fun i hi=>by unfold Xk; rw[if_neg (by omega)]),
  ZA (f:=Yj v) (f':=Xk (PlainAid.bt S) o v n) (o:=0) (o':=0+o) (n:=n) (fun i hi=>by unfold Xk; rw[if_pos (by omega)]; congr 1; omega),
  XY,ZA (f:=PlainAid.bt S) (f':=Xk (PlainAid.bt S) o v n) (o:=o+n) (o':=0+(o+n)) (n:=S.size - (o+n)) (fun i hi=>by rw[Nat.zero_add]; unfold Xk; rw[if_neg (by omega)]),
  XY]
 congr 1
 omega
theorem Jc (S:ByteArray) (o n:Nat) (v:Int) (w:World) (hs:S.size<=1000000) (h1:1<=n) (h8:n<=8) (h:o+n<=S.size) (v0:0<=v) (v1:v<=18446744073709551615) :
 Calls Tryz.prog 78 #[.string S,.int .i64 o,.int .i64 n,.int .u64 v] w fun e w'=>e= .returned (.tuple #[.string (ZB (Xk (PlainAid.bt S) o v n) 0 S.size),.bool true])/\Below w.heap.size w w':=by
 have HT:=Zg (Zlc S o n v h);have d0:(0:Int)<=(o:Int):=by omega
 have d1:(o:Int)<=S.size:=by omega
 have d2:(o:Int)+n<=S.size:=by omega
 have d3:(0:Int)<=(o:Int)+n:=by omega
 have d4:IntKind.i64.wrap ((o:Int)+n)=(o:Int)+n:=IntWalk.i64_in _ ⟨by omega,by omega⟩;have d5:((o:Int)+n).toNat=o+n:=by omega
 have z1:(S.extract 0 o).size<=1000000:=by rw[ByteArray.size_extract]; omega
 have z2:(ZB (Yj v) 0 n).size<=8:=by rw[Zr]; omega
 have z3:(S.extract (o+n) S.size).size<=1000000:=by rw[ByteArray.size_extract]; omega
 have z4:(S.extract 0 o++ZB (Yj v) 0 n).size<=1000008:=by rw[ByteArray.size_append]; omega
 go_enter Tryz.func78,Tryz.ntmps78;go_wp2_with (go_at_call 73; refine(Vp _ _ _ _ (by omega) (by omega) (by omega) (by omega)).mono ?_; rintro e w' ⟨rfl,rfl⟩)
 have a1:=fun(W:World)=>run_string_add_sum (P:=Tryz.prog) W (S.extract 0 o) (ZB (Yj v) 0 n) (by omega);have a2:=fun(W:World)=>run_string_add_sum (P:=Tryz.prog) W (S.extract 0 o++ZB (Yj v) 0 n) (S.extract (o+n) S.size) (by omega);clear z1 z2 z3 z4;go_region_held3 (fun w'=>w.heap.size<=w'.heap.size) (first|exact Nat.le_refl _|assumption|exact Nat.le_trans (by assumption) az.size|(simp; done)) ((go_at_call 10; refine(Yp v n n _ v0 v1 (by omega)).mono ?_; rintro e w1 ⟨rfl,az⟩))
 go_wp2
 go_ret2;exact⟨by rw[<-HT.out]; rfl,(Below.refl w.heap.size w).drew.trans az⟩
end Go.Proofs.YtplgdpjbkdagfaaGreat
