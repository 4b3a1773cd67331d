import Derived.Test.YtplgdpjbkdagfaaGreatRefPut
import Derived.Test.YtplgdpjbkdagfaaGreatZOwnT
import Derived.Deep.Cut
namespace Go.Proofs.YtplgdpjbkdagfaaGreat
set_option maxHeartbeats 8000000
open Lib renaming hid→Zg
open Go.ChangeShapes Go.WideShapes Go.ChangeAt Go.RowKit
set_option linter.unusedVariables false
set_option linter.unusedSimpArgs false
set_option maxRecDepth 100000
def ovF (m fb:Nat->Int) (r K N:Nat) (q:Nat):Int:=if r<=q/\q<r+K/\q<N then fb (q - r) else m q
theorem Zhc (m fb:Nat->Int) (r K N k:Nat) (h:r<N) (hk:k=min K (N - r)) :
 ZB m 0 r++ZB fb 0 k++ZB m (r+k) (N - (r+k))=ZB (ovF m fb r K N) 0 N:=by
 rw[ZA (f:=m) (f':=ovF m fb r K N) (o:=0) (o':=0) (n:=r) (fun i hi=>by unfold ovF; rw[if_neg (by omega)]),
  ZA (f:=fb) (f':=ovF m fb r K N) (o:=0) (o':=0+r) (n:=k) (fun i hi=>by unfold ovF; rw[if_pos (by omega)]; congr 1; omega),
  XY,ZA (f:=m) (f':=ovF m fb r K N) (o:=r+k) (o':=0+(r+k)) (n:=N - (r+k)) (fun i hi=>by rw[Nat.zero_add]; unfold ovF; rw[if_neg (by omega)]),
  XY]
 congr 1
 omega
theorem Vm (f:Nat->Int) (o n a b:Nat) (h:a<=b) (hb:b<=n):(ZB f o n).extract a b=ZB f (o+a) (b - a):=by
 unfold ZB;apply ByteArray.ext;apply Array.ext';rw[ByteArray.data_extract,Array.toList_extract,strOfNums_data,strOfNums_data];simp only[List.extract_eq_take_drop,<-List.map_drop,<-List.map_take];refine congrArg _ ?_;apply List.ext_getElem
 ·simp; omega
 ·intro i h1 h2;simp[Nat.add_assoc]
theorem Zcz (N K r:Nat) (m fb:Nat->Int) (w:World) (hN:N<=1000000) (hK:K<=1000000) (hr:r<=4294967296) :
 Calls Tryz.prog 90 #[.string (ZB m 0 N),.int .i64 r,.string (ZB fb 0 K)] w fun e u=>e= .returned (.string (ZB (ovF m fb r K N) 0 N))/\Below w.heap.size w u:=by
 have d0: ¬ (r:Int)<0:=by omega
 have sN:=Zr m 0 N;have sK:=Zr fb 0 K;by_cases h:r<N
 ·obtain⟨k,hk⟩: ∃ k,k=min K (N - r):=⟨_,rfl⟩;have HT:=Zg (Zhc m fb r K N k h hk);have cu:=Zg (Vm m 0 N 0 r (by omega) (by omega));have eS:=Zg (Vm fb 0 K 0 k (by omega) (by omega));have jC:=Zg (Vm m 0 N (r+k) N (by omega) (by omega));have d1: ¬ (N:Int)<=(r:Int):=by omega
  have RA:(r:Int)<=(N:Int):=by omega
  have w1:IntKind.i64.wrap ((N:Int) - (r:Int))=((N - r:Nat):Int):=by rw[IntKind.wrap_i64]; omega
  have w2:IntKind.i64.wrap ((r:Int)+(k:Int))=((r+k:Nat):Int):=by rw[IntKind.wrap_i64]; omega
  have hm:(if N - r<K then((N - r:Nat):Int) else(K:Int))=(k:Int):=by split <;> omega
  have yj:(k:Int).toNat=k:=Int.toNat_natCast k;have d2:(k:Int)<=(K:Int):=by omega
  have d3:(0:Int)<=(k:Int):=by omega
  have d4:((r+k:Nat):Int)<=(N:Int):=by omega
  have d5:(0:Int)<=((r+k:Nat):Int):=by omega
  have HG:=Zg (show(ZB m 0 N).extract 0 r++(ZB fb 0 K).extract 0 k++(ZB m 0 N).extract (r+k) N=ZB (ovF m fb r K N) 0 N from by
   rw[cu.out,eS.out,jC.out]; simp only[Nat.zero_add,Nat.sub_zero]; exact HT.out)
  have dL:=Zg (show((ZB m 0 N).extract 0 r).size=r from by rw[cu.out,Zr]; omega);have jA:=Zg (show((ZB fb 0 K).extract 0 k).size=k from by rw[eS.out,Zr]; omega);have eX:=Zg (show((ZB m 0 N).extract (r+k) N).size<=N from by rw[jC.out,Zr]; omega);have RB:k<=K/\k<=N - r:=by omega
  clear cu eS jC HT hk;generalize ZB m 0 N=S at *;generalize ZB fb 0 K=T at *;go_enter Tryz.func90,Tryz.ntmps90;go_upto_region 4 with(fail)
  have RD:=jA.out;have a1:=fun(W:World)=>run_string_add_sum (P:=Tryz.prog) W (S.extract 0 r) (T.extract 0 k) (by rw[dL.out,jA.out]; omega);have a2:=fun(W:World)=>run_string_add_sum (P:=Tryz.prog) W (S.extract 0 r++T.extract 0 k) (S.extract (r+k) N) (by rw[ByteArray.size_append,dL.out,jA.out]; have:=eX.out; omega);have RE:((r+k:Nat):Int).toNat=r+k:=Int.toNat_natCast _;have RF:((r:Int)+(k:Int)).toNat=r+k:=by omega
  have d6:(0:Int)<=(r:Int)+(k:Int):=by omega
  have d7:(r:Int)+(k:Int)<=(N:Int):=by omega
  have RG:(r:Int).toNat=r:=Int.toNat_natCast _;have HS:=Zg (show Below w.heap.size w w.drew from(Below.refl _ _).drew);refine wp_region_noPanic ?_;refine Zt (fun W=>Below w.heap.size w W) (fun _=>True) 99 (by kernel_rfl) ?_;refine wU (i:=0) HS.out ?_;refine wU (i:=1) HS.out ?_;refine wU (i:=2) HS.out ?_;refine wU (i:=3) HS.out ?_;refine wU (i:=4) HS.out ?_;refine wU (i:=5) HS.out ?_;refine wU (i:=6) HS.out ?_;refine wU (i:=7) HS.out ?_;refine wU (i:=8) HS.out ?_;refine wU (i:=9) HS.out ?_;refine wU (i:=10) HS.out ?_;refine wU (i:=11) HS.out ?_;refine wU (i:=12) HS.out ?_;refine Zo (by kernel_rfl) ?_ _;refine NoPanic.normal ?_;go_wp2_with fail
  go_ret;exact⟨by rw[<-HG.out]; rfl,HS.out⟩
 ·have hq:ZB (ovF m fb r K N) 0 N=ZB m 0 N:=ZA fun i hi=>by unfold ovF; rw[if_neg (by omega)]
  rw[hq];clear hq;have d1:(N:Int)<=(r:Int):=by omega
  generalize ZB m 0 N=S at *;generalize ZB fb 0 K=T at *;go_enter Tryz.func90,Tryz.ntmps90;go_wp2
  go_ret;exact⟨rfl,Below.refl _ _⟩
theorem Uh (w:World) (n:Nat):(convert 25 9 (.slice (some ⟨w.heap.size,0,none⟩) n n)).run Tryz.prog (w.alloc (.cells (madeCells #[.int .u8 0] n) 5))= .ok (.string (ZB (fun _=>0) 0 n)) (w.alloc (.cells (madeCells #[.int .u8 0] n) 5)) :=
 YL (cap:=n) (fun i hi=>by
  rw[Nat.zero_add];exact World.rowIs.cell (World.rowIs_made w (.int .u8 0) n 5) hi)
def UU (nb k n:Nat):Nat:=if k<nb/\1<=n then min n (nb - k) else 0
theorem Zc0 (nb k n:Nat) (F:Nat->Int) (w:World) (hN:nb<=1000000) (hk:k<=4294967296) (hn:n<=4294967296) :
 Calls Tryz.prog 91 #[.string (ZB F 0 nb),.int .i64 k,.int .i64 n] w fun e u=>e= .returned (.string (ZB (fun q=>F (k+q)) 0 (UU nb k n)))/\w=u:=by
 have d0: ¬ (k:Int)<0:=by omega
 have sN:=Zr F 0 nb;unfold UU;by_cases h:k<nb
 ·by_cases h1:1<=n
  ·rw[if_pos ⟨h,h1⟩];obtain⟨m,hm⟩: ∃ m,m=min n (nb - k):=⟨_,rfl⟩;rw[<-hm];have HE:=Zg (show(ZB F 0 nb).extract k (k+m)=ZB (fun q=>F (k+q)) 0 m from by
    rw[Vm F 0 nb k (k+m) (by omega) (by omega),show k+m - k=m by omega,Nat.zero_add];exact ZA fun i hi=>by simp)
   have d1: ¬ (nb:Int)<=(k:Int):=by omega
   have d2: ¬ (n:Int)<1:=by omega
   have w1:IntKind.i64.wrap ((nb:Int) - (k:Int))=((nb - k:Nat):Int):=by rw[IntKind.wrap_i64]; omega
   have RH:(if nb - k<n then((nb - k:Nat):Int) else(n:Int))=(m:Int):=by split <;> omega
   have w2:IntKind.i64.wrap ((k:Int)+(m:Int))=(k:Int)+(m:Int):=by rw[IntKind.wrap_i64]; omega
   have e1:((k:Int)+(m:Int)).toNat=k+m:=by omega
   have d6:(0:Int)<=(k:Int)+(m:Int):=by omega
   have d7:(k:Int)+(m:Int)<=(nb:Int):=by omega
   have d8:(k:Int)<=(k:Int)+(m:Int):=by omega
   have ek:(k:Int).toNat=k:=Int.toNat_natCast k;clear hm;generalize ZB F 0 nb=S at *;go_enter Tryz.func91,Tryz.ntmps91;go_wp2
   skip
   go_ret;exact⟨by rw[<-HE.out]; rfl,rfl⟩
  ·rw[if_neg (by omega)];have d1: ¬ (nb:Int)<=(k:Int):=by omega
   have d2:(n:Int)<1:=by omega
   generalize ZB F 0 nb=S at *;go_enter Tryz.func91,Tryz.ntmps91;go_wp2
   go_ret;exact⟨rfl,rfl⟩
 ·rw[if_neg (by omega)];have d1:(nb:Int)<=(k:Int):=by omega
  generalize ZB F 0 nb=S at *;go_enter Tryz.func91,Tryz.ntmps91;go_wp2
  go_ret;exact⟨rfl,rfl⟩
end Go.Proofs.YtplgdpjbkdagfaaGreat
