import Derived.Test.YtplgdpjbkdagfaaGreatZPMap
import Derived.Test.YtplgdpjbkdagfaaGreatZAwake1
import Derived.Test.YtplgdpjbkdagfaaGreatZMd
import Derived.Test.YtplgdpjbkdagfaaGreatZHdrD
import Derived.Deep.RegionHeld3
import Derived.Test.YtplgdpjbkdagfaaGreatRefPut
namespace Go.Proofs.YtplgdpjbkdagfaaGreat
set_option maxHeartbeats 8000000
open Lib renaming hid→Zg
open Go.ChangeShapes Go.WideShapes Go.ChangeAt Go.RowKit
set_option linter.unusedVariables false
set_option linter.unusedSimpArgs false
set_option maxRecDepth 100000
theorem Zdk (A:Option Addr) (n cap k:Nat) (hn:n<=262144) (hk:k<=100) (W:World):Calls Tryz.prog 113 #[.slice A n cap,.int .i64 1048576,.int .i64 k] W fun e w'=>e= .returned (.bool false)/\W=w' :=
 ZV A n cap 1048576 k false W (by omega) (by omega) (by omega) ⟨(fun h=>by cases h),(fun h=>by omega)⟩
theorem Us (A:Option Addr) (n cap k:Nat) (hn:n<=262144) (hk:k<=100) (w:World):Calls Tryz.prog 118 #[.slice A n cap,.int .i64 1048576,.int .i64 k] w fun e w'=>e= .returned (.bool false)/\w=w':=by
 have ax:=Zg (fun W=>Zdk A n cap k hn hk W);go_enter Tryz.func118,Tryz.ntmps118;go_wp2_with (first|(refine(ax.out _).mono ?_; rintro e w' ⟨rfl,rfl⟩)|fail)
 go_ret;exact⟨rfl,rfl⟩
theorem relZ (A:Option Addr) (n cap:Nat) (sz:Int) (w:World):Calls Tryz.prog 81 #[.slice A n cap,.agg #[.int .i64 0,.int .i64 sz]] w fun e u=>e= .returned (.tuple #[.slice none 0 0,.int .i64 0])/\Below w.heap.size w u:=by
 have au:=Zg ((Below.refl w.heap.size w).alloc (Nat.le_refl _) (.cells #[.int .i64 0,.int .i64 sz] 37));go_enter Tryz.func81,Tryz.ntmps81;go_wp2_with fail
 go_ret2;exact⟨rfl,au.out⟩
theorem bndZ (A:Option Addr) (n cap:Nat) (sz:Int) (w:World):Calls Tryz.prog 83 #[.slice A n cap,.agg #[.int .i64 0,.int .i64 sz]] w fun e u=>e= .returned (.tuple #[.slice none 0 0,.int .i64 0])/\Below w.heap.size w u:=by
 have au:=Zg ((Below.refl w.heap.size w).alloc (Nat.le_refl _) (.cells #[.int .i64 0,.int .i64 sz] 37));go_enter Tryz.func83,Tryz.ntmps83;go_wp2_with fail
 go_ret2;exact⟨rfl,au.out⟩
theorem expZ (A:Option Addr) (n cap:Nat) (sz:Int) (w:World):Calls Tryz.prog 79 #[.slice A n cap,.agg #[.int .i64 0,.int .i64 sz]] w fun e w'=>e= .returned (.tuple #[.agg #[.int .i64 0,.slice none 0 0,.slice none 0 0],.int .i64 0])/\Below w.heap.size w w':=by
 have au:=Zg (((Below.refl w.heap.size w).alloc (Nat.le_refl _) (.cells #[.int .i64 0,.int .i64 sz] 37)).alloc (by simp) (.cells #[.int .i64 0,.slice none 0 0,.slice none 0 0] 45));have bq:=Zg (heap_alloc_new (w.alloc (.cells #[.int .i64 0,.int .i64 sz] 37)) (.cells #[.int .i64 0,.slice none 0 0,.slice none 0 0] 45));have pq:=Zg (show(w.alloc (.cells #[.int .i64 0,.int .i64 sz] 37)).heap.size=w.heap.size+1 by simp);rw[pq.out] at bq;go_enter Tryz.func79,Tryz.ntmps79;go_wp2_with (refine wpList_store_row rfl 45 _ _ rfl (w.heap.size+1) #[.int .i64 0,.slice none 0 0,.slice none 0 0] rfl rfl 45 _ bq.out rfl rfl (by simp[Value.oneCell']) ?_)
 exact bodyPost_ret (v:= .tuple #[.agg #[.int .i64 0,.slice none 0 0,.slice none 0 0],.int .i64 0]) (Zj rfl _ _ (w.heap.size+1) 45 _ (0,0) _ _ rfl rfl (setRow_heap _ _ _ _ _ _ bq.out) rfl rfl rfl) rfl ⟨rfl,below_setRow au.out (by omega) _⟩
theorem tlsZ (A:Option Addr) (n cap:Nat) (sz:Int) (b:Int) (w:World):Calls Tryz.prog 82 #[.slice A n cap,.agg #[.int .i64 0,.int .i64 sz],.int .u64 b] w fun e w'=>e= .returned (.tuple #[.agg #[.bool false,.int .i64 0,.slice none 0 0],.int .i64 0])/\Below w.heap.size w w':=by
 have au:=Zg (((Below.refl w.heap.size w).alloc (Nat.le_refl _) (.cells #[.int .i64 0,.int .i64 sz] 37)).alloc (by simp) (.cells #[.bool false,.int .i64 0,.slice none 0 0] 48));have bq:=Zg (heap_alloc_new (w.alloc (.cells #[.int .i64 0,.int .i64 sz] 37)) (.cells #[.bool false,.int .i64 0,.slice none 0 0] 48));have pq:=Zg (show(w.alloc (.cells #[.int .i64 0,.int .i64 sz] 37)).heap.size=w.heap.size+1 by simp);rw[pq.out] at bq;go_enter Tryz.func82,Tryz.ntmps82;go_wp2_with (refine wpList_store_row rfl 48 _ _ rfl (w.heap.size+1) #[.bool false,.int .i64 0,.slice none 0 0] rfl rfl 48 _ bq.out rfl rfl (by simp[Value.oneCell']) ?_)
 exact bodyPost_ret (v:= .tuple #[.agg #[.bool false,.int .i64 0,.slice none 0 0],.int .i64 0]) (Zj rfl _ _ (w.heap.size+1) 48 _ (0,0) _ _ rfl rfl (setRow_heap _ _ _ _ _ _ bq.out) rfl rfl rfl) rfl ⟨rfl,below_setRow au.out (by omega) _⟩
theorem relF (A:Option Addr) (n cap:Nat) (hn:n<=262144) (w:World):Calls Tryz.prog 81 #[.slice A n cap,.agg #[.int .i64 1048576,.int .i64 64]] w fun e u=>e= .returned (.tuple #[.slice none 0 0,.int .i64 9])/\Below w.heap.size w u:=by
 have au:=Zg ((Below.refl w.heap.size w).alloc (Nat.le_refl _) (.cells #[.int .i64 1048576,.int .i64 64] 37));have ax:=Zg (fun W=>Zdk A n cap 64 hn (by omega) W);go_enter Tryz.func81,Tryz.ntmps81;go_wp2_with (first|(refine(ax.out _).mono ?_; rintro e w' ⟨rfl,rfl⟩)|fail)
 go_ret2;exact⟨rfl,au.out⟩
theorem bndF (A:Option Addr) (n cap:Nat) (hn:n<=262144) (w:World):Calls Tryz.prog 83 #[.slice A n cap,.agg #[.int .i64 1048576,.int .i64 64]] w fun e u=>e= .returned (.tuple #[.slice none 0 0,.int .i64 8])/\Below w.heap.size w u:=by
 have az:Below w.heap.size w ((w.alloc (.cells #[.int .i64 1048576,.int .i64 64] 37)).alloc (.cells #[] 80)):=((Below.refl w.heap.size w).alloc (Nat.le_refl _) _).alloc (by simp) _;have av:=Zg az;have ax:=Zg (fun W=>Zdk A n cap 8 hn (by omega) W);have fh:=Zg (fun W=>Us A n cap 8 hn (by omega) W);clear az;go_enter Tryz.func83,Tryz.ntmps83;go_wp2_with fail
 generalize (w.alloc (.cells #[.int .i64 1048576,.int .i64 64] 37)).alloc (.cells #[] 80)=w1 at *;go_loopw [7,8] (fun v7 v8 wr=>v8= .int .i64 1048576/\v7= .int .i64 0/\Below w.heap.size w wr) (fun _ v8 _=>0)
 case atStart=>exact⟨rfl,rfl,av.out⟩
 case round =>
  obtain⟨rfl,rfl,hb⟩:=hrel;have HB:=Zg hb;clear hb;go_wp2_with (first|(refine(ax.out _).mono ?_; rintro e w' ⟨rfl,rfl⟩)|(refine(fh.out _).mono ?_; rintro e w' ⟨rfl,rfl⟩)|fail)
  go_ret2;exact⟨rfl,HB.out⟩
theorem imp (A:Option Addr) (n cap:Nat) (hn:n<=262144) (w:World):Calls Tryz.prog 111 #[.slice A n cap,.agg #[.int .i64 1048576,.int .i64 64],.int .i64 20,.func (.func 112) #[] #[]] w fun e u=>e= .returned (.tuple #[.slice none 0 0,.int .i64 10])/\Below w.heap.size w u:=by
 have az:Below w.heap.size w ((w.alloc (.cells #[.int .i64 1048576,.int .i64 64] 37)).alloc (.cells #[] 78)):=((Below.refl w.heap.size w).alloc (Nat.le_refl _) _).alloc (by simp) _;have av:=Zg az;have ax:=Zg (fun W=>Zdk A n cap 20 hn (by omega) W);have fh:=Zg (fun W=>Us A n cap 20 hn (by omega) W);clear az;go_enter Tryz.func111,Tryz.ntmps111;go_wp2_with fail
 generalize (w.alloc (.cells #[.int .i64 1048576,.int .i64 64] 37)).alloc (.cells #[] 78)=w1 at *;go_loopw [11] (fun v11 wr=>v11= .int .i64 1048576/\Below w.heap.size w wr) (fun _ _=>0)
 case atStart=>exact⟨rfl,av.out⟩
 case round =>
  obtain⟨rfl,hb⟩:=hrel;have HB:=Zg hb;clear hb;go_wp2_with (first|(refine(ax.out _).mono ?_; rintro e w' ⟨rfl,rfl⟩)|(refine(fh.out _).mono ?_; rintro e w' ⟨rfl,rfl⟩)|fail)
  go_ret2;exact⟨rfl,HB.out⟩
theorem imzp (A:Option Addr) (n cap:Nat) (sz:Int) (w:World):Calls Tryz.prog 111 #[.slice A n cap,.agg #[.int .i64 0,.int .i64 sz],.int .i64 20,.func (.func 112) #[] #[]] w fun e u=>e= .returned (.tuple #[.slice none 0 0,.int .i64 0])/\Below w.heap.size w u:=by
 have au:=Zg ((Below.refl w.heap.size w).alloc (Nat.le_refl _) (.cells #[.int .i64 0,.int .i64 sz] 37));go_enter Tryz.func111,Tryz.ntmps111;go_wp2_with fail
 go_ret2;exact⟨rfl,au.out⟩
theorem imF (A:Option Addr) (n cap:Nat) (hn:n<=262144) (w:World):Calls Tryz.prog 80 #[.slice A n cap,.agg #[.int .i64 1048576,.int .i64 64]] w fun e u=>e= .returned (.tuple #[.slice none 0 0,.int .i64 10])/\Below w.heap.size w u:=by
 have au:=Zg ((Below.refl w.heap.size w).alloc (Nat.le_refl _) (.cells #[.int .i64 1048576,.int .i64 64] 37));have HP:=Zg (fun W=>imp A n cap hn W);go_enter Tryz.func80,Tryz.ntmps80;go_wp2_with fail
 refine(HP.out _).mono ?_;rintro e w2 ⟨rfl,hb⟩;have aj:=Zg (au.out.trans (hb.mono au.out.size));clear hb;go_wp2_with fail
 go_ret2;exact⟨rfl,aj.out⟩
theorem imZ (A:Option Addr) (n cap:Nat) (sz:Int) (w:World):Calls Tryz.prog 80 #[.slice A n cap,.agg #[.int .i64 0,.int .i64 sz]] w fun e u=>e= .returned (.tuple #[.slice none 0 0,.int .i64 0])/\Below w.heap.size w u:=by
 have au:=Zg ((Below.refl w.heap.size w).alloc (Nat.le_refl _) (.cells #[.int .i64 0,.int .i64 sz] 37));have HP:=Zg (fun W=>imzp A n cap sz W);go_enter Tryz.func80,Tryz.ntmps80;go_wp2_with fail
 refine(HP.out _).mono ?_;rintro e w2 ⟨rfl,hb⟩;have aj:=Zg (au.out.trans (hb.mono au.out.size));clear hb;go_wp2_with fail
 go_ret2;exact⟨rfl,aj.out⟩
theorem dep (A:Option Addr) (n cap:Nat) (hn:n<=262144) (w:World):Calls Tryz.prog 111 #[.slice A n cap,.agg #[.int .i64 1048576,.int .i64 64],.int .i64 32,.func (.func 120) #[] #[]] w fun e u=>e= .returned (.tuple #[.slice none 0 0,.int .i64 10])/\Below w.heap.size w u:=by
 have az:Below w.heap.size w ((w.alloc (.cells #[.int .i64 1048576,.int .i64 64] 37)).alloc (.cells #[] 78)):=((Below.refl w.heap.size w).alloc (Nat.le_refl _) _).alloc (by simp) _;have av:=Zg az;have ax:=Zg (fun W=>Zdk A n cap 32 hn (by omega) W);have fh:=Zg (fun W=>Us A n cap 32 hn (by omega) W);clear az;go_enter Tryz.func111,Tryz.ntmps111;go_wp2_with fail
 generalize (w.alloc (.cells #[.int .i64 1048576,.int .i64 64] 37)).alloc (.cells #[] 78)=w1 at *;go_loopw [11] (fun v11 wr=>v11= .int .i64 1048576/\Below w.heap.size w wr) (fun _ _=>0)
 case atStart=>exact⟨rfl,av.out⟩
 case round =>
  obtain⟨rfl,hb⟩:=hrel;have HB:=Zg hb;clear hb;go_wp2_with (first|(refine(ax.out _).mono ?_; rintro e w' ⟨rfl,rfl⟩)|(refine(fh.out _).mono ?_; rintro e w' ⟨rfl,rfl⟩)|fail)
  go_ret2;exact⟨rfl,HB.out⟩
theorem dezp (A:Option Addr) (n cap:Nat) (sz:Int) (w:World):Calls Tryz.prog 111 #[.slice A n cap,.agg #[.int .i64 0,.int .i64 sz],.int .i64 32,.func (.func 120) #[] #[]] w fun e u=>e= .returned (.tuple #[.slice none 0 0,.int .i64 0])/\Below w.heap.size w u:=by
 have au:=Zg ((Below.refl w.heap.size w).alloc (Nat.le_refl _) (.cells #[.int .i64 0,.int .i64 sz] 37));go_enter Tryz.func111,Tryz.ntmps111;go_wp2_with fail
 go_ret2;exact⟨rfl,au.out⟩
theorem deF (A:Option Addr) (n cap:Nat) (hn:n<=262144) (w:World):Calls Tryz.prog 84 #[.slice A n cap,.agg #[.int .i64 1048576,.int .i64 64]] w fun e u=>e= .returned (.tuple #[.slice none 0 0,.int .i64 10])/\Below w.heap.size w u:=by
 have au:=Zg ((Below.refl w.heap.size w).alloc (Nat.le_refl _) (.cells #[.int .i64 1048576,.int .i64 64] 37));have HP:=Zg (fun W=>dep A n cap hn W);go_enter Tryz.func84,Tryz.ntmps84;go_wp2_with fail
 refine(HP.out _).mono ?_;rintro e w2 ⟨rfl,hb⟩;have aj:=Zg (au.out.trans (hb.mono au.out.size));clear hb;go_wp2_with fail
 go_ret2;exact⟨rfl,aj.out⟩
theorem deZ (A:Option Addr) (n cap:Nat) (sz:Int) (w:World):Calls Tryz.prog 84 #[.slice A n cap,.agg #[.int .i64 0,.int .i64 sz]] w fun e u=>e= .returned (.tuple #[.slice none 0 0,.int .i64 0])/\Below w.heap.size w u:=by
 have au:=Zg ((Below.refl w.heap.size w).alloc (Nat.le_refl _) (.cells #[.int .i64 0,.int .i64 sz] 37));have HP:=Zg (fun W=>dezp A n cap sz W);go_enter Tryz.func84,Tryz.ntmps84;go_wp2_with fail
 refine(HP.out _).mono ?_;rintro e w2 ⟨rfl,hb⟩;have aj:=Zg (au.out.trans (hb.mono au.out.size));clear hb;go_wp2_with fail
 go_ret2;exact⟨rfl,aj.out⟩
theorem tlsF (A:Option Addr) (n cap:Nat) (hn:n<=262144) (b:Int) (w:World):Calls Tryz.prog 82 #[.slice A n cap,.agg #[.int .i64 1048576,.int .i64 64],.int .u64 b] w fun e w'=>e= .returned (.tuple #[.agg #[.bool false,.int .i64 0,.slice none 0 0],.int .i64 12])/\Below w.heap.size w w':=by
 have au:=Zg (((Below.refl w.heap.size w).alloc (Nat.le_refl _) (.cells #[.int .i64 1048576,.int .i64 64] 37)).alloc (by simp) (.cells #[.bool false,.int .i64 0,.slice none 0 0] 48));have bq:=Zg (heap_alloc_new (w.alloc (.cells #[.int .i64 1048576,.int .i64 64] 37)) (.cells #[.bool false,.int .i64 0,.slice none 0 0] 48));have pq:=Zg (show(w.alloc (.cells #[.int .i64 1048576,.int .i64 64] 37)).heap.size=w.heap.size+1 by simp);rw[pq.out] at bq;have ax:=Zg (fun W=>Zdk A n cap 40 hn (by omega) W);go_enter Tryz.func82,Tryz.ntmps82;go_wp2_with (first|(refine(ax.out _).mono ?_; rintro e w' ⟨rfl,rfl⟩)|(refine wpList_store_row rfl 48 _ _ rfl (w.heap.size+1) #[.bool false,.int .i64 0,.slice none 0 0] rfl rfl 48 _ bq.out rfl rfl (by simp[Value.oneCell']) ?_))
 exact bodyPost_ret (v:= .tuple #[.agg #[.bool false,.int .i64 0,.slice none 0 0],.int .i64 12]) (Zj rfl _ _ (w.heap.size+1) 48 _ (0,0) _ _ rfl rfl (setRow_heap _ _ _ _ _ _ bq.out) rfl rfl rfl) rfl ⟨rfl,below_setRow au.out (by omega) _⟩
theorem findF (A:Option Addr) (n cap:Nat) (hn:n<=262144) (w:World):Calls Tryz.prog 108 #[.slice A n cap,.agg #[.int .i64 1048576,.int .i64 64]] w fun e w'=>e= .returned (.tuple #[.agg #[.int .i64 0,.int .i64 0,.int .i64 0,.int .i64 0,.int .i64 0,.int .i64 0],.bool false])/\Below w.heap.size w w':=by
 have au:=Zg (((Below.refl w.heap.size w).alloc (Nat.le_refl _) (.cells #[.int .i64 1048576,.int .i64 64] 37)).alloc (by simp) (.cells #[.int .i64 0,.int .i64 0,.int .i64 0,.int .i64 0,.int .i64 0,.int .i64 0] 187));have bq:=Zg (heap_alloc_new (w.alloc (.cells #[.int .i64 1048576,.int .i64 64] 37)) (.cells #[.int .i64 0,.int .i64 0,.int .i64 0,.int .i64 0,.int .i64 0,.int .i64 0] 187));have pq:=Zg (show(w.alloc (.cells #[.int .i64 1048576,.int .i64 64] 37)).heap.size=w.heap.size+1 by simp);rw[pq.out] at bq;have ax:=Zg (fun W=>Zdk A n cap 64 hn (by omega) W);go_enter Tryz.func108,Tryz.ntmps108;go_wp2_with (first|(refine(ax.out _).mono ?_; rintro e w' ⟨rfl,rfl⟩)|(refine wpList_store_row rfl 187 _ _ rfl (w.heap.size+1) #[.int .i64 0,.int .i64 0,.int .i64 0,.int .i64 0,.int .i64 0,.int .i64 0] rfl rfl 187 _ bq.out rfl rfl (by simp[Value.oneCell']) ?_))
 exact bodyPost_ret (v:= .tuple #[.agg #[.int .i64 0,.int .i64 0,.int .i64 0,.int .i64 0,.int .i64 0,.int .i64 0],.bool false]) (Zj rfl _ _ (w.heap.size+1) 187 _ (0,0) _ _ rfl rfl (setRow_heap _ _ _ _ _ _ bq.out) rfl rfl rfl) rfl ⟨rfl,below_setRow au.out (by omega) _⟩
theorem expF (A:Option Addr) (n cap:Nat) (hn:n<=262144) (w:World):Calls Tryz.prog 79 #[.slice A n cap,.agg #[.int .i64 1048576,.int .i64 64]] w fun e w'=>e= .returned (.tuple #[.agg #[.int .i64 0,.slice none 0 0,.slice none 0 0],.int .i64 11])/\Below w.heap.size w w':=by
 have au:=Zg (((Below.refl w.heap.size w).alloc (Nat.le_refl _) (.cells #[.int .i64 1048576,.int .i64 64] 37)).alloc (by simp) (.cells #[.int .i64 0,.slice none 0 0,.slice none 0 0] 45));have bq:=Zg (heap_alloc_new (w.alloc (.cells #[.int .i64 1048576,.int .i64 64] 37)) (.cells #[.int .i64 0,.slice none 0 0,.slice none 0 0] 45));have pq:=Zg (show(w.alloc (.cells #[.int .i64 1048576,.int .i64 64] 37)).heap.size=w.heap.size+1 by simp);rw[pq.out] at bq;have HF:=Zg (fun W=>findF A n cap hn W);go_enter Tryz.func79,Tryz.ntmps79;go_wp2_with fail
 generalize (w.alloc (.cells #[.int .i64 1048576,.int .i64 64] 37)).alloc (.cells #[.int .i64 0,.slice none 0 0,.slice none 0 0] 45)=w1 at *;refine(HF.out _).mono ?_;rintro e w2 ⟨rfl,hb⟩;have af:w.heap.size+1<w1.heap.size:=(Array.getElem?_eq_some_iff.1 bq.out).1;have jA:=Zg ((hb.block (w.heap.size+1) af).trans bq.out);have aj:=Zg (au.out.trans (hb.mono au.out.size));have bM:=Zg (show w.heap.size+1<w2.heap.size by have:=hb.size; omega);clear hb af au bq;have eX:=Zg (show((w2.alloc (.cells #[.int .i64 0,.int .i64 0,.int .i64 0,.int .i64 0,.int .i64 0,.int .i64 0] 187)).setRow w2.heap.size #[.int .i64 0,.int .i64 0,.int .i64 0,.int .i64 0,.int .i64 0,.int .i64 0]).heap[w.heap.size+1]? =some (.cells #[.int .i64 0,.slice none 0 0,.slice none 0 0] 45 (0,0)) from(setRow_other _ w2.heap.size (w.heap.size+1) _ (by have:=bM.out; omega)).trans ((((Below.refl w2.heap.size w2).alloc (Nat.le_refl _) _).block _ bM.out).trans jA.out));have aN:=Zg (show Below w.heap.size w ((w2.alloc (.cells #[.int .i64 0,.int .i64 0,.int .i64 0,.int .i64 0,.int .i64 0,.int .i64 0] 187)).setRow w2.heap.size #[.int .i64 0,.int .i64 0,.int .i64 0,.int .i64 0,.int .i64 0,.int .i64 0]) from below_setRow (aj.out.alloc aj.out.size _) aj.out.size _);clear jA aj;go_wp2_with (first
  | (refine wpList_store_row rfl 187 (.tmp 6) (.tmp 18) rfl w2.heap.size #[.int .i64 0,.int .i64 0,.int .i64 0,.int .i64 0,.int .i64 0,.int .i64 0] rfl rfl 187 #[.int .i64 0,.int .i64 0,.int .i64 0,.int .i64 0,.int .i64 0,.int .i64 0] (heap_alloc_new _ _) rfl rfl (by simp[Value.oneCell']) ?_; generalize ((w2.alloc (.cells #[.int .i64 0,.int .i64 0,.int .i64 0,.int .i64 0,.int .i64 0,.int .i64 0] 187)).setRow w2.heap.size #[.int .i64 0,.int .i64 0,.int .i64 0,.int .i64 0,.int .i64 0,.int .i64 0])=w3 at *)
  | (refine wpList_store_row rfl 45 (.tmp 4) (.tmp 22) rfl (w.heap.size+1) #[.int .i64 0,.slice none 0 0,.slice none 0 0] rfl rfl 45 _ eX.out rfl rfl (by simp[Value.oneCell']) ?_))
 exact bodyPost_ret (v:= .tuple #[.agg #[.int .i64 0,.slice none 0 0,.slice none 0 0],.int .i64 11]) (Zj rfl _ _ (w.heap.size+1) 45 _ (0,0) _ _ rfl rfl (setRow_heap _ _ _ _ _ _ eX.out) rfl rfl rfl) rfl ⟨rfl,below_setRow aN.out (by omega) _⟩
def rvB (b:Bool):Int:=if b then 1048576 else 0
def szB (b:Bool):Int:=if b then 64 else 0
def erB (b:Bool) (e:Int):Int:=if b then e else 0
def Zbr (_:Nat) (v:Value) (_:World):Prop:=v= .slice none 0 0
def Zm2 (_:Nat) (a b c:Value) (_:World):Prop:=a= .int .i64 0/\b= .slice none 0 0/\c= .slice none 0 0
def Zm3 (_:Nat) (a b c:Value) (_:World):Prop:=a= .bool false/\b= .int .i64 0/\c= .slice none 0 0
theorem Jd {w:World} {N:Nat} {IM:Nat->Int} {fn:Nat} (er:Int) (b:Bool)
 (hz: ∀(A:Option Addr) (n cap:Nat) (sz:Int) (w:World),Calls Tryz.prog fn #[.slice A n cap,.agg #[.int .i64 0,.int .i64 sz]] w fun e u=>e= .returned (.tuple #[.slice none 0 0,.int .i64 0])/\Below w.heap.size w u)
 (hf: ∀(A:Option Addr) (n cap:Nat) (hn:n<=262144) (w:World),Calls Tryz.prog fn #[.slice A n cap,.agg #[.int .i64 1048576,.int .i64 64]] w fun e u=>e= .returned (.tuple #[.slice none 0 0,.int .i64 er])/\Below w.heap.size w u)
 (hN:N<=262144):VX w N IM fn [.agg #[.int .i64 (rvB b),.int .i64 (szB b)]] (erB b er) Zbr:=fun W gi P ho hb hp hn W2 hk hs=>by
 cases b with
 | false=>exact(hz _ N N _ W2).mono (by rintro e u ⟨rfl,hb⟩; exact⟨_,rfl,rfl,hb,ZE.const (fun _=>rfl)⟩)
 | true=>exact(hf _ N N hN W2).mono (by rintro e u ⟨rfl,hb⟩; exact⟨_,rfl,rfl,hb,ZE.const (fun _=>rfl)⟩)
theorem readE {w:World} {N:Nat} {IM:Nat->Int} (hN:N<=262144) (b:Bool):Qy w N IM 79 [.agg #[.int .i64 (rvB b),.int .i64 (szB b)]] (erB b 11) Zm2:=fun W gi P ho hb hp hn W2 hk hs=>by
 cases b with
 | false=>exact(expZ _ N N _ W2).mono (by rintro e u ⟨rfl,hb⟩; exact⟨_,_,_,rfl,⟨rfl,rfl,rfl⟩,hb,ZE.const (fun _=>⟨rfl,rfl,rfl⟩)⟩)
 | true=>exact(expF _ N N hN W2).mono (by rintro e u ⟨rfl,hb⟩; exact⟨_,_,_,rfl,⟨rfl,rfl,rfl⟩,hb,ZE.const (fun _=>⟨rfl,rfl,rfl⟩)⟩)
theorem readT {w:World} {N:Nat} {IM:Nat->Int} (hN:N<=262144) (b:Bool) (base:Int):Qy w N IM 82 [.agg #[.int .i64 (rvB b),.int .i64 (szB b)],.int .u64 base] (erB b 12) Zm3:=fun W gi P ho hb hp hn W2 hk hs=>by
 cases b with
 | false=>exact(tlsZ _ N N _ base W2).mono (by rintro e u ⟨rfl,hb⟩; exact⟨_,_,_,rfl,⟨rfl,rfl,rfl⟩,hb,ZE.const (fun _=>⟨rfl,rfl,rfl⟩)⟩)
 | true=>exact(tlsF _ N N hN base W2).mono (by rintro e u ⟨rfl,hb⟩; exact⟨_,_,_,rfl,⟨rfl,rfl,rfl⟩,hb,ZE.const (fun _=>⟨rfl,rfl,rfl⟩)⟩)
theorem Zaf {n:Nat} {f:Nat->Int} (hE:ZI n f=0):XS f (headP n f) (Zw f (headP n f)).base (Zw f (headP n f)).size/\Ys n (headP n f) (Zw f (headP n f)).headers (rdF f (headP n f+6) 2):=by
 unfold ZI at hE;by_cases h0:(Zv n f).2≠0
 ·rw[if_pos h0] at hE; exact absurd hE h0
 rw[if_neg h0] at hE;by_cases h1:Qz f (Zv n f).1.toNat≠0
 ·rw[if_pos h1] at hE; exact absurd hE h1
 rw[if_neg h1] at hE;by_cases h2: ¬ XS f (Zv n f).1.toNat (Zw f (Zv n f).1.toNat).base (Zw f (Zv n f).1.toNat).size
 ·rw[if_pos h2] at hE; exact absurd hE (by decide)
 rw[if_neg h2] at hE;by_cases h3: ¬ Ys n (Zv n f).1.toNat (Zw f (Zv n f).1.toNat).headers (rdF f ((Zv n f).1.toNat+6) 2)
 ·rw[if_pos h3] at hE; exact absurd hE (by decide)
 exact⟨Classical.not_not.1 h2,Classical.not_not.1 h3⟩
def Zld (n:Nat) (f:Nat->Int) (W:World) (cs:Array Value):Prop:= ∃ g,Zg4 W cs (Zw f (headP n f)) g (headK n f) (ZM f (headP n f+264) (headK n f))
theorem Zbs (b off n cap:Nat) (f:Nat->Int) (w:World) (h:Wj w b off n cap f) (hE:ZI n f=0) (N hd:Nat) (hN:(Zw f (headP n f)).size=N) (jj:(Zw f (headP n f)).headers=hd) :
 N<=262144/\HeadK w (.slice (some ⟨b,off,none⟩) n cap) N (Znf N f n hd (ZM f (headP n f+264) (headK n f))) (Zld n f) (fun i=>((Zw f (headP n f)).dirs i).1) (fun i=>((Zw f (headP n f)).dirs i).2) (Zw f (headP n f)).base:=by
 obtain⟨h1,h2⟩:=Zaf hE;have gx:N<=262144:=by have:=h1.2.2.2.2.2.2.2; omega
 have hlen:(ZM f (headP n f+264) (headK n f)).length=headK n f:=by simp[ZM]
 have Dv:headK n f<=16:=by
  have a:=h2.1; have b:=h2.2.1;unfold headK;omega
 refine⟨gx,?_,?_,?_,?_,?_,?_⟩
 ·intro W hb;refine(QS b off n cap f W (h.below hb)).mono ?_;rintro e u ⟨⟨v,rfl,cs,hv,hr⟩,aC⟩;rw[hE] at hv;subst hv;refine⟨⟨cs,rfl,?_⟩,aC⟩;rcases hr with⟨hx,_⟩|⟨_,g,k2,k3,k4⟩
  ·exact absurd hE hx
  ·refine⟨g,by rw[hlen]; exact k2,k3,k4,?_,by rw[hlen]; exact Dv,by rw[jj]; omega,by rw[jj]; have:=h2.2.2.2.1; omega⟩;intro s hs;simp only[ZM,List.mem_map] at hs;obtain⟨j,_,rfl⟩:=hs;exact Uk h.by255 _
 ·rintro u cs ⟨g,x⟩;exact⟨x.hv.size,x.hv.one rfl⟩
 ·rintro u u' cs ⟨g,x⟩ hb;exact⟨g,x.below hb⟩
 ·rintro W cs hb ⟨g,x⟩;exact Zme cs _ g _ _ b off n cap f N hd W x (h.below hb) hN gx jj
 ·rintro u cs ⟨g,x⟩ i hi;exact⟨x.hv.dir0 i hi,x.hv.dir1 i hi⟩
 ·rintro u cs ⟨g,x⟩;exact x.hv.c0
theorem Zdl (b off n cap:Nat) (f:Nat->Int) (w:World) (h:Wj w b off n cap f) (hE:ZI n f=0) (N hd:Nat) (hN:(Zw f (headP n f)).size=N) (jj:(Zw f (headP n f)).headers=hd)
 (S:Nat->Bool) (hS: ∀ i,i<16->i∈[0,1,5,9,11,13]->(Zw f (headP n f)).dirs i=(rvB (S i),szB (S i))) :
 Calls Tryz.prog 11 #[.slice (some ⟨b,off,none⟩) n cap] w fun x u=>Below w.heap.size w u/\Zck w N (Znf N f n hd (ZM f (headP n f+264) (headK n f))) (Zld n f) (ZL (erB (S 0) 11) (erB (S 1) 10) (erB (S 5) 9) (erB (S 9) 12) (erB (S 11) 8) (erB (S 13) 10)) Zm2 Zbr Zbr Zm3 Zbr Zbr x u:=by
 obtain⟨gx,hk⟩:=Zbs b off n cap f w h hE N hd hN jj;refine UL _ N _ _ _ _ _ w hk _ _ _ _ _ _ _ _ _ _ _ _ ?_ ?_ ?_ ?_ ?_ ?_
 ·simp only[hS 0 (by omega) (by decide)]; exact readE gx _
 ·simp only[hS 1 (by omega) (by decide)]; exact Jd 10 _ imZ imF gx
 ·simp only[hS 5 (by omega) (by decide)]; exact Jd 9 _ relZ relF gx
 ·simp only[hS 9 (by omega) (by decide)]; exact readT gx _ _
 ·simp only[hS 11 (by omega) (by decide)]; exact Jd 8 _ bndZ bndF gx
 ·simp only[hS 13 (by omega) (by decide)]; exact Jd 10 _ deZ deF gx
theorem YA.empty (w:World):YA (w.alloc (.cells #[] 5)) w.heap.size w.heap.size 0 0 (fun _=>0) :=
 ⟨Nat.le_refl _,by simp,fun i hi=>by omega,fun _=>by omega,Nat.le_refl _,by omega,fun j hj=>by omega⟩
def XH (f:Nat->Int) (at_ m:Nat) (h:Nat->Int) (j:Nat):Int:=if at_<=j/\j<at_+m then h (j - at_) else f j
theorem Zgk (f:Nat->Int) (at_:Nat) (h:Nat->Int):XH f at_ 0 h=f:=funext fun j=>by unfold XH; rw[if_neg (by omega)]
theorem Qm (f:Nat->Int) (at_ i:Nat) (h:Nat->Int):Zbb (XH f at_ i h) (at_+i) (h i)=XH f at_ (i+1) h:=funext fun j=>by
 unfold Zbb XH;by_cases e:j=at_+i
 ·rw[if_pos e,if_pos (by omega),show j - at_=i by omega]
 ·rw[if_neg e];by_cases c:at_<=j/\j<at_+i
  ·rw[if_pos c,if_pos (by omega)]
  ·rw[if_neg c,if_neg (by omega)]
theorem Zid {f h:Nat->Int} (hf:Zm f) (hh:Zm h) (at_ m:Nat):Zm (XH f at_ m h):=fun j=>by
 unfold XH; split
 ·exact hh _
 ·exact hf _
theorem Zag (b off n cap:Nat) (f:Nat->Int) (at_:Nat) (b2 jk m fD:Nat) (h:Nat->Int) (w:World) (hr:Wj w b off n cap f) (hm:Wj w b2 jk m fD h) (hn:n<=1000000) (uJ:m<=1000000) (ha:at_<=1000000) :
 Calls Tryz.prog 9 #[.slice (some ⟨b,off,none⟩) n cap,.int .i64 at_,.slice (some ⟨b2,jk,none⟩) m fD] w fun e u=> ∃ g c,e= .returned (.slice (some ⟨g,0,none⟩) n c)/\YA u w.heap.size g n c (XH f at_ m h)/\Below w.heap.size w u:=by
 have HR:=Zg hr;have HM:=Zg hm;have HN:=Zg (And.intro hn (And.intro uJ ha));have au:=Zg ((Below.refl w.heap.size w).alloc (Nat.le_refl _) (.cells #[] 5));clear hr hm hn uJ ha;go_enter Tryz.func9,Tryz.ntmps9;go_wp2_with (at_builtin; refine VE rfl _ _ rfl (YA.empty w) (.inr ⟨b,off,rfl,Nat.lt_of_lt_of_le HR.out.lt (by simp),(HR.out.below au.out).row⟩) HR.out.by255 (by have:=HN.out.1; omega) (by simp) rfl rfl ?_; intro g c w1 ho hb; have cW:=Zg ho; have av:=Zg (au.out.trans hb); clear ho hb)
 rw[Nat.zero_add] at cW;try simp only[Nat.zero_add]
 go_loopw [8] (fun v8 wr=> ∃ i:Nat,i<=m/\v8= .int .i64 i/\YA wr w.heap.size g n c (XH f at_ i h)/\Below w.heap.size w wr) (fun v8 _=>m - (intOf v8).toNat)
 case atStart=>exact⟨0,by omega,rfl,by rw[Zgk]; exact cW.out.congr HR.out.by255 (fun i hi=>by unfold VQ; rw[if_neg (by omega)]; rfl),av.out⟩
 case round =>
  obtain⟨i,hi,rfl,ho,hb⟩:=hrel;have HO:=Zg ho;have HB:=Zg hb;have hn:=HN.out.1;have uJ:=HN.out.2.1;have ha:=HN.out.2.2;clear ho hb;by_cases af:i<m
  ·have aE:(i:Int)<m:=by omega
   have ij:=(HM.out.below HB.out).row i af;by_cases aU:at_+i<n
   ·have Dw:(at_:Int)+i<n:=by omega
    have bm:=HO.out.row (at_+i) aU;have Lr:=HO.out.wr (at_+i) (by have:=HO.out.len; omega);have d1:decide ((0:Int)<=at_+i)=true:=decide_eq_true (by omega);have d2:decide ((at_:Int)+i>=0)=true:=decide_eq_true (by omega);have d3:decide ((at_:Int)+i<n)=true:=decide_eq_true Dw;obtain⟨Lt,O5⟩:=Lr;rw[Nat.zero_add] at bm;go_wp2_with fail
    have hv:=HM.out.by255 i;exact⟨⟨i+1,by omega,by push_cast; rfl,by rw[<-Qm]; exact HO.out.set (at_+i) (h i) aU hv.1 hv.2,WR HO.out.le [.int .u8 (h i)] (at_+i) wr HB.out⟩,by simp only[intOf]; omega⟩
   ·have d1:decide ((0:Int)<=at_+i)=true:=decide_eq_true (by omega);have d2:decide ((at_:Int)+i>=0)=true:=decide_eq_true (by omega);have d3:decide ((at_:Int)+i<n)=false:=decide_eq_false (by omega);go_wp2_with fail
    exact⟨⟨i+1,by omega,by push_cast; rfl,HO.out.congr (Zid HR.out.by255 HM.out.by255 _ _) (fun j hj=>by rw[<-Qm]; unfold Zbb; rw[if_neg (by omega)]),HB.out⟩,by simp only[intOf]; omega⟩
  ·obtain rfl:i=m:=by omega
   go_wp2_with fail
   go_ret;exact⟨g,c,rfl,HO.out,HB.out⟩
theorem UF {f f':Nat->Int}: ∀(n o:Nat),(∀ i,i<n->f' (o+i)=f (o+i))->Ye f' o n=Ye f o n
 | 0,_,_=>rfl
 | n+1,o,h=>by
   unfold Ye;have h0:=h 0 (by omega);simp only[Nat.add_zero] at h0;have h1:=UF (f:=f) (f':=f') n (o+1) (fun i hi=>by have:=h (i+1) (by omega); rw[show o+(i+1)=o+1+i by omega] at this; exact this);rw[h0,h1]
theorem Zdm {f f':Nat->Int} {o:Nat} (h: ∀ i,i<40->f' (o+i)=f (o+i)):Xm f' o=Xm f o:=by
 have k: ∀ d,d+4<=40->rdF f' (o+d) 4=rdF f (o+d) 4:=fun d hd=>Xd 4 _ fun i hi=>by rw[Nat.add_assoc]; exact h _ (by omega)
 have hz:=UF (f:=f) (f':=f') 8 o (fun i hi=>h i (by omega));unfold Xm Qc;rw[hz,ZA (f:=f') (f':=f) (o:=o) (o':=o) (fun i hi=>h i (by have:=Uj f o 8; omega)),k 8 (by omega),k 12 (by omega),k 16 (by omega),k 20 (by omega),k 36 (by omega)]
def YB (n:Nat) (f f':Nat->Int):Prop:= ∀ q,q<328+40 * n->(q<200\/328<=q)->f' q=f q
theorem YB.rd {n:Nat} {f f':Nat->Int} (h:YB n f f') (o k:Nat) (h1:o+k<=328+40 * n) (h2:o+k<=200\/328<=o):rdF f' o k=rdF f o k:=Xd k o fun i hi=>h _ (by omega) (by omega)
theorem YB.sects {n:Nat} {f f':Nat->Int} (h:YB n f f'):ZM f' 328 n=ZM f 328 n:=by
 unfold ZM;refine List.map_congr_left fun j hj=> ?_;have hj:=List.mem_range.1 hj;exact Zdm fun i hi=>h _ (by omega) (by omega)
theorem YB.refl (n:Nat) (f:Nat->Int):YB n f f:=fun _ _ _=>rfl
theorem YB.trans {n:Nat} {f g h:Nat->Int} (a:YB n f g) (b:YB n g h):YB n f h:=fun q h1 h2=>(b q h1 h2).trans (a q h1 h2)
theorem YB.over {n:Nat} (f:Nat->Int) (at_ m:Nat) (h:Nat->Int) (hx:(200<=at_/\at_+m<=328)\/328+40 * n<=at_):YB n f (XH f at_ m h):=fun q h1 h2=>by
 unfold XH; rw[if_neg (by omega)]
section
variable {L:Nat->VF} {n:Nat} {f f':Nat->Int}
theorem YB.begin' (h:YB n f f') (x:Vx L n f) (N:Nat) (hN:328<=N):Zv N f'=(64,0):=by
 have y:=x.all.hd;have k: ∀ q v,q<200->f q=v->f' q=v:=fun q v a b=>(h q (by omega) (by omega)).trans b;have z0:=k 0 77 (by omega) y.m0;have z1:=k 1 90 (by omega) y.m1;have z2:rdF f' 60 4=64:=(h.rd 60 4 (by omega) (by omega)).trans y.pe;unfold Zv;rw[z2,z0,z1,if_neg (by omega),if_neg (by omega),if_neg (by omega)];show(if f' 64≠80\/f' (64+1)≠69\/f' (64+2)≠0\/f' (64+3)≠0 then((0:Int),(3:Int)) else(64,0))=_
 rw[k 64 80 (by omega) y.p0,k 65 69 (by omega) y.p1,k 66 0 (by omega) y.p2,k 67 0 (by omega) y.p3,if_neg (by omega)]
theorem YB.headP (h:YB n f f') (x:Vx L n f) (N:Nat) (hN:328<=N):headP N f'=64:=by
 unfold YtplgdpjbkdagfaaGreat.headP;rw[h.begin' x N hN];rfl
theorem YB.cnt (h:YB n f f') (x:Vx L n f):rdF f' 70 2=n:=(h.rd 70 2 (by omega) (by omega)).trans x.all.hd.cnt
theorem YB.headK (h:YB n f f') (x:Vx L n f) (N:Nat) (hN:328<=N):headK N f'=n:=by
 unfold YtplgdpjbkdagfaaGreat.headK;rw[h.headP x N hN,h.cnt x];omega
theorem YB.size (h:YB n f f') (x:Vx L n f):(Zw f' 64).size=Ud L n:=(h.rd 144 4 (by omega) (by omega)).trans x.size
theorem YB.hdrs (h:YB n f f') (x:Vx L n f):(Zw f' 64).headers=1024:=(h.rd 148 4 (by omega) (by omega)).trans x.all.hd.hdrs
theorem YB.base (h:YB n f f') (x:Vx L n f):(Zw f' 64).base=65536:=(h.rd 112 8 (by omega) (by omega)).trans x.all.hd.base
theorem YB.ok (h:YB n f f') (x:Vx L n f) (N:Nat) (hN:atS L n<=N) (h1:1<=n) (h6:n<=6):ZI N f'=0:=by
 have ha:=QE L n;have hr:=VG L n;have h0:=Zcu L (show 1<=n by omega);have hf:=Vj (L 0);have y:=x.all.hd;have hb:(Zv N f').1=64:=by rw[h.begin' x N (by omega)]
 have aC:(Zv N f').2=0:=by rw[h.begin' x N (by omega)]
 have ho:Qz f' 64=0:=by
  unfold Qz;rw[(h.rd 68 2 (by omega) (by omega)).trans y.mach,(h.rd 84 2 (by omega) (by omega)).trans y.opt,(h.rd 88 2 (by omega) (by omega)).trans y.mg,(h.rd 196 4 (by omega) (by omega)).trans y.nd,if_neg (by omega),if_neg (by omega)]
 have iT:XS f' 64 (Zw f' 64).base (Zw f' 64).size:=by
  refine⟨(h.rd 120 4 (by omega) (by omega)).trans y.al,(h.rd 124 4 (by omega) (by omega)).trans y.fal,?_⟩;rw[h.base x,h.size x];omega
 have Ls:Ys N 64 (Zw f' 64).headers (rdF f' (64+6) 2):=by
  rw[h.hdrs x,h.cnt x];unfold Ys;omega
 have iB:Yo (Zw f' 64).size N (ZS (Zw f' 64).headers 4096) (ZM f' (64+264) (rdF f' (64+6) 2).toNat):=by
  rw[h.hdrs x,h.cnt x,h.size x,show ZS 1024 4096=4096 by rfl,Int.toNat_natCast,h.sects];have k:=x.all.chain N hN n 0 (by omega);rw[<-List.range_eq_range'] at k;exact k
 have Dx:(Zw f' 64).entry=0:=(h.rd 104 4 (by omega) (by omega)).trans y.ent;unfold ZI;rw[if_neg (by omega),hb,show((64:Int).toNat)=64 from rfl,if_neg (by rw[ho]; omega),if_neg (fun k=>k iT),if_neg (fun k=>k Ls),if_neg (fun k=>k iB),if_neg];rw[h.size x,Dx];simp only[Ud] at h0;omega
end
theorem Jr {f g:Nat->Int}: ∀(n o o':Nat),(∀ i,i<n->f (o+i)=g (o'+i))->rdF f o n=rdF g o' n
 | 0,_,_,_=>rfl
 | n+1,o,o',h=>by
   unfold rdF;have h0:=h 0 (by omega);simp only[Nat.add_zero] at h0;rw[h0,Jr n (o+1) (o'+1) (fun i hi=>by rw[show o+1+i=o+(i+1) by omega,show o'+1+i=o'+(i+1) by omega]; exact h (i+1) (by omega))]
theorem Zdn (f d:Nat->Int) (at_ m i:Nat) (h:328<=at_) (hi:i<16):(Zw (XH f at_ m d) 64).dirs i=(Zw f 64).dirs i:=by
 show(rdF (XH f at_ m d) (64+136+8 * i) 4,rdF (XH f at_ m d) (64+136+8 * i+4) 4)=(rdF f (64+136+8 * i) 4,rdF f (64+136+8 * i+4) 4)
 rw[Jr (f:=XH f at_ m d) (g:=f) 4 (64+136+8 * i) (64+136+8 * i) (fun j hj=>by unfold XH; rw[if_neg (by omega)]),Jr (f:=XH f at_ m d) (g:=f) 4 (64+136+8 * i+4) (64+136+8 * i+4) (fun j hj=>by unfold XH; rw[if_neg (by omega)])]
theorem Vx.dirs0 {L:Nat->VF} {n:Nat} {f:Nat->Int} (x:Vx L n f) (i:Nat) (hi:i<16):(Zw f 64).dirs i=(0,0):=by
 show(rdF f (64+136+8 * i) 4,rdF f (64+136+8 * i+4) 4)=_
 have h1:=x.all.hd.dirs (2 * i) (by omega);have h2:=x.all.hd.dirs (2 * i+1) (by omega);rw[show 64+136+8 * i=200+4 * (2 * i) by omega,h1,show 200+4 * (2 * i)+4=200+4 * (2 * i+1) by omega,h2]
def L12 (_:Nat):VF:=(12287,8191,7)
theorem at12:atS L12 1=8704:=by decide +kernel
theorem rva12:Ud L12 1=16384:=by decide +kernel
theorem Je (w:World) (S:ByteArray) (hl:S.size<=1000000): ∃ C w',(convert 9 25 (.string S)).run Tryz.prog w= .ok (.slice (some ⟨w.heap.size,0,none⟩) S.size C) w'/\YA w' w.heap.size w.heap.size S.size C (PlainAid.bt S)/\Below w.heap.size w w':=by
 have dI:=run_bytes_of_string (P:=Tryz.prog) w 9 25 5 S Tryz.underlying9 Tryz.underlying25 Tryz.underlying5;have dK:=grownCap_ge w S.size 0 5;have gL:=grownCap_le_maxLen w S.size 0 5 (by simp only[maxLen]; omega);simp only[maxLen] at gL;obtain⟨C,hC⟩: ∃ C,grownCap w S.size 0 5=C:=⟨_,rfl⟩;rw[hC] at dI dK gL;have xA:(bytesRow S C).size=C:=by
  have h1:S.data.size=S.size:=rfl;simp[bytesRow]; omega
 rw[xA] at dI;exact⟨C,_,dI,YA.bytes w.drew S C C (C+1) dK gL (Nat.le_refl _),(Below.refl w.heap.size w).drew.alloc (Nat.le_refl _) _⟩
theorem Wn {P:Program} {ops:Array Oper} {rest:List Oper} {o:Oper} {a:Act} {w:World} {Q:Exit->Act->World->Prop} (hw:Region.wanted o (yielded ops a.tmps)=true) (ty:TypeId) (x:Operand) (ho:o.op= .load ty x)
 (g:Nat) (hx:a.eval x= .pointer (some ⟨g,0,none⟩)) (t:TypeId) (cs:Array Value) (fr:Nat × Nat) (d:TypeDesc) (hg:w.heap[g]? =some (.cells cs t fr))
 (hu:P.underlying ty=some d) (hd:(match d with| .struct _| .array _ _=>true|_=>false)=true) (hi:(P.info? ty).map (·.size)=some cs.size)
 (h:wpList P ops Q rest (a.put o.dst (.agg cs)) w):wpList P ops Q (o::rest) a w :=
 wpList_step fun K hK=>by
  rw[if_pos hw];exact wp_load_row ty x ho g hx t cs fr d hg hu hd hi (hK _ _ h)
end Go.Proofs.YtplgdpjbkdagfaaGreat
