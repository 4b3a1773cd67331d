/- Tame: any instruction, case by case. -/
import Derived.Test.YtimjpdheaecajaaDecP
import Derived.Test.YtimjpdheaecajaaMask
namespace Go.Proofs.Ytimjpdheaecajaa
open Go.ChangeShapes Go.WideShapes Go.ChangeAt Go.RowKit
set_option linter.unusedVariables false
set_option maxRecDepth 100000 in
set_option maxHeartbeats 2000000 in
theorem tame_17 (o a b l c d D4 D1 : Int) (A B P I I4 I1 I1s : Nat) (w : World) (h0 : bits .and .i64 o 255 = (P : Int)) (hp : Int.tmod (P : Int) 23 = 16) (ma : bits .and .i64 a 15 = (A : Int)) (mb : bits .and .i64 b 15 = (B : Int))
    (md4 : wrap64 (d * 4294967296) / 4294967296 = D4) (md1 : wrap64 (d * 72057594037927936) / 72057594037927936 = D1) (hB : B < 16) :
    Calls Try.prog 6 #[.agg #[.int .i64 o, .int .i64 a, .int .i64 b, .int .i64 l, .int .i64 c, .int .u64 I, .int .i64 d]] w fun e w' => e = .returned (insV ⟨17, 0, 0, 0, 0, 0, D4⟩) ∧ Below w.heap.size w w' := by
  go_enter Try.func6, Try.ntmps6
  go_wp2
  go_region
  go_wp2
  go_region
  go_wp2

  exact bodyPost_ret (v := .agg #[.int .i64 (17 : Int), .int .i64 (0 : Int), .int .i64 (0 : Int), .int .i64 (0 : Int), .int .i64 (0 : Int), .int .u64 (0 : Int), .int .i64 (D4 : Int)]) (by simp [results, Try.results6, go_sem]) rfl ⟨rfl, by go_grown⟩

set_option maxRecDepth 100000 in
set_option maxHeartbeats 2000000 in
theorem tame_18 (o a b l c d D4 D1 : Int) (A B P I I4 I1 I1s : Nat) (w : World) (h0 : bits .and .i64 o 255 = (P : Int)) (hp : Int.tmod (P : Int) 23 = 17) (ma : bits .and .i64 a 15 = (A : Int)) (mb : bits .and .i64 b 15 = (B : Int))
    (md4 : wrap64 (d * 4294967296) / 4294967296 = D4) (md1 : wrap64 (d * 72057594037927936) / 72057594037927936 = D1) (hB : B < 16) :
    Calls Try.prog 6 #[.agg #[.int .i64 o, .int .i64 a, .int .i64 b, .int .i64 l, .int .i64 c, .int .u64 I, .int .i64 d]] w fun e w' => e = .returned (insV ⟨18, 0, 0, 0, 0, 0, D4⟩) ∧ Below w.heap.size w w' := by
  go_enter Try.func6, Try.ntmps6
  go_wp2
  go_region
  go_wp2
  go_region
  go_wp2

  exact bodyPost_ret (v := .agg #[.int .i64 (18 : Int), .int .i64 (0 : Int), .int .i64 (0 : Int), .int .i64 (0 : Int), .int .i64 (0 : Int), .int .u64 (0 : Int), .int .i64 (D4 : Int)]) (by simp [results, Try.results6, go_sem]) rfl ⟨rfl, by go_grown⟩

set_option maxRecDepth 100000 in
set_option maxHeartbeats 2000000 in
theorem tame_19 (o a b l c d D4 D1 : Int) (A B P I I4 I1 I1s : Nat) (w : World) (h0 : bits .and .i64 o 255 = (P : Int)) (hp : Int.tmod (P : Int) 23 = 18) (ma : bits .and .i64 a 15 = (A : Int)) (mb : bits .and .i64 b 15 = (B : Int))
    (md4 : wrap64 (d * 4294967296) / 4294967296 = D4) (md1 : wrap64 (d * 72057594037927936) / 72057594037927936 = D1) (hB : B < 16) :
    Calls Try.prog 6 #[.agg #[.int .i64 o, .int .i64 a, .int .i64 b, .int .i64 l, .int .i64 c, .int .u64 I, .int .i64 d]] w fun e w' => e = .returned (insV ⟨19, 0, 0, 0, 0, 0, D1⟩) ∧ Below w.heap.size w w' := by
  go_enter Try.func6, Try.ntmps6
  go_wp2
  go_region
  go_wp2
  go_region
  go_wp2

  exact bodyPost_ret (v := .agg #[.int .i64 (19 : Int), .int .i64 (0 : Int), .int .i64 (0 : Int), .int .i64 (0 : Int), .int .i64 (0 : Int), .int .u64 (0 : Int), .int .i64 (D1 : Int)]) (by simp [results, Try.results6, go_sem]) rfl ⟨rfl, by go_grown⟩

set_option maxRecDepth 100000 in
set_option maxHeartbeats 2000000 in
theorem tame_20_0 (o a b l c d D4 D1 : Int) (A B P I I4 I1 I1s : Nat) (w : World) (h0 : bits .and .i64 o 255 = (P : Int)) (hp : Int.tmod (P : Int) 23 = 19) (ma : bits .and .i64 a 15 = (A : Int)) (mb : bits .and .i64 b 15 = (B : Int))
    (md4 : wrap64 (d * 4294967296) / 4294967296 = D4) (md1 : wrap64 (d * 72057594037927936) / 72057594037927936 = D1) (mc : bits .and .i64 c 7 = 0) (hB : B < 16) :
    Calls Try.prog 6 #[.agg #[.int .i64 o, .int .i64 a, .int .i64 b, .int .i64 l, .int .i64 c, .int .u64 I, .int .i64 d]] w fun e w' => e = .returned (insV ⟨20, 0, 0, 0, 2, 0, D1⟩) ∧ Below w.heap.size w w' := by
  go_enter Try.func6, Try.ntmps6
  go_wp2
  go_region
  go_wp2
  go_region
  go_wp2

  exact bodyPost_ret (v := .agg #[.int .i64 (20 : Int), .int .i64 (0 : Int), .int .i64 (0 : Int), .int .i64 (0 : Int), .int .i64 (2 : Int), .int .u64 (0 : Int), .int .i64 (D1 : Int)]) (by simp [results, Try.results6, go_sem]) rfl ⟨rfl, by go_grown⟩

set_option maxRecDepth 100000 in
set_option maxHeartbeats 2000000 in
theorem tame_20_1 (o a b l c d D4 D1 : Int) (A B P I I4 I1 I1s : Nat) (w : World) (h0 : bits .and .i64 o 255 = (P : Int)) (hp : Int.tmod (P : Int) 23 = 19) (ma : bits .and .i64 a 15 = (A : Int)) (mb : bits .and .i64 b 15 = (B : Int))
    (md4 : wrap64 (d * 4294967296) / 4294967296 = D4) (md1 : wrap64 (d * 72057594037927936) / 72057594037927936 = D1) (mc : bits .and .i64 c 7 = 1) (hB : B < 16) :
    Calls Try.prog 6 #[.agg #[.int .i64 o, .int .i64 a, .int .i64 b, .int .i64 l, .int .i64 c, .int .u64 I, .int .i64 d]] w fun e w' => e = .returned (insV ⟨20, 0, 0, 0, 3, 0, D1⟩) ∧ Below w.heap.size w w' := by
  go_enter Try.func6, Try.ntmps6
  go_wp2
  go_region
  go_wp2
  go_region
  go_wp2

  exact bodyPost_ret (v := .agg #[.int .i64 (20 : Int), .int .i64 (0 : Int), .int .i64 (0 : Int), .int .i64 (0 : Int), .int .i64 (3 : Int), .int .u64 (0 : Int), .int .i64 (D1 : Int)]) (by simp [results, Try.results6, go_sem]) rfl ⟨rfl, by go_grown⟩

set_option maxRecDepth 100000 in
set_option maxHeartbeats 2000000 in
theorem tame_20_2 (o a b l c d D4 D1 : Int) (A B P I I4 I1 I1s : Nat) (w : World) (h0 : bits .and .i64 o 255 = (P : Int)) (hp : Int.tmod (P : Int) 23 = 19) (ma : bits .and .i64 a 15 = (A : Int)) (mb : bits .and .i64 b 15 = (B : Int))
    (md4 : wrap64 (d * 4294967296) / 4294967296 = D4) (md1 : wrap64 (d * 72057594037927936) / 72057594037927936 = D1) (mc : bits .and .i64 c 7 = 2) (hB : B < 16) :
    Calls Try.prog 6 #[.agg #[.int .i64 o, .int .i64 a, .int .i64 b, .int .i64 l, .int .i64 c, .int .u64 I, .int .i64 d]] w fun e w' => e = .returned (insV ⟨20, 0, 0, 0, 4, 0, D1⟩) ∧ Below w.heap.size w w' := by
  go_enter Try.func6, Try.ntmps6
  go_wp2
  go_region
  go_wp2
  go_region
  go_wp2

  exact bodyPost_ret (v := .agg #[.int .i64 (20 : Int), .int .i64 (0 : Int), .int .i64 (0 : Int), .int .i64 (0 : Int), .int .i64 (4 : Int), .int .u64 (0 : Int), .int .i64 (D1 : Int)]) (by simp [results, Try.results6, go_sem]) rfl ⟨rfl, by go_grown⟩

set_option maxRecDepth 100000 in
set_option maxHeartbeats 2000000 in
theorem tame_20_3 (o a b l c d D4 D1 : Int) (A B P I I4 I1 I1s : Nat) (w : World) (h0 : bits .and .i64 o 255 = (P : Int)) (hp : Int.tmod (P : Int) 23 = 19) (ma : bits .and .i64 a 15 = (A : Int)) (mb : bits .and .i64 b 15 = (B : Int))
    (md4 : wrap64 (d * 4294967296) / 4294967296 = D4) (md1 : wrap64 (d * 72057594037927936) / 72057594037927936 = D1) (mc : bits .and .i64 c 7 = 3) (hB : B < 16) :
    Calls Try.prog 6 #[.agg #[.int .i64 o, .int .i64 a, .int .i64 b, .int .i64 l, .int .i64 c, .int .u64 I, .int .i64 d]] w fun e w' => e = .returned (insV ⟨20, 0, 0, 0, 5, 0, D1⟩) ∧ Below w.heap.size w w' := by
  go_enter Try.func6, Try.ntmps6
  go_wp2
  go_region
  go_wp2
  go_region
  go_wp2

  exact bodyPost_ret (v := .agg #[.int .i64 (20 : Int), .int .i64 (0 : Int), .int .i64 (0 : Int), .int .i64 (0 : Int), .int .i64 (5 : Int), .int .u64 (0 : Int), .int .i64 (D1 : Int)]) (by simp [results, Try.results6, go_sem]) rfl ⟨rfl, by go_grown⟩

set_option maxRecDepth 100000 in
set_option maxHeartbeats 2000000 in
theorem tame_20_4 (o a b l c d D4 D1 : Int) (A B P I I4 I1 I1s : Nat) (w : World) (h0 : bits .and .i64 o 255 = (P : Int)) (hp : Int.tmod (P : Int) 23 = 19) (ma : bits .and .i64 a 15 = (A : Int)) (mb : bits .and .i64 b 15 = (B : Int))
    (md4 : wrap64 (d * 4294967296) / 4294967296 = D4) (md1 : wrap64 (d * 72057594037927936) / 72057594037927936 = D1) (mc : bits .and .i64 c 7 = 4) (hB : B < 16) :
    Calls Try.prog 6 #[.agg #[.int .i64 o, .int .i64 a, .int .i64 b, .int .i64 l, .int .i64 c, .int .u64 I, .int .i64 d]] w fun e w' => e = .returned (insV ⟨20, 0, 0, 0, 8, 0, D1⟩) ∧ Below w.heap.size w w' := by
  go_enter Try.func6, Try.ntmps6
  go_wp2
  go_region
  go_wp2
  go_region
  go_wp2

  exact bodyPost_ret (v := .agg #[.int .i64 (20 : Int), .int .i64 (0 : Int), .int .i64 (0 : Int), .int .i64 (0 : Int), .int .i64 (8 : Int), .int .u64 (0 : Int), .int .i64 (D1 : Int)]) (by simp [results, Try.results6, go_sem]) rfl ⟨rfl, by go_grown⟩

set_option maxRecDepth 100000 in
set_option maxHeartbeats 2000000 in
theorem tame_20_5 (o a b l c d D4 D1 : Int) (A B P I I4 I1 I1s : Nat) (w : World) (h0 : bits .and .i64 o 255 = (P : Int)) (hp : Int.tmod (P : Int) 23 = 19) (ma : bits .and .i64 a 15 = (A : Int)) (mb : bits .and .i64 b 15 = (B : Int))
    (md4 : wrap64 (d * 4294967296) / 4294967296 = D4) (md1 : wrap64 (d * 72057594037927936) / 72057594037927936 = D1) (mc : bits .and .i64 c 7 = 5) (hB : B < 16) :
    Calls Try.prog 6 #[.agg #[.int .i64 o, .int .i64 a, .int .i64 b, .int .i64 l, .int .i64 c, .int .u64 I, .int .i64 d]] w fun e w' => e = .returned (insV ⟨20, 0, 0, 0, 9, 0, D1⟩) ∧ Below w.heap.size w w' := by
  go_enter Try.func6, Try.ntmps6
  go_wp2
  go_region
  go_wp2
  go_region
  go_wp2

  exact bodyPost_ret (v := .agg #[.int .i64 (20 : Int), .int .i64 (0 : Int), .int .i64 (0 : Int), .int .i64 (0 : Int), .int .i64 (9 : Int), .int .u64 (0 : Int), .int .i64 (D1 : Int)]) (by simp [results, Try.results6, go_sem]) rfl ⟨rfl, by go_grown⟩

set_option maxRecDepth 100000 in
set_option maxHeartbeats 2000000 in
theorem tame_20_6 (o a b l c d D4 D1 : Int) (A B P I I4 I1 I1s : Nat) (w : World) (h0 : bits .and .i64 o 255 = (P : Int)) (hp : Int.tmod (P : Int) 23 = 19) (ma : bits .and .i64 a 15 = (A : Int)) (mb : bits .and .i64 b 15 = (B : Int))
    (md4 : wrap64 (d * 4294967296) / 4294967296 = D4) (md1 : wrap64 (d * 72057594037927936) / 72057594037927936 = D1) (mc : bits .and .i64 c 7 = 6) (hB : B < 16) :
    Calls Try.prog 6 #[.agg #[.int .i64 o, .int .i64 a, .int .i64 b, .int .i64 l, .int .i64 c, .int .u64 I, .int .i64 d]] w fun e w' => e = .returned (insV ⟨20, 0, 0, 0, 12, 0, D1⟩) ∧ Below w.heap.size w w' := by
  go_enter Try.func6, Try.ntmps6
  go_wp2
  go_region
  go_wp2
  go_region
  go_wp2

  exact bodyPost_ret (v := .agg #[.int .i64 (20 : Int), .int .i64 (0 : Int), .int .i64 (0 : Int), .int .i64 (0 : Int), .int .i64 (12 : Int), .int .u64 (0 : Int), .int .i64 (D1 : Int)]) (by simp [results, Try.results6, go_sem]) rfl ⟨rfl, by go_grown⟩

set_option maxRecDepth 100000 in
set_option maxHeartbeats 2000000 in
theorem tame_20_7 (o a b l c d D4 D1 : Int) (A B P I I4 I1 I1s : Nat) (w : World) (h0 : bits .and .i64 o 255 = (P : Int)) (hp : Int.tmod (P : Int) 23 = 19) (ma : bits .and .i64 a 15 = (A : Int)) (mb : bits .and .i64 b 15 = (B : Int))
    (md4 : wrap64 (d * 4294967296) / 4294967296 = D4) (md1 : wrap64 (d * 72057594037927936) / 72057594037927936 = D1) (mc : bits .and .i64 c 7 = 7) (hB : B < 16) :
    Calls Try.prog 6 #[.agg #[.int .i64 o, .int .i64 a, .int .i64 b, .int .i64 l, .int .i64 c, .int .u64 I, .int .i64 d]] w fun e w' => e = .returned (insV ⟨20, 0, 0, 0, 13, 0, D1⟩) ∧ Below w.heap.size w w' := by
  go_enter Try.func6, Try.ntmps6
  go_wp2
  go_region
  go_wp2
  go_region
  go_wp2

  exact bodyPost_ret (v := .agg #[.int .i64 (20 : Int), .int .i64 (0 : Int), .int .i64 (0 : Int), .int .i64 (0 : Int), .int .i64 (13 : Int), .int .u64 (0 : Int), .int .i64 (D1 : Int)]) (by simp [results, Try.results6, go_sem]) rfl ⟨rfl, by go_grown⟩

set_option maxRecDepth 100000 in
set_option maxHeartbeats 2000000 in
theorem tame_21 (o a b l c d D4 D1 : Int) (A B P I I4 I1 I1s : Nat) (w : World) (h0 : bits .and .i64 o 255 = (P : Int)) (hp : Int.tmod (P : Int) 23 = 20) (ma : bits .and .i64 a 15 = (A : Int)) (mb : bits .and .i64 b 15 = (B : Int))
    (md4 : wrap64 (d * 4294967296) / 4294967296 = D4) (md1 : wrap64 (d * 72057594037927936) / 72057594037927936 = D1) (hB : B < 16) :
    Calls Try.prog 6 #[.agg #[.int .i64 o, .int .i64 a, .int .i64 b, .int .i64 l, .int .i64 c, .int .u64 I, .int .i64 d]] w fun e w' => e = .returned (insV ⟨21, 0, 0, 0, 0, 0, D4⟩) ∧ Below w.heap.size w w' := by
  go_enter Try.func6, Try.ntmps6
  go_wp2
  go_region
  go_wp2
  go_region
  go_wp2

  exact bodyPost_ret (v := .agg #[.int .i64 (21 : Int), .int .i64 (0 : Int), .int .i64 (0 : Int), .int .i64 (0 : Int), .int .i64 (0 : Int), .int .u64 (0 : Int), .int .i64 (D4 : Int)]) (by simp [results, Try.results6, go_sem]) rfl ⟨rfl, by go_grown⟩

set_option maxRecDepth 100000 in
set_option maxHeartbeats 2000000 in
theorem tame_22 (o a b l c d D4 D1 : Int) (A B P I I4 I1 I1s : Nat) (w : World) (h0 : bits .and .i64 o 255 = (P : Int)) (hp : Int.tmod (P : Int) 23 = 21) (ma : bits .and .i64 a 15 = (A : Int)) (mb : bits .and .i64 b 15 = (B : Int))
    (md4 : wrap64 (d * 4294967296) / 4294967296 = D4) (md1 : wrap64 (d * 72057594037927936) / 72057594037927936 = D1) (hB : B < 16) :
    Calls Try.prog 6 #[.agg #[.int .i64 o, .int .i64 a, .int .i64 b, .int .i64 l, .int .i64 c, .int .u64 I, .int .i64 d]] w fun e w' => e = .returned (insV ⟨22, 0, 0, 0, 0, 0, D4⟩) ∧ Below w.heap.size w w' := by
  go_enter Try.func6, Try.ntmps6
  go_wp2
  go_region
  go_wp2
  go_region
  go_wp2

  exact bodyPost_ret (v := .agg #[.int .i64 (22 : Int), .int .i64 (0 : Int), .int .i64 (0 : Int), .int .i64 (0 : Int), .int .i64 (0 : Int), .int .u64 (0 : Int), .int .i64 (D4 : Int)]) (by simp [results, Try.results6, go_sem]) rfl ⟨rfl, by go_grown⟩

set_option maxRecDepth 100000 in
set_option maxHeartbeats 2000000 in
theorem tame_23 (o a b l c d D4 D1 : Int) (A B P I I4 I1 I1s : Nat) (w : World) (h0 : bits .and .i64 o 255 = (P : Int)) (hp : Int.tmod (P : Int) 23 = 22) (ma : bits .and .i64 a 15 = (A : Int)) (mb : bits .and .i64 b 15 = (B : Int))
    (md4 : wrap64 (d * 4294967296) / 4294967296 = D4) (md1 : wrap64 (d * 72057594037927936) / 72057594037927936 = D1) (mi : bits .and .u64 (I : Int) 255 = (I1 : Int)) (hB : B < 16) :
    Calls Try.prog 6 #[.agg #[.int .i64 o, .int .i64 a, .int .i64 b, .int .i64 l, .int .i64 c, .int .u64 I, .int .i64 d]] w fun e w' => e = .returned (insV ⟨23, 0, 0, 0, 0, I1, 0⟩) ∧ Below w.heap.size w w' := by
  go_enter Try.func6, Try.ntmps6
  go_wp2
  go_region
  go_wp2
  go_region
  go_wp2

  exact bodyPost_ret (v := .agg #[.int .i64 (23 : Int), .int .i64 (0 : Int), .int .i64 (0 : Int), .int .i64 (0 : Int), .int .i64 (0 : Int), .int .u64 (I1 : Int), .int .i64 (0 : Int)]) (by simp [results, Try.results6, go_sem]) rfl ⟨rfl, by go_grown⟩

end Go.Proofs.Ytimjpdheaecajaa
