/- Tame: any instruction, case by case. -/
import Derived.Test.YtimjpdheaecajaaDecP
import Derived.Test.YtimjpdheaecajaaMask
namespace Go.Proofs.Ytimjpdheaecajaa
open Go.ChangeShapes Go.WideShapes Go.ChangeAt Go.RowKit
set_option linter.unusedVariables false
set_option maxRecDepth 100000 in
set_option maxHeartbeats 2000000 in
theorem tame_9_y (o a b l c d D4 D1 : Int) (A B P I I4 I1 I1s : Nat) (w : World) (h0 : bits .and .i64 o 255 = (P : Int)) (hp : Int.tmod (P : Int) 23 = 8) (ma : bits .and .i64 a 15 = (A : Int)) (mb : bits .and .i64 b 15 = (B : Int))
    (md4 : wrap64 (d * 4294967296) / 4294967296 = D4) (md1 : wrap64 (d * 72057594037927936) / 72057594037927936 = D1) (m7 : bits .and .i64 (B : Int) 7 = (B : Int) % 8) (m8 : ((B : Int) % 8 == 4) = true) (hB : B < 16) :
    Calls Try.prog 6 #[.agg #[.int .i64 o, .int .i64 a, .int .i64 b, .int .i64 l, .int .i64 c, .int .u64 I, .int .i64 d]] w fun e w' => e = .returned (insV ⟨9, A, (B + 1), 0, 0, 0, D4⟩) ∧ Below w.heap.size w w' := by
  go_enter Try.func6, Try.ntmps6
  go_wp2
  go_region
  go_wp2
  go_region
  go_wp2

  exact bodyPost_ret (v := .agg #[.int .i64 (9 : Int), .int .i64 (A : Int), .int .i64 ((B : Int) + 1), .int .i64 (0 : Int), .int .i64 (0 : Int), .int .u64 (0 : Int), .int .i64 (D4 : Int)]) (by simp [results, Try.results6, go_sem]) rfl ⟨rfl, by go_grown⟩

set_option maxRecDepth 100000 in
set_option maxHeartbeats 2000000 in
theorem tame_9_n (o a b l c d D4 D1 : Int) (A B P I I4 I1 I1s : Nat) (w : World) (h0 : bits .and .i64 o 255 = (P : Int)) (hp : Int.tmod (P : Int) 23 = 8) (ma : bits .and .i64 a 15 = (A : Int)) (mb : bits .and .i64 b 15 = (B : Int))
    (md4 : wrap64 (d * 4294967296) / 4294967296 = D4) (md1 : wrap64 (d * 72057594037927936) / 72057594037927936 = D1) (m7 : bits .and .i64 (B : Int) 7 = (B : Int) % 8) (m8 : ((B : Int) % 8 == 4) = false) (hB : B < 16) :
    Calls Try.prog 6 #[.agg #[.int .i64 o, .int .i64 a, .int .i64 b, .int .i64 l, .int .i64 c, .int .u64 I, .int .i64 d]] w fun e w' => e = .returned (insV ⟨9, A, B, 0, 0, 0, D4⟩) ∧ Below w.heap.size w w' := by
  go_enter Try.func6, Try.ntmps6
  go_wp2
  go_region
  go_wp2
  go_region
  go_wp2

  exact bodyPost_ret (v := .agg #[.int .i64 (9 : Int), .int .i64 (A : Int), .int .i64 (B : Int), .int .i64 (0 : Int), .int .i64 (0 : Int), .int .u64 (0 : Int), .int .i64 (D4 : Int)]) (by simp [results, Try.results6, go_sem]) rfl ⟨rfl, by go_grown⟩

set_option maxRecDepth 100000 in
set_option maxHeartbeats 2000000 in
theorem tame_10_y (o a b l c d D4 D1 : Int) (A B P I I4 I1 I1s : Nat) (w : World) (h0 : bits .and .i64 o 255 = (P : Int)) (hp : Int.tmod (P : Int) 23 = 9) (ma : bits .and .i64 a 15 = (A : Int)) (mb : bits .and .i64 b 15 = (B : Int))
    (md4 : wrap64 (d * 4294967296) / 4294967296 = D4) (md1 : wrap64 (d * 72057594037927936) / 72057594037927936 = D1) (m7 : bits .and .i64 (B : Int) 7 = (B : Int) % 8) (m8 : ((B : Int) % 8 == 4) = true) (hB : B < 16) :
    Calls Try.prog 6 #[.agg #[.int .i64 o, .int .i64 a, .int .i64 b, .int .i64 l, .int .i64 c, .int .u64 I, .int .i64 d]] w fun e w' => e = .returned (insV ⟨10, A, (B + 1), 0, 0, 0, D4⟩) ∧ Below w.heap.size w w' := by
  go_enter Try.func6, Try.ntmps6
  go_wp2
  go_region
  go_wp2
  go_region
  go_wp2

  exact bodyPost_ret (v := .agg #[.int .i64 (10 : Int), .int .i64 (A : Int), .int .i64 ((B : Int) + 1), .int .i64 (0 : Int), .int .i64 (0 : Int), .int .u64 (0 : Int), .int .i64 (D4 : Int)]) (by simp [results, Try.results6, go_sem]) rfl ⟨rfl, by go_grown⟩

set_option maxRecDepth 100000 in
set_option maxHeartbeats 2000000 in
theorem tame_10_n (o a b l c d D4 D1 : Int) (A B P I I4 I1 I1s : Nat) (w : World) (h0 : bits .and .i64 o 255 = (P : Int)) (hp : Int.tmod (P : Int) 23 = 9) (ma : bits .and .i64 a 15 = (A : Int)) (mb : bits .and .i64 b 15 = (B : Int))
    (md4 : wrap64 (d * 4294967296) / 4294967296 = D4) (md1 : wrap64 (d * 72057594037927936) / 72057594037927936 = D1) (m7 : bits .and .i64 (B : Int) 7 = (B : Int) % 8) (m8 : ((B : Int) % 8 == 4) = false) (hB : B < 16) :
    Calls Try.prog 6 #[.agg #[.int .i64 o, .int .i64 a, .int .i64 b, .int .i64 l, .int .i64 c, .int .u64 I, .int .i64 d]] w fun e w' => e = .returned (insV ⟨10, A, B, 0, 0, 0, D4⟩) ∧ Below w.heap.size w w' := by
  go_enter Try.func6, Try.ntmps6
  go_wp2
  go_region
  go_wp2
  go_region
  go_wp2

  exact bodyPost_ret (v := .agg #[.int .i64 (10 : Int), .int .i64 (A : Int), .int .i64 (B : Int), .int .i64 (0 : Int), .int .i64 (0 : Int), .int .u64 (0 : Int), .int .i64 (D4 : Int)]) (by simp [results, Try.results6, go_sem]) rfl ⟨rfl, by go_grown⟩

set_option maxRecDepth 100000 in
set_option maxHeartbeats 2000000 in
theorem tame_11 (o a b l c d D4 D1 : Int) (A B P I I4 I1 I1s : Nat) (w : World) (h0 : bits .and .i64 o 255 = (P : Int)) (hp : Int.tmod (P : Int) 23 = 10) (ma : bits .and .i64 a 15 = (A : Int)) (mb : bits .and .i64 b 15 = (B : Int))
    (md4 : wrap64 (d * 4294967296) / 4294967296 = D4) (md1 : wrap64 (d * 72057594037927936) / 72057594037927936 = D1) (hB : B < 16) :
    Calls Try.prog 6 #[.agg #[.int .i64 o, .int .i64 a, .int .i64 b, .int .i64 l, .int .i64 c, .int .u64 I, .int .i64 d]] w fun e w' => e = .returned (insV ⟨11, A, 0, 0, 0, 0, D4⟩) ∧ Below w.heap.size w w' := by
  go_enter Try.func6, Try.ntmps6
  go_wp2
  go_region
  go_wp2
  go_region
  go_wp2

  exact bodyPost_ret (v := .agg #[.int .i64 (11 : Int), .int .i64 (A : Int), .int .i64 (0 : Int), .int .i64 (0 : Int), .int .i64 (0 : Int), .int .u64 (0 : Int), .int .i64 (D4 : Int)]) (by simp [results, Try.results6, go_sem]) rfl ⟨rfl, by go_grown⟩

set_option maxRecDepth 100000 in
set_option maxHeartbeats 2000000 in
theorem tame_12 (o a b l c d D4 D1 : Int) (A B P I I4 I1 I1s : Nat) (w : World) (h0 : bits .and .i64 o 255 = (P : Int)) (hp : Int.tmod (P : Int) 23 = 11) (ma : bits .and .i64 a 15 = (A : Int)) (mb : bits .and .i64 b 15 = (B : Int))
    (md4 : wrap64 (d * 4294967296) / 4294967296 = D4) (md1 : wrap64 (d * 72057594037927936) / 72057594037927936 = D1) (hB : B < 16) :
    Calls Try.prog 6 #[.agg #[.int .i64 o, .int .i64 a, .int .i64 b, .int .i64 l, .int .i64 c, .int .u64 I, .int .i64 d]] w fun e w' => e = .returned (insV ⟨12, A, 0, 0, 0, 0, D4⟩) ∧ Below w.heap.size w w' := by
  go_enter Try.func6, Try.ntmps6
  go_wp2
  go_region
  go_wp2
  go_region
  go_wp2

  exact bodyPost_ret (v := .agg #[.int .i64 (12 : Int), .int .i64 (A : Int), .int .i64 (0 : Int), .int .i64 (0 : Int), .int .i64 (0 : Int), .int .u64 (0 : Int), .int .i64 (D4 : Int)]) (by simp [results, Try.results6, go_sem]) rfl ⟨rfl, by go_grown⟩

set_option maxRecDepth 100000 in
set_option maxHeartbeats 2000000 in
theorem tame_13 (o a b l c d D4 D1 : Int) (A B P I I4 I1 I1s : Nat) (w : World) (h0 : bits .and .i64 o 255 = (P : Int)) (hp : Int.tmod (P : Int) 23 = 12) (ma : bits .and .i64 a 15 = (A : Int)) (mb : bits .and .i64 b 15 = (B : Int))
    (md4 : wrap64 (d * 4294967296) / 4294967296 = D4) (md1 : wrap64 (d * 72057594037927936) / 72057594037927936 = D1) (hB : B < 16) :
    Calls Try.prog 6 #[.agg #[.int .i64 o, .int .i64 a, .int .i64 b, .int .i64 l, .int .i64 c, .int .u64 I, .int .i64 d]] w fun e w' => e = .returned (insV ⟨13, A, 0, 0, 0, 0, D4⟩) ∧ Below w.heap.size w w' := by
  go_enter Try.func6, Try.ntmps6
  go_wp2
  go_region
  go_wp2
  go_region
  go_wp2

  exact bodyPost_ret (v := .agg #[.int .i64 (13 : Int), .int .i64 (A : Int), .int .i64 (0 : Int), .int .i64 (0 : Int), .int .i64 (0 : Int), .int .u64 (0 : Int), .int .i64 (D4 : Int)]) (by simp [results, Try.results6, go_sem]) rfl ⟨rfl, by go_grown⟩

set_option maxRecDepth 100000 in
set_option maxHeartbeats 2000000 in
theorem tame_14_0 (o a b l c d D4 D1 : Int) (A B P I I4 I1 I1s : Nat) (w : World) (h0 : bits .and .i64 o 255 = (P : Int)) (hp : Int.tmod (P : Int) 23 = 13) (ma : bits .and .i64 a 15 = (A : Int)) (mb : bits .and .i64 b 15 = (B : Int))
    (md4 : wrap64 (d * 4294967296) / 4294967296 = D4) (md1 : wrap64 (d * 72057594037927936) / 72057594037927936 = D1) (L : Nat) (ml : bits .and .i64 l 255 = (L : Int)) (hl : Int.tmod (L : Int) 3 = 0) (mi : IntKind.u64.wrap (wrap64 (wrap64 (I : Int) * 72057594037927936) / 72057594037927936) = (I1s : Int))  (hB : B < 16) :
    Calls Try.prog 6 #[.agg #[.int .i64 o, .int .i64 a, .int .i64 b, .int .i64 l, .int .i64 c, .int .u64 I, .int .i64 d]] w fun e w' => e = .returned (insV ⟨14, 0, B, 0, 0, I1s, 0⟩) ∧ Below w.heap.size w w' := by
  go_enter Try.func6, Try.ntmps6
  go_wp2
  go_region
  go_wp2
  go_region
  go_wp2
  go_region
  go_wp2
  exact bodyPost_ret (v := .agg #[.int .i64 (14 : Int), .int .i64 (0 : Int), .int .i64 (B : Int), .int .i64 (0 : Int), .int .i64 (0 : Int), .int .u64 (I1s : Int), .int .i64 (0 : Int)]) (by simp [results, Try.results6, go_sem]) rfl ⟨rfl, by go_grown⟩

set_option maxRecDepth 100000 in
set_option maxHeartbeats 2000000 in
theorem tame_14_1 (o a b l c d D4 D1 : Int) (A B P I I4 I1 I1s : Nat) (w : World) (h0 : bits .and .i64 o 255 = (P : Int)) (hp : Int.tmod (P : Int) 23 = 13) (ma : bits .and .i64 a 15 = (A : Int)) (mb : bits .and .i64 b 15 = (B : Int))
    (md4 : wrap64 (d * 4294967296) / 4294967296 = D4) (md1 : wrap64 (d * 72057594037927936) / 72057594037927936 = D1) (L : Nat) (ml : bits .and .i64 l 255 = (L : Int)) (hl : Int.tmod (L : Int) 3 = 1) (mi : IntKind.u64.wrap (wrap64 (wrap64 (I : Int) * 72057594037927936) / 72057594037927936) = (I1s : Int))  (hB : B < 16) :
    Calls Try.prog 6 #[.agg #[.int .i64 o, .int .i64 a, .int .i64 b, .int .i64 l, .int .i64 c, .int .u64 I, .int .i64 d]] w fun e w' => e = .returned (insV ⟨14, 0, B, 1, 0, I1s, 0⟩) ∧ Below w.heap.size w w' := by
  go_enter Try.func6, Try.ntmps6
  go_wp2
  go_region
  go_wp2
  go_region
  go_wp2
  go_region
  go_wp2
  exact bodyPost_ret (v := .agg #[.int .i64 (14 : Int), .int .i64 (0 : Int), .int .i64 (B : Int), .int .i64 (1 : Int), .int .i64 (0 : Int), .int .u64 (I1s : Int), .int .i64 (0 : Int)]) (by simp [results, Try.results6, go_sem]) rfl ⟨rfl, by go_grown⟩

set_option maxRecDepth 100000 in
set_option maxHeartbeats 2000000 in
theorem tame_14_2 (o a b l c d D4 D1 : Int) (A B P I I4 I1 I1s : Nat) (w : World) (h0 : bits .and .i64 o 255 = (P : Int)) (hp : Int.tmod (P : Int) 23 = 13) (ma : bits .and .i64 a 15 = (A : Int)) (mb : bits .and .i64 b 15 = (B : Int))
    (md4 : wrap64 (d * 4294967296) / 4294967296 = D4) (md1 : wrap64 (d * 72057594037927936) / 72057594037927936 = D1) (L : Nat) (ml : bits .and .i64 l 255 = (L : Int)) (hl : Int.tmod (L : Int) 3 = 2) (mi : IntKind.u64.wrap (wrap64 (wrap64 (I : Int) * 72057594037927936) / 72057594037927936) = (I1s : Int))  (hB : B < 16) :
    Calls Try.prog 6 #[.agg #[.int .i64 o, .int .i64 a, .int .i64 b, .int .i64 l, .int .i64 c, .int .u64 I, .int .i64 d]] w fun e w' => e = .returned (insV ⟨14, 0, B, 7, 0, I1s, 0⟩) ∧ Below w.heap.size w w' := by
  go_enter Try.func6, Try.ntmps6
  go_wp2
  go_region
  go_wp2
  go_region
  go_wp2
  go_region
  go_wp2
  exact bodyPost_ret (v := .agg #[.int .i64 (14 : Int), .int .i64 (0 : Int), .int .i64 (B : Int), .int .i64 (7 : Int), .int .i64 (0 : Int), .int .u64 (I1s : Int), .int .i64 (0 : Int)]) (by simp [results, Try.results6, go_sem]) rfl ⟨rfl, by go_grown⟩

set_option maxRecDepth 100000 in
set_option maxHeartbeats 2000000 in
theorem tame_15_0 (o a b l c d D4 D1 : Int) (A B P I I4 I1 I1s : Nat) (w : World) (h0 : bits .and .i64 o 255 = (P : Int)) (hp : Int.tmod (P : Int) 23 = 14) (ma : bits .and .i64 a 15 = (A : Int)) (mb : bits .and .i64 b 15 = (B : Int))
    (md4 : wrap64 (d * 4294967296) / 4294967296 = D4) (md1 : wrap64 (d * 72057594037927936) / 72057594037927936 = D1) (ml : bits .and .i64 l 1 = 0) (hB : B < 16) :
    Calls Try.prog 6 #[.agg #[.int .i64 o, .int .i64 a, .int .i64 b, .int .i64 l, .int .i64 c, .int .u64 I, .int .i64 d]] w fun e w' => e = .returned (insV ⟨15, 0, B, 5, 0, 0, 0⟩) ∧ Below w.heap.size w w' := by
  go_enter Try.func6, Try.ntmps6
  go_wp2
  go_region
  go_wp2
  go_region
  go_wp2
  go_region
  go_wp2
  exact bodyPost_ret (v := .agg #[.int .i64 (15 : Int), .int .i64 (0 : Int), .int .i64 (B : Int), .int .i64 (5 : Int), .int .i64 (0 : Int), .int .u64 (0 : Int), .int .i64 (0 : Int)]) (by simp [results, Try.results6, go_sem]) rfl ⟨rfl, by go_grown⟩

set_option maxRecDepth 100000 in
set_option maxHeartbeats 2000000 in
theorem tame_15_1 (o a b l c d D4 D1 : Int) (A B P I I4 I1 I1s : Nat) (w : World) (h0 : bits .and .i64 o 255 = (P : Int)) (hp : Int.tmod (P : Int) 23 = 14) (ma : bits .and .i64 a 15 = (A : Int)) (mb : bits .and .i64 b 15 = (B : Int))
    (md4 : wrap64 (d * 4294967296) / 4294967296 = D4) (md1 : wrap64 (d * 72057594037927936) / 72057594037927936 = D1) (ml : bits .and .i64 l 1 = 1) (hB : B < 16) :
    Calls Try.prog 6 #[.agg #[.int .i64 o, .int .i64 a, .int .i64 b, .int .i64 l, .int .i64 c, .int .u64 I, .int .i64 d]] w fun e w' => e = .returned (insV ⟨15, 0, B, 6, 0, 0, 0⟩) ∧ Below w.heap.size w w' := by
  go_enter Try.func6, Try.ntmps6
  go_wp2
  go_region
  go_wp2
  go_region
  go_wp2
  go_region
  go_wp2
  exact bodyPost_ret (v := .agg #[.int .i64 (15 : Int), .int .i64 (0 : Int), .int .i64 (B : Int), .int .i64 (6 : Int), .int .i64 (0 : Int), .int .u64 (0 : Int), .int .i64 (0 : Int)]) (by simp [results, Try.results6, go_sem]) rfl ⟨rfl, by go_grown⟩

set_option maxRecDepth 100000 in
set_option maxHeartbeats 2000000 in
theorem tame_16_0 (o a b l c d D4 D1 : Int) (A B P I I4 I1 I1s : Nat) (w : World) (h0 : bits .and .i64 o 255 = (P : Int)) (hp : Int.tmod (P : Int) 23 = 15) (ma : bits .and .i64 a 15 = (A : Int)) (mb : bits .and .i64 b 15 = (B : Int))
    (md4 : wrap64 (d * 4294967296) / 4294967296 = D4) (md1 : wrap64 (d * 72057594037927936) / 72057594037927936 = D1) (ml : bits .and .i64 l 1 = 0) (mi : bits .and .u64 (I : Int) 255 = (I1 : Int)) (hB : B < 16) :
    Calls Try.prog 6 #[.agg #[.int .i64 o, .int .i64 a, .int .i64 b, .int .i64 l, .int .i64 c, .int .u64 I, .int .i64 d]] w fun e w' => e = .returned (insV ⟨16, 0, B, 9, 0, I1, 0⟩) ∧ Below w.heap.size w w' := by
  go_enter Try.func6, Try.ntmps6
  go_wp2
  go_region
  go_wp2
  go_region
  go_wp2
  go_region
  go_wp2
  exact bodyPost_ret (v := .agg #[.int .i64 (16 : Int), .int .i64 (0 : Int), .int .i64 (B : Int), .int .i64 (9 : Int), .int .i64 (0 : Int), .int .u64 (I1 : Int), .int .i64 (0 : Int)]) (by simp [results, Try.results6, go_sem]) rfl ⟨rfl, by go_grown⟩

set_option maxRecDepth 100000 in
set_option maxHeartbeats 2000000 in
theorem tame_16_1 (o a b l c d D4 D1 : Int) (A B P I I4 I1 I1s : Nat) (w : World) (h0 : bits .and .i64 o 255 = (P : Int)) (hp : Int.tmod (P : Int) 23 = 15) (ma : bits .and .i64 a 15 = (A : Int)) (mb : bits .and .i64 b 15 = (B : Int))
    (md4 : wrap64 (d * 4294967296) / 4294967296 = D4) (md1 : wrap64 (d * 72057594037927936) / 72057594037927936 = D1) (ml : bits .and .i64 l 1 = 1) (mi : bits .and .u64 (I : Int) 255 = (I1 : Int)) (hB : B < 16) :
    Calls Try.prog 6 #[.agg #[.int .i64 o, .int .i64 a, .int .i64 b, .int .i64 l, .int .i64 c, .int .u64 I, .int .i64 d]] w fun e w' => e = .returned (insV ⟨16, 0, B, 10, 0, I1, 0⟩) ∧ Below w.heap.size w w' := by
  go_enter Try.func6, Try.ntmps6
  go_wp2
  go_region
  go_wp2
  go_region
  go_wp2
  go_region
  go_wp2
  exact bodyPost_ret (v := .agg #[.int .i64 (16 : Int), .int .i64 (0 : Int), .int .i64 (B : Int), .int .i64 (10 : Int), .int .i64 (0 : Int), .int .u64 (I1 : Int), .int .i64 (0 : Int)]) (by simp [results, Try.results6, go_sem]) rfl ⟨rfl, by go_grown⟩

end Go.Proofs.Ytimjpdheaecajaa
