/- Tame: any instruction, case by case. -/
import Derived.Test.YtimjpdheaecajaaDecP
import Derived.Test.YtimjpdheaecajaaMask
namespace Go.Proofs.Ytimjpdheaecajaa
open Go.ChangeShapes Go.WideShapes Go.ChangeAt Go.RowKit
set_option linter.unusedVariables false
set_option maxRecDepth 100000 in
set_option maxHeartbeats 2000000 in
theorem tame_1 (o a b l c d D4 D1 : Int) (A B P I I4 I1 I1s : Nat) (w : World) (h0 : bits .and .i64 o 255 = (P : Int)) (hp : Int.tmod (P : Int) 23 = 0) (ma : bits .and .i64 a 15 = (A : Int)) (mb : bits .and .i64 b 15 = (B : Int))
    (md4 : wrap64 (d * 4294967296) / 4294967296 = D4) (md1 : wrap64 (d * 72057594037927936) / 72057594037927936 = D1) (hB : B < 16) :
    Calls Try.prog 6 #[.agg #[.int .i64 o, .int .i64 a, .int .i64 b, .int .i64 l, .int .i64 c, .int .u64 I, .int .i64 d]] w fun e w' => e = .returned (insV ⟨1, 0, 0, 0, 0, 0, 0⟩) ∧ Below w.heap.size w w' := by
  go_enter Try.func6, Try.ntmps6
  go_wp2
  go_region
  go_wp2
  go_region
  go_wp2

  exact bodyPost_ret (v := .agg #[.int .i64 (1 : Int), .int .i64 (0 : Int), .int .i64 (0 : Int), .int .i64 (0 : Int), .int .i64 (0 : Int), .int .u64 (0 : Int), .int .i64 (0 : Int)]) (by simp [results, Try.results6, go_sem]) rfl ⟨rfl, by go_grown⟩

set_option maxRecDepth 100000 in
set_option maxHeartbeats 2000000 in
theorem tame_2 (o a b l c d D4 D1 : Int) (A B P I I4 I1 I1s : Nat) (w : World) (h0 : bits .and .i64 o 255 = (P : Int)) (hp : Int.tmod (P : Int) 23 = 1) (ma : bits .and .i64 a 15 = (A : Int)) (mb : bits .and .i64 b 15 = (B : Int))
    (md4 : wrap64 (d * 4294967296) / 4294967296 = D4) (md1 : wrap64 (d * 72057594037927936) / 72057594037927936 = D1) (hB : B < 16) :
    Calls Try.prog 6 #[.agg #[.int .i64 o, .int .i64 a, .int .i64 b, .int .i64 l, .int .i64 c, .int .u64 I, .int .i64 d]] w fun e w' => e = .returned (insV ⟨2, 0, 0, 0, 0, 0, 0⟩) ∧ Below w.heap.size w w' := by
  go_enter Try.func6, Try.ntmps6
  go_wp2
  go_region
  go_wp2
  go_region
  go_wp2

  exact bodyPost_ret (v := .agg #[.int .i64 (2 : Int), .int .i64 (0 : Int), .int .i64 (0 : Int), .int .i64 (0 : Int), .int .i64 (0 : Int), .int .u64 (0 : Int), .int .i64 (0 : Int)]) (by simp [results, Try.results6, go_sem]) rfl ⟨rfl, by go_grown⟩

set_option maxRecDepth 100000 in
set_option maxHeartbeats 2000000 in
theorem tame_3 (o a b l c d D4 D1 : Int) (A B P I I4 I1 I1s : Nat) (w : World) (h0 : bits .and .i64 o 255 = (P : Int)) (hp : Int.tmod (P : Int) 23 = 2) (ma : bits .and .i64 a 15 = (A : Int)) (mb : bits .and .i64 b 15 = (B : Int))
    (md4 : wrap64 (d * 4294967296) / 4294967296 = D4) (md1 : wrap64 (d * 72057594037927936) / 72057594037927936 = D1) (hB : B < 16) :
    Calls Try.prog 6 #[.agg #[.int .i64 o, .int .i64 a, .int .i64 b, .int .i64 l, .int .i64 c, .int .u64 I, .int .i64 d]] w fun e w' => e = .returned (insV ⟨3, A, 0, 0, 0, 0, 0⟩) ∧ Below w.heap.size w w' := by
  go_enter Try.func6, Try.ntmps6
  go_wp2
  go_region
  go_wp2
  go_region
  go_wp2

  exact bodyPost_ret (v := .agg #[.int .i64 (3 : Int), .int .i64 (A : Int), .int .i64 (0 : Int), .int .i64 (0 : Int), .int .i64 (0 : Int), .int .u64 (0 : Int), .int .i64 (0 : Int)]) (by simp [results, Try.results6, go_sem]) rfl ⟨rfl, by go_grown⟩

set_option maxRecDepth 100000 in
set_option maxHeartbeats 2000000 in
theorem tame_4 (o a b l c d D4 D1 : Int) (A B P I I4 I1 I1s : Nat) (w : World) (h0 : bits .and .i64 o 255 = (P : Int)) (hp : Int.tmod (P : Int) 23 = 3) (ma : bits .and .i64 a 15 = (A : Int)) (mb : bits .and .i64 b 15 = (B : Int))
    (md4 : wrap64 (d * 4294967296) / 4294967296 = D4) (md1 : wrap64 (d * 72057594037927936) / 72057594037927936 = D1) (hB : B < 16) :
    Calls Try.prog 6 #[.agg #[.int .i64 o, .int .i64 a, .int .i64 b, .int .i64 l, .int .i64 c, .int .u64 I, .int .i64 d]] w fun e w' => e = .returned (insV ⟨4, A, 0, 0, 0, 0, 0⟩) ∧ Below w.heap.size w w' := by
  go_enter Try.func6, Try.ntmps6
  go_wp2
  go_region
  go_wp2
  go_region
  go_wp2

  exact bodyPost_ret (v := .agg #[.int .i64 (4 : Int), .int .i64 (A : Int), .int .i64 (0 : Int), .int .i64 (0 : Int), .int .i64 (0 : Int), .int .u64 (0 : Int), .int .i64 (0 : Int)]) (by simp [results, Try.results6, go_sem]) rfl ⟨rfl, by go_grown⟩

set_option maxRecDepth 100000 in
set_option maxHeartbeats 2000000 in
theorem tame_5 (o a b l c d D4 D1 : Int) (A B P I I4 I1 I1s : Nat) (w : World) (h0 : bits .and .i64 o 255 = (P : Int)) (hp : Int.tmod (P : Int) 23 = 4) (ma : bits .and .i64 a 15 = (A : Int)) (mb : bits .and .i64 b 15 = (B : Int))
    (md4 : wrap64 (d * 4294967296) / 4294967296 = D4) (md1 : wrap64 (d * 72057594037927936) / 72057594037927936 = D1) (hB : B < 16) :
    Calls Try.prog 6 #[.agg #[.int .i64 o, .int .i64 a, .int .i64 b, .int .i64 l, .int .i64 c, .int .u64 I, .int .i64 d]] w fun e w' => e = .returned (insV ⟨5, A, 0, 0, 0, I, 0⟩) ∧ Below w.heap.size w w' := by
  go_enter Try.func6, Try.ntmps6
  go_wp2
  go_region
  go_wp2
  go_region
  go_wp2
  go_region
  go_wp2
  exact bodyPost_ret (v := .agg #[.int .i64 (5 : Int), .int .i64 (A : Int), .int .i64 (0 : Int), .int .i64 (0 : Int), .int .i64 (0 : Int), .int .u64 (I : Int), .int .i64 (0 : Int)]) (by simp [results, Try.results6, go_sem]) rfl ⟨rfl, by go_grown⟩

set_option maxRecDepth 100000 in
set_option maxHeartbeats 2000000 in
theorem tame_6 (o a b l c d D4 D1 : Int) (A B P I I4 I1 I1s : Nat) (w : World) (h0 : bits .and .i64 o 255 = (P : Int)) (hp : Int.tmod (P : Int) 23 = 5) (ma : bits .and .i64 a 15 = (A : Int)) (mb : bits .and .i64 b 15 = (B : Int))
    (md4 : wrap64 (d * 4294967296) / 4294967296 = D4) (md1 : wrap64 (d * 72057594037927936) / 72057594037927936 = D1) (mi : bits .and .u64 (I : Int) 4294967295 = (I4 : Int)) (hB : B < 16) :
    Calls Try.prog 6 #[.agg #[.int .i64 o, .int .i64 a, .int .i64 b, .int .i64 l, .int .i64 c, .int .u64 I, .int .i64 d]] w fun e w' => e = .returned (insV ⟨6, A, 0, 0, 0, I4, 0⟩) ∧ Below w.heap.size w w' := by
  go_enter Try.func6, Try.ntmps6
  go_wp2
  go_region
  go_wp2
  go_region
  go_wp2
  go_region
  go_wp2
  exact bodyPost_ret (v := .agg #[.int .i64 (6 : Int), .int .i64 (A : Int), .int .i64 (0 : Int), .int .i64 (0 : Int), .int .i64 (0 : Int), .int .u64 (I4 : Int), .int .i64 (0 : Int)]) (by simp [results, Try.results6, go_sem]) rfl ⟨rfl, by go_grown⟩

set_option maxRecDepth 100000 in
set_option maxHeartbeats 2000000 in
theorem tame_7_0 (o a b l c d D4 D1 : Int) (A B P I I4 I1 I1s : Nat) (w : World) (h0 : bits .and .i64 o 255 = (P : Int)) (hp : Int.tmod (P : Int) 23 = 6) (ma : bits .and .i64 a 15 = (A : Int)) (mb : bits .and .i64 b 15 = (B : Int))
    (md4 : wrap64 (d * 4294967296) / 4294967296 = D4) (md1 : wrap64 (d * 72057594037927936) / 72057594037927936 = D1) (L : Nat) (ml : bits .and .i64 l 255 = (L : Int)) (hl : Int.tmod (L : Int) 7 = 0) (hB : B < 16) :
    Calls Try.prog 6 #[.agg #[.int .i64 o, .int .i64 a, .int .i64 b, .int .i64 l, .int .i64 c, .int .u64 I, .int .i64 d]] w fun e w' => e = .returned (insV ⟨7, A, B, 0, 0, 0, 0⟩) ∧ Below w.heap.size w w' := by
  go_enter Try.func6, Try.ntmps6
  go_wp2
  go_region
  go_wp2
  go_region
  go_wp2
  go_region
  go_wp2
  exact bodyPost_ret (v := .agg #[.int .i64 (7 : Int), .int .i64 (A : Int), .int .i64 (B : Int), .int .i64 (0 : Int), .int .i64 (0 : Int), .int .u64 (0 : Int), .int .i64 (0 : Int)]) (by simp [results, Try.results6, go_sem]) rfl ⟨rfl, by go_grown⟩

set_option maxRecDepth 100000 in
set_option maxHeartbeats 2000000 in
theorem tame_7_1 (o a b l c d D4 D1 : Int) (A B P I I4 I1 I1s : Nat) (w : World) (h0 : bits .and .i64 o 255 = (P : Int)) (hp : Int.tmod (P : Int) 23 = 6) (ma : bits .and .i64 a 15 = (A : Int)) (mb : bits .and .i64 b 15 = (B : Int))
    (md4 : wrap64 (d * 4294967296) / 4294967296 = D4) (md1 : wrap64 (d * 72057594037927936) / 72057594037927936 = D1) (L : Nat) (ml : bits .and .i64 l 255 = (L : Int)) (hl : Int.tmod (L : Int) 7 = 1) (hB : B < 16) :
    Calls Try.prog 6 #[.agg #[.int .i64 o, .int .i64 a, .int .i64 b, .int .i64 l, .int .i64 c, .int .u64 I, .int .i64 d]] w fun e w' => e = .returned (insV ⟨7, A, B, 1, 0, 0, 0⟩) ∧ Below w.heap.size w w' := by
  go_enter Try.func6, Try.ntmps6
  go_wp2
  go_region
  go_wp2
  go_region
  go_wp2
  go_region
  go_wp2
  exact bodyPost_ret (v := .agg #[.int .i64 (7 : Int), .int .i64 (A : Int), .int .i64 (B : Int), .int .i64 (1 : Int), .int .i64 (0 : Int), .int .u64 (0 : Int), .int .i64 (0 : Int)]) (by simp [results, Try.results6, go_sem]) rfl ⟨rfl, by go_grown⟩

set_option maxRecDepth 100000 in
set_option maxHeartbeats 2000000 in
theorem tame_7_2 (o a b l c d D4 D1 : Int) (A B P I I4 I1 I1s : Nat) (w : World) (h0 : bits .and .i64 o 255 = (P : Int)) (hp : Int.tmod (P : Int) 23 = 6) (ma : bits .and .i64 a 15 = (A : Int)) (mb : bits .and .i64 b 15 = (B : Int))
    (md4 : wrap64 (d * 4294967296) / 4294967296 = D4) (md1 : wrap64 (d * 72057594037927936) / 72057594037927936 = D1) (L : Nat) (ml : bits .and .i64 l 255 = (L : Int)) (hl : Int.tmod (L : Int) 7 = 2) (hB : B < 16) :
    Calls Try.prog 6 #[.agg #[.int .i64 o, .int .i64 a, .int .i64 b, .int .i64 l, .int .i64 c, .int .u64 I, .int .i64 d]] w fun e w' => e = .returned (insV ⟨7, A, B, 2, 0, 0, 0⟩) ∧ Below w.heap.size w w' := by
  go_enter Try.func6, Try.ntmps6
  go_wp2
  go_region
  go_wp2
  go_region
  go_wp2
  go_region
  go_wp2
  exact bodyPost_ret (v := .agg #[.int .i64 (7 : Int), .int .i64 (A : Int), .int .i64 (B : Int), .int .i64 (2 : Int), .int .i64 (0 : Int), .int .u64 (0 : Int), .int .i64 (0 : Int)]) (by simp [results, Try.results6, go_sem]) rfl ⟨rfl, by go_grown⟩

set_option maxRecDepth 100000 in
set_option maxHeartbeats 2000000 in
theorem tame_7_3 (o a b l c d D4 D1 : Int) (A B P I I4 I1 I1s : Nat) (w : World) (h0 : bits .and .i64 o 255 = (P : Int)) (hp : Int.tmod (P : Int) 23 = 6) (ma : bits .and .i64 a 15 = (A : Int)) (mb : bits .and .i64 b 15 = (B : Int))
    (md4 : wrap64 (d * 4294967296) / 4294967296 = D4) (md1 : wrap64 (d * 72057594037927936) / 72057594037927936 = D1) (L : Nat) (ml : bits .and .i64 l 255 = (L : Int)) (hl : Int.tmod (L : Int) 7 = 3) (hB : B < 16) :
    Calls Try.prog 6 #[.agg #[.int .i64 o, .int .i64 a, .int .i64 b, .int .i64 l, .int .i64 c, .int .u64 I, .int .i64 d]] w fun e w' => e = .returned (insV ⟨7, A, B, 3, 0, 0, 0⟩) ∧ Below w.heap.size w w' := by
  go_enter Try.func6, Try.ntmps6
  go_wp2
  go_region
  go_wp2
  go_region
  go_wp2
  go_region
  go_wp2
  exact bodyPost_ret (v := .agg #[.int .i64 (7 : Int), .int .i64 (A : Int), .int .i64 (B : Int), .int .i64 (3 : Int), .int .i64 (0 : Int), .int .u64 (0 : Int), .int .i64 (0 : Int)]) (by simp [results, Try.results6, go_sem]) rfl ⟨rfl, by go_grown⟩

set_option maxRecDepth 100000 in
set_option maxHeartbeats 2000000 in
theorem tame_7_4 (o a b l c d D4 D1 : Int) (A B P I I4 I1 I1s : Nat) (w : World) (h0 : bits .and .i64 o 255 = (P : Int)) (hp : Int.tmod (P : Int) 23 = 6) (ma : bits .and .i64 a 15 = (A : Int)) (mb : bits .and .i64 b 15 = (B : Int))
    (md4 : wrap64 (d * 4294967296) / 4294967296 = D4) (md1 : wrap64 (d * 72057594037927936) / 72057594037927936 = D1) (L : Nat) (ml : bits .and .i64 l 255 = (L : Int)) (hl : Int.tmod (L : Int) 7 = 4) (hB : B < 16) :
    Calls Try.prog 6 #[.agg #[.int .i64 o, .int .i64 a, .int .i64 b, .int .i64 l, .int .i64 c, .int .u64 I, .int .i64 d]] w fun e w' => e = .returned (insV ⟨7, A, B, 4, 0, 0, 0⟩) ∧ Below w.heap.size w w' := by
  go_enter Try.func6, Try.ntmps6
  go_wp2
  go_region
  go_wp2
  go_region
  go_wp2
  go_region
  go_wp2
  exact bodyPost_ret (v := .agg #[.int .i64 (7 : Int), .int .i64 (A : Int), .int .i64 (B : Int), .int .i64 (4 : Int), .int .i64 (0 : Int), .int .u64 (0 : Int), .int .i64 (0 : Int)]) (by simp [results, Try.results6, go_sem]) rfl ⟨rfl, by go_grown⟩

set_option maxRecDepth 100000 in
set_option maxHeartbeats 2000000 in
theorem tame_7_5 (o a b l c d D4 D1 : Int) (A B P I I4 I1 I1s : Nat) (w : World) (h0 : bits .and .i64 o 255 = (P : Int)) (hp : Int.tmod (P : Int) 23 = 6) (ma : bits .and .i64 a 15 = (A : Int)) (mb : bits .and .i64 b 15 = (B : Int))
    (md4 : wrap64 (d * 4294967296) / 4294967296 = D4) (md1 : wrap64 (d * 72057594037927936) / 72057594037927936 = D1) (L : Nat) (ml : bits .and .i64 l 255 = (L : Int)) (hl : Int.tmod (L : Int) 7 = 5) (hB : B < 16) :
    Calls Try.prog 6 #[.agg #[.int .i64 o, .int .i64 a, .int .i64 b, .int .i64 l, .int .i64 c, .int .u64 I, .int .i64 d]] w fun e w' => e = .returned (insV ⟨7, A, B, 7, 0, 0, 0⟩) ∧ Below w.heap.size w w' := by
  go_enter Try.func6, Try.ntmps6
  go_wp2
  go_region
  go_wp2
  go_region
  go_wp2
  go_region
  go_wp2
  exact bodyPost_ret (v := .agg #[.int .i64 (7 : Int), .int .i64 (A : Int), .int .i64 (B : Int), .int .i64 (7 : Int), .int .i64 (0 : Int), .int .u64 (0 : Int), .int .i64 (0 : Int)]) (by simp [results, Try.results6, go_sem]) rfl ⟨rfl, by go_grown⟩

set_option maxRecDepth 100000 in
set_option maxHeartbeats 2000000 in
theorem tame_7_6 (o a b l c d D4 D1 : Int) (A B P I I4 I1 I1s : Nat) (w : World) (h0 : bits .and .i64 o 255 = (P : Int)) (hp : Int.tmod (P : Int) 23 = 6) (ma : bits .and .i64 a 15 = (A : Int)) (mb : bits .and .i64 b 15 = (B : Int))
    (md4 : wrap64 (d * 4294967296) / 4294967296 = D4) (md1 : wrap64 (d * 72057594037927936) / 72057594037927936 = D1) (L : Nat) (ml : bits .and .i64 l 255 = (L : Int)) (hl : Int.tmod (L : Int) 7 = 6) (hB : B < 16) :
    Calls Try.prog 6 #[.agg #[.int .i64 o, .int .i64 a, .int .i64 b, .int .i64 l, .int .i64 c, .int .u64 I, .int .i64 d]] w fun e w' => e = .returned (insV ⟨7, A, B, 8, 0, 0, 0⟩) ∧ Below w.heap.size w w' := by
  go_enter Try.func6, Try.ntmps6
  go_wp2
  go_region
  go_wp2
  go_region
  go_wp2
  go_region
  go_wp2
  exact bodyPost_ret (v := .agg #[.int .i64 (7 : Int), .int .i64 (A : Int), .int .i64 (B : Int), .int .i64 (8 : Int), .int .i64 (0 : Int), .int .u64 (0 : Int), .int .i64 (0 : Int)]) (by simp [results, Try.results6, go_sem]) rfl ⟨rfl, by go_grown⟩

set_option maxRecDepth 100000 in
set_option maxHeartbeats 2000000 in
theorem tame_8 (o a b l c d D4 D1 : Int) (A B P I I4 I1 I1s : Nat) (w : World) (h0 : bits .and .i64 o 255 = (P : Int)) (hp : Int.tmod (P : Int) 23 = 7) (ma : bits .and .i64 a 15 = (A : Int)) (mb : bits .and .i64 b 15 = (B : Int))
    (md4 : wrap64 (d * 4294967296) / 4294967296 = D4) (md1 : wrap64 (d * 72057594037927936) / 72057594037927936 = D1) (hB : B < 16) :
    Calls Try.prog 6 #[.agg #[.int .i64 o, .int .i64 a, .int .i64 b, .int .i64 l, .int .i64 c, .int .u64 I, .int .i64 d]] w fun e w' => e = .returned (insV ⟨8, A, B, 0, 0, 0, 0⟩) ∧ Below w.heap.size w w' := by
  go_enter Try.func6, Try.ntmps6
  go_wp2
  go_region
  go_wp2
  go_region
  go_wp2

  exact bodyPost_ret (v := .agg #[.int .i64 (8 : Int), .int .i64 (A : Int), .int .i64 (B : Int), .int .i64 (0 : Int), .int .i64 (0 : Int), .int .u64 (0 : Int), .int .i64 (0 : Int)]) (by simp [results, Try.results6, go_sem]) rfl ⟨rfl, by go_grown⟩

end Go.Proofs.Ytimjpdheaecajaa
