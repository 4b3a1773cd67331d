/- Tame: any instruction, case by case. · Tame: any instruction, case by case. · Tame: any instruction, case by case. · Tame's answers are instructions; what it answers, whatever it is asked. -/
import Derived.Test.YthbgmlmcjnlopaaDecP
import Derived.Test.YthbgmlmcjnlopaaMask
namespace Go.Proofs.Ythbgmlmcjnlopaa
open Go.ChangeShapes Go.WideShapes Go.ChangeAt Go.RowKit
set_option linter.unusedVariables false
set_option linter.unusedSimpArgs false
set_option maxRecDepth 100000 in
set_option maxHeartbeats 2000000 in
theorem tame_1 (o a b l c d D4 D1 : Int) (A B P I I4 I1 I1s : Nat) (w : World) (h0 : bits .and .i64 o 255 = (P : Int)) (hp : Int.tmod (P : Int) 23 = 0) (ma : bits .and .i64 a 15 = (A : Int)) (mb : bits .and .i64 b 15 = (B : Int))
    (md4 : wrap64 (d * 4294967296) / 4294967296 = D4) (md1 : wrap64 (d * 72057594037927936) / 72057594037927936 = D1) (hB : B < 16) :
    Calls Try.prog 25 #[.agg #[.int .i64 o, .int .i64 a, .int .i64 b, .int .i64 l, .int .i64 c, .int .u64 I, .int .i64 d]] w fun e w' => e = .returned (insV ⟨1, 0, 0, 0, 0, 0, 0⟩) ∧ Below w.heap.size w w' := by
  go_enter Try.func25, Try.ntmps25
  go_wp2
  go_region
  go_wp2
  go_region
  go_wp2

  exact bodyPost_ret (v := .agg #[.int .i64 (1 : Int), .int .i64 (0 : Int), .int .i64 (0 : Int), .int .i64 (0 : Int), .int .i64 (0 : Int), .int .u64 (0 : Int), .int .i64 (0 : Int)]) (by simp [results, Try.results25, go_sem]) rfl ⟨rfl, by go_grown⟩

set_option maxRecDepth 100000 in
set_option maxHeartbeats 2000000 in
theorem tame_2 (o a b l c d D4 D1 : Int) (A B P I I4 I1 I1s : Nat) (w : World) (h0 : bits .and .i64 o 255 = (P : Int)) (hp : Int.tmod (P : Int) 23 = 1) (ma : bits .and .i64 a 15 = (A : Int)) (mb : bits .and .i64 b 15 = (B : Int))
    (md4 : wrap64 (d * 4294967296) / 4294967296 = D4) (md1 : wrap64 (d * 72057594037927936) / 72057594037927936 = D1) (hB : B < 16) :
    Calls Try.prog 25 #[.agg #[.int .i64 o, .int .i64 a, .int .i64 b, .int .i64 l, .int .i64 c, .int .u64 I, .int .i64 d]] w fun e w' => e = .returned (insV ⟨2, 0, 0, 0, 0, 0, 0⟩) ∧ Below w.heap.size w w' := by
  go_enter Try.func25, Try.ntmps25
  go_wp2
  go_region
  go_wp2
  go_region
  go_wp2

  exact bodyPost_ret (v := .agg #[.int .i64 (2 : Int), .int .i64 (0 : Int), .int .i64 (0 : Int), .int .i64 (0 : Int), .int .i64 (0 : Int), .int .u64 (0 : Int), .int .i64 (0 : Int)]) (by simp [results, Try.results25, go_sem]) rfl ⟨rfl, by go_grown⟩

set_option maxRecDepth 100000 in
set_option maxHeartbeats 2000000 in
theorem tame_3 (o a b l c d D4 D1 : Int) (A B P I I4 I1 I1s : Nat) (w : World) (h0 : bits .and .i64 o 255 = (P : Int)) (hp : Int.tmod (P : Int) 23 = 2) (ma : bits .and .i64 a 15 = (A : Int)) (mb : bits .and .i64 b 15 = (B : Int))
    (md4 : wrap64 (d * 4294967296) / 4294967296 = D4) (md1 : wrap64 (d * 72057594037927936) / 72057594037927936 = D1) (hB : B < 16) :
    Calls Try.prog 25 #[.agg #[.int .i64 o, .int .i64 a, .int .i64 b, .int .i64 l, .int .i64 c, .int .u64 I, .int .i64 d]] w fun e w' => e = .returned (insV ⟨3, A, 0, 0, 0, 0, 0⟩) ∧ Below w.heap.size w w' := by
  go_enter Try.func25, Try.ntmps25
  go_wp2
  go_region
  go_wp2
  go_region
  go_wp2

  exact bodyPost_ret (v := .agg #[.int .i64 (3 : Int), .int .i64 (A : Int), .int .i64 (0 : Int), .int .i64 (0 : Int), .int .i64 (0 : Int), .int .u64 (0 : Int), .int .i64 (0 : Int)]) (by simp [results, Try.results25, go_sem]) rfl ⟨rfl, by go_grown⟩

set_option maxRecDepth 100000 in
set_option maxHeartbeats 2000000 in
theorem tame_4 (o a b l c d D4 D1 : Int) (A B P I I4 I1 I1s : Nat) (w : World) (h0 : bits .and .i64 o 255 = (P : Int)) (hp : Int.tmod (P : Int) 23 = 3) (ma : bits .and .i64 a 15 = (A : Int)) (mb : bits .and .i64 b 15 = (B : Int))
    (md4 : wrap64 (d * 4294967296) / 4294967296 = D4) (md1 : wrap64 (d * 72057594037927936) / 72057594037927936 = D1) (hB : B < 16) :
    Calls Try.prog 25 #[.agg #[.int .i64 o, .int .i64 a, .int .i64 b, .int .i64 l, .int .i64 c, .int .u64 I, .int .i64 d]] w fun e w' => e = .returned (insV ⟨4, A, 0, 0, 0, 0, 0⟩) ∧ Below w.heap.size w w' := by
  go_enter Try.func25, Try.ntmps25
  go_wp2
  go_region
  go_wp2
  go_region
  go_wp2

  exact bodyPost_ret (v := .agg #[.int .i64 (4 : Int), .int .i64 (A : Int), .int .i64 (0 : Int), .int .i64 (0 : Int), .int .i64 (0 : Int), .int .u64 (0 : Int), .int .i64 (0 : Int)]) (by simp [results, Try.results25, go_sem]) rfl ⟨rfl, by go_grown⟩

set_option maxRecDepth 100000 in
set_option maxHeartbeats 2000000 in
theorem tame_5 (o a b l c d D4 D1 : Int) (A B P I I4 I1 I1s : Nat) (w : World) (h0 : bits .and .i64 o 255 = (P : Int)) (hp : Int.tmod (P : Int) 23 = 4) (ma : bits .and .i64 a 15 = (A : Int)) (mb : bits .and .i64 b 15 = (B : Int))
    (md4 : wrap64 (d * 4294967296) / 4294967296 = D4) (md1 : wrap64 (d * 72057594037927936) / 72057594037927936 = D1) (hB : B < 16) :
    Calls Try.prog 25 #[.agg #[.int .i64 o, .int .i64 a, .int .i64 b, .int .i64 l, .int .i64 c, .int .u64 I, .int .i64 d]] w fun e w' => e = .returned (insV ⟨5, A, 0, 0, 0, I, 0⟩) ∧ Below w.heap.size w w' := by
  go_enter Try.func25, Try.ntmps25
  go_wp2
  go_region
  go_wp2
  go_region
  go_wp2
  go_region
  go_wp2
  exact bodyPost_ret (v := .agg #[.int .i64 (5 : Int), .int .i64 (A : Int), .int .i64 (0 : Int), .int .i64 (0 : Int), .int .i64 (0 : Int), .int .u64 (I : Int), .int .i64 (0 : Int)]) (by simp [results, Try.results25, go_sem]) rfl ⟨rfl, by go_grown⟩

set_option maxRecDepth 100000 in
set_option maxHeartbeats 2000000 in
theorem tame_6 (o a b l c d D4 D1 : Int) (A B P I I4 I1 I1s : Nat) (w : World) (h0 : bits .and .i64 o 255 = (P : Int)) (hp : Int.tmod (P : Int) 23 = 5) (ma : bits .and .i64 a 15 = (A : Int)) (mb : bits .and .i64 b 15 = (B : Int))
    (md4 : wrap64 (d * 4294967296) / 4294967296 = D4) (md1 : wrap64 (d * 72057594037927936) / 72057594037927936 = D1) (mi : bits .and .u64 (I : Int) 4294967295 = (I4 : Int)) (hB : B < 16) :
    Calls Try.prog 25 #[.agg #[.int .i64 o, .int .i64 a, .int .i64 b, .int .i64 l, .int .i64 c, .int .u64 I, .int .i64 d]] w fun e w' => e = .returned (insV ⟨6, A, 0, 0, 0, I4, 0⟩) ∧ Below w.heap.size w w' := by
  go_enter Try.func25, Try.ntmps25
  go_wp2
  go_region
  go_wp2
  go_region
  go_wp2
  go_region
  go_wp2
  exact bodyPost_ret (v := .agg #[.int .i64 (6 : Int), .int .i64 (A : Int), .int .i64 (0 : Int), .int .i64 (0 : Int), .int .i64 (0 : Int), .int .u64 (I4 : Int), .int .i64 (0 : Int)]) (by simp [results, Try.results25, go_sem]) rfl ⟨rfl, by go_grown⟩

set_option maxRecDepth 100000 in
set_option maxHeartbeats 2000000 in
theorem tame_7_0 (o a b l c d D4 D1 : Int) (A B P I I4 I1 I1s : Nat) (w : World) (h0 : bits .and .i64 o 255 = (P : Int)) (hp : Int.tmod (P : Int) 23 = 6) (ma : bits .and .i64 a 15 = (A : Int)) (mb : bits .and .i64 b 15 = (B : Int))
    (md4 : wrap64 (d * 4294967296) / 4294967296 = D4) (md1 : wrap64 (d * 72057594037927936) / 72057594037927936 = D1) (L : Nat) (ml : bits .and .i64 l 255 = (L : Int)) (hl : Int.tmod (L : Int) 7 = 0) (hB : B < 16) :
    Calls Try.prog 25 #[.agg #[.int .i64 o, .int .i64 a, .int .i64 b, .int .i64 l, .int .i64 c, .int .u64 I, .int .i64 d]] w fun e w' => e = .returned (insV ⟨7, A, B, 0, 0, 0, 0⟩) ∧ Below w.heap.size w w' := by
  go_enter Try.func25, Try.ntmps25
  go_wp2
  go_region
  go_wp2
  go_region
  go_wp2
  go_region
  go_wp2
  exact bodyPost_ret (v := .agg #[.int .i64 (7 : Int), .int .i64 (A : Int), .int .i64 (B : Int), .int .i64 (0 : Int), .int .i64 (0 : Int), .int .u64 (0 : Int), .int .i64 (0 : Int)]) (by simp [results, Try.results25, go_sem]) rfl ⟨rfl, by go_grown⟩

set_option maxRecDepth 100000 in
set_option maxHeartbeats 2000000 in
theorem tame_7_1 (o a b l c d D4 D1 : Int) (A B P I I4 I1 I1s : Nat) (w : World) (h0 : bits .and .i64 o 255 = (P : Int)) (hp : Int.tmod (P : Int) 23 = 6) (ma : bits .and .i64 a 15 = (A : Int)) (mb : bits .and .i64 b 15 = (B : Int))
    (md4 : wrap64 (d * 4294967296) / 4294967296 = D4) (md1 : wrap64 (d * 72057594037927936) / 72057594037927936 = D1) (L : Nat) (ml : bits .and .i64 l 255 = (L : Int)) (hl : Int.tmod (L : Int) 7 = 1) (hB : B < 16) :
    Calls Try.prog 25 #[.agg #[.int .i64 o, .int .i64 a, .int .i64 b, .int .i64 l, .int .i64 c, .int .u64 I, .int .i64 d]] w fun e w' => e = .returned (insV ⟨7, A, B, 1, 0, 0, 0⟩) ∧ Below w.heap.size w w' := by
  go_enter Try.func25, Try.ntmps25
  go_wp2
  go_region
  go_wp2
  go_region
  go_wp2
  go_region
  go_wp2
  exact bodyPost_ret (v := .agg #[.int .i64 (7 : Int), .int .i64 (A : Int), .int .i64 (B : Int), .int .i64 (1 : Int), .int .i64 (0 : Int), .int .u64 (0 : Int), .int .i64 (0 : Int)]) (by simp [results, Try.results25, go_sem]) rfl ⟨rfl, by go_grown⟩

set_option maxRecDepth 100000 in
set_option maxHeartbeats 2000000 in
theorem tame_7_2 (o a b l c d D4 D1 : Int) (A B P I I4 I1 I1s : Nat) (w : World) (h0 : bits .and .i64 o 255 = (P : Int)) (hp : Int.tmod (P : Int) 23 = 6) (ma : bits .and .i64 a 15 = (A : Int)) (mb : bits .and .i64 b 15 = (B : Int))
    (md4 : wrap64 (d * 4294967296) / 4294967296 = D4) (md1 : wrap64 (d * 72057594037927936) / 72057594037927936 = D1) (L : Nat) (ml : bits .and .i64 l 255 = (L : Int)) (hl : Int.tmod (L : Int) 7 = 2) (hB : B < 16) :
    Calls Try.prog 25 #[.agg #[.int .i64 o, .int .i64 a, .int .i64 b, .int .i64 l, .int .i64 c, .int .u64 I, .int .i64 d]] w fun e w' => e = .returned (insV ⟨7, A, B, 2, 0, 0, 0⟩) ∧ Below w.heap.size w w' := by
  go_enter Try.func25, Try.ntmps25
  go_wp2
  go_region
  go_wp2
  go_region
  go_wp2
  go_region
  go_wp2
  exact bodyPost_ret (v := .agg #[.int .i64 (7 : Int), .int .i64 (A : Int), .int .i64 (B : Int), .int .i64 (2 : Int), .int .i64 (0 : Int), .int .u64 (0 : Int), .int .i64 (0 : Int)]) (by simp [results, Try.results25, go_sem]) rfl ⟨rfl, by go_grown⟩

set_option maxRecDepth 100000 in
set_option maxHeartbeats 2000000 in
theorem tame_7_3 (o a b l c d D4 D1 : Int) (A B P I I4 I1 I1s : Nat) (w : World) (h0 : bits .and .i64 o 255 = (P : Int)) (hp : Int.tmod (P : Int) 23 = 6) (ma : bits .and .i64 a 15 = (A : Int)) (mb : bits .and .i64 b 15 = (B : Int))
    (md4 : wrap64 (d * 4294967296) / 4294967296 = D4) (md1 : wrap64 (d * 72057594037927936) / 72057594037927936 = D1) (L : Nat) (ml : bits .and .i64 l 255 = (L : Int)) (hl : Int.tmod (L : Int) 7 = 3) (hB : B < 16) :
    Calls Try.prog 25 #[.agg #[.int .i64 o, .int .i64 a, .int .i64 b, .int .i64 l, .int .i64 c, .int .u64 I, .int .i64 d]] w fun e w' => e = .returned (insV ⟨7, A, B, 3, 0, 0, 0⟩) ∧ Below w.heap.size w w' := by
  go_enter Try.func25, Try.ntmps25
  go_wp2
  go_region
  go_wp2
  go_region
  go_wp2
  go_region
  go_wp2
  exact bodyPost_ret (v := .agg #[.int .i64 (7 : Int), .int .i64 (A : Int), .int .i64 (B : Int), .int .i64 (3 : Int), .int .i64 (0 : Int), .int .u64 (0 : Int), .int .i64 (0 : Int)]) (by simp [results, Try.results25, go_sem]) rfl ⟨rfl, by go_grown⟩

set_option maxRecDepth 100000 in
set_option maxHeartbeats 2000000 in
theorem tame_7_4 (o a b l c d D4 D1 : Int) (A B P I I4 I1 I1s : Nat) (w : World) (h0 : bits .and .i64 o 255 = (P : Int)) (hp : Int.tmod (P : Int) 23 = 6) (ma : bits .and .i64 a 15 = (A : Int)) (mb : bits .and .i64 b 15 = (B : Int))
    (md4 : wrap64 (d * 4294967296) / 4294967296 = D4) (md1 : wrap64 (d * 72057594037927936) / 72057594037927936 = D1) (L : Nat) (ml : bits .and .i64 l 255 = (L : Int)) (hl : Int.tmod (L : Int) 7 = 4) (hB : B < 16) :
    Calls Try.prog 25 #[.agg #[.int .i64 o, .int .i64 a, .int .i64 b, .int .i64 l, .int .i64 c, .int .u64 I, .int .i64 d]] w fun e w' => e = .returned (insV ⟨7, A, B, 4, 0, 0, 0⟩) ∧ Below w.heap.size w w' := by
  go_enter Try.func25, Try.ntmps25
  go_wp2
  go_region
  go_wp2
  go_region
  go_wp2
  go_region
  go_wp2
  exact bodyPost_ret (v := .agg #[.int .i64 (7 : Int), .int .i64 (A : Int), .int .i64 (B : Int), .int .i64 (4 : Int), .int .i64 (0 : Int), .int .u64 (0 : Int), .int .i64 (0 : Int)]) (by simp [results, Try.results25, go_sem]) rfl ⟨rfl, by go_grown⟩

set_option maxRecDepth 100000 in
set_option maxHeartbeats 2000000 in
theorem tame_7_5 (o a b l c d D4 D1 : Int) (A B P I I4 I1 I1s : Nat) (w : World) (h0 : bits .and .i64 o 255 = (P : Int)) (hp : Int.tmod (P : Int) 23 = 6) (ma : bits .and .i64 a 15 = (A : Int)) (mb : bits .and .i64 b 15 = (B : Int))
    (md4 : wrap64 (d * 4294967296) / 4294967296 = D4) (md1 : wrap64 (d * 72057594037927936) / 72057594037927936 = D1) (L : Nat) (ml : bits .and .i64 l 255 = (L : Int)) (hl : Int.tmod (L : Int) 7 = 5) (hB : B < 16) :
    Calls Try.prog 25 #[.agg #[.int .i64 o, .int .i64 a, .int .i64 b, .int .i64 l, .int .i64 c, .int .u64 I, .int .i64 d]] w fun e w' => e = .returned (insV ⟨7, A, B, 7, 0, 0, 0⟩) ∧ Below w.heap.size w w' := by
  go_enter Try.func25, Try.ntmps25
  go_wp2
  go_region
  go_wp2
  go_region
  go_wp2
  go_region
  go_wp2
  exact bodyPost_ret (v := .agg #[.int .i64 (7 : Int), .int .i64 (A : Int), .int .i64 (B : Int), .int .i64 (7 : Int), .int .i64 (0 : Int), .int .u64 (0 : Int), .int .i64 (0 : Int)]) (by simp [results, Try.results25, go_sem]) rfl ⟨rfl, by go_grown⟩

set_option maxRecDepth 100000 in
set_option maxHeartbeats 2000000 in
theorem tame_7_6 (o a b l c d D4 D1 : Int) (A B P I I4 I1 I1s : Nat) (w : World) (h0 : bits .and .i64 o 255 = (P : Int)) (hp : Int.tmod (P : Int) 23 = 6) (ma : bits .and .i64 a 15 = (A : Int)) (mb : bits .and .i64 b 15 = (B : Int))
    (md4 : wrap64 (d * 4294967296) / 4294967296 = D4) (md1 : wrap64 (d * 72057594037927936) / 72057594037927936 = D1) (L : Nat) (ml : bits .and .i64 l 255 = (L : Int)) (hl : Int.tmod (L : Int) 7 = 6) (hB : B < 16) :
    Calls Try.prog 25 #[.agg #[.int .i64 o, .int .i64 a, .int .i64 b, .int .i64 l, .int .i64 c, .int .u64 I, .int .i64 d]] w fun e w' => e = .returned (insV ⟨7, A, B, 8, 0, 0, 0⟩) ∧ Below w.heap.size w w' := by
  go_enter Try.func25, Try.ntmps25
  go_wp2
  go_region
  go_wp2
  go_region
  go_wp2
  go_region
  go_wp2
  exact bodyPost_ret (v := .agg #[.int .i64 (7 : Int), .int .i64 (A : Int), .int .i64 (B : Int), .int .i64 (8 : Int), .int .i64 (0 : Int), .int .u64 (0 : Int), .int .i64 (0 : Int)]) (by simp [results, Try.results25, go_sem]) rfl ⟨rfl, by go_grown⟩

set_option maxRecDepth 100000 in
set_option maxHeartbeats 2000000 in
theorem tame_8 (o a b l c d D4 D1 : Int) (A B P I I4 I1 I1s : Nat) (w : World) (h0 : bits .and .i64 o 255 = (P : Int)) (hp : Int.tmod (P : Int) 23 = 7) (ma : bits .and .i64 a 15 = (A : Int)) (mb : bits .and .i64 b 15 = (B : Int))
    (md4 : wrap64 (d * 4294967296) / 4294967296 = D4) (md1 : wrap64 (d * 72057594037927936) / 72057594037927936 = D1) (hB : B < 16) :
    Calls Try.prog 25 #[.agg #[.int .i64 o, .int .i64 a, .int .i64 b, .int .i64 l, .int .i64 c, .int .u64 I, .int .i64 d]] w fun e w' => e = .returned (insV ⟨8, A, B, 0, 0, 0, 0⟩) ∧ Below w.heap.size w w' := by
  go_enter Try.func25, Try.ntmps25
  go_wp2
  go_region
  go_wp2
  go_region
  go_wp2

  exact bodyPost_ret (v := .agg #[.int .i64 (8 : Int), .int .i64 (A : Int), .int .i64 (B : Int), .int .i64 (0 : Int), .int .i64 (0 : Int), .int .u64 (0 : Int), .int .i64 (0 : Int)]) (by simp [results, Try.results25, go_sem]) rfl ⟨rfl, by go_grown⟩

end Go.Proofs.Ythbgmlmcjnlopaa
namespace Go.Proofs.Ythbgmlmcjnlopaa
open Go.ChangeShapes Go.WideShapes Go.ChangeAt Go.RowKit
set_option linter.unusedVariables false
set_option linter.unusedSimpArgs false
set_option maxRecDepth 100000 in
set_option maxHeartbeats 2000000 in
theorem tame_9_y (o a b l c d D4 D1 : Int) (A B P I I4 I1 I1s : Nat) (w : World) (h0 : bits .and .i64 o 255 = (P : Int)) (hp : Int.tmod (P : Int) 23 = 8) (ma : bits .and .i64 a 15 = (A : Int)) (mb : bits .and .i64 b 15 = (B : Int))
    (md4 : wrap64 (d * 4294967296) / 4294967296 = D4) (md1 : wrap64 (d * 72057594037927936) / 72057594037927936 = D1) (m7 : bits .and .i64 (B : Int) 7 = (B : Int) % 8) (m8 : ((B : Int) % 8 == 4) = true) (hB : B < 16) :
    Calls Try.prog 25 #[.agg #[.int .i64 o, .int .i64 a, .int .i64 b, .int .i64 l, .int .i64 c, .int .u64 I, .int .i64 d]] w fun e w' => e = .returned (insV ⟨9, A, (B + 1), 0, 0, 0, D4⟩) ∧ Below w.heap.size w w' := by
  go_enter Try.func25, Try.ntmps25
  go_wp2
  go_region
  go_wp2
  go_region
  go_wp2

  exact bodyPost_ret (v := .agg #[.int .i64 (9 : Int), .int .i64 (A : Int), .int .i64 ((B : Int) + 1), .int .i64 (0 : Int), .int .i64 (0 : Int), .int .u64 (0 : Int), .int .i64 (D4 : Int)]) (by simp [results, Try.results25, go_sem]) rfl ⟨rfl, by go_grown⟩

set_option maxRecDepth 100000 in
set_option maxHeartbeats 2000000 in
theorem tame_9_n (o a b l c d D4 D1 : Int) (A B P I I4 I1 I1s : Nat) (w : World) (h0 : bits .and .i64 o 255 = (P : Int)) (hp : Int.tmod (P : Int) 23 = 8) (ma : bits .and .i64 a 15 = (A : Int)) (mb : bits .and .i64 b 15 = (B : Int))
    (md4 : wrap64 (d * 4294967296) / 4294967296 = D4) (md1 : wrap64 (d * 72057594037927936) / 72057594037927936 = D1) (m7 : bits .and .i64 (B : Int) 7 = (B : Int) % 8) (m8 : ((B : Int) % 8 == 4) = false) (hB : B < 16) :
    Calls Try.prog 25 #[.agg #[.int .i64 o, .int .i64 a, .int .i64 b, .int .i64 l, .int .i64 c, .int .u64 I, .int .i64 d]] w fun e w' => e = .returned (insV ⟨9, A, B, 0, 0, 0, D4⟩) ∧ Below w.heap.size w w' := by
  go_enter Try.func25, Try.ntmps25
  go_wp2
  go_region
  go_wp2
  go_region
  go_wp2

  exact bodyPost_ret (v := .agg #[.int .i64 (9 : Int), .int .i64 (A : Int), .int .i64 (B : Int), .int .i64 (0 : Int), .int .i64 (0 : Int), .int .u64 (0 : Int), .int .i64 (D4 : Int)]) (by simp [results, Try.results25, go_sem]) rfl ⟨rfl, by go_grown⟩

set_option maxRecDepth 100000 in
set_option maxHeartbeats 2000000 in
theorem tame_10_y (o a b l c d D4 D1 : Int) (A B P I I4 I1 I1s : Nat) (w : World) (h0 : bits .and .i64 o 255 = (P : Int)) (hp : Int.tmod (P : Int) 23 = 9) (ma : bits .and .i64 a 15 = (A : Int)) (mb : bits .and .i64 b 15 = (B : Int))
    (md4 : wrap64 (d * 4294967296) / 4294967296 = D4) (md1 : wrap64 (d * 72057594037927936) / 72057594037927936 = D1) (m7 : bits .and .i64 (B : Int) 7 = (B : Int) % 8) (m8 : ((B : Int) % 8 == 4) = true) (hB : B < 16) :
    Calls Try.prog 25 #[.agg #[.int .i64 o, .int .i64 a, .int .i64 b, .int .i64 l, .int .i64 c, .int .u64 I, .int .i64 d]] w fun e w' => e = .returned (insV ⟨10, A, (B + 1), 0, 0, 0, D4⟩) ∧ Below w.heap.size w w' := by
  go_enter Try.func25, Try.ntmps25
  go_wp2
  go_region
  go_wp2
  go_region
  go_wp2

  exact bodyPost_ret (v := .agg #[.int .i64 (10 : Int), .int .i64 (A : Int), .int .i64 ((B : Int) + 1), .int .i64 (0 : Int), .int .i64 (0 : Int), .int .u64 (0 : Int), .int .i64 (D4 : Int)]) (by simp [results, Try.results25, go_sem]) rfl ⟨rfl, by go_grown⟩

set_option maxRecDepth 100000 in
set_option maxHeartbeats 2000000 in
theorem tame_10_n (o a b l c d D4 D1 : Int) (A B P I I4 I1 I1s : Nat) (w : World) (h0 : bits .and .i64 o 255 = (P : Int)) (hp : Int.tmod (P : Int) 23 = 9) (ma : bits .and .i64 a 15 = (A : Int)) (mb : bits .and .i64 b 15 = (B : Int))
    (md4 : wrap64 (d * 4294967296) / 4294967296 = D4) (md1 : wrap64 (d * 72057594037927936) / 72057594037927936 = D1) (m7 : bits .and .i64 (B : Int) 7 = (B : Int) % 8) (m8 : ((B : Int) % 8 == 4) = false) (hB : B < 16) :
    Calls Try.prog 25 #[.agg #[.int .i64 o, .int .i64 a, .int .i64 b, .int .i64 l, .int .i64 c, .int .u64 I, .int .i64 d]] w fun e w' => e = .returned (insV ⟨10, A, B, 0, 0, 0, D4⟩) ∧ Below w.heap.size w w' := by
  go_enter Try.func25, Try.ntmps25
  go_wp2
  go_region
  go_wp2
  go_region
  go_wp2

  exact bodyPost_ret (v := .agg #[.int .i64 (10 : Int), .int .i64 (A : Int), .int .i64 (B : Int), .int .i64 (0 : Int), .int .i64 (0 : Int), .int .u64 (0 : Int), .int .i64 (D4 : Int)]) (by simp [results, Try.results25, go_sem]) rfl ⟨rfl, by go_grown⟩

set_option maxRecDepth 100000 in
set_option maxHeartbeats 2000000 in
theorem tame_11 (o a b l c d D4 D1 : Int) (A B P I I4 I1 I1s : Nat) (w : World) (h0 : bits .and .i64 o 255 = (P : Int)) (hp : Int.tmod (P : Int) 23 = 10) (ma : bits .and .i64 a 15 = (A : Int)) (mb : bits .and .i64 b 15 = (B : Int))
    (md4 : wrap64 (d * 4294967296) / 4294967296 = D4) (md1 : wrap64 (d * 72057594037927936) / 72057594037927936 = D1) (hB : B < 16) :
    Calls Try.prog 25 #[.agg #[.int .i64 o, .int .i64 a, .int .i64 b, .int .i64 l, .int .i64 c, .int .u64 I, .int .i64 d]] w fun e w' => e = .returned (insV ⟨11, A, 0, 0, 0, 0, D4⟩) ∧ Below w.heap.size w w' := by
  go_enter Try.func25, Try.ntmps25
  go_wp2
  go_region
  go_wp2
  go_region
  go_wp2

  exact bodyPost_ret (v := .agg #[.int .i64 (11 : Int), .int .i64 (A : Int), .int .i64 (0 : Int), .int .i64 (0 : Int), .int .i64 (0 : Int), .int .u64 (0 : Int), .int .i64 (D4 : Int)]) (by simp [results, Try.results25, go_sem]) rfl ⟨rfl, by go_grown⟩

set_option maxRecDepth 100000 in
set_option maxHeartbeats 2000000 in
theorem tame_12 (o a b l c d D4 D1 : Int) (A B P I I4 I1 I1s : Nat) (w : World) (h0 : bits .and .i64 o 255 = (P : Int)) (hp : Int.tmod (P : Int) 23 = 11) (ma : bits .and .i64 a 15 = (A : Int)) (mb : bits .and .i64 b 15 = (B : Int))
    (md4 : wrap64 (d * 4294967296) / 4294967296 = D4) (md1 : wrap64 (d * 72057594037927936) / 72057594037927936 = D1) (hB : B < 16) :
    Calls Try.prog 25 #[.agg #[.int .i64 o, .int .i64 a, .int .i64 b, .int .i64 l, .int .i64 c, .int .u64 I, .int .i64 d]] w fun e w' => e = .returned (insV ⟨12, A, 0, 0, 0, 0, D4⟩) ∧ Below w.heap.size w w' := by
  go_enter Try.func25, Try.ntmps25
  go_wp2
  go_region
  go_wp2
  go_region
  go_wp2

  exact bodyPost_ret (v := .agg #[.int .i64 (12 : Int), .int .i64 (A : Int), .int .i64 (0 : Int), .int .i64 (0 : Int), .int .i64 (0 : Int), .int .u64 (0 : Int), .int .i64 (D4 : Int)]) (by simp [results, Try.results25, go_sem]) rfl ⟨rfl, by go_grown⟩

set_option maxRecDepth 100000 in
set_option maxHeartbeats 2000000 in
theorem tame_13 (o a b l c d D4 D1 : Int) (A B P I I4 I1 I1s : Nat) (w : World) (h0 : bits .and .i64 o 255 = (P : Int)) (hp : Int.tmod (P : Int) 23 = 12) (ma : bits .and .i64 a 15 = (A : Int)) (mb : bits .and .i64 b 15 = (B : Int))
    (md4 : wrap64 (d * 4294967296) / 4294967296 = D4) (md1 : wrap64 (d * 72057594037927936) / 72057594037927936 = D1) (hB : B < 16) :
    Calls Try.prog 25 #[.agg #[.int .i64 o, .int .i64 a, .int .i64 b, .int .i64 l, .int .i64 c, .int .u64 I, .int .i64 d]] w fun e w' => e = .returned (insV ⟨13, A, 0, 0, 0, 0, D4⟩) ∧ Below w.heap.size w w' := by
  go_enter Try.func25, Try.ntmps25
  go_wp2
  go_region
  go_wp2
  go_region
  go_wp2

  exact bodyPost_ret (v := .agg #[.int .i64 (13 : Int), .int .i64 (A : Int), .int .i64 (0 : Int), .int .i64 (0 : Int), .int .i64 (0 : Int), .int .u64 (0 : Int), .int .i64 (D4 : Int)]) (by simp [results, Try.results25, go_sem]) rfl ⟨rfl, by go_grown⟩

set_option maxRecDepth 100000 in
set_option maxHeartbeats 2000000 in
theorem tame_14_0 (o a b l c d D4 D1 : Int) (A B P I I4 I1 I1s : Nat) (w : World) (h0 : bits .and .i64 o 255 = (P : Int)) (hp : Int.tmod (P : Int) 23 = 13) (ma : bits .and .i64 a 15 = (A : Int)) (mb : bits .and .i64 b 15 = (B : Int))
    (md4 : wrap64 (d * 4294967296) / 4294967296 = D4) (md1 : wrap64 (d * 72057594037927936) / 72057594037927936 = D1) (L : Nat) (ml : bits .and .i64 l 255 = (L : Int)) (hl : Int.tmod (L : Int) 3 = 0) (mi : IntKind.u64.wrap (wrap64 (wrap64 (I : Int) * 72057594037927936) / 72057594037927936) = (I1s : Int))  (hB : B < 16) :
    Calls Try.prog 25 #[.agg #[.int .i64 o, .int .i64 a, .int .i64 b, .int .i64 l, .int .i64 c, .int .u64 I, .int .i64 d]] w fun e w' => e = .returned (insV ⟨14, 0, B, 0, 0, I1s, 0⟩) ∧ Below w.heap.size w w' := by
  go_enter Try.func25, Try.ntmps25
  go_wp2
  go_region
  go_wp2
  go_region
  go_wp2
  go_region
  go_wp2
  exact bodyPost_ret (v := .agg #[.int .i64 (14 : Int), .int .i64 (0 : Int), .int .i64 (B : Int), .int .i64 (0 : Int), .int .i64 (0 : Int), .int .u64 (I1s : Int), .int .i64 (0 : Int)]) (by simp [results, Try.results25, go_sem]) rfl ⟨rfl, by go_grown⟩

set_option maxRecDepth 100000 in
set_option maxHeartbeats 2000000 in
theorem tame_14_1 (o a b l c d D4 D1 : Int) (A B P I I4 I1 I1s : Nat) (w : World) (h0 : bits .and .i64 o 255 = (P : Int)) (hp : Int.tmod (P : Int) 23 = 13) (ma : bits .and .i64 a 15 = (A : Int)) (mb : bits .and .i64 b 15 = (B : Int))
    (md4 : wrap64 (d * 4294967296) / 4294967296 = D4) (md1 : wrap64 (d * 72057594037927936) / 72057594037927936 = D1) (L : Nat) (ml : bits .and .i64 l 255 = (L : Int)) (hl : Int.tmod (L : Int) 3 = 1) (mi : IntKind.u64.wrap (wrap64 (wrap64 (I : Int) * 72057594037927936) / 72057594037927936) = (I1s : Int))  (hB : B < 16) :
    Calls Try.prog 25 #[.agg #[.int .i64 o, .int .i64 a, .int .i64 b, .int .i64 l, .int .i64 c, .int .u64 I, .int .i64 d]] w fun e w' => e = .returned (insV ⟨14, 0, B, 1, 0, I1s, 0⟩) ∧ Below w.heap.size w w' := by
  go_enter Try.func25, Try.ntmps25
  go_wp2
  go_region
  go_wp2
  go_region
  go_wp2
  go_region
  go_wp2
  exact bodyPost_ret (v := .agg #[.int .i64 (14 : Int), .int .i64 (0 : Int), .int .i64 (B : Int), .int .i64 (1 : Int), .int .i64 (0 : Int), .int .u64 (I1s : Int), .int .i64 (0 : Int)]) (by simp [results, Try.results25, go_sem]) rfl ⟨rfl, by go_grown⟩

set_option maxRecDepth 100000 in
set_option maxHeartbeats 2000000 in
theorem tame_14_2 (o a b l c d D4 D1 : Int) (A B P I I4 I1 I1s : Nat) (w : World) (h0 : bits .and .i64 o 255 = (P : Int)) (hp : Int.tmod (P : Int) 23 = 13) (ma : bits .and .i64 a 15 = (A : Int)) (mb : bits .and .i64 b 15 = (B : Int))
    (md4 : wrap64 (d * 4294967296) / 4294967296 = D4) (md1 : wrap64 (d * 72057594037927936) / 72057594037927936 = D1) (L : Nat) (ml : bits .and .i64 l 255 = (L : Int)) (hl : Int.tmod (L : Int) 3 = 2) (mi : IntKind.u64.wrap (wrap64 (wrap64 (I : Int) * 72057594037927936) / 72057594037927936) = (I1s : Int))  (hB : B < 16) :
    Calls Try.prog 25 #[.agg #[.int .i64 o, .int .i64 a, .int .i64 b, .int .i64 l, .int .i64 c, .int .u64 I, .int .i64 d]] w fun e w' => e = .returned (insV ⟨14, 0, B, 7, 0, I1s, 0⟩) ∧ Below w.heap.size w w' := by
  go_enter Try.func25, Try.ntmps25
  go_wp2
  go_region
  go_wp2
  go_region
  go_wp2
  go_region
  go_wp2
  exact bodyPost_ret (v := .agg #[.int .i64 (14 : Int), .int .i64 (0 : Int), .int .i64 (B : Int), .int .i64 (7 : Int), .int .i64 (0 : Int), .int .u64 (I1s : Int), .int .i64 (0 : Int)]) (by simp [results, Try.results25, go_sem]) rfl ⟨rfl, by go_grown⟩

set_option maxRecDepth 100000 in
set_option maxHeartbeats 2000000 in
theorem tame_15_0 (o a b l c d D4 D1 : Int) (A B P I I4 I1 I1s : Nat) (w : World) (h0 : bits .and .i64 o 255 = (P : Int)) (hp : Int.tmod (P : Int) 23 = 14) (ma : bits .and .i64 a 15 = (A : Int)) (mb : bits .and .i64 b 15 = (B : Int))
    (md4 : wrap64 (d * 4294967296) / 4294967296 = D4) (md1 : wrap64 (d * 72057594037927936) / 72057594037927936 = D1) (ml : bits .and .i64 l 1 = 0) (hB : B < 16) :
    Calls Try.prog 25 #[.agg #[.int .i64 o, .int .i64 a, .int .i64 b, .int .i64 l, .int .i64 c, .int .u64 I, .int .i64 d]] w fun e w' => e = .returned (insV ⟨15, 0, B, 5, 0, 0, 0⟩) ∧ Below w.heap.size w w' := by
  go_enter Try.func25, Try.ntmps25
  go_wp2
  go_region
  go_wp2
  go_region
  go_wp2
  go_region
  go_wp2
  exact bodyPost_ret (v := .agg #[.int .i64 (15 : Int), .int .i64 (0 : Int), .int .i64 (B : Int), .int .i64 (5 : Int), .int .i64 (0 : Int), .int .u64 (0 : Int), .int .i64 (0 : Int)]) (by simp [results, Try.results25, go_sem]) rfl ⟨rfl, by go_grown⟩

set_option maxRecDepth 100000 in
set_option maxHeartbeats 2000000 in
theorem tame_15_1 (o a b l c d D4 D1 : Int) (A B P I I4 I1 I1s : Nat) (w : World) (h0 : bits .and .i64 o 255 = (P : Int)) (hp : Int.tmod (P : Int) 23 = 14) (ma : bits .and .i64 a 15 = (A : Int)) (mb : bits .and .i64 b 15 = (B : Int))
    (md4 : wrap64 (d * 4294967296) / 4294967296 = D4) (md1 : wrap64 (d * 72057594037927936) / 72057594037927936 = D1) (ml : bits .and .i64 l 1 = 1) (hB : B < 16) :
    Calls Try.prog 25 #[.agg #[.int .i64 o, .int .i64 a, .int .i64 b, .int .i64 l, .int .i64 c, .int .u64 I, .int .i64 d]] w fun e w' => e = .returned (insV ⟨15, 0, B, 6, 0, 0, 0⟩) ∧ Below w.heap.size w w' := by
  go_enter Try.func25, Try.ntmps25
  go_wp2
  go_region
  go_wp2
  go_region
  go_wp2
  go_region
  go_wp2
  exact bodyPost_ret (v := .agg #[.int .i64 (15 : Int), .int .i64 (0 : Int), .int .i64 (B : Int), .int .i64 (6 : Int), .int .i64 (0 : Int), .int .u64 (0 : Int), .int .i64 (0 : Int)]) (by simp [results, Try.results25, go_sem]) rfl ⟨rfl, by go_grown⟩

set_option maxRecDepth 100000 in
set_option maxHeartbeats 2000000 in
theorem tame_16_0 (o a b l c d D4 D1 : Int) (A B P I I4 I1 I1s : Nat) (w : World) (h0 : bits .and .i64 o 255 = (P : Int)) (hp : Int.tmod (P : Int) 23 = 15) (ma : bits .and .i64 a 15 = (A : Int)) (mb : bits .and .i64 b 15 = (B : Int))
    (md4 : wrap64 (d * 4294967296) / 4294967296 = D4) (md1 : wrap64 (d * 72057594037927936) / 72057594037927936 = D1) (ml : bits .and .i64 l 1 = 0) (mi : bits .and .u64 (I : Int) 255 = (I1 : Int)) (hB : B < 16) :
    Calls Try.prog 25 #[.agg #[.int .i64 o, .int .i64 a, .int .i64 b, .int .i64 l, .int .i64 c, .int .u64 I, .int .i64 d]] w fun e w' => e = .returned (insV ⟨16, 0, B, 9, 0, I1, 0⟩) ∧ Below w.heap.size w w' := by
  go_enter Try.func25, Try.ntmps25
  go_wp2
  go_region
  go_wp2
  go_region
  go_wp2
  go_region
  go_wp2
  exact bodyPost_ret (v := .agg #[.int .i64 (16 : Int), .int .i64 (0 : Int), .int .i64 (B : Int), .int .i64 (9 : Int), .int .i64 (0 : Int), .int .u64 (I1 : Int), .int .i64 (0 : Int)]) (by simp [results, Try.results25, go_sem]) rfl ⟨rfl, by go_grown⟩

set_option maxRecDepth 100000 in
set_option maxHeartbeats 2000000 in
theorem tame_16_1 (o a b l c d D4 D1 : Int) (A B P I I4 I1 I1s : Nat) (w : World) (h0 : bits .and .i64 o 255 = (P : Int)) (hp : Int.tmod (P : Int) 23 = 15) (ma : bits .and .i64 a 15 = (A : Int)) (mb : bits .and .i64 b 15 = (B : Int))
    (md4 : wrap64 (d * 4294967296) / 4294967296 = D4) (md1 : wrap64 (d * 72057594037927936) / 72057594037927936 = D1) (ml : bits .and .i64 l 1 = 1) (mi : bits .and .u64 (I : Int) 255 = (I1 : Int)) (hB : B < 16) :
    Calls Try.prog 25 #[.agg #[.int .i64 o, .int .i64 a, .int .i64 b, .int .i64 l, .int .i64 c, .int .u64 I, .int .i64 d]] w fun e w' => e = .returned (insV ⟨16, 0, B, 10, 0, I1, 0⟩) ∧ Below w.heap.size w w' := by
  go_enter Try.func25, Try.ntmps25
  go_wp2
  go_region
  go_wp2
  go_region
  go_wp2
  go_region
  go_wp2
  exact bodyPost_ret (v := .agg #[.int .i64 (16 : Int), .int .i64 (0 : Int), .int .i64 (B : Int), .int .i64 (10 : Int), .int .i64 (0 : Int), .int .u64 (I1 : Int), .int .i64 (0 : Int)]) (by simp [results, Try.results25, go_sem]) rfl ⟨rfl, by go_grown⟩

end Go.Proofs.Ythbgmlmcjnlopaa
namespace Go.Proofs.Ythbgmlmcjnlopaa
open Go.ChangeShapes Go.WideShapes Go.ChangeAt Go.RowKit
set_option linter.unusedVariables false
set_option linter.unusedSimpArgs false
set_option maxRecDepth 100000 in
set_option maxHeartbeats 2000000 in
theorem tame_17 (o a b l c d D4 D1 : Int) (A B P I I4 I1 I1s : Nat) (w : World) (h0 : bits .and .i64 o 255 = (P : Int)) (hp : Int.tmod (P : Int) 23 = 16) (ma : bits .and .i64 a 15 = (A : Int)) (mb : bits .and .i64 b 15 = (B : Int))
    (md4 : wrap64 (d * 4294967296) / 4294967296 = D4) (md1 : wrap64 (d * 72057594037927936) / 72057594037927936 = D1) (hB : B < 16) :
    Calls Try.prog 25 #[.agg #[.int .i64 o, .int .i64 a, .int .i64 b, .int .i64 l, .int .i64 c, .int .u64 I, .int .i64 d]] w fun e w' => e = .returned (insV ⟨17, 0, 0, 0, 0, 0, D4⟩) ∧ Below w.heap.size w w' := by
  go_enter Try.func25, Try.ntmps25
  go_wp2
  go_region
  go_wp2
  go_region
  go_wp2

  exact bodyPost_ret (v := .agg #[.int .i64 (17 : Int), .int .i64 (0 : Int), .int .i64 (0 : Int), .int .i64 (0 : Int), .int .i64 (0 : Int), .int .u64 (0 : Int), .int .i64 (D4 : Int)]) (by simp [results, Try.results25, go_sem]) rfl ⟨rfl, by go_grown⟩

set_option maxRecDepth 100000 in
set_option maxHeartbeats 2000000 in
theorem tame_18 (o a b l c d D4 D1 : Int) (A B P I I4 I1 I1s : Nat) (w : World) (h0 : bits .and .i64 o 255 = (P : Int)) (hp : Int.tmod (P : Int) 23 = 17) (ma : bits .and .i64 a 15 = (A : Int)) (mb : bits .and .i64 b 15 = (B : Int))
    (md4 : wrap64 (d * 4294967296) / 4294967296 = D4) (md1 : wrap64 (d * 72057594037927936) / 72057594037927936 = D1) (hB : B < 16) :
    Calls Try.prog 25 #[.agg #[.int .i64 o, .int .i64 a, .int .i64 b, .int .i64 l, .int .i64 c, .int .u64 I, .int .i64 d]] w fun e w' => e = .returned (insV ⟨18, 0, 0, 0, 0, 0, D4⟩) ∧ Below w.heap.size w w' := by
  go_enter Try.func25, Try.ntmps25
  go_wp2
  go_region
  go_wp2
  go_region
  go_wp2

  exact bodyPost_ret (v := .agg #[.int .i64 (18 : Int), .int .i64 (0 : Int), .int .i64 (0 : Int), .int .i64 (0 : Int), .int .i64 (0 : Int), .int .u64 (0 : Int), .int .i64 (D4 : Int)]) (by simp [results, Try.results25, go_sem]) rfl ⟨rfl, by go_grown⟩

set_option maxRecDepth 100000 in
set_option maxHeartbeats 2000000 in
theorem tame_19 (o a b l c d D4 D1 : Int) (A B P I I4 I1 I1s : Nat) (w : World) (h0 : bits .and .i64 o 255 = (P : Int)) (hp : Int.tmod (P : Int) 23 = 18) (ma : bits .and .i64 a 15 = (A : Int)) (mb : bits .and .i64 b 15 = (B : Int))
    (md4 : wrap64 (d * 4294967296) / 4294967296 = D4) (md1 : wrap64 (d * 72057594037927936) / 72057594037927936 = D1) (hB : B < 16) :
    Calls Try.prog 25 #[.agg #[.int .i64 o, .int .i64 a, .int .i64 b, .int .i64 l, .int .i64 c, .int .u64 I, .int .i64 d]] w fun e w' => e = .returned (insV ⟨19, 0, 0, 0, 0, 0, D1⟩) ∧ Below w.heap.size w w' := by
  go_enter Try.func25, Try.ntmps25
  go_wp2
  go_region
  go_wp2
  go_region
  go_wp2

  exact bodyPost_ret (v := .agg #[.int .i64 (19 : Int), .int .i64 (0 : Int), .int .i64 (0 : Int), .int .i64 (0 : Int), .int .i64 (0 : Int), .int .u64 (0 : Int), .int .i64 (D1 : Int)]) (by simp [results, Try.results25, go_sem]) rfl ⟨rfl, by go_grown⟩

set_option maxRecDepth 100000 in
set_option maxHeartbeats 2000000 in
theorem tame_20_0 (o a b l c d D4 D1 : Int) (A B P I I4 I1 I1s : Nat) (w : World) (h0 : bits .and .i64 o 255 = (P : Int)) (hp : Int.tmod (P : Int) 23 = 19) (ma : bits .and .i64 a 15 = (A : Int)) (mb : bits .and .i64 b 15 = (B : Int))
    (md4 : wrap64 (d * 4294967296) / 4294967296 = D4) (md1 : wrap64 (d * 72057594037927936) / 72057594037927936 = D1) (mc : bits .and .i64 c 7 = 0) (hB : B < 16) :
    Calls Try.prog 25 #[.agg #[.int .i64 o, .int .i64 a, .int .i64 b, .int .i64 l, .int .i64 c, .int .u64 I, .int .i64 d]] w fun e w' => e = .returned (insV ⟨20, 0, 0, 0, 2, 0, D1⟩) ∧ Below w.heap.size w w' := by
  go_enter Try.func25, Try.ntmps25
  go_wp2
  go_region
  go_wp2
  go_region
  go_wp2

  exact bodyPost_ret (v := .agg #[.int .i64 (20 : Int), .int .i64 (0 : Int), .int .i64 (0 : Int), .int .i64 (0 : Int), .int .i64 (2 : Int), .int .u64 (0 : Int), .int .i64 (D1 : Int)]) (by simp [results, Try.results25, go_sem]) rfl ⟨rfl, by go_grown⟩

set_option maxRecDepth 100000 in
set_option maxHeartbeats 2000000 in
theorem tame_20_1 (o a b l c d D4 D1 : Int) (A B P I I4 I1 I1s : Nat) (w : World) (h0 : bits .and .i64 o 255 = (P : Int)) (hp : Int.tmod (P : Int) 23 = 19) (ma : bits .and .i64 a 15 = (A : Int)) (mb : bits .and .i64 b 15 = (B : Int))
    (md4 : wrap64 (d * 4294967296) / 4294967296 = D4) (md1 : wrap64 (d * 72057594037927936) / 72057594037927936 = D1) (mc : bits .and .i64 c 7 = 1) (hB : B < 16) :
    Calls Try.prog 25 #[.agg #[.int .i64 o, .int .i64 a, .int .i64 b, .int .i64 l, .int .i64 c, .int .u64 I, .int .i64 d]] w fun e w' => e = .returned (insV ⟨20, 0, 0, 0, 3, 0, D1⟩) ∧ Below w.heap.size w w' := by
  go_enter Try.func25, Try.ntmps25
  go_wp2
  go_region
  go_wp2
  go_region
  go_wp2

  exact bodyPost_ret (v := .agg #[.int .i64 (20 : Int), .int .i64 (0 : Int), .int .i64 (0 : Int), .int .i64 (0 : Int), .int .i64 (3 : Int), .int .u64 (0 : Int), .int .i64 (D1 : Int)]) (by simp [results, Try.results25, go_sem]) rfl ⟨rfl, by go_grown⟩

set_option maxRecDepth 100000 in
set_option maxHeartbeats 2000000 in
theorem tame_20_2 (o a b l c d D4 D1 : Int) (A B P I I4 I1 I1s : Nat) (w : World) (h0 : bits .and .i64 o 255 = (P : Int)) (hp : Int.tmod (P : Int) 23 = 19) (ma : bits .and .i64 a 15 = (A : Int)) (mb : bits .and .i64 b 15 = (B : Int))
    (md4 : wrap64 (d * 4294967296) / 4294967296 = D4) (md1 : wrap64 (d * 72057594037927936) / 72057594037927936 = D1) (mc : bits .and .i64 c 7 = 2) (hB : B < 16) :
    Calls Try.prog 25 #[.agg #[.int .i64 o, .int .i64 a, .int .i64 b, .int .i64 l, .int .i64 c, .int .u64 I, .int .i64 d]] w fun e w' => e = .returned (insV ⟨20, 0, 0, 0, 4, 0, D1⟩) ∧ Below w.heap.size w w' := by
  go_enter Try.func25, Try.ntmps25
  go_wp2
  go_region
  go_wp2
  go_region
  go_wp2

  exact bodyPost_ret (v := .agg #[.int .i64 (20 : Int), .int .i64 (0 : Int), .int .i64 (0 : Int), .int .i64 (0 : Int), .int .i64 (4 : Int), .int .u64 (0 : Int), .int .i64 (D1 : Int)]) (by simp [results, Try.results25, go_sem]) rfl ⟨rfl, by go_grown⟩

set_option maxRecDepth 100000 in
set_option maxHeartbeats 2000000 in
theorem tame_20_3 (o a b l c d D4 D1 : Int) (A B P I I4 I1 I1s : Nat) (w : World) (h0 : bits .and .i64 o 255 = (P : Int)) (hp : Int.tmod (P : Int) 23 = 19) (ma : bits .and .i64 a 15 = (A : Int)) (mb : bits .and .i64 b 15 = (B : Int))
    (md4 : wrap64 (d * 4294967296) / 4294967296 = D4) (md1 : wrap64 (d * 72057594037927936) / 72057594037927936 = D1) (mc : bits .and .i64 c 7 = 3) (hB : B < 16) :
    Calls Try.prog 25 #[.agg #[.int .i64 o, .int .i64 a, .int .i64 b, .int .i64 l, .int .i64 c, .int .u64 I, .int .i64 d]] w fun e w' => e = .returned (insV ⟨20, 0, 0, 0, 5, 0, D1⟩) ∧ Below w.heap.size w w' := by
  go_enter Try.func25, Try.ntmps25
  go_wp2
  go_region
  go_wp2
  go_region
  go_wp2

  exact bodyPost_ret (v := .agg #[.int .i64 (20 : Int), .int .i64 (0 : Int), .int .i64 (0 : Int), .int .i64 (0 : Int), .int .i64 (5 : Int), .int .u64 (0 : Int), .int .i64 (D1 : Int)]) (by simp [results, Try.results25, go_sem]) rfl ⟨rfl, by go_grown⟩

set_option maxRecDepth 100000 in
set_option maxHeartbeats 2000000 in
theorem tame_20_4 (o a b l c d D4 D1 : Int) (A B P I I4 I1 I1s : Nat) (w : World) (h0 : bits .and .i64 o 255 = (P : Int)) (hp : Int.tmod (P : Int) 23 = 19) (ma : bits .and .i64 a 15 = (A : Int)) (mb : bits .and .i64 b 15 = (B : Int))
    (md4 : wrap64 (d * 4294967296) / 4294967296 = D4) (md1 : wrap64 (d * 72057594037927936) / 72057594037927936 = D1) (mc : bits .and .i64 c 7 = 4) (hB : B < 16) :
    Calls Try.prog 25 #[.agg #[.int .i64 o, .int .i64 a, .int .i64 b, .int .i64 l, .int .i64 c, .int .u64 I, .int .i64 d]] w fun e w' => e = .returned (insV ⟨20, 0, 0, 0, 8, 0, D1⟩) ∧ Below w.heap.size w w' := by
  go_enter Try.func25, Try.ntmps25
  go_wp2
  go_region
  go_wp2
  go_region
  go_wp2

  exact bodyPost_ret (v := .agg #[.int .i64 (20 : Int), .int .i64 (0 : Int), .int .i64 (0 : Int), .int .i64 (0 : Int), .int .i64 (8 : Int), .int .u64 (0 : Int), .int .i64 (D1 : Int)]) (by simp [results, Try.results25, go_sem]) rfl ⟨rfl, by go_grown⟩

set_option maxRecDepth 100000 in
set_option maxHeartbeats 2000000 in
theorem tame_20_5 (o a b l c d D4 D1 : Int) (A B P I I4 I1 I1s : Nat) (w : World) (h0 : bits .and .i64 o 255 = (P : Int)) (hp : Int.tmod (P : Int) 23 = 19) (ma : bits .and .i64 a 15 = (A : Int)) (mb : bits .and .i64 b 15 = (B : Int))
    (md4 : wrap64 (d * 4294967296) / 4294967296 = D4) (md1 : wrap64 (d * 72057594037927936) / 72057594037927936 = D1) (mc : bits .and .i64 c 7 = 5) (hB : B < 16) :
    Calls Try.prog 25 #[.agg #[.int .i64 o, .int .i64 a, .int .i64 b, .int .i64 l, .int .i64 c, .int .u64 I, .int .i64 d]] w fun e w' => e = .returned (insV ⟨20, 0, 0, 0, 9, 0, D1⟩) ∧ Below w.heap.size w w' := by
  go_enter Try.func25, Try.ntmps25
  go_wp2
  go_region
  go_wp2
  go_region
  go_wp2

  exact bodyPost_ret (v := .agg #[.int .i64 (20 : Int), .int .i64 (0 : Int), .int .i64 (0 : Int), .int .i64 (0 : Int), .int .i64 (9 : Int), .int .u64 (0 : Int), .int .i64 (D1 : Int)]) (by simp [results, Try.results25, go_sem]) rfl ⟨rfl, by go_grown⟩

set_option maxRecDepth 100000 in
set_option maxHeartbeats 2000000 in
theorem tame_20_6 (o a b l c d D4 D1 : Int) (A B P I I4 I1 I1s : Nat) (w : World) (h0 : bits .and .i64 o 255 = (P : Int)) (hp : Int.tmod (P : Int) 23 = 19) (ma : bits .and .i64 a 15 = (A : Int)) (mb : bits .and .i64 b 15 = (B : Int))
    (md4 : wrap64 (d * 4294967296) / 4294967296 = D4) (md1 : wrap64 (d * 72057594037927936) / 72057594037927936 = D1) (mc : bits .and .i64 c 7 = 6) (hB : B < 16) :
    Calls Try.prog 25 #[.agg #[.int .i64 o, .int .i64 a, .int .i64 b, .int .i64 l, .int .i64 c, .int .u64 I, .int .i64 d]] w fun e w' => e = .returned (insV ⟨20, 0, 0, 0, 12, 0, D1⟩) ∧ Below w.heap.size w w' := by
  go_enter Try.func25, Try.ntmps25
  go_wp2
  go_region
  go_wp2
  go_region
  go_wp2

  exact bodyPost_ret (v := .agg #[.int .i64 (20 : Int), .int .i64 (0 : Int), .int .i64 (0 : Int), .int .i64 (0 : Int), .int .i64 (12 : Int), .int .u64 (0 : Int), .int .i64 (D1 : Int)]) (by simp [results, Try.results25, go_sem]) rfl ⟨rfl, by go_grown⟩

set_option maxRecDepth 100000 in
set_option maxHeartbeats 2000000 in
theorem tame_20_7 (o a b l c d D4 D1 : Int) (A B P I I4 I1 I1s : Nat) (w : World) (h0 : bits .and .i64 o 255 = (P : Int)) (hp : Int.tmod (P : Int) 23 = 19) (ma : bits .and .i64 a 15 = (A : Int)) (mb : bits .and .i64 b 15 = (B : Int))
    (md4 : wrap64 (d * 4294967296) / 4294967296 = D4) (md1 : wrap64 (d * 72057594037927936) / 72057594037927936 = D1) (mc : bits .and .i64 c 7 = 7) (hB : B < 16) :
    Calls Try.prog 25 #[.agg #[.int .i64 o, .int .i64 a, .int .i64 b, .int .i64 l, .int .i64 c, .int .u64 I, .int .i64 d]] w fun e w' => e = .returned (insV ⟨20, 0, 0, 0, 13, 0, D1⟩) ∧ Below w.heap.size w w' := by
  go_enter Try.func25, Try.ntmps25
  go_wp2
  go_region
  go_wp2
  go_region
  go_wp2

  exact bodyPost_ret (v := .agg #[.int .i64 (20 : Int), .int .i64 (0 : Int), .int .i64 (0 : Int), .int .i64 (0 : Int), .int .i64 (13 : Int), .int .u64 (0 : Int), .int .i64 (D1 : Int)]) (by simp [results, Try.results25, go_sem]) rfl ⟨rfl, by go_grown⟩

set_option maxRecDepth 100000 in
set_option maxHeartbeats 2000000 in
theorem tame_21 (o a b l c d D4 D1 : Int) (A B P I I4 I1 I1s : Nat) (w : World) (h0 : bits .and .i64 o 255 = (P : Int)) (hp : Int.tmod (P : Int) 23 = 20) (ma : bits .and .i64 a 15 = (A : Int)) (mb : bits .and .i64 b 15 = (B : Int))
    (md4 : wrap64 (d * 4294967296) / 4294967296 = D4) (md1 : wrap64 (d * 72057594037927936) / 72057594037927936 = D1) (hB : B < 16) :
    Calls Try.prog 25 #[.agg #[.int .i64 o, .int .i64 a, .int .i64 b, .int .i64 l, .int .i64 c, .int .u64 I, .int .i64 d]] w fun e w' => e = .returned (insV ⟨21, 0, 0, 0, 0, 0, D4⟩) ∧ Below w.heap.size w w' := by
  go_enter Try.func25, Try.ntmps25
  go_wp2
  go_region
  go_wp2
  go_region
  go_wp2

  exact bodyPost_ret (v := .agg #[.int .i64 (21 : Int), .int .i64 (0 : Int), .int .i64 (0 : Int), .int .i64 (0 : Int), .int .i64 (0 : Int), .int .u64 (0 : Int), .int .i64 (D4 : Int)]) (by simp [results, Try.results25, go_sem]) rfl ⟨rfl, by go_grown⟩

set_option maxRecDepth 100000 in
set_option maxHeartbeats 2000000 in
theorem tame_22 (o a b l c d D4 D1 : Int) (A B P I I4 I1 I1s : Nat) (w : World) (h0 : bits .and .i64 o 255 = (P : Int)) (hp : Int.tmod (P : Int) 23 = 21) (ma : bits .and .i64 a 15 = (A : Int)) (mb : bits .and .i64 b 15 = (B : Int))
    (md4 : wrap64 (d * 4294967296) / 4294967296 = D4) (md1 : wrap64 (d * 72057594037927936) / 72057594037927936 = D1) (hB : B < 16) :
    Calls Try.prog 25 #[.agg #[.int .i64 o, .int .i64 a, .int .i64 b, .int .i64 l, .int .i64 c, .int .u64 I, .int .i64 d]] w fun e w' => e = .returned (insV ⟨22, 0, 0, 0, 0, 0, D4⟩) ∧ Below w.heap.size w w' := by
  go_enter Try.func25, Try.ntmps25
  go_wp2
  go_region
  go_wp2
  go_region
  go_wp2

  exact bodyPost_ret (v := .agg #[.int .i64 (22 : Int), .int .i64 (0 : Int), .int .i64 (0 : Int), .int .i64 (0 : Int), .int .i64 (0 : Int), .int .u64 (0 : Int), .int .i64 (D4 : Int)]) (by simp [results, Try.results25, go_sem]) rfl ⟨rfl, by go_grown⟩

set_option maxRecDepth 100000 in
set_option maxHeartbeats 2000000 in
theorem tame_23 (o a b l c d D4 D1 : Int) (A B P I I4 I1 I1s : Nat) (w : World) (h0 : bits .and .i64 o 255 = (P : Int)) (hp : Int.tmod (P : Int) 23 = 22) (ma : bits .and .i64 a 15 = (A : Int)) (mb : bits .and .i64 b 15 = (B : Int))
    (md4 : wrap64 (d * 4294967296) / 4294967296 = D4) (md1 : wrap64 (d * 72057594037927936) / 72057594037927936 = D1) (mi : bits .and .u64 (I : Int) 255 = (I1 : Int)) (hB : B < 16) :
    Calls Try.prog 25 #[.agg #[.int .i64 o, .int .i64 a, .int .i64 b, .int .i64 l, .int .i64 c, .int .u64 I, .int .i64 d]] w fun e w' => e = .returned (insV ⟨23, 0, 0, 0, 0, I1, 0⟩) ∧ Below w.heap.size w w' := by
  go_enter Try.func25, Try.ntmps25
  go_wp2
  go_region
  go_wp2
  go_region
  go_wp2

  exact bodyPost_ret (v := .agg #[.int .i64 (23 : Int), .int .i64 (0 : Int), .int .i64 (0 : Int), .int .i64 (0 : Int), .int .i64 (0 : Int), .int .u64 (I1 : Int), .int .i64 (0 : Int)]) (by simp [results, Try.results25, go_sem]) rfl ⟨rfl, by go_grown⟩

end Go.Proofs.Ythbgmlmcjnlopaa
namespace Go.Proofs.Ythbgmlmcjnlopaa
open Go.ChangeShapes Go.WideShapes Go.ChangeAt Go.RowKit
theorem reg_yes {r : Nat} (h : r < 16) : regOkM r true = true := by simp only [regOkM, Bool.true_and, Bool.or_eq_true, beq_iff_eq, decide_eq_true_eq]; omega
theorem and7_4 (b : Nat) (h : ¬ b % 8 = 4) : ((b &&& 7) == 4) = false := by rw [show (7 : Nat) = 2 ^ 3 - 1 from rfl, Nat.and_two_pow_sub_one_eq_mod]; simpa using h
theorem fits_of {F : Form} {x : InsV} (h1 : regOkM x.a (hasA F.regs) = true) (h2 : regOkM x.b (hasB F.regs) = true) (h3 : (F.regs == 4) = false ∨ ¬ x.b % 8 = 4) (h4 : immOk F.tail x.imm = true) (h5 : dispOk F.tail x.disp = true) : fitsM F x = true := by
  unfold fitsM
  rw [h1, h2, h4, h5]
  rcases h3 with h | h
  · rw [h]; rfl
  · rw [and7_4 _ h, Bool.and_false]; rfl
set_option linter.unusedVariables false
set_option linter.unusedSimpArgs false
theorem tells_1 (A B I I4 I1 I1s : Nat) (D4 D1 : Int) (hA : A < 16) (hB : B < 16) (hI : I < 18446744073709551616) (hI4 : I4 ≤ 4294967295) (hI1 : I1 ≤ 255) (hI1s : I1s = sgn8 (I1s % 256)) (hS : I1s < 18446744073709551616) (d1 : -2147483648 ≤ D4) (d2 : D4 ≤ 2147483647) (d3 : -128 ≤ D1) (d4 : D1 ≤ 127) :
    Tells ⟨1, 0, 0, 0, 144, 0, 0, 0⟩ ⟨1, 0, 0, 0, 0, 0, 0⟩ ∧ InsV.Ok ⟨1, 0, 0, 0, 0, 0, 0⟩ := by
  refine ⟨⟨by decide +kernel, rfl, rfl, rfl, ?_, by simp only; omega⟩, ⟨by simp only; omega, by simp only; omega, by simp only; omega, by simp only; omega, by simp only; omega, by simp only; omega, by simp only; omega, by simp only; omega⟩⟩
  (refine fits_of ?_ ?_ ?_ ?_ ?_ <;> first | rfl | exact .inl rfl | (refine reg_yes ?_; simp only; omega) | (refine .inr ?_; simp only; omega) | (simp [immOk]; omega) | (simp [dispOk]; omega) | (simp [immOk]; assumption))

theorem tells_2 (A B I I4 I1 I1s : Nat) (D4 D1 : Int) (hA : A < 16) (hB : B < 16) (hI : I < 18446744073709551616) (hI4 : I4 ≤ 4294967295) (hI1 : I1 ≤ 255) (hI1s : I1s = sgn8 (I1s % 256)) (hS : I1s < 18446744073709551616) (d1 : -2147483648 ≤ D4) (d2 : D4 ≤ 2147483647) (d3 : -128 ≤ D1) (d4 : D1 ≤ 127) :
    Tells ⟨2, 0, 0, 0, 195, 0, 0, 0⟩ ⟨2, 0, 0, 0, 0, 0, 0⟩ ∧ InsV.Ok ⟨2, 0, 0, 0, 0, 0, 0⟩ := by
  refine ⟨⟨by decide +kernel, rfl, rfl, rfl, ?_, by simp only; omega⟩, ⟨by simp only; omega, by simp only; omega, by simp only; omega, by simp only; omega, by simp only; omega, by simp only; omega, by simp only; omega, by simp only; omega⟩⟩
  (refine fits_of ?_ ?_ ?_ ?_ ?_ <;> first | rfl | exact .inl rfl | (refine reg_yes ?_; simp only; omega) | (refine .inr ?_; simp only; omega) | (simp [immOk]; omega) | (simp [dispOk]; omega) | (simp [immOk]; assumption))

theorem tells_3 (A B I I4 I1 I1s : Nat) (D4 D1 : Int) (hA : A < 16) (hB : B < 16) (hI : I < 18446744073709551616) (hI4 : I4 ≤ 4294967295) (hI1 : I1 ≤ 255) (hI1s : I1s = sgn8 (I1s % 256)) (hS : I1s < 18446744073709551616) (d1 : -2147483648 ≤ D4) (d2 : D4 ≤ 2147483647) (d3 : -128 ≤ D1) (d4 : D1 ≤ 127) :
    Tells ⟨3, 0, 0, 1, 80, 1, 0, 0⟩ ⟨3, A, 0, 0, 0, 0, 0⟩ ∧ InsV.Ok ⟨3, A, 0, 0, 0, 0, 0⟩ := by
  refine ⟨⟨by decide +kernel, rfl, rfl, rfl, ?_, by simp only; omega⟩, ⟨by simp only; omega, by simp only; omega, by simp only; omega, by simp only; omega, by simp only; omega, by simp only; omega, by simp only; omega, by simp only; omega⟩⟩
  (refine fits_of ?_ ?_ ?_ ?_ ?_ <;> first | rfl | exact .inl rfl | (refine reg_yes ?_; simp only; omega) | (refine .inr ?_; simp only; omega) | (simp [immOk]; omega) | (simp [dispOk]; omega) | (simp [immOk]; assumption))

theorem tells_4 (A B I I4 I1 I1s : Nat) (D4 D1 : Int) (hA : A < 16) (hB : B < 16) (hI : I < 18446744073709551616) (hI4 : I4 ≤ 4294967295) (hI1 : I1 ≤ 255) (hI1s : I1s = sgn8 (I1s % 256)) (hS : I1s < 18446744073709551616) (d1 : -2147483648 ≤ D4) (d2 : D4 ≤ 2147483647) (d3 : -128 ≤ D1) (d4 : D1 ≤ 127) :
    Tells ⟨4, 0, 0, 1, 88, 1, 0, 0⟩ ⟨4, A, 0, 0, 0, 0, 0⟩ ∧ InsV.Ok ⟨4, A, 0, 0, 0, 0, 0⟩ := by
  refine ⟨⟨by decide +kernel, rfl, rfl, rfl, ?_, by simp only; omega⟩, ⟨by simp only; omega, by simp only; omega, by simp only; omega, by simp only; omega, by simp only; omega, by simp only; omega, by simp only; omega, by simp only; omega⟩⟩
  (refine fits_of ?_ ?_ ?_ ?_ ?_ <;> first | rfl | exact .inl rfl | (refine reg_yes ?_; simp only; omega) | (refine .inr ?_; simp only; omega) | (simp [immOk]; omega) | (simp [dispOk]; omega) | (simp [immOk]; assumption))

theorem tells_5 (A B I I4 I1 I1s : Nat) (D4 D1 : Int) (hA : A < 16) (hB : B < 16) (hI : I < 18446744073709551616) (hI4 : I4 ≤ 4294967295) (hI1 : I1 ≤ 255) (hI1s : I1s = sgn8 (I1s % 256)) (hS : I1s < 18446744073709551616) (d1 : -2147483648 ≤ D4) (d2 : D4 ≤ 2147483647) (d3 : -128 ≤ D1) (d4 : D1 ≤ 127) :
    Tells ⟨5, 0, 0, 4, 184, 1, 0, 1⟩ ⟨5, A, 0, 0, 0, I, 0⟩ ∧ InsV.Ok ⟨5, A, 0, 0, 0, I, 0⟩ := by
  refine ⟨⟨by decide +kernel, rfl, rfl, rfl, ?_, by simp only; omega⟩, ⟨by simp only; omega, by simp only; omega, by simp only; omega, by simp only; omega, by simp only; omega, by simp only; omega, by simp only; omega, by simp only; omega⟩⟩
  (refine fits_of ?_ ?_ ?_ ?_ ?_ <;> first | rfl | exact .inl rfl | (refine reg_yes ?_; simp only; omega) | (refine .inr ?_; simp only; omega) | (simp [immOk]; omega) | (simp [dispOk]; omega) | (simp [immOk]; assumption))

theorem tells_6 (A B I I4 I1 I1s : Nat) (D4 D1 : Int) (hA : A < 16) (hB : B < 16) (hI : I < 18446744073709551616) (hI4 : I4 ≤ 4294967295) (hI1 : I1 ≤ 255) (hI1s : I1s = sgn8 (I1s % 256)) (hS : I1s < 18446744073709551616) (d1 : -2147483648 ≤ D4) (d2 : D4 ≤ 2147483647) (d3 : -128 ≤ D1) (d4 : D1 ≤ 127) :
    Tells ⟨6, 0, 0, 1, 184, 1, 0, 2⟩ ⟨6, A, 0, 0, 0, I4, 0⟩ ∧ InsV.Ok ⟨6, A, 0, 0, 0, I4, 0⟩ := by
  refine ⟨⟨by decide +kernel, rfl, rfl, rfl, ?_, by simp only; omega⟩, ⟨by simp only; omega, by simp only; omega, by simp only; omega, by simp only; omega, by simp only; omega, by simp only; omega, by simp only; omega, by simp only; omega⟩⟩
  (refine fits_of ?_ ?_ ?_ ?_ ?_ <;> first | rfl | exact .inl rfl | (refine reg_yes ?_; simp only; omega) | (refine .inr ?_; simp only; omega) | (simp [immOk]; omega) | (simp [dispOk]; omega) | (simp [immOk]; assumption))

theorem tells_7_0 (A B I I4 I1 I1s : Nat) (D4 D1 : Int) (hA : A < 16) (hB : B < 16) (hI : I < 18446744073709551616) (hI4 : I4 ≤ 4294967295) (hI1 : I1 ≤ 255) (hI1s : I1s = sgn8 (I1s % 256)) (hS : I1s < 18446744073709551616) (d1 : -2147483648 ≤ D4) (d2 : D4 ≤ 2147483647) (d3 : -128 ≤ D1) (d4 : D1 ≤ 127) :
    Tells ⟨7, 0, 0, 2, 1, 3, 192, 0⟩ ⟨7, A, B, 0, 0, 0, 0⟩ ∧ InsV.Ok ⟨7, A, B, 0, 0, 0, 0⟩ := by
  refine ⟨⟨by decide +kernel, rfl, rfl, rfl, ?_, by simp only; omega⟩, ⟨by simp only; omega, by simp only; omega, by simp only; omega, by simp only; omega, by simp only; omega, by simp only; omega, by simp only; omega, by simp only; omega⟩⟩
  (refine fits_of ?_ ?_ ?_ ?_ ?_ <;> first | rfl | exact .inl rfl | (refine reg_yes ?_; simp only; omega) | (refine .inr ?_; simp only; omega) | (simp [immOk]; omega) | (simp [dispOk]; omega) | (simp [immOk]; assumption))

theorem tells_7_1 (A B I I4 I1 I1s : Nat) (D4 D1 : Int) (hA : A < 16) (hB : B < 16) (hI : I < 18446744073709551616) (hI4 : I4 ≤ 4294967295) (hI1 : I1 ≤ 255) (hI1s : I1s = sgn8 (I1s % 256)) (hS : I1s < 18446744073709551616) (d1 : -2147483648 ≤ D4) (d2 : D4 ≤ 2147483647) (d3 : -128 ≤ D1) (d4 : D1 ≤ 127) :
    Tells ⟨7, 1, 0, 2, 41, 3, 192, 0⟩ ⟨7, A, B, 1, 0, 0, 0⟩ ∧ InsV.Ok ⟨7, A, B, 1, 0, 0, 0⟩ := by
  refine ⟨⟨by decide +kernel, rfl, rfl, rfl, ?_, by simp only; omega⟩, ⟨by simp only; omega, by simp only; omega, by simp only; omega, by simp only; omega, by simp only; omega, by simp only; omega, by simp only; omega, by simp only; omega⟩⟩
  (refine fits_of ?_ ?_ ?_ ?_ ?_ <;> first | rfl | exact .inl rfl | (refine reg_yes ?_; simp only; omega) | (refine .inr ?_; simp only; omega) | (simp [immOk]; omega) | (simp [dispOk]; omega) | (simp [immOk]; assumption))

theorem tells_7_2 (A B I I4 I1 I1s : Nat) (D4 D1 : Int) (hA : A < 16) (hB : B < 16) (hI : I < 18446744073709551616) (hI4 : I4 ≤ 4294967295) (hI1 : I1 ≤ 255) (hI1s : I1s = sgn8 (I1s % 256)) (hS : I1s < 18446744073709551616) (d1 : -2147483648 ≤ D4) (d2 : D4 ≤ 2147483647) (d3 : -128 ≤ D1) (d4 : D1 ≤ 127) :
    Tells ⟨7, 2, 0, 2, 33, 3, 192, 0⟩ ⟨7, A, B, 2, 0, 0, 0⟩ ∧ InsV.Ok ⟨7, A, B, 2, 0, 0, 0⟩ := by
  refine ⟨⟨by decide +kernel, rfl, rfl, rfl, ?_, by simp only; omega⟩, ⟨by simp only; omega, by simp only; omega, by simp only; omega, by simp only; omega, by simp only; omega, by simp only; omega, by simp only; omega, by simp only; omega⟩⟩
  (refine fits_of ?_ ?_ ?_ ?_ ?_ <;> first | rfl | exact .inl rfl | (refine reg_yes ?_; simp only; omega) | (refine .inr ?_; simp only; omega) | (simp [immOk]; omega) | (simp [dispOk]; omega) | (simp [immOk]; assumption))

theorem tells_7_3 (A B I I4 I1 I1s : Nat) (D4 D1 : Int) (hA : A < 16) (hB : B < 16) (hI : I < 18446744073709551616) (hI4 : I4 ≤ 4294967295) (hI1 : I1 ≤ 255) (hI1s : I1s = sgn8 (I1s % 256)) (hS : I1s < 18446744073709551616) (d1 : -2147483648 ≤ D4) (d2 : D4 ≤ 2147483647) (d3 : -128 ≤ D1) (d4 : D1 ≤ 127) :
    Tells ⟨7, 3, 0, 2, 9, 3, 192, 0⟩ ⟨7, A, B, 3, 0, 0, 0⟩ ∧ InsV.Ok ⟨7, A, B, 3, 0, 0, 0⟩ := by
  refine ⟨⟨by decide +kernel, rfl, rfl, rfl, ?_, by simp only; omega⟩, ⟨by simp only; omega, by simp only; omega, by simp only; omega, by simp only; omega, by simp only; omega, by simp only; omega, by simp only; omega, by simp only; omega⟩⟩
  (refine fits_of ?_ ?_ ?_ ?_ ?_ <;> first | rfl | exact .inl rfl | (refine reg_yes ?_; simp only; omega) | (refine .inr ?_; simp only; omega) | (simp [immOk]; omega) | (simp [dispOk]; omega) | (simp [immOk]; assumption))

theorem tells_7_4 (A B I I4 I1 I1s : Nat) (D4 D1 : Int) (hA : A < 16) (hB : B < 16) (hI : I < 18446744073709551616) (hI4 : I4 ≤ 4294967295) (hI1 : I1 ≤ 255) (hI1s : I1s = sgn8 (I1s % 256)) (hS : I1s < 18446744073709551616) (d1 : -2147483648 ≤ D4) (d2 : D4 ≤ 2147483647) (d3 : -128 ≤ D1) (d4 : D1 ≤ 127) :
    Tells ⟨7, 4, 0, 2, 49, 3, 192, 0⟩ ⟨7, A, B, 4, 0, 0, 0⟩ ∧ InsV.Ok ⟨7, A, B, 4, 0, 0, 0⟩ := by
  refine ⟨⟨by decide +kernel, rfl, rfl, rfl, ?_, by simp only; omega⟩, ⟨by simp only; omega, by simp only; omega, by simp only; omega, by simp only; omega, by simp only; omega, by simp only; omega, by simp only; omega, by simp only; omega⟩⟩
  (refine fits_of ?_ ?_ ?_ ?_ ?_ <;> first | rfl | exact .inl rfl | (refine reg_yes ?_; simp only; omega) | (refine .inr ?_; simp only; omega) | (simp [immOk]; omega) | (simp [dispOk]; omega) | (simp [immOk]; assumption))

theorem tells_7_5 (A B I I4 I1 I1s : Nat) (D4 D1 : Int) (hA : A < 16) (hB : B < 16) (hI : I < 18446744073709551616) (hI4 : I4 ≤ 4294967295) (hI1 : I1 ≤ 255) (hI1s : I1s = sgn8 (I1s % 256)) (hS : I1s < 18446744073709551616) (d1 : -2147483648 ≤ D4) (d2 : D4 ≤ 2147483647) (d3 : -128 ≤ D1) (d4 : D1 ≤ 127) :
    Tells ⟨7, 7, 0, 2, 57, 3, 192, 0⟩ ⟨7, A, B, 7, 0, 0, 0⟩ ∧ InsV.Ok ⟨7, A, B, 7, 0, 0, 0⟩ := by
  refine ⟨⟨by decide +kernel, rfl, rfl, rfl, ?_, by simp only; omega⟩, ⟨by simp only; omega, by simp only; omega, by simp only; omega, by simp only; omega, by simp only; omega, by simp only; omega, by simp only; omega, by simp only; omega⟩⟩
  (refine fits_of ?_ ?_ ?_ ?_ ?_ <;> first | rfl | exact .inl rfl | (refine reg_yes ?_; simp only; omega) | (refine .inr ?_; simp only; omega) | (simp [immOk]; omega) | (simp [dispOk]; omega) | (simp [immOk]; assumption))

theorem tells_7_6 (A B I I4 I1 I1s : Nat) (D4 D1 : Int) (hA : A < 16) (hB : B < 16) (hI : I < 18446744073709551616) (hI4 : I4 ≤ 4294967295) (hI1 : I1 ≤ 255) (hI1s : I1s = sgn8 (I1s % 256)) (hS : I1s < 18446744073709551616) (d1 : -2147483648 ≤ D4) (d2 : D4 ≤ 2147483647) (d3 : -128 ≤ D1) (d4 : D1 ≤ 127) :
    Tells ⟨7, 8, 0, 2, 133, 3, 192, 0⟩ ⟨7, A, B, 8, 0, 0, 0⟩ ∧ InsV.Ok ⟨7, A, B, 8, 0, 0, 0⟩ := by
  refine ⟨⟨by decide +kernel, rfl, rfl, rfl, ?_, by simp only; omega⟩, ⟨by simp only; omega, by simp only; omega, by simp only; omega, by simp only; omega, by simp only; omega, by simp only; omega, by simp only; omega, by simp only; omega⟩⟩
  (refine fits_of ?_ ?_ ?_ ?_ ?_ <;> first | rfl | exact .inl rfl | (refine reg_yes ?_; simp only; omega) | (refine .inr ?_; simp only; omega) | (simp [immOk]; omega) | (simp [dispOk]; omega) | (simp [immOk]; assumption))

theorem tells_8 (A B I I4 I1 I1s : Nat) (D4 D1 : Int) (hA : A < 16) (hB : B < 16) (hI : I < 18446744073709551616) (hI4 : I4 ≤ 4294967295) (hI1 : I1 ≤ 255) (hI1s : I1s = sgn8 (I1s % 256)) (hS : I1s < 18446744073709551616) (d1 : -2147483648 ≤ D4) (d2 : D4 ≤ 2147483647) (d3 : -128 ≤ D1) (d4 : D1 ≤ 127) :
    Tells ⟨8, 0, 0, 2, 137, 3, 192, 0⟩ ⟨8, A, B, 0, 0, 0, 0⟩ ∧ InsV.Ok ⟨8, A, B, 0, 0, 0, 0⟩ := by
  refine ⟨⟨by decide +kernel, rfl, rfl, rfl, ?_, by simp only; omega⟩, ⟨by simp only; omega, by simp only; omega, by simp only; omega, by simp only; omega, by simp only; omega, by simp only; omega, by simp only; omega, by simp only; omega⟩⟩
  (refine fits_of ?_ ?_ ?_ ?_ ?_ <;> first | rfl | exact .inl rfl | (refine reg_yes ?_; simp only; omega) | (refine .inr ?_; simp only; omega) | (simp [immOk]; omega) | (simp [dispOk]; omega) | (simp [immOk]; assumption))

theorem tells_9_y (A B I I4 I1 I1s : Nat) (D4 D1 : Int) (hA : A < 16) (hB : B < 16) (hI : I < 18446744073709551616) (hI4 : I4 ≤ 4294967295) (hI1 : I1 ≤ 255) (hI1s : I1s = sgn8 (I1s % 256)) (hS : I1s < 18446744073709551616) (d1 : -2147483648 ≤ D4) (d2 : D4 ≤ 2147483647) (d3 : -128 ≤ D1) (d4 : D1 ≤ 127) (m8 : B % 8 = 4) :
    Tells ⟨9, 0, 0, 2, 139, 4, 128, 5⟩ ⟨9, A, (B + 1), 0, 0, 0, D4⟩ ∧ InsV.Ok ⟨9, A, (B + 1), 0, 0, 0, D4⟩ := by
  refine ⟨⟨by decide +kernel, rfl, rfl, rfl, ?_, by simp only; omega⟩, ⟨by simp only; omega, by simp only; omega, by simp only; omega, by simp only; omega, by simp only; omega, by simp only; omega, by simp only; omega, by simp only; omega⟩⟩
  (refine fits_of ?_ ?_ ?_ ?_ ?_ <;> first | rfl | exact .inl rfl | (refine reg_yes ?_; simp only; omega) | (refine .inr ?_; simp only; omega) | (simp [immOk]; omega) | (simp [dispOk]; omega) | (simp [immOk]; assumption))

theorem tells_9_n (A B I I4 I1 I1s : Nat) (D4 D1 : Int) (hA : A < 16) (hB : B < 16) (hI : I < 18446744073709551616) (hI4 : I4 ≤ 4294967295) (hI1 : I1 ≤ 255) (hI1s : I1s = sgn8 (I1s % 256)) (hS : I1s < 18446744073709551616) (d1 : -2147483648 ≤ D4) (d2 : D4 ≤ 2147483647) (d3 : -128 ≤ D1) (d4 : D1 ≤ 127) (m8 : ¬ B % 8 = 4) :
    Tells ⟨9, 0, 0, 2, 139, 4, 128, 5⟩ ⟨9, A, B, 0, 0, 0, D4⟩ ∧ InsV.Ok ⟨9, A, B, 0, 0, 0, D4⟩ := by
  refine ⟨⟨by decide +kernel, rfl, rfl, rfl, ?_, by simp only; omega⟩, ⟨by simp only; omega, by simp only; omega, by simp only; omega, by simp only; omega, by simp only; omega, by simp only; omega, by simp only; omega, by simp only; omega⟩⟩
  (refine fits_of ?_ ?_ ?_ ?_ ?_ <;> first | rfl | exact .inl rfl | (refine reg_yes ?_; simp only; omega) | (refine .inr ?_; simp only; omega) | (simp [immOk]; omega) | (simp [dispOk]; omega) | (simp [immOk]; assumption))

theorem tells_10_y (A B I I4 I1 I1s : Nat) (D4 D1 : Int) (hA : A < 16) (hB : B < 16) (hI : I < 18446744073709551616) (hI4 : I4 ≤ 4294967295) (hI1 : I1 ≤ 255) (hI1s : I1s = sgn8 (I1s % 256)) (hS : I1s < 18446744073709551616) (d1 : -2147483648 ≤ D4) (d2 : D4 ≤ 2147483647) (d3 : -128 ≤ D1) (d4 : D1 ≤ 127) (m8 : B % 8 = 4) :
    Tells ⟨10, 0, 0, 2, 137, 4, 128, 5⟩ ⟨10, A, (B + 1), 0, 0, 0, D4⟩ ∧ InsV.Ok ⟨10, A, (B + 1), 0, 0, 0, D4⟩ := by
  refine ⟨⟨by decide +kernel, rfl, rfl, rfl, ?_, by simp only; omega⟩, ⟨by simp only; omega, by simp only; omega, by simp only; omega, by simp only; omega, by simp only; omega, by simp only; omega, by simp only; omega, by simp only; omega⟩⟩
  (refine fits_of ?_ ?_ ?_ ?_ ?_ <;> first | rfl | exact .inl rfl | (refine reg_yes ?_; simp only; omega) | (refine .inr ?_; simp only; omega) | (simp [immOk]; omega) | (simp [dispOk]; omega) | (simp [immOk]; assumption))

theorem tells_10_n (A B I I4 I1 I1s : Nat) (D4 D1 : Int) (hA : A < 16) (hB : B < 16) (hI : I < 18446744073709551616) (hI4 : I4 ≤ 4294967295) (hI1 : I1 ≤ 255) (hI1s : I1s = sgn8 (I1s % 256)) (hS : I1s < 18446744073709551616) (d1 : -2147483648 ≤ D4) (d2 : D4 ≤ 2147483647) (d3 : -128 ≤ D1) (d4 : D1 ≤ 127) (m8 : ¬ B % 8 = 4) :
    Tells ⟨10, 0, 0, 2, 137, 4, 128, 5⟩ ⟨10, A, B, 0, 0, 0, D4⟩ ∧ InsV.Ok ⟨10, A, B, 0, 0, 0, D4⟩ := by
  refine ⟨⟨by decide +kernel, rfl, rfl, rfl, ?_, by simp only; omega⟩, ⟨by simp only; omega, by simp only; omega, by simp only; omega, by simp only; omega, by simp only; omega, by simp only; omega, by simp only; omega, by simp only; omega⟩⟩
  (refine fits_of ?_ ?_ ?_ ?_ ?_ <;> first | rfl | exact .inl rfl | (refine reg_yes ?_; simp only; omega) | (refine .inr ?_; simp only; omega) | (simp [immOk]; omega) | (simp [dispOk]; omega) | (simp [immOk]; assumption))

theorem tells_11 (A B I I4 I1 I1s : Nat) (D4 D1 : Int) (hA : A < 16) (hB : B < 16) (hI : I < 18446744073709551616) (hI4 : I4 ≤ 4294967295) (hI1 : I1 ≤ 255) (hI1s : I1s = sgn8 (I1s % 256)) (hS : I1s < 18446744073709551616) (d1 : -2147483648 ≤ D4) (d2 : D4 ≤ 2147483647) (d3 : -128 ≤ D1) (d4 : D1 ≤ 127) :
    Tells ⟨11, 0, 0, 3, 139, 5, 5, 5⟩ ⟨11, A, 0, 0, 0, 0, D4⟩ ∧ InsV.Ok ⟨11, A, 0, 0, 0, 0, D4⟩ := by
  refine ⟨⟨by decide +kernel, rfl, rfl, rfl, ?_, by simp only; omega⟩, ⟨by simp only; omega, by simp only; omega, by simp only; omega, by simp only; omega, by simp only; omega, by simp only; omega, by simp only; omega, by simp only; omega⟩⟩
  (refine fits_of ?_ ?_ ?_ ?_ ?_ <;> first | rfl | exact .inl rfl | (refine reg_yes ?_; simp only; omega) | (refine .inr ?_; simp only; omega) | (simp [immOk]; omega) | (simp [dispOk]; omega) | (simp [immOk]; assumption))

theorem tells_12 (A B I I4 I1 I1s : Nat) (D4 D1 : Int) (hA : A < 16) (hB : B < 16) (hI : I < 18446744073709551616) (hI4 : I4 ≤ 4294967295) (hI1 : I1 ≤ 255) (hI1s : I1s = sgn8 (I1s % 256)) (hS : I1s < 18446744073709551616) (d1 : -2147483648 ≤ D4) (d2 : D4 ≤ 2147483647) (d3 : -128 ≤ D1) (d4 : D1 ≤ 127) :
    Tells ⟨12, 0, 0, 3, 137, 5, 5, 5⟩ ⟨12, A, 0, 0, 0, 0, D4⟩ ∧ InsV.Ok ⟨12, A, 0, 0, 0, 0, D4⟩ := by
  refine ⟨⟨by decide +kernel, rfl, rfl, rfl, ?_, by simp only; omega⟩, ⟨by simp only; omega, by simp only; omega, by simp only; omega, by simp only; omega, by simp only; omega, by simp only; omega, by simp only; omega, by simp only; omega⟩⟩
  (refine fits_of ?_ ?_ ?_ ?_ ?_ <;> first | rfl | exact .inl rfl | (refine reg_yes ?_; simp only; omega) | (refine .inr ?_; simp only; omega) | (simp [immOk]; omega) | (simp [dispOk]; omega) | (simp [immOk]; assumption))

theorem tells_13 (A B I I4 I1 I1s : Nat) (D4 D1 : Int) (hA : A < 16) (hB : B < 16) (hI : I < 18446744073709551616) (hI4 : I4 ≤ 4294967295) (hI1 : I1 ≤ 255) (hI1s : I1s = sgn8 (I1s % 256)) (hS : I1s < 18446744073709551616) (d1 : -2147483648 ≤ D4) (d2 : D4 ≤ 2147483647) (d3 : -128 ≤ D1) (d4 : D1 ≤ 127) :
    Tells ⟨13, 0, 0, 3, 141, 5, 5, 5⟩ ⟨13, A, 0, 0, 0, 0, D4⟩ ∧ InsV.Ok ⟨13, A, 0, 0, 0, 0, D4⟩ := by
  refine ⟨⟨by decide +kernel, rfl, rfl, rfl, ?_, by simp only; omega⟩, ⟨by simp only; omega, by simp only; omega, by simp only; omega, by simp only; omega, by simp only; omega, by simp only; omega, by simp only; omega, by simp only; omega⟩⟩
  (refine fits_of ?_ ?_ ?_ ?_ ?_ <;> first | rfl | exact .inl rfl | (refine reg_yes ?_; simp only; omega) | (refine .inr ?_; simp only; omega) | (simp [immOk]; omega) | (simp [dispOk]; omega) | (simp [immOk]; assumption))

theorem tells_14_0 (A B I I4 I1 I1s : Nat) (D4 D1 : Int) (hA : A < 16) (hB : B < 16) (hI : I < 18446744073709551616) (hI4 : I4 ≤ 4294967295) (hI1 : I1 ≤ 255) (hI1s : I1s = sgn8 (I1s % 256)) (hS : I1s < 18446744073709551616) (d1 : -2147483648 ≤ D4) (d2 : D4 ≤ 2147483647) (d3 : -128 ≤ D1) (d4 : D1 ≤ 127) :
    Tells ⟨14, 0, 0, 5, 131, 2, 192, 4⟩ ⟨14, 0, B, 0, 0, I1s, 0⟩ ∧ InsV.Ok ⟨14, 0, B, 0, 0, I1s, 0⟩ := by
  refine ⟨⟨by decide +kernel, rfl, rfl, rfl, ?_, by simp only; omega⟩, ⟨by simp only; omega, by simp only; omega, by simp only; omega, by simp only; omega, by simp only; omega, by simp only; omega, by simp only; omega, by simp only; omega⟩⟩
  (refine fits_of ?_ ?_ ?_ ?_ ?_ <;> first | rfl | exact .inl rfl | (refine reg_yes ?_; simp only; omega) | (refine .inr ?_; simp only; omega) | (simp [immOk]; omega) | (simp [dispOk]; omega) | (simp [immOk]; assumption))

theorem tells_14_1 (A B I I4 I1 I1s : Nat) (D4 D1 : Int) (hA : A < 16) (hB : B < 16) (hI : I < 18446744073709551616) (hI4 : I4 ≤ 4294967295) (hI1 : I1 ≤ 255) (hI1s : I1s = sgn8 (I1s % 256)) (hS : I1s < 18446744073709551616) (d1 : -2147483648 ≤ D4) (d2 : D4 ≤ 2147483647) (d3 : -128 ≤ D1) (d4 : D1 ≤ 127) :
    Tells ⟨14, 1, 0, 5, 131, 2, 232, 4⟩ ⟨14, 0, B, 1, 0, I1s, 0⟩ ∧ InsV.Ok ⟨14, 0, B, 1, 0, I1s, 0⟩ := by
  refine ⟨⟨by decide +kernel, rfl, rfl, rfl, ?_, by simp only; omega⟩, ⟨by simp only; omega, by simp only; omega, by simp only; omega, by simp only; omega, by simp only; omega, by simp only; omega, by simp only; omega, by simp only; omega⟩⟩
  (refine fits_of ?_ ?_ ?_ ?_ ?_ <;> first | rfl | exact .inl rfl | (refine reg_yes ?_; simp only; omega) | (refine .inr ?_; simp only; omega) | (simp [immOk]; omega) | (simp [dispOk]; omega) | (simp [immOk]; assumption))

theorem tells_14_2 (A B I I4 I1 I1s : Nat) (D4 D1 : Int) (hA : A < 16) (hB : B < 16) (hI : I < 18446744073709551616) (hI4 : I4 ≤ 4294967295) (hI1 : I1 ≤ 255) (hI1s : I1s = sgn8 (I1s % 256)) (hS : I1s < 18446744073709551616) (d1 : -2147483648 ≤ D4) (d2 : D4 ≤ 2147483647) (d3 : -128 ≤ D1) (d4 : D1 ≤ 127) :
    Tells ⟨14, 7, 0, 5, 131, 2, 248, 4⟩ ⟨14, 0, B, 7, 0, I1s, 0⟩ ∧ InsV.Ok ⟨14, 0, B, 7, 0, I1s, 0⟩ := by
  refine ⟨⟨by decide +kernel, rfl, rfl, rfl, ?_, by simp only; omega⟩, ⟨by simp only; omega, by simp only; omega, by simp only; omega, by simp only; omega, by simp only; omega, by simp only; omega, by simp only; omega, by simp only; omega⟩⟩
  (refine fits_of ?_ ?_ ?_ ?_ ?_ <;> first | rfl | exact .inl rfl | (refine reg_yes ?_; simp only; omega) | (refine .inr ?_; simp only; omega) | (simp [immOk]; omega) | (simp [dispOk]; omega) | (simp [immOk]; assumption))

theorem tells_15_0 (A B I I4 I1 I1s : Nat) (D4 D1 : Int) (hA : A < 16) (hB : B < 16) (hI : I < 18446744073709551616) (hI4 : I4 ≤ 4294967295) (hI1 : I1 ≤ 255) (hI1s : I1s = sgn8 (I1s % 256)) (hS : I1s < 18446744073709551616) (d1 : -2147483648 ≤ D4) (d2 : D4 ≤ 2147483647) (d3 : -128 ≤ D1) (d4 : D1 ≤ 127) :
    Tells ⟨15, 5, 0, 5, 255, 2, 192, 0⟩ ⟨15, 0, B, 5, 0, 0, 0⟩ ∧ InsV.Ok ⟨15, 0, B, 5, 0, 0, 0⟩ := by
  refine ⟨⟨by decide +kernel, rfl, rfl, rfl, ?_, by simp only; omega⟩, ⟨by simp only; omega, by simp only; omega, by simp only; omega, by simp only; omega, by simp only; omega, by simp only; omega, by simp only; omega, by simp only; omega⟩⟩
  (refine fits_of ?_ ?_ ?_ ?_ ?_ <;> first | rfl | exact .inl rfl | (refine reg_yes ?_; simp only; omega) | (refine .inr ?_; simp only; omega) | (simp [immOk]; omega) | (simp [dispOk]; omega) | (simp [immOk]; assumption))

theorem tells_15_1 (A B I I4 I1 I1s : Nat) (D4 D1 : Int) (hA : A < 16) (hB : B < 16) (hI : I < 18446744073709551616) (hI4 : I4 ≤ 4294967295) (hI1 : I1 ≤ 255) (hI1s : I1s = sgn8 (I1s % 256)) (hS : I1s < 18446744073709551616) (d1 : -2147483648 ≤ D4) (d2 : D4 ≤ 2147483647) (d3 : -128 ≤ D1) (d4 : D1 ≤ 127) :
    Tells ⟨15, 6, 0, 5, 255, 2, 200, 0⟩ ⟨15, 0, B, 6, 0, 0, 0⟩ ∧ InsV.Ok ⟨15, 0, B, 6, 0, 0, 0⟩ := by
  refine ⟨⟨by decide +kernel, rfl, rfl, rfl, ?_, by simp only; omega⟩, ⟨by simp only; omega, by simp only; omega, by simp only; omega, by simp only; omega, by simp only; omega, by simp only; omega, by simp only; omega, by simp only; omega⟩⟩
  (refine fits_of ?_ ?_ ?_ ?_ ?_ <;> first | rfl | exact .inl rfl | (refine reg_yes ?_; simp only; omega) | (refine .inr ?_; simp only; omega) | (simp [immOk]; omega) | (simp [dispOk]; omega) | (simp [immOk]; assumption))

theorem tells_16_0 (A B I I4 I1 I1s : Nat) (D4 D1 : Int) (hA : A < 16) (hB : B < 16) (hI : I < 18446744073709551616) (hI4 : I4 ≤ 4294967295) (hI1 : I1 ≤ 255) (hI1s : I1s = sgn8 (I1s % 256)) (hS : I1s < 18446744073709551616) (d1 : -2147483648 ≤ D4) (d2 : D4 ≤ 2147483647) (d3 : -128 ≤ D1) (d4 : D1 ≤ 127) :
    Tells ⟨16, 9, 0, 5, 193, 2, 224, 3⟩ ⟨16, 0, B, 9, 0, I1, 0⟩ ∧ InsV.Ok ⟨16, 0, B, 9, 0, I1, 0⟩ := by
  refine ⟨⟨by decide +kernel, rfl, rfl, rfl, ?_, by simp only; omega⟩, ⟨by simp only; omega, by simp only; omega, by simp only; omega, by simp only; omega, by simp only; omega, by simp only; omega, by simp only; omega, by simp only; omega⟩⟩
  (refine fits_of ?_ ?_ ?_ ?_ ?_ <;> first | rfl | exact .inl rfl | (refine reg_yes ?_; simp only; omega) | (refine .inr ?_; simp only; omega) | (simp [immOk]; omega) | (simp [dispOk]; omega) | (simp [immOk]; assumption))

theorem tells_16_1 (A B I I4 I1 I1s : Nat) (D4 D1 : Int) (hA : A < 16) (hB : B < 16) (hI : I < 18446744073709551616) (hI4 : I4 ≤ 4294967295) (hI1 : I1 ≤ 255) (hI1s : I1s = sgn8 (I1s % 256)) (hS : I1s < 18446744073709551616) (d1 : -2147483648 ≤ D4) (d2 : D4 ≤ 2147483647) (d3 : -128 ≤ D1) (d4 : D1 ≤ 127) :
    Tells ⟨16, 10, 0, 5, 193, 2, 232, 3⟩ ⟨16, 0, B, 10, 0, I1, 0⟩ ∧ InsV.Ok ⟨16, 0, B, 10, 0, I1, 0⟩ := by
  refine ⟨⟨by decide +kernel, rfl, rfl, rfl, ?_, by simp only; omega⟩, ⟨by simp only; omega, by simp only; omega, by simp only; omega, by simp only; omega, by simp only; omega, by simp only; omega, by simp only; omega, by simp only; omega⟩⟩
  (refine fits_of ?_ ?_ ?_ ?_ ?_ <;> first | rfl | exact .inl rfl | (refine reg_yes ?_; simp only; omega) | (refine .inr ?_; simp only; omega) | (simp [immOk]; omega) | (simp [dispOk]; omega) | (simp [immOk]; assumption))

theorem tells_17 (A B I I4 I1 I1s : Nat) (D4 D1 : Int) (hA : A < 16) (hB : B < 16) (hI : I < 18446744073709551616) (hI4 : I4 ≤ 4294967295) (hI1 : I1 ≤ 255) (hI1s : I1s = sgn8 (I1s % 256)) (hS : I1s < 18446744073709551616) (d1 : -2147483648 ≤ D4) (d2 : D4 ≤ 2147483647) (d3 : -128 ≤ D1) (d4 : D1 ≤ 127) :
    Tells ⟨17, 0, 0, 0, 232, 0, 0, 5⟩ ⟨17, 0, 0, 0, 0, 0, D4⟩ ∧ InsV.Ok ⟨17, 0, 0, 0, 0, 0, D4⟩ := by
  refine ⟨⟨by decide +kernel, rfl, rfl, rfl, ?_, by simp only; omega⟩, ⟨by simp only; omega, by simp only; omega, by simp only; omega, by simp only; omega, by simp only; omega, by simp only; omega, by simp only; omega, by simp only; omega⟩⟩
  (refine fits_of ?_ ?_ ?_ ?_ ?_ <;> first | rfl | exact .inl rfl | (refine reg_yes ?_; simp only; omega) | (refine .inr ?_; simp only; omega) | (simp [immOk]; omega) | (simp [dispOk]; omega) | (simp [immOk]; assumption))

theorem tells_18 (A B I I4 I1 I1s : Nat) (D4 D1 : Int) (hA : A < 16) (hB : B < 16) (hI : I < 18446744073709551616) (hI4 : I4 ≤ 4294967295) (hI1 : I1 ≤ 255) (hI1s : I1s = sgn8 (I1s % 256)) (hS : I1s < 18446744073709551616) (d1 : -2147483648 ≤ D4) (d2 : D4 ≤ 2147483647) (d3 : -128 ≤ D1) (d4 : D1 ≤ 127) :
    Tells ⟨18, 0, 0, 0, 233, 0, 0, 5⟩ ⟨18, 0, 0, 0, 0, 0, D4⟩ ∧ InsV.Ok ⟨18, 0, 0, 0, 0, 0, D4⟩ := by
  refine ⟨⟨by decide +kernel, rfl, rfl, rfl, ?_, by simp only; omega⟩, ⟨by simp only; omega, by simp only; omega, by simp only; omega, by simp only; omega, by simp only; omega, by simp only; omega, by simp only; omega, by simp only; omega⟩⟩
  (refine fits_of ?_ ?_ ?_ ?_ ?_ <;> first | rfl | exact .inl rfl | (refine reg_yes ?_; simp only; omega) | (refine .inr ?_; simp only; omega) | (simp [immOk]; omega) | (simp [dispOk]; omega) | (simp [immOk]; assumption))

theorem tells_19 (A B I I4 I1 I1s : Nat) (D4 D1 : Int) (hA : A < 16) (hB : B < 16) (hI : I < 18446744073709551616) (hI4 : I4 ≤ 4294967295) (hI1 : I1 ≤ 255) (hI1s : I1s = sgn8 (I1s % 256)) (hS : I1s < 18446744073709551616) (d1 : -2147483648 ≤ D4) (d2 : D4 ≤ 2147483647) (d3 : -128 ≤ D1) (d4 : D1 ≤ 127) :
    Tells ⟨19, 0, 0, 0, 235, 0, 0, 6⟩ ⟨19, 0, 0, 0, 0, 0, D1⟩ ∧ InsV.Ok ⟨19, 0, 0, 0, 0, 0, D1⟩ := by
  refine ⟨⟨by decide +kernel, rfl, rfl, rfl, ?_, by simp only; omega⟩, ⟨by simp only; omega, by simp only; omega, by simp only; omega, by simp only; omega, by simp only; omega, by simp only; omega, by simp only; omega, by simp only; omega⟩⟩
  (refine fits_of ?_ ?_ ?_ ?_ ?_ <;> first | rfl | exact .inl rfl | (refine reg_yes ?_; simp only; omega) | (refine .inr ?_; simp only; omega) | (simp [immOk]; omega) | (simp [dispOk]; omega) | (simp [immOk]; assumption))

theorem tells_20_0 (A B I I4 I1 I1s : Nat) (D4 D1 : Int) (hA : A < 16) (hB : B < 16) (hI : I < 18446744073709551616) (hI4 : I4 ≤ 4294967295) (hI1 : I1 ≤ 255) (hI1s : I1s = sgn8 (I1s % 256)) (hS : I1s < 18446744073709551616) (d1 : -2147483648 ≤ D4) (d2 : D4 ≤ 2147483647) (d3 : -128 ≤ D1) (d4 : D1 ≤ 127) :
    Tells ⟨20, 0, 2, 0, 114, 0, 0, 6⟩ ⟨20, 0, 0, 0, 2, 0, D1⟩ ∧ InsV.Ok ⟨20, 0, 0, 0, 2, 0, D1⟩ := by
  refine ⟨⟨by decide +kernel, rfl, rfl, rfl, ?_, by simp only; omega⟩, ⟨by simp only; omega, by simp only; omega, by simp only; omega, by simp only; omega, by simp only; omega, by simp only; omega, by simp only; omega, by simp only; omega⟩⟩
  (refine fits_of ?_ ?_ ?_ ?_ ?_ <;> first | rfl | exact .inl rfl | (refine reg_yes ?_; simp only; omega) | (refine .inr ?_; simp only; omega) | (simp [immOk]; omega) | (simp [dispOk]; omega) | (simp [immOk]; assumption))

theorem tells_20_1 (A B I I4 I1 I1s : Nat) (D4 D1 : Int) (hA : A < 16) (hB : B < 16) (hI : I < 18446744073709551616) (hI4 : I4 ≤ 4294967295) (hI1 : I1 ≤ 255) (hI1s : I1s = sgn8 (I1s % 256)) (hS : I1s < 18446744073709551616) (d1 : -2147483648 ≤ D4) (d2 : D4 ≤ 2147483647) (d3 : -128 ≤ D1) (d4 : D1 ≤ 127) :
    Tells ⟨20, 0, 3, 0, 115, 0, 0, 6⟩ ⟨20, 0, 0, 0, 3, 0, D1⟩ ∧ InsV.Ok ⟨20, 0, 0, 0, 3, 0, D1⟩ := by
  refine ⟨⟨by decide +kernel, rfl, rfl, rfl, ?_, by simp only; omega⟩, ⟨by simp only; omega, by simp only; omega, by simp only; omega, by simp only; omega, by simp only; omega, by simp only; omega, by simp only; omega, by simp only; omega⟩⟩
  (refine fits_of ?_ ?_ ?_ ?_ ?_ <;> first | rfl | exact .inl rfl | (refine reg_yes ?_; simp only; omega) | (refine .inr ?_; simp only; omega) | (simp [immOk]; omega) | (simp [dispOk]; omega) | (simp [immOk]; assumption))

theorem tells_20_2 (A B I I4 I1 I1s : Nat) (D4 D1 : Int) (hA : A < 16) (hB : B < 16) (hI : I < 18446744073709551616) (hI4 : I4 ≤ 4294967295) (hI1 : I1 ≤ 255) (hI1s : I1s = sgn8 (I1s % 256)) (hS : I1s < 18446744073709551616) (d1 : -2147483648 ≤ D4) (d2 : D4 ≤ 2147483647) (d3 : -128 ≤ D1) (d4 : D1 ≤ 127) :
    Tells ⟨20, 0, 4, 0, 116, 0, 0, 6⟩ ⟨20, 0, 0, 0, 4, 0, D1⟩ ∧ InsV.Ok ⟨20, 0, 0, 0, 4, 0, D1⟩ := by
  refine ⟨⟨by decide +kernel, rfl, rfl, rfl, ?_, by simp only; omega⟩, ⟨by simp only; omega, by simp only; omega, by simp only; omega, by simp only; omega, by simp only; omega, by simp only; omega, by simp only; omega, by simp only; omega⟩⟩
  (refine fits_of ?_ ?_ ?_ ?_ ?_ <;> first | rfl | exact .inl rfl | (refine reg_yes ?_; simp only; omega) | (refine .inr ?_; simp only; omega) | (simp [immOk]; omega) | (simp [dispOk]; omega) | (simp [immOk]; assumption))

theorem tells_20_3 (A B I I4 I1 I1s : Nat) (D4 D1 : Int) (hA : A < 16) (hB : B < 16) (hI : I < 18446744073709551616) (hI4 : I4 ≤ 4294967295) (hI1 : I1 ≤ 255) (hI1s : I1s = sgn8 (I1s % 256)) (hS : I1s < 18446744073709551616) (d1 : -2147483648 ≤ D4) (d2 : D4 ≤ 2147483647) (d3 : -128 ≤ D1) (d4 : D1 ≤ 127) :
    Tells ⟨20, 0, 5, 0, 117, 0, 0, 6⟩ ⟨20, 0, 0, 0, 5, 0, D1⟩ ∧ InsV.Ok ⟨20, 0, 0, 0, 5, 0, D1⟩ := by
  refine ⟨⟨by decide +kernel, rfl, rfl, rfl, ?_, by simp only; omega⟩, ⟨by simp only; omega, by simp only; omega, by simp only; omega, by simp only; omega, by simp only; omega, by simp only; omega, by simp only; omega, by simp only; omega⟩⟩
  (refine fits_of ?_ ?_ ?_ ?_ ?_ <;> first | rfl | exact .inl rfl | (refine reg_yes ?_; simp only; omega) | (refine .inr ?_; simp only; omega) | (simp [immOk]; omega) | (simp [dispOk]; omega) | (simp [immOk]; assumption))

theorem tells_20_4 (A B I I4 I1 I1s : Nat) (D4 D1 : Int) (hA : A < 16) (hB : B < 16) (hI : I < 18446744073709551616) (hI4 : I4 ≤ 4294967295) (hI1 : I1 ≤ 255) (hI1s : I1s = sgn8 (I1s % 256)) (hS : I1s < 18446744073709551616) (d1 : -2147483648 ≤ D4) (d2 : D4 ≤ 2147483647) (d3 : -128 ≤ D1) (d4 : D1 ≤ 127) :
    Tells ⟨20, 0, 8, 0, 120, 0, 0, 6⟩ ⟨20, 0, 0, 0, 8, 0, D1⟩ ∧ InsV.Ok ⟨20, 0, 0, 0, 8, 0, D1⟩ := by
  refine ⟨⟨by decide +kernel, rfl, rfl, rfl, ?_, by simp only; omega⟩, ⟨by simp only; omega, by simp only; omega, by simp only; omega, by simp only; omega, by simp only; omega, by simp only; omega, by simp only; omega, by simp only; omega⟩⟩
  (refine fits_of ?_ ?_ ?_ ?_ ?_ <;> first | rfl | exact .inl rfl | (refine reg_yes ?_; simp only; omega) | (refine .inr ?_; simp only; omega) | (simp [immOk]; omega) | (simp [dispOk]; omega) | (simp [immOk]; assumption))

theorem tells_20_5 (A B I I4 I1 I1s : Nat) (D4 D1 : Int) (hA : A < 16) (hB : B < 16) (hI : I < 18446744073709551616) (hI4 : I4 ≤ 4294967295) (hI1 : I1 ≤ 255) (hI1s : I1s = sgn8 (I1s % 256)) (hS : I1s < 18446744073709551616) (d1 : -2147483648 ≤ D4) (d2 : D4 ≤ 2147483647) (d3 : -128 ≤ D1) (d4 : D1 ≤ 127) :
    Tells ⟨20, 0, 9, 0, 121, 0, 0, 6⟩ ⟨20, 0, 0, 0, 9, 0, D1⟩ ∧ InsV.Ok ⟨20, 0, 0, 0, 9, 0, D1⟩ := by
  refine ⟨⟨by decide +kernel, rfl, rfl, rfl, ?_, by simp only; omega⟩, ⟨by simp only; omega, by simp only; omega, by simp only; omega, by simp only; omega, by simp only; omega, by simp only; omega, by simp only; omega, by simp only; omega⟩⟩
  (refine fits_of ?_ ?_ ?_ ?_ ?_ <;> first | rfl | exact .inl rfl | (refine reg_yes ?_; simp only; omega) | (refine .inr ?_; simp only; omega) | (simp [immOk]; omega) | (simp [dispOk]; omega) | (simp [immOk]; assumption))

theorem tells_20_6 (A B I I4 I1 I1s : Nat) (D4 D1 : Int) (hA : A < 16) (hB : B < 16) (hI : I < 18446744073709551616) (hI4 : I4 ≤ 4294967295) (hI1 : I1 ≤ 255) (hI1s : I1s = sgn8 (I1s % 256)) (hS : I1s < 18446744073709551616) (d1 : -2147483648 ≤ D4) (d2 : D4 ≤ 2147483647) (d3 : -128 ≤ D1) (d4 : D1 ≤ 127) :
    Tells ⟨20, 0, 12, 0, 124, 0, 0, 6⟩ ⟨20, 0, 0, 0, 12, 0, D1⟩ ∧ InsV.Ok ⟨20, 0, 0, 0, 12, 0, D1⟩ := by
  refine ⟨⟨by decide +kernel, rfl, rfl, rfl, ?_, by simp only; omega⟩, ⟨by simp only; omega, by simp only; omega, by simp only; omega, by simp only; omega, by simp only; omega, by simp only; omega, by simp only; omega, by simp only; omega⟩⟩
  (refine fits_of ?_ ?_ ?_ ?_ ?_ <;> first | rfl | exact .inl rfl | (refine reg_yes ?_; simp only; omega) | (refine .inr ?_; simp only; omega) | (simp [immOk]; omega) | (simp [dispOk]; omega) | (simp [immOk]; assumption))

theorem tells_20_7 (A B I I4 I1 I1s : Nat) (D4 D1 : Int) (hA : A < 16) (hB : B < 16) (hI : I < 18446744073709551616) (hI4 : I4 ≤ 4294967295) (hI1 : I1 ≤ 255) (hI1s : I1s = sgn8 (I1s % 256)) (hS : I1s < 18446744073709551616) (d1 : -2147483648 ≤ D4) (d2 : D4 ≤ 2147483647) (d3 : -128 ≤ D1) (d4 : D1 ≤ 127) :
    Tells ⟨20, 0, 13, 0, 125, 0, 0, 6⟩ ⟨20, 0, 0, 0, 13, 0, D1⟩ ∧ InsV.Ok ⟨20, 0, 0, 0, 13, 0, D1⟩ := by
  refine ⟨⟨by decide +kernel, rfl, rfl, rfl, ?_, by simp only; omega⟩, ⟨by simp only; omega, by simp only; omega, by simp only; omega, by simp only; omega, by simp only; omega, by simp only; omega, by simp only; omega, by simp only; omega⟩⟩
  (refine fits_of ?_ ?_ ?_ ?_ ?_ <;> first | rfl | exact .inl rfl | (refine reg_yes ?_; simp only; omega) | (refine .inr ?_; simp only; omega) | (simp [immOk]; omega) | (simp [dispOk]; omega) | (simp [immOk]; assumption))

theorem tells_21 (A B I I4 I1 I1s : Nat) (D4 D1 : Int) (hA : A < 16) (hB : B < 16) (hI : I < 18446744073709551616) (hI4 : I4 ≤ 4294967295) (hI1 : I1 ≤ 255) (hI1s : I1s = sgn8 (I1s % 256)) (hS : I1s < 18446744073709551616) (d1 : -2147483648 ≤ D4) (d2 : D4 ≤ 2147483647) (d3 : -128 ≤ D1) (d4 : D1 ≤ 127) :
    Tells ⟨21, 0, 0, 0, 255, 6, 21, 5⟩ ⟨21, 0, 0, 0, 0, 0, D4⟩ ∧ InsV.Ok ⟨21, 0, 0, 0, 0, 0, D4⟩ := by
  refine ⟨⟨by decide +kernel, rfl, rfl, rfl, ?_, by simp only; omega⟩, ⟨by simp only; omega, by simp only; omega, by simp only; omega, by simp only; omega, by simp only; omega, by simp only; omega, by simp only; omega, by simp only; omega⟩⟩
  (refine fits_of ?_ ?_ ?_ ?_ ?_ <;> first | rfl | exact .inl rfl | (refine reg_yes ?_; simp only; omega) | (refine .inr ?_; simp only; omega) | (simp [immOk]; omega) | (simp [dispOk]; omega) | (simp [immOk]; assumption))

theorem tells_22 (A B I I4 I1 I1s : Nat) (D4 D1 : Int) (hA : A < 16) (hB : B < 16) (hI : I < 18446744073709551616) (hI4 : I4 ≤ 4294967295) (hI1 : I1 ≤ 255) (hI1s : I1s = sgn8 (I1s % 256)) (hS : I1s < 18446744073709551616) (d1 : -2147483648 ≤ D4) (d2 : D4 ≤ 2147483647) (d3 : -128 ≤ D1) (d4 : D1 ≤ 127) :
    Tells ⟨22, 0, 0, 0, 255, 6, 37, 5⟩ ⟨22, 0, 0, 0, 0, 0, D4⟩ ∧ InsV.Ok ⟨22, 0, 0, 0, 0, 0, D4⟩ := by
  refine ⟨⟨by decide +kernel, rfl, rfl, rfl, ?_, by simp only; omega⟩, ⟨by simp only; omega, by simp only; omega, by simp only; omega, by simp only; omega, by simp only; omega, by simp only; omega, by simp only; omega, by simp only; omega⟩⟩
  (refine fits_of ?_ ?_ ?_ ?_ ?_ <;> first | rfl | exact .inl rfl | (refine reg_yes ?_; simp only; omega) | (refine .inr ?_; simp only; omega) | (simp [immOk]; omega) | (simp [dispOk]; omega) | (simp [immOk]; assumption))

theorem tells_23 (A B I I4 I1 I1s : Nat) (D4 D1 : Int) (hA : A < 16) (hB : B < 16) (hI : I < 18446744073709551616) (hI4 : I4 ≤ 4294967295) (hI1 : I1 ≤ 255) (hI1s : I1s = sgn8 (I1s % 256)) (hS : I1s < 18446744073709551616) (d1 : -2147483648 ≤ D4) (d2 : D4 ≤ 2147483647) (d3 : -128 ≤ D1) (d4 : D1 ≤ 127) :
    Tells ⟨23, 0, 0, 0, 205, 0, 0, 3⟩ ⟨23, 0, 0, 0, 0, I1, 0⟩ ∧ InsV.Ok ⟨23, 0, 0, 0, 0, I1, 0⟩ := by
  refine ⟨⟨by decide +kernel, rfl, rfl, rfl, ?_, by simp only; omega⟩, ⟨by simp only; omega, by simp only; omega, by simp only; omega, by simp only; omega, by simp only; omega, by simp only; omega, by simp only; omega, by simp only; omega⟩⟩
  (refine fits_of ?_ ?_ ?_ ?_ ?_ <;> first | rfl | exact .inl rfl | (refine reg_yes ?_; simp only; omega) | (refine .inr ?_; simp only; omega) | (simp [immOk]; omega) | (simp [dispOk]; omega) | (simp [immOk]; assumption))

theorem u64_mask (n k : Nat) (hk : k < 64) (hn : n < 18446744073709551616) : bits .and .u64 (n : Int) ((2 ^ k - 1 : Nat) : Int) = ((n % 2 ^ k : Nat) : Int) := by
  have h1 : 2 ^ k < 2 ^ 64 := Nat.pow_lt_pow_right (by omega) hk
  rw [u64_and_nat n (2 ^ k - 1) (by omega) (by omega), Nat.and_two_pow_sub_one_eq_mod]
theorem wrap_d4 (d : Int) : -2147483648 ≤ wrap64 (d * 4294967296) / 4294967296 ∧ wrap64 (d * 4294967296) / 4294967296 ≤ 2147483647 := by unfold wrap64; omega
theorem wrap_d1 (d : Int) : -128 ≤ wrap64 (d * 72057594037927936) / 72057594037927936 ∧ wrap64 (d * 72057594037927936) / 72057594037927936 ≤ 127 := by unfold wrap64; omega
theorem sgn_q (q : Int) (h1 : -128 ≤ q) (h2 : q ≤ 127) : ∃ n : Nat, IntKind.u64.wrap q = (n : Int) ∧ n = sgn8 (n % 256) ∧ n < 18446744073709551616 := by
  refine ⟨(q % 18446744073709551616).toNat, ?_, ?_, by omega⟩
  · rw [show IntKind.u64.wrap q = q % 18446744073709551616 by simp [IntKind.wrap, IntKind.bits, IntKind.signed]]; omega
  · unfold sgn8; split <;> omega

/-- What Tame tells is an instruction that a form tells. -/
def InsRet (e : Ending) : Prop := ∃ (F : Form) (y : InsV), Tells F y ∧ y.Ok ∧ e = .returned (insV y)

set_option maxHeartbeats 1000000 in
theorem tame_any (o a b l c d : Int) (I : Nat) (hI : I < 18446744073709551616) (w : World) :
    Calls Try.prog 25 #[.agg #[.int .i64 o, .int .i64 a, .int .i64 b, .int .i64 l, .int .i64 c, .int .u64 I, .int .i64 d]] w fun e w' => InsRet e ∧ Below w.heap.size w w' := by
  obtain ⟨P, hP, h0⟩ : ∃ P : Nat, P < 256 ∧ bits .and .i64 o 255 = (P : Int) := ⟨(o % 256).toNat, by omega, by rw [and_ff]; omega⟩
  obtain ⟨A, hA, ma⟩ : ∃ A : Nat, A < 16 ∧ bits .and .i64 a 15 = (A : Int) := ⟨(a % 16).toNat, by omega, by rw [show (15 : Int) = ((2 ^ 4 - 1 : Nat) : Int) from rfl, i64_mask a 4 (by omega)]; omega⟩
  obtain ⟨B, hB, mb⟩ : ∃ B : Nat, B < 16 ∧ bits .and .i64 b 15 = (B : Int) := ⟨(b % 16).toNat, by omega, by rw [show (15 : Int) = ((2 ^ 4 - 1 : Nat) : Int) from rfl, i64_mask b 4 (by omega)]; omega⟩
  obtain ⟨L, hL, ml⟩ : ∃ L : Nat, L < 256 ∧ bits .and .i64 l 255 = (L : Int) := ⟨(l % 256).toNat, by omega, by rw [and_ff]; omega⟩
  have m7 : bits .and .i64 (B : Int) 7 = (B : Int) % 8 := and_7 _
  obtain ⟨I4, hI4, mi4⟩ : ∃ n : Nat, n ≤ 4294967295 ∧ bits .and .u64 (I : Int) 4294967295 = (n : Int) := ⟨I % 4294967296, by omega, by rw [show (4294967295 : Int) = ((2 ^ 32 - 1 : Nat) : Int) from rfl, u64_mask I 32 (by omega) hI]⟩
  obtain ⟨I1, hI1, mi1⟩ : ∃ n : Nat, n ≤ 255 ∧ bits .and .u64 (I : Int) 255 = (n : Int) := ⟨I % 256, by omega, by rw [show (255 : Int) = ((2 ^ 8 - 1 : Nat) : Int) from rfl, u64_mask I 8 (by omega) hI]⟩
  obtain ⟨d1, d2⟩ := wrap_d4 d
  obtain ⟨d3, d4⟩ := wrap_d1 d
  obtain ⟨D4, md4⟩ : ∃ D4, wrap64 (d * 4294967296) / 4294967296 = D4 := ⟨_, rfl⟩
  obtain ⟨D1, md1⟩ : ∃ D1, wrap64 (d * 72057594037927936) / 72057594037927936 = D1 := ⟨_, rfl⟩
  obtain ⟨s1, s2⟩ := wrap_d1 (wrap64 (I : Int))
  obtain ⟨S, mi, hS1, hS2⟩ := sgn_q _ s1 s2
  rw [md4] at d1 d2
  rw [md1] at d3 d4
  clear s1 s2
  have hpp : Int.tmod (P : Int) 23 = ((P % 23 : Nat) : Int) := rfl
  have hlt : P % 23 < 23 := Nat.mod_lt _ (by decide)
  generalize P % 23 = r at *
  have fin : ∀ (F : Form) (y : InsV), Tells F y ∧ InsV.Ok y → ∀ (e : Ending) (w' : World), (e = .returned (insV y) ∧ Below w.heap.size w w') → InsRet e ∧ Below w.heap.size w w' := fun F y hy e w' he => ⟨⟨F, y, hy.1, hy.2, he.1⟩, he.2⟩
  rcases (by omega : r = 0 ∨ r = 1 ∨ r = 2 ∨ r = 3 ∨ r = 4 ∨ r = 5 ∨ r = 6 ∨ r = 7 ∨ r = 8 ∨ r = 9 ∨ r = 10 ∨ r = 11 ∨ r = 12 ∨ r = 13 ∨ r = 14 ∨ r = 15 ∨ r = 16 ∨ r = 17 ∨ r = 18 ∨ r = 19 ∨ r = 20 ∨ r = 21 ∨ r = 22) with rfl | rfl | rfl | rfl | rfl | rfl | rfl | rfl | rfl | rfl | rfl | rfl | rfl | rfl | rfl | rfl | rfl | rfl | rfl | rfl | rfl | rfl | rfl
  · exact (tame_1 o a b l c d D4 D1 A B P I I4 I1 S w h0 hpp ma mb md4 md1 hB).mono (fin _ _ (tells_1 A B I I4 I1 S D4 D1 hA hB hI hI4 hI1 hS1 hS2 d1 d2 d3 d4))
  · exact (tame_2 o a b l c d D4 D1 A B P I I4 I1 S w h0 hpp ma mb md4 md1 hB).mono (fin _ _ (tells_2 A B I I4 I1 S D4 D1 hA hB hI hI4 hI1 hS1 hS2 d1 d2 d3 d4))
  · exact (tame_3 o a b l c d D4 D1 A B P I I4 I1 S w h0 hpp ma mb md4 md1 hB).mono (fin _ _ (tells_3 A B I I4 I1 S D4 D1 hA hB hI hI4 hI1 hS1 hS2 d1 d2 d3 d4))
  · exact (tame_4 o a b l c d D4 D1 A B P I I4 I1 S w h0 hpp ma mb md4 md1 hB).mono (fin _ _ (tells_4 A B I I4 I1 S D4 D1 hA hB hI hI4 hI1 hS1 hS2 d1 d2 d3 d4))
  · exact (tame_5 o a b l c d D4 D1 A B P I I4 I1 S w h0 hpp ma mb md4 md1 hB).mono (fin _ _ (tells_5 A B I I4 I1 S D4 D1 hA hB hI hI4 hI1 hS1 hS2 d1 d2 d3 d4))
  · exact (tame_6 o a b l c d D4 D1 A B P I I4 I1 S w h0 hpp ma mb md4 md1 mi4 hB).mono (fin _ _ (tells_6 A B I I4 I1 S D4 D1 hA hB hI hI4 hI1 hS1 hS2 d1 d2 d3 d4))
  · have hl : Int.tmod (L : Int) 7 = ((L % 7 : Nat) : Int) := rfl
    have hlt : L % 7 < 7 := Nat.mod_lt _ (by decide)
    generalize L % 7 = j at *
    rcases (by omega : j = 0 ∨ j = 1 ∨ j = 2 ∨ j = 3 ∨ j = 4 ∨ j = 5 ∨ j = 6) with rfl | rfl | rfl | rfl | rfl | rfl | rfl
    · exact (tame_7_0 o a b l c d D4 D1 A B P I I4 I1 S w h0 hpp ma mb md4 md1 L ml hl hB).mono (fin _ _ (tells_7_0 A B I I4 I1 S D4 D1 hA hB hI hI4 hI1 hS1 hS2 d1 d2 d3 d4))
    · exact (tame_7_1 o a b l c d D4 D1 A B P I I4 I1 S w h0 hpp ma mb md4 md1 L ml hl hB).mono (fin _ _ (tells_7_1 A B I I4 I1 S D4 D1 hA hB hI hI4 hI1 hS1 hS2 d1 d2 d3 d4))
    · exact (tame_7_2 o a b l c d D4 D1 A B P I I4 I1 S w h0 hpp ma mb md4 md1 L ml hl hB).mono (fin _ _ (tells_7_2 A B I I4 I1 S D4 D1 hA hB hI hI4 hI1 hS1 hS2 d1 d2 d3 d4))
    · exact (tame_7_3 o a b l c d D4 D1 A B P I I4 I1 S w h0 hpp ma mb md4 md1 L ml hl hB).mono (fin _ _ (tells_7_3 A B I I4 I1 S D4 D1 hA hB hI hI4 hI1 hS1 hS2 d1 d2 d3 d4))
    · exact (tame_7_4 o a b l c d D4 D1 A B P I I4 I1 S w h0 hpp ma mb md4 md1 L ml hl hB).mono (fin _ _ (tells_7_4 A B I I4 I1 S D4 D1 hA hB hI hI4 hI1 hS1 hS2 d1 d2 d3 d4))
    · exact (tame_7_5 o a b l c d D4 D1 A B P I I4 I1 S w h0 hpp ma mb md4 md1 L ml hl hB).mono (fin _ _ (tells_7_5 A B I I4 I1 S D4 D1 hA hB hI hI4 hI1 hS1 hS2 d1 d2 d3 d4))
    · exact (tame_7_6 o a b l c d D4 D1 A B P I I4 I1 S w h0 hpp ma mb md4 md1 L ml hl hB).mono (fin _ _ (tells_7_6 A B I I4 I1 S D4 D1 hA hB hI hI4 hI1 hS1 hS2 d1 d2 d3 d4))
  · exact (tame_8 o a b l c d D4 D1 A B P I I4 I1 S w h0 hpp ma mb md4 md1 hB).mono (fin _ _ (tells_8 A B I I4 I1 S D4 D1 hA hB hI hI4 hI1 hS1 hS2 d1 d2 d3 d4))
  · by_cases m8 : B % 8 = 4
    · exact (tame_9_y o a b l c d D4 D1 A B P I I4 I1 S w h0 hpp ma mb md4 md1 m7 (by rw [beq_iff_eq]; omega) hB).mono (fin _ _ (tells_9_y A B I I4 I1 S D4 D1 hA hB hI hI4 hI1 hS1 hS2 d1 d2 d3 d4 m8))
    · exact (tame_9_n o a b l c d D4 D1 A B P I I4 I1 S w h0 hpp ma mb md4 md1 m7 (by rw [beq_eq_false_iff_ne]; omega) hB).mono (fin _ _ (tells_9_n A B I I4 I1 S D4 D1 hA hB hI hI4 hI1 hS1 hS2 d1 d2 d3 d4 m8))
  · by_cases m8 : B % 8 = 4
    · exact (tame_10_y o a b l c d D4 D1 A B P I I4 I1 S w h0 hpp ma mb md4 md1 m7 (by rw [beq_iff_eq]; omega) hB).mono (fin _ _ (tells_10_y A B I I4 I1 S D4 D1 hA hB hI hI4 hI1 hS1 hS2 d1 d2 d3 d4 m8))
    · exact (tame_10_n o a b l c d D4 D1 A B P I I4 I1 S w h0 hpp ma mb md4 md1 m7 (by rw [beq_eq_false_iff_ne]; omega) hB).mono (fin _ _ (tells_10_n A B I I4 I1 S D4 D1 hA hB hI hI4 hI1 hS1 hS2 d1 d2 d3 d4 m8))
  · exact (tame_11 o a b l c d D4 D1 A B P I I4 I1 S w h0 hpp ma mb md4 md1 hB).mono (fin _ _ (tells_11 A B I I4 I1 S D4 D1 hA hB hI hI4 hI1 hS1 hS2 d1 d2 d3 d4))
  · exact (tame_12 o a b l c d D4 D1 A B P I I4 I1 S w h0 hpp ma mb md4 md1 hB).mono (fin _ _ (tells_12 A B I I4 I1 S D4 D1 hA hB hI hI4 hI1 hS1 hS2 d1 d2 d3 d4))
  · exact (tame_13 o a b l c d D4 D1 A B P I I4 I1 S w h0 hpp ma mb md4 md1 hB).mono (fin _ _ (tells_13 A B I I4 I1 S D4 D1 hA hB hI hI4 hI1 hS1 hS2 d1 d2 d3 d4))
  · have hl : Int.tmod (L : Int) 3 = ((L % 3 : Nat) : Int) := rfl
    have hlt : L % 3 < 3 := Nat.mod_lt _ (by decide)
    generalize L % 3 = j at *
    rcases (by omega : j = 0 ∨ j = 1 ∨ j = 2) with rfl | rfl | rfl
    · exact (tame_14_0 o a b l c d D4 D1 A B P I I4 I1 S w h0 hpp ma mb md4 md1 L ml hl mi hB).mono (fin _ _ (tells_14_0 A B I I4 I1 S D4 D1 hA hB hI hI4 hI1 hS1 hS2 d1 d2 d3 d4))
    · exact (tame_14_1 o a b l c d D4 D1 A B P I I4 I1 S w h0 hpp ma mb md4 md1 L ml hl mi hB).mono (fin _ _ (tells_14_1 A B I I4 I1 S D4 D1 hA hB hI hI4 hI1 hS1 hS2 d1 d2 d3 d4))
    · exact (tame_14_2 o a b l c d D4 D1 A B P I I4 I1 S w h0 hpp ma mb md4 md1 L ml hl mi hB).mono (fin _ _ (tells_14_2 A B I I4 I1 S D4 D1 hA hB hI hI4 hI1 hS1 hS2 d1 d2 d3 d4))
  · have hl : bits .and .i64 l 1 = l % 2 := i64_mask l 1 (by omega)
    rcases (by omega : l % 2 = 0 ∨ l % 2 = 1) with hj | hj <;> rw [hj] at hl
    · exact (tame_15_0 o a b l c d D4 D1 A B P I I4 I1 S w h0 hpp ma mb md4 md1 hl hB).mono (fin _ _ (tells_15_0 A B I I4 I1 S D4 D1 hA hB hI hI4 hI1 hS1 hS2 d1 d2 d3 d4))
    · exact (tame_15_1 o a b l c d D4 D1 A B P I I4 I1 S w h0 hpp ma mb md4 md1 hl hB).mono (fin _ _ (tells_15_1 A B I I4 I1 S D4 D1 hA hB hI hI4 hI1 hS1 hS2 d1 d2 d3 d4))
  · have hl : bits .and .i64 l 1 = l % 2 := i64_mask l 1 (by omega)
    rcases (by omega : l % 2 = 0 ∨ l % 2 = 1) with hj | hj <;> rw [hj] at hl
    · exact (tame_16_0 o a b l c d D4 D1 A B P I I4 I1 S w h0 hpp ma mb md4 md1 hl mi1 hB).mono (fin _ _ (tells_16_0 A B I I4 I1 S D4 D1 hA hB hI hI4 hI1 hS1 hS2 d1 d2 d3 d4))
    · exact (tame_16_1 o a b l c d D4 D1 A B P I I4 I1 S w h0 hpp ma mb md4 md1 hl mi1 hB).mono (fin _ _ (tells_16_1 A B I I4 I1 S D4 D1 hA hB hI hI4 hI1 hS1 hS2 d1 d2 d3 d4))
  · exact (tame_17 o a b l c d D4 D1 A B P I I4 I1 S w h0 hpp ma mb md4 md1 hB).mono (fin _ _ (tells_17 A B I I4 I1 S D4 D1 hA hB hI hI4 hI1 hS1 hS2 d1 d2 d3 d4))
  · exact (tame_18 o a b l c d D4 D1 A B P I I4 I1 S w h0 hpp ma mb md4 md1 hB).mono (fin _ _ (tells_18 A B I I4 I1 S D4 D1 hA hB hI hI4 hI1 hS1 hS2 d1 d2 d3 d4))
  · exact (tame_19 o a b l c d D4 D1 A B P I I4 I1 S w h0 hpp ma mb md4 md1 hB).mono (fin _ _ (tells_19 A B I I4 I1 S D4 D1 hA hB hI hI4 hI1 hS1 hS2 d1 d2 d3 d4))
  · have hl : bits .and .i64 c 7 = c % 8 := and_7 _
    rcases (by omega : c % 8 = 0 ∨ c % 8 = 1 ∨ c % 8 = 2 ∨ c % 8 = 3 ∨ c % 8 = 4 ∨ c % 8 = 5 ∨ c % 8 = 6 ∨ c % 8 = 7) with hj | hj | hj | hj | hj | hj | hj | hj <;> rw [hj] at hl
    · exact (tame_20_0 o a b l c d D4 D1 A B P I I4 I1 S w h0 hpp ma mb md4 md1 hl hB).mono (fin _ _ (tells_20_0 A B I I4 I1 S D4 D1 hA hB hI hI4 hI1 hS1 hS2 d1 d2 d3 d4))
    · exact (tame_20_1 o a b l c d D4 D1 A B P I I4 I1 S w h0 hpp ma mb md4 md1 hl hB).mono (fin _ _ (tells_20_1 A B I I4 I1 S D4 D1 hA hB hI hI4 hI1 hS1 hS2 d1 d2 d3 d4))
    · exact (tame_20_2 o a b l c d D4 D1 A B P I I4 I1 S w h0 hpp ma mb md4 md1 hl hB).mono (fin _ _ (tells_20_2 A B I I4 I1 S D4 D1 hA hB hI hI4 hI1 hS1 hS2 d1 d2 d3 d4))
    · exact (tame_20_3 o a b l c d D4 D1 A B P I I4 I1 S w h0 hpp ma mb md4 md1 hl hB).mono (fin _ _ (tells_20_3 A B I I4 I1 S D4 D1 hA hB hI hI4 hI1 hS1 hS2 d1 d2 d3 d4))
    · exact (tame_20_4 o a b l c d D4 D1 A B P I I4 I1 S w h0 hpp ma mb md4 md1 hl hB).mono (fin _ _ (tells_20_4 A B I I4 I1 S D4 D1 hA hB hI hI4 hI1 hS1 hS2 d1 d2 d3 d4))
    · exact (tame_20_5 o a b l c d D4 D1 A B P I I4 I1 S w h0 hpp ma mb md4 md1 hl hB).mono (fin _ _ (tells_20_5 A B I I4 I1 S D4 D1 hA hB hI hI4 hI1 hS1 hS2 d1 d2 d3 d4))
    · exact (tame_20_6 o a b l c d D4 D1 A B P I I4 I1 S w h0 hpp ma mb md4 md1 hl hB).mono (fin _ _ (tells_20_6 A B I I4 I1 S D4 D1 hA hB hI hI4 hI1 hS1 hS2 d1 d2 d3 d4))
    · exact (tame_20_7 o a b l c d D4 D1 A B P I I4 I1 S w h0 hpp ma mb md4 md1 hl hB).mono (fin _ _ (tells_20_7 A B I I4 I1 S D4 D1 hA hB hI hI4 hI1 hS1 hS2 d1 d2 d3 d4))
  · exact (tame_21 o a b l c d D4 D1 A B P I I4 I1 S w h0 hpp ma mb md4 md1 hB).mono (fin _ _ (tells_21 A B I I4 I1 S D4 D1 hA hB hI hI4 hI1 hS1 hS2 d1 d2 d3 d4))
  · exact (tame_22 o a b l c d D4 D1 A B P I I4 I1 S w h0 hpp ma mb md4 md1 hB).mono (fin _ _ (tells_22 A B I I4 I1 S D4 D1 hA hB hI hI4 hI1 hS1 hS2 d1 d2 d3 d4))
  · exact (tame_23 o a b l c d D4 D1 A B P I I4 I1 S w h0 hpp ma mb md4 md1 mi1 hB).mono (fin _ _ (tells_23 A B I I4 I1 S D4 D1 hA hB hI hI4 hI1 hS1 hS2 d1 d2 d3 d4))

end Go.Proofs.Ythbgmlmcjnlopaa
