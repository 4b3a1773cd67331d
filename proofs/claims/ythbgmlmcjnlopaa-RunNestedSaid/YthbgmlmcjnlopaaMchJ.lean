/- package cpu: one instruction: what goes through the memory. -/
import Derived.Test.YthbgmlmcjnlopaaMchI
namespace Go.Proofs.Ythbgmlmcjnlopaa
open Go.ChangeShapes Go.WideShapes Go.ChangeAt Go.RowKit
set_option linter.unusedVariables false
set_option linter.unusedSimpArgs false
set_option maxRecDepth 100000

set_option maxHeartbeats 4000000 in
theorem liftPush (R : Nat → Prop) (w : World) (C B M m : Nat) (most : Int) (mp : Int → Option Pg) (s0 : StV) (fk fa : Int) (s : StV) (a b al cc im : Nat) (dp : Int) (P : (Nat → Prop) → World → Ending → World → Prop) (H : Ctx R w C B M m most mp s0 fk fa s)
    (hb : ∀ R' W e w', P R' W e w' → Kept R w W → (∀ k, R k → R' k) → P R w e w') (he : ∀ R' W e w', P R' W e w' → ∃ v, e = .returned (.bool v))
    (hc : ∀ R' W, Ctx R' W C B M m most mp s0 fk fa s → Calls Try.prog 63 #[.pointer (some ⟨C, 0, none⟩), .agg #[.int .i64 3, .int .i64 a, .int .i64 b, .int .i64 al, .int .i64 cc, .int .u64 im, .int .i64 dp], .pointer (some ⟨B, 0, none⟩)] W fun e w' => P R' W e w') :
    Calls Try.prog 45 #[.pointer (some ⟨C, 0, none⟩), .agg #[.int .i64 3, .int .i64 a, .int .i64 b, .int .i64 al, .int .i64 cc, .int .u64 im, .int .i64 dp], .pointer (some ⟨B, 0, none⟩)] w fun e w' => P R w e w' := by
  have HPB := Lib.hid hb
  have HPE := Lib.hid he
  have HPC := Lib.hid hc
  have HSZ := Lib.hid H.mem.sz
  have HX := Lib.hid H
  have hlB := H.mem.sz B H.rB
  have hlC := H.mem.sz C H.rC
  clear H hb he hc
  go_enter Try.func45, Try.ntmps45
  go_upto_region 1 with (fail)
  obtain ⟨w1, hw1⟩ : ∃ w1, w.alloc (.cells #[.int .i64 3, .int .i64 a, .int .i64 b, .int .i64 al, .int .i64 cc, .int .u64 im, .int .i64 dp] 27) = w1 := ⟨_, rfl⟩
  obtain ⟨D, hD⟩ : ∃ D, w.heap.size = D := ⟨_, rfl⟩
  have HX1 := Lib.hid (show Ctx (fun k => R k ∨ k = D) w1 C B M m most mp s0 fk fa s from by rw [← hw1, ← hD]; exact HX.out.boxed _)
  have HD1 := Lib.hid (show w1.heap[D]? = some (.cells #[.int .i64 3, .int .i64 a, .int .i64 b, .int .i64 al, .int .i64 cc, .int .u64 im, .int .i64 dp] 27 (0, 0)) from by rw [← hw1, ← hD]; exact heap_alloc_new w _)
  have HBK := Lib.hid (show Kept R w w1 from by rw [← hw1]; exact (Kept.refl R w).alloc HSZ.out _)
  have HDB := Lib.hid (show D ≠ B ∧ D ≠ C ∧ ¬ R D from ⟨by omega, by omega, fun h => by have := HSZ.out D h; omega⟩)
  refine (congrArg _ hw1).mpr ?_
  rw [hD]
  clear hw1 hD hlB hlC HX HSZ
  have c0 : w1.cell? ⟨D, 0, none⟩ = some (.int .i64 3) := by rw [cell_of_row' HD1.out]; rfl
  have c1 : w1.cell? ⟨D, 1, none⟩ = some (.int .i64 a) := by rw [cell_of_row' HD1.out]; rfl
  have c2 : w1.cell? ⟨D, 2, none⟩ = some (.int .i64 b) := by rw [cell_of_row' HD1.out]; rfl
  have c3 : w1.cell? ⟨D, 3, none⟩ = some (.int .i64 al) := by rw [cell_of_row' HD1.out]; rfl
  have c4 : w1.cell? ⟨D, 4, none⟩ = some (.int .i64 cc) := by rw [cell_of_row' HD1.out]; rfl
  have c5 : w1.cell? ⟨D, 5, none⟩ = some (.int .u64 im) := by rw [cell_of_row' HD1.out]; rfl
  have c6 : w1.cell? ⟨D, 6, none⟩ = some (.int .i64 dp) := by rw [cell_of_row' HD1.out]; rfl
  go_wp2_with fail
  refine (HPC.out _ w1 HX1.out).mono ?_
  intro e w2 hP
  have HP := Lib.hid (HPB.out _ _ _ _ hP HBK.out (fun k hk => .inl hk))
  obtain ⟨v, rfl⟩ := HPE.out _ _ _ _ hP
  clear hP c0 c1 c2 c3 c4 c5 c6
  go_wp2
  exact HP.out

set_option maxHeartbeats 4000000 in
theorem liftPop (R : Nat → Prop) (w : World) (C B M m : Nat) (most : Int) (mp : Int → Option Pg) (s0 : StV) (fk fa : Int) (s : StV) (a b al cc im : Nat) (dp : Int) (P : (Nat → Prop) → World → Ending → World → Prop) (H : Ctx R w C B M m most mp s0 fk fa s)
    (hb : ∀ R' W e w', P R' W e w' → Kept R w W → (∀ k, R k → R' k) → P R w e w') (he : ∀ R' W e w', P R' W e w' → ∃ v, e = .returned (.bool v))
    (hc : ∀ R' W, Ctx R' W C B M m most mp s0 fk fa s → Calls Try.prog 63 #[.pointer (some ⟨C, 0, none⟩), .agg #[.int .i64 4, .int .i64 a, .int .i64 b, .int .i64 al, .int .i64 cc, .int .u64 im, .int .i64 dp], .pointer (some ⟨B, 0, none⟩)] W fun e w' => P R' W e w') :
    Calls Try.prog 45 #[.pointer (some ⟨C, 0, none⟩), .agg #[.int .i64 4, .int .i64 a, .int .i64 b, .int .i64 al, .int .i64 cc, .int .u64 im, .int .i64 dp], .pointer (some ⟨B, 0, none⟩)] w fun e w' => P R w e w' := by
  have HPB := Lib.hid hb
  have HPE := Lib.hid he
  have HPC := Lib.hid hc
  have HSZ := Lib.hid H.mem.sz
  have HX := Lib.hid H
  have hlB := H.mem.sz B H.rB
  have hlC := H.mem.sz C H.rC
  clear H hb he hc
  go_enter Try.func45, Try.ntmps45
  go_upto_region 1 with (fail)
  obtain ⟨w1, hw1⟩ : ∃ w1, w.alloc (.cells #[.int .i64 4, .int .i64 a, .int .i64 b, .int .i64 al, .int .i64 cc, .int .u64 im, .int .i64 dp] 27) = w1 := ⟨_, rfl⟩
  obtain ⟨D, hD⟩ : ∃ D, w.heap.size = D := ⟨_, rfl⟩
  have HX1 := Lib.hid (show Ctx (fun k => R k ∨ k = D) w1 C B M m most mp s0 fk fa s from by rw [← hw1, ← hD]; exact HX.out.boxed _)
  have HD1 := Lib.hid (show w1.heap[D]? = some (.cells #[.int .i64 4, .int .i64 a, .int .i64 b, .int .i64 al, .int .i64 cc, .int .u64 im, .int .i64 dp] 27 (0, 0)) from by rw [← hw1, ← hD]; exact heap_alloc_new w _)
  have HBK := Lib.hid (show Kept R w w1 from by rw [← hw1]; exact (Kept.refl R w).alloc HSZ.out _)
  have HDB := Lib.hid (show D ≠ B ∧ D ≠ C ∧ ¬ R D from ⟨by omega, by omega, fun h => by have := HSZ.out D h; omega⟩)
  refine (congrArg _ hw1).mpr ?_
  rw [hD]
  clear hw1 hD hlB hlC HX HSZ
  have c0 : w1.cell? ⟨D, 0, none⟩ = some (.int .i64 4) := by rw [cell_of_row' HD1.out]; rfl
  have c1 : w1.cell? ⟨D, 1, none⟩ = some (.int .i64 a) := by rw [cell_of_row' HD1.out]; rfl
  have c2 : w1.cell? ⟨D, 2, none⟩ = some (.int .i64 b) := by rw [cell_of_row' HD1.out]; rfl
  have c3 : w1.cell? ⟨D, 3, none⟩ = some (.int .i64 al) := by rw [cell_of_row' HD1.out]; rfl
  have c4 : w1.cell? ⟨D, 4, none⟩ = some (.int .i64 cc) := by rw [cell_of_row' HD1.out]; rfl
  have c5 : w1.cell? ⟨D, 5, none⟩ = some (.int .u64 im) := by rw [cell_of_row' HD1.out]; rfl
  have c6 : w1.cell? ⟨D, 6, none⟩ = some (.int .i64 dp) := by rw [cell_of_row' HD1.out]; rfl
  go_wp2_with fail
  refine (HPC.out _ w1 HX1.out).mono ?_
  intro e w2 hP
  have HP := Lib.hid (HPB.out _ _ _ _ hP HBK.out (fun k hk => .inl hk))
  obtain ⟨v, rfl⟩ := HPE.out _ _ _ _ hP
  clear hP c0 c1 c2 c3 c4 c5 c6
  go_wp2
  exact HP.out

set_option maxHeartbeats 4000000 in
theorem liftRet (R : Nat → Prop) (w : World) (C B M m : Nat) (most : Int) (mp : Int → Option Pg) (s0 : StV) (fk fa : Int) (s : StV) (a b al cc im : Nat) (dp : Int) (P : (Nat → Prop) → World → Ending → World → Prop) (H : Ctx R w C B M m most mp s0 fk fa s)
    (hb : ∀ R' W e w', P R' W e w' → Kept R w W → (∀ k, R k → R' k) → P R w e w') (he : ∀ R' W e w', P R' W e w' → ∃ v, e = .returned (.bool v))
    (hc : ∀ R' W, Ctx R' W C B M m most mp s0 fk fa s → Calls Try.prog 63 #[.pointer (some ⟨C, 0, none⟩), .agg #[.int .i64 2, .int .i64 a, .int .i64 b, .int .i64 al, .int .i64 cc, .int .u64 im, .int .i64 dp], .pointer (some ⟨B, 0, none⟩)] W fun e w' => P R' W e w') :
    Calls Try.prog 45 #[.pointer (some ⟨C, 0, none⟩), .agg #[.int .i64 2, .int .i64 a, .int .i64 b, .int .i64 al, .int .i64 cc, .int .u64 im, .int .i64 dp], .pointer (some ⟨B, 0, none⟩)] w fun e w' => P R w e w' := by
  have HPB := Lib.hid hb
  have HPE := Lib.hid he
  have HPC := Lib.hid hc
  have HSZ := Lib.hid H.mem.sz
  have HX := Lib.hid H
  have hlB := H.mem.sz B H.rB
  have hlC := H.mem.sz C H.rC
  clear H hb he hc
  go_enter Try.func45, Try.ntmps45
  go_upto_region 1 with (fail)
  obtain ⟨w1, hw1⟩ : ∃ w1, w.alloc (.cells #[.int .i64 2, .int .i64 a, .int .i64 b, .int .i64 al, .int .i64 cc, .int .u64 im, .int .i64 dp] 27) = w1 := ⟨_, rfl⟩
  obtain ⟨D, hD⟩ : ∃ D, w.heap.size = D := ⟨_, rfl⟩
  have HX1 := Lib.hid (show Ctx (fun k => R k ∨ k = D) w1 C B M m most mp s0 fk fa s from by rw [← hw1, ← hD]; exact HX.out.boxed _)
  have HD1 := Lib.hid (show w1.heap[D]? = some (.cells #[.int .i64 2, .int .i64 a, .int .i64 b, .int .i64 al, .int .i64 cc, .int .u64 im, .int .i64 dp] 27 (0, 0)) from by rw [← hw1, ← hD]; exact heap_alloc_new w _)
  have HBK := Lib.hid (show Kept R w w1 from by rw [← hw1]; exact (Kept.refl R w).alloc HSZ.out _)
  have HDB := Lib.hid (show D ≠ B ∧ D ≠ C ∧ ¬ R D from ⟨by omega, by omega, fun h => by have := HSZ.out D h; omega⟩)
  refine (congrArg _ hw1).mpr ?_
  rw [hD]
  clear hw1 hD hlB hlC HX HSZ
  have c0 : w1.cell? ⟨D, 0, none⟩ = some (.int .i64 2) := by rw [cell_of_row' HD1.out]; rfl
  have c1 : w1.cell? ⟨D, 1, none⟩ = some (.int .i64 a) := by rw [cell_of_row' HD1.out]; rfl
  have c2 : w1.cell? ⟨D, 2, none⟩ = some (.int .i64 b) := by rw [cell_of_row' HD1.out]; rfl
  have c3 : w1.cell? ⟨D, 3, none⟩ = some (.int .i64 al) := by rw [cell_of_row' HD1.out]; rfl
  have c4 : w1.cell? ⟨D, 4, none⟩ = some (.int .i64 cc) := by rw [cell_of_row' HD1.out]; rfl
  have c5 : w1.cell? ⟨D, 5, none⟩ = some (.int .u64 im) := by rw [cell_of_row' HD1.out]; rfl
  have c6 : w1.cell? ⟨D, 6, none⟩ = some (.int .i64 dp) := by rw [cell_of_row' HD1.out]; rfl
  go_wp2_with fail
  refine (HPC.out _ w1 HX1.out).mono ?_
  intro e w2 hP
  have HP := Lib.hid (HPB.out _ _ _ _ hP HBK.out (fun k hk => .inl hk))
  obtain ⟨v, rfl⟩ := HPE.out _ _ _ _ hP
  clear hP c0 c1 c2 c3 c4 c5 c6
  go_wp2
  exact HP.out

set_option maxHeartbeats 4000000 in
theorem liftCall (R : Nat → Prop) (w : World) (C B M m : Nat) (most : Int) (mp : Int → Option Pg) (s0 : StV) (fk fa : Int) (s : StV) (a b al cc im : Nat) (dp : Int) (P : (Nat → Prop) → World → Ending → World → Prop) (H : Ctx R w C B M m most mp s0 fk fa s)
    (hb : ∀ R' W e w', P R' W e w' → Kept R w W → (∀ k, R k → R' k) → P R w e w') (he : ∀ R' W e w', P R' W e w' → ∃ v, e = .returned (.bool v))
    (hc : ∀ R' W, Ctx R' W C B M m most mp s0 fk fa s → Calls Try.prog 63 #[.pointer (some ⟨C, 0, none⟩), .agg #[.int .i64 17, .int .i64 a, .int .i64 b, .int .i64 al, .int .i64 cc, .int .u64 im, .int .i64 dp], .pointer (some ⟨B, 0, none⟩)] W fun e w' => P R' W e w') :
    Calls Try.prog 45 #[.pointer (some ⟨C, 0, none⟩), .agg #[.int .i64 17, .int .i64 a, .int .i64 b, .int .i64 al, .int .i64 cc, .int .u64 im, .int .i64 dp], .pointer (some ⟨B, 0, none⟩)] w fun e w' => P R w e w' := by
  have HPB := Lib.hid hb
  have HPE := Lib.hid he
  have HPC := Lib.hid hc
  have HSZ := Lib.hid H.mem.sz
  have HX := Lib.hid H
  have hlB := H.mem.sz B H.rB
  have hlC := H.mem.sz C H.rC
  clear H hb he hc
  go_enter Try.func45, Try.ntmps45
  go_upto_region 1 with (fail)
  obtain ⟨w1, hw1⟩ : ∃ w1, w.alloc (.cells #[.int .i64 17, .int .i64 a, .int .i64 b, .int .i64 al, .int .i64 cc, .int .u64 im, .int .i64 dp] 27) = w1 := ⟨_, rfl⟩
  obtain ⟨D, hD⟩ : ∃ D, w.heap.size = D := ⟨_, rfl⟩
  have HX1 := Lib.hid (show Ctx (fun k => R k ∨ k = D) w1 C B M m most mp s0 fk fa s from by rw [← hw1, ← hD]; exact HX.out.boxed _)
  have HD1 := Lib.hid (show w1.heap[D]? = some (.cells #[.int .i64 17, .int .i64 a, .int .i64 b, .int .i64 al, .int .i64 cc, .int .u64 im, .int .i64 dp] 27 (0, 0)) from by rw [← hw1, ← hD]; exact heap_alloc_new w _)
  have HBK := Lib.hid (show Kept R w w1 from by rw [← hw1]; exact (Kept.refl R w).alloc HSZ.out _)
  have HDB := Lib.hid (show D ≠ B ∧ D ≠ C ∧ ¬ R D from ⟨by omega, by omega, fun h => by have := HSZ.out D h; omega⟩)
  refine (congrArg _ hw1).mpr ?_
  rw [hD]
  clear hw1 hD hlB hlC HX HSZ
  have c0 : w1.cell? ⟨D, 0, none⟩ = some (.int .i64 17) := by rw [cell_of_row' HD1.out]; rfl
  have c1 : w1.cell? ⟨D, 1, none⟩ = some (.int .i64 a) := by rw [cell_of_row' HD1.out]; rfl
  have c2 : w1.cell? ⟨D, 2, none⟩ = some (.int .i64 b) := by rw [cell_of_row' HD1.out]; rfl
  have c3 : w1.cell? ⟨D, 3, none⟩ = some (.int .i64 al) := by rw [cell_of_row' HD1.out]; rfl
  have c4 : w1.cell? ⟨D, 4, none⟩ = some (.int .i64 cc) := by rw [cell_of_row' HD1.out]; rfl
  have c5 : w1.cell? ⟨D, 5, none⟩ = some (.int .u64 im) := by rw [cell_of_row' HD1.out]; rfl
  have c6 : w1.cell? ⟨D, 6, none⟩ = some (.int .i64 dp) := by rw [cell_of_row' HD1.out]; rfl
  go_wp2_with fail
  refine (HPC.out _ w1 HX1.out).mono ?_
  intro e w2 hP
  have HP := Lib.hid (HPB.out _ _ _ _ hP HBK.out (fun k hk => .inl hk))
  obtain ⟨v, rfl⟩ := HPE.out _ _ _ _ hP
  clear hP c0 c1 c2 c3 c4 c5 c6
  go_wp2
  exact HP.out

set_option maxHeartbeats 4000000 in
theorem liftCallR (R : Nat → Prop) (w : World) (C B M m : Nat) (most : Int) (mp : Int → Option Pg) (s0 : StV) (fk fa : Int) (s : StV) (a b al cc im : Nat) (dp : Int) (P : (Nat → Prop) → World → Ending → World → Prop) (H : Ctx R w C B M m most mp s0 fk fa s)
    (hb : ∀ R' W e w', P R' W e w' → Kept R w W → (∀ k, R k → R' k) → P R w e w') (he : ∀ R' W e w', P R' W e w' → ∃ v, e = .returned (.bool v))
    (hc : ∀ R' W, Ctx R' W C B M m most mp s0 fk fa s → Calls Try.prog 63 #[.pointer (some ⟨C, 0, none⟩), .agg #[.int .i64 21, .int .i64 a, .int .i64 b, .int .i64 al, .int .i64 cc, .int .u64 im, .int .i64 dp], .pointer (some ⟨B, 0, none⟩)] W fun e w' => P R' W e w') :
    Calls Try.prog 45 #[.pointer (some ⟨C, 0, none⟩), .agg #[.int .i64 21, .int .i64 a, .int .i64 b, .int .i64 al, .int .i64 cc, .int .u64 im, .int .i64 dp], .pointer (some ⟨B, 0, none⟩)] w fun e w' => P R w e w' := by
  have HPB := Lib.hid hb
  have HPE := Lib.hid he
  have HPC := Lib.hid hc
  have HSZ := Lib.hid H.mem.sz
  have HX := Lib.hid H
  have hlB := H.mem.sz B H.rB
  have hlC := H.mem.sz C H.rC
  clear H hb he hc
  go_enter Try.func45, Try.ntmps45
  go_upto_region 1 with (fail)
  obtain ⟨w1, hw1⟩ : ∃ w1, w.alloc (.cells #[.int .i64 21, .int .i64 a, .int .i64 b, .int .i64 al, .int .i64 cc, .int .u64 im, .int .i64 dp] 27) = w1 := ⟨_, rfl⟩
  obtain ⟨D, hD⟩ : ∃ D, w.heap.size = D := ⟨_, rfl⟩
  have HX1 := Lib.hid (show Ctx (fun k => R k ∨ k = D) w1 C B M m most mp s0 fk fa s from by rw [← hw1, ← hD]; exact HX.out.boxed _)
  have HD1 := Lib.hid (show w1.heap[D]? = some (.cells #[.int .i64 21, .int .i64 a, .int .i64 b, .int .i64 al, .int .i64 cc, .int .u64 im, .int .i64 dp] 27 (0, 0)) from by rw [← hw1, ← hD]; exact heap_alloc_new w _)
  have HBK := Lib.hid (show Kept R w w1 from by rw [← hw1]; exact (Kept.refl R w).alloc HSZ.out _)
  have HDB := Lib.hid (show D ≠ B ∧ D ≠ C ∧ ¬ R D from ⟨by omega, by omega, fun h => by have := HSZ.out D h; omega⟩)
  refine (congrArg _ hw1).mpr ?_
  rw [hD]
  clear hw1 hD hlB hlC HX HSZ
  have c0 : w1.cell? ⟨D, 0, none⟩ = some (.int .i64 21) := by rw [cell_of_row' HD1.out]; rfl
  have c1 : w1.cell? ⟨D, 1, none⟩ = some (.int .i64 a) := by rw [cell_of_row' HD1.out]; rfl
  have c2 : w1.cell? ⟨D, 2, none⟩ = some (.int .i64 b) := by rw [cell_of_row' HD1.out]; rfl
  have c3 : w1.cell? ⟨D, 3, none⟩ = some (.int .i64 al) := by rw [cell_of_row' HD1.out]; rfl
  have c4 : w1.cell? ⟨D, 4, none⟩ = some (.int .i64 cc) := by rw [cell_of_row' HD1.out]; rfl
  have c5 : w1.cell? ⟨D, 5, none⟩ = some (.int .u64 im) := by rw [cell_of_row' HD1.out]; rfl
  have c6 : w1.cell? ⟨D, 6, none⟩ = some (.int .i64 dp) := by rw [cell_of_row' HD1.out]; rfl
  go_wp2_with fail
  refine (HPC.out _ w1 HX1.out).mono ?_
  intro e w2 hP
  have HP := Lib.hid (HPB.out _ _ _ _ hP HBK.out (fun k hk => .inl hk))
  obtain ⟨v, rfl⟩ := HPE.out _ _ _ _ hP
  clear hP c0 c1 c2 c3 c4 c5 c6
  go_wp2
  exact HP.out

set_option maxHeartbeats 4000000 in
theorem liftLoad (R : Nat → Prop) (w : World) (C B M m : Nat) (most : Int) (mp : Int → Option Pg) (s0 : StV) (fk fa : Int) (s : StV) (a b al cc im : Nat) (dp : Int) (P : (Nat → Prop) → World → Ending → World → Prop) (H : Ctx R w C B M m most mp s0 fk fa s)
    (hb : ∀ R' W e w', P R' W e w' → Kept R w W → (∀ k, R k → R' k) → P R w e w') (he : ∀ R' W e w', P R' W e w' → ∃ v, e = .returned (.bool v))
    (hc : ∀ R' W, Ctx R' W C B M m most mp s0 fk fa s → Calls Try.prog 64 #[.pointer (some ⟨C, 0, none⟩), .agg #[.int .i64 9, .int .i64 a, .int .i64 b, .int .i64 al, .int .i64 cc, .int .u64 im, .int .i64 dp], .pointer (some ⟨B, 0, none⟩)] W fun e w' => P R' W e w') :
    Calls Try.prog 45 #[.pointer (some ⟨C, 0, none⟩), .agg #[.int .i64 9, .int .i64 a, .int .i64 b, .int .i64 al, .int .i64 cc, .int .u64 im, .int .i64 dp], .pointer (some ⟨B, 0, none⟩)] w fun e w' => P R w e w' := by
  have HPB := Lib.hid hb
  have HPE := Lib.hid he
  have HPC := Lib.hid hc
  have HSZ := Lib.hid H.mem.sz
  have HX := Lib.hid H
  have hlB := H.mem.sz B H.rB
  have hlC := H.mem.sz C H.rC
  clear H hb he hc
  go_enter Try.func45, Try.ntmps45
  go_upto_region 1 with (fail)
  obtain ⟨w1, hw1⟩ : ∃ w1, w.alloc (.cells #[.int .i64 9, .int .i64 a, .int .i64 b, .int .i64 al, .int .i64 cc, .int .u64 im, .int .i64 dp] 27) = w1 := ⟨_, rfl⟩
  obtain ⟨D, hD⟩ : ∃ D, w.heap.size = D := ⟨_, rfl⟩
  have HX1 := Lib.hid (show Ctx (fun k => R k ∨ k = D) w1 C B M m most mp s0 fk fa s from by rw [← hw1, ← hD]; exact HX.out.boxed _)
  have HD1 := Lib.hid (show w1.heap[D]? = some (.cells #[.int .i64 9, .int .i64 a, .int .i64 b, .int .i64 al, .int .i64 cc, .int .u64 im, .int .i64 dp] 27 (0, 0)) from by rw [← hw1, ← hD]; exact heap_alloc_new w _)
  have HBK := Lib.hid (show Kept R w w1 from by rw [← hw1]; exact (Kept.refl R w).alloc HSZ.out _)
  have HDB := Lib.hid (show D ≠ B ∧ D ≠ C ∧ ¬ R D from ⟨by omega, by omega, fun h => by have := HSZ.out D h; omega⟩)
  refine (congrArg _ hw1).mpr ?_
  rw [hD]
  clear hw1 hD hlB hlC HX HSZ
  have c0 : w1.cell? ⟨D, 0, none⟩ = some (.int .i64 9) := by rw [cell_of_row' HD1.out]; rfl
  have c1 : w1.cell? ⟨D, 1, none⟩ = some (.int .i64 a) := by rw [cell_of_row' HD1.out]; rfl
  have c2 : w1.cell? ⟨D, 2, none⟩ = some (.int .i64 b) := by rw [cell_of_row' HD1.out]; rfl
  have c3 : w1.cell? ⟨D, 3, none⟩ = some (.int .i64 al) := by rw [cell_of_row' HD1.out]; rfl
  have c4 : w1.cell? ⟨D, 4, none⟩ = some (.int .i64 cc) := by rw [cell_of_row' HD1.out]; rfl
  have c5 : w1.cell? ⟨D, 5, none⟩ = some (.int .u64 im) := by rw [cell_of_row' HD1.out]; rfl
  have c6 : w1.cell? ⟨D, 6, none⟩ = some (.int .i64 dp) := by rw [cell_of_row' HD1.out]; rfl
  go_wp2_with fail
  refine (HPC.out _ w1 HX1.out).mono ?_
  intro e w2 hP
  have HP := Lib.hid (HPB.out _ _ _ _ hP HBK.out (fun k hk => .inl hk))
  obtain ⟨v, rfl⟩ := HPE.out _ _ _ _ hP
  clear hP c0 c1 c2 c3 c4 c5 c6
  go_wp2
  exact HP.out

set_option maxHeartbeats 4000000 in
theorem liftStore (R : Nat → Prop) (w : World) (C B M m : Nat) (most : Int) (mp : Int → Option Pg) (s0 : StV) (fk fa : Int) (s : StV) (a b al cc im : Nat) (dp : Int) (P : (Nat → Prop) → World → Ending → World → Prop) (H : Ctx R w C B M m most mp s0 fk fa s)
    (hb : ∀ R' W e w', P R' W e w' → Kept R w W → (∀ k, R k → R' k) → P R w e w') (he : ∀ R' W e w', P R' W e w' → ∃ v, e = .returned (.bool v))
    (hc : ∀ R' W, Ctx R' W C B M m most mp s0 fk fa s → Calls Try.prog 64 #[.pointer (some ⟨C, 0, none⟩), .agg #[.int .i64 10, .int .i64 a, .int .i64 b, .int .i64 al, .int .i64 cc, .int .u64 im, .int .i64 dp], .pointer (some ⟨B, 0, none⟩)] W fun e w' => P R' W e w') :
    Calls Try.prog 45 #[.pointer (some ⟨C, 0, none⟩), .agg #[.int .i64 10, .int .i64 a, .int .i64 b, .int .i64 al, .int .i64 cc, .int .u64 im, .int .i64 dp], .pointer (some ⟨B, 0, none⟩)] w fun e w' => P R w e w' := by
  have HPB := Lib.hid hb
  have HPE := Lib.hid he
  have HPC := Lib.hid hc
  have HSZ := Lib.hid H.mem.sz
  have HX := Lib.hid H
  have hlB := H.mem.sz B H.rB
  have hlC := H.mem.sz C H.rC
  clear H hb he hc
  go_enter Try.func45, Try.ntmps45
  go_upto_region 1 with (fail)
  obtain ⟨w1, hw1⟩ : ∃ w1, w.alloc (.cells #[.int .i64 10, .int .i64 a, .int .i64 b, .int .i64 al, .int .i64 cc, .int .u64 im, .int .i64 dp] 27) = w1 := ⟨_, rfl⟩
  obtain ⟨D, hD⟩ : ∃ D, w.heap.size = D := ⟨_, rfl⟩
  have HX1 := Lib.hid (show Ctx (fun k => R k ∨ k = D) w1 C B M m most mp s0 fk fa s from by rw [← hw1, ← hD]; exact HX.out.boxed _)
  have HD1 := Lib.hid (show w1.heap[D]? = some (.cells #[.int .i64 10, .int .i64 a, .int .i64 b, .int .i64 al, .int .i64 cc, .int .u64 im, .int .i64 dp] 27 (0, 0)) from by rw [← hw1, ← hD]; exact heap_alloc_new w _)
  have HBK := Lib.hid (show Kept R w w1 from by rw [← hw1]; exact (Kept.refl R w).alloc HSZ.out _)
  have HDB := Lib.hid (show D ≠ B ∧ D ≠ C ∧ ¬ R D from ⟨by omega, by omega, fun h => by have := HSZ.out D h; omega⟩)
  refine (congrArg _ hw1).mpr ?_
  rw [hD]
  clear hw1 hD hlB hlC HX HSZ
  have c0 : w1.cell? ⟨D, 0, none⟩ = some (.int .i64 10) := by rw [cell_of_row' HD1.out]; rfl
  have c1 : w1.cell? ⟨D, 1, none⟩ = some (.int .i64 a) := by rw [cell_of_row' HD1.out]; rfl
  have c2 : w1.cell? ⟨D, 2, none⟩ = some (.int .i64 b) := by rw [cell_of_row' HD1.out]; rfl
  have c3 : w1.cell? ⟨D, 3, none⟩ = some (.int .i64 al) := by rw [cell_of_row' HD1.out]; rfl
  have c4 : w1.cell? ⟨D, 4, none⟩ = some (.int .i64 cc) := by rw [cell_of_row' HD1.out]; rfl
  have c5 : w1.cell? ⟨D, 5, none⟩ = some (.int .u64 im) := by rw [cell_of_row' HD1.out]; rfl
  have c6 : w1.cell? ⟨D, 6, none⟩ = some (.int .i64 dp) := by rw [cell_of_row' HD1.out]; rfl
  go_wp2_with fail
  refine (HPC.out _ w1 HX1.out).mono ?_
  intro e w2 hP
  have HP := Lib.hid (HPB.out _ _ _ _ hP HBK.out (fun k hk => .inl hk))
  obtain ⟨v, rfl⟩ := HPE.out _ _ _ _ hP
  clear hP c0 c1 c2 c3 c4 c5 c6
  go_wp2
  exact HP.out

set_option maxHeartbeats 4000000 in
theorem liftLoadR (R : Nat → Prop) (w : World) (C B M m : Nat) (most : Int) (mp : Int → Option Pg) (s0 : StV) (fk fa : Int) (s : StV) (a b al cc im : Nat) (dp : Int) (P : (Nat → Prop) → World → Ending → World → Prop) (H : Ctx R w C B M m most mp s0 fk fa s)
    (hb : ∀ R' W e w', P R' W e w' → Kept R w W → (∀ k, R k → R' k) → P R w e w') (he : ∀ R' W e w', P R' W e w' → ∃ v, e = .returned (.bool v))
    (hc : ∀ R' W, Ctx R' W C B M m most mp s0 fk fa s → Calls Try.prog 64 #[.pointer (some ⟨C, 0, none⟩), .agg #[.int .i64 11, .int .i64 a, .int .i64 b, .int .i64 al, .int .i64 cc, .int .u64 im, .int .i64 dp], .pointer (some ⟨B, 0, none⟩)] W fun e w' => P R' W e w') :
    Calls Try.prog 45 #[.pointer (some ⟨C, 0, none⟩), .agg #[.int .i64 11, .int .i64 a, .int .i64 b, .int .i64 al, .int .i64 cc, .int .u64 im, .int .i64 dp], .pointer (some ⟨B, 0, none⟩)] w fun e w' => P R w e w' := by
  have HPB := Lib.hid hb
  have HPE := Lib.hid he
  have HPC := Lib.hid hc
  have HSZ := Lib.hid H.mem.sz
  have HX := Lib.hid H
  have hlB := H.mem.sz B H.rB
  have hlC := H.mem.sz C H.rC
  clear H hb he hc
  go_enter Try.func45, Try.ntmps45
  go_upto_region 1 with (fail)
  obtain ⟨w1, hw1⟩ : ∃ w1, w.alloc (.cells #[.int .i64 11, .int .i64 a, .int .i64 b, .int .i64 al, .int .i64 cc, .int .u64 im, .int .i64 dp] 27) = w1 := ⟨_, rfl⟩
  obtain ⟨D, hD⟩ : ∃ D, w.heap.size = D := ⟨_, rfl⟩
  have HX1 := Lib.hid (show Ctx (fun k => R k ∨ k = D) w1 C B M m most mp s0 fk fa s from by rw [← hw1, ← hD]; exact HX.out.boxed _)
  have HD1 := Lib.hid (show w1.heap[D]? = some (.cells #[.int .i64 11, .int .i64 a, .int .i64 b, .int .i64 al, .int .i64 cc, .int .u64 im, .int .i64 dp] 27 (0, 0)) from by rw [← hw1, ← hD]; exact heap_alloc_new w _)
  have HBK := Lib.hid (show Kept R w w1 from by rw [← hw1]; exact (Kept.refl R w).alloc HSZ.out _)
  have HDB := Lib.hid (show D ≠ B ∧ D ≠ C ∧ ¬ R D from ⟨by omega, by omega, fun h => by have := HSZ.out D h; omega⟩)
  refine (congrArg _ hw1).mpr ?_
  rw [hD]
  clear hw1 hD hlB hlC HX HSZ
  have c0 : w1.cell? ⟨D, 0, none⟩ = some (.int .i64 11) := by rw [cell_of_row' HD1.out]; rfl
  have c1 : w1.cell? ⟨D, 1, none⟩ = some (.int .i64 a) := by rw [cell_of_row' HD1.out]; rfl
  have c2 : w1.cell? ⟨D, 2, none⟩ = some (.int .i64 b) := by rw [cell_of_row' HD1.out]; rfl
  have c3 : w1.cell? ⟨D, 3, none⟩ = some (.int .i64 al) := by rw [cell_of_row' HD1.out]; rfl
  have c4 : w1.cell? ⟨D, 4, none⟩ = some (.int .i64 cc) := by rw [cell_of_row' HD1.out]; rfl
  have c5 : w1.cell? ⟨D, 5, none⟩ = some (.int .u64 im) := by rw [cell_of_row' HD1.out]; rfl
  have c6 : w1.cell? ⟨D, 6, none⟩ = some (.int .i64 dp) := by rw [cell_of_row' HD1.out]; rfl
  go_wp2_with fail
  refine (HPC.out _ w1 HX1.out).mono ?_
  intro e w2 hP
  have HP := Lib.hid (HPB.out _ _ _ _ hP HBK.out (fun k hk => .inl hk))
  obtain ⟨v, rfl⟩ := HPE.out _ _ _ _ hP
  clear hP c0 c1 c2 c3 c4 c5 c6
  go_wp2
  exact HP.out

set_option maxHeartbeats 4000000 in
theorem liftStoreR (R : Nat → Prop) (w : World) (C B M m : Nat) (most : Int) (mp : Int → Option Pg) (s0 : StV) (fk fa : Int) (s : StV) (a b al cc im : Nat) (dp : Int) (P : (Nat → Prop) → World → Ending → World → Prop) (H : Ctx R w C B M m most mp s0 fk fa s)
    (hb : ∀ R' W e w', P R' W e w' → Kept R w W → (∀ k, R k → R' k) → P R w e w') (he : ∀ R' W e w', P R' W e w' → ∃ v, e = .returned (.bool v))
    (hc : ∀ R' W, Ctx R' W C B M m most mp s0 fk fa s → Calls Try.prog 64 #[.pointer (some ⟨C, 0, none⟩), .agg #[.int .i64 12, .int .i64 a, .int .i64 b, .int .i64 al, .int .i64 cc, .int .u64 im, .int .i64 dp], .pointer (some ⟨B, 0, none⟩)] W fun e w' => P R' W e w') :
    Calls Try.prog 45 #[.pointer (some ⟨C, 0, none⟩), .agg #[.int .i64 12, .int .i64 a, .int .i64 b, .int .i64 al, .int .i64 cc, .int .u64 im, .int .i64 dp], .pointer (some ⟨B, 0, none⟩)] w fun e w' => P R w e w' := by
  have HPB := Lib.hid hb
  have HPE := Lib.hid he
  have HPC := Lib.hid hc
  have HSZ := Lib.hid H.mem.sz
  have HX := Lib.hid H
  have hlB := H.mem.sz B H.rB
  have hlC := H.mem.sz C H.rC
  clear H hb he hc
  go_enter Try.func45, Try.ntmps45
  go_upto_region 1 with (fail)
  obtain ⟨w1, hw1⟩ : ∃ w1, w.alloc (.cells #[.int .i64 12, .int .i64 a, .int .i64 b, .int .i64 al, .int .i64 cc, .int .u64 im, .int .i64 dp] 27) = w1 := ⟨_, rfl⟩
  obtain ⟨D, hD⟩ : ∃ D, w.heap.size = D := ⟨_, rfl⟩
  have HX1 := Lib.hid (show Ctx (fun k => R k ∨ k = D) w1 C B M m most mp s0 fk fa s from by rw [← hw1, ← hD]; exact HX.out.boxed _)
  have HD1 := Lib.hid (show w1.heap[D]? = some (.cells #[.int .i64 12, .int .i64 a, .int .i64 b, .int .i64 al, .int .i64 cc, .int .u64 im, .int .i64 dp] 27 (0, 0)) from by rw [← hw1, ← hD]; exact heap_alloc_new w _)
  have HBK := Lib.hid (show Kept R w w1 from by rw [← hw1]; exact (Kept.refl R w).alloc HSZ.out _)
  have HDB := Lib.hid (show D ≠ B ∧ D ≠ C ∧ ¬ R D from ⟨by omega, by omega, fun h => by have := HSZ.out D h; omega⟩)
  refine (congrArg _ hw1).mpr ?_
  rw [hD]
  clear hw1 hD hlB hlC HX HSZ
  have c0 : w1.cell? ⟨D, 0, none⟩ = some (.int .i64 12) := by rw [cell_of_row' HD1.out]; rfl
  have c1 : w1.cell? ⟨D, 1, none⟩ = some (.int .i64 a) := by rw [cell_of_row' HD1.out]; rfl
  have c2 : w1.cell? ⟨D, 2, none⟩ = some (.int .i64 b) := by rw [cell_of_row' HD1.out]; rfl
  have c3 : w1.cell? ⟨D, 3, none⟩ = some (.int .i64 al) := by rw [cell_of_row' HD1.out]; rfl
  have c4 : w1.cell? ⟨D, 4, none⟩ = some (.int .i64 cc) := by rw [cell_of_row' HD1.out]; rfl
  have c5 : w1.cell? ⟨D, 5, none⟩ = some (.int .u64 im) := by rw [cell_of_row' HD1.out]; rfl
  have c6 : w1.cell? ⟨D, 6, none⟩ = some (.int .i64 dp) := by rw [cell_of_row' HD1.out]; rfl
  go_wp2_with fail
  refine (HPC.out _ w1 HX1.out).mono ?_
  intro e w2 hP
  have HP := Lib.hid (HPB.out _ _ _ _ hP HBK.out (fun k hk => .inl hk))
  obtain ⟨v, rfl⟩ := HPE.out _ _ _ _ hP
  clear hP c0 c1 c2 c3 c4 c5 c6
  go_wp2
  exact HP.out

set_option maxHeartbeats 4000000 in
theorem doJmpR_yes (R : Nat → Prop) (w : World) (C B M m : Nat) (most : Int) (mp : Int → Option Pg) (s0 : StV) (fk fa : Int) (s : StV) (a b al cc im : Nat) (dp : Int) (H : Ctx R w C B M m most mp s0 fk fa s) (hf : (askS mp 1 2 8 (nearM s (⟨22, a, b, al, cc, im, dp⟩ : InsV)) 8).1 = 0) :
    Calls Try.prog 45 #[.pointer (some ⟨C, 0, none⟩), .agg #[.int .i64 22, .int .i64 a, .int .i64 b, .int .i64 al, .int .i64 cc, .int .u64 im, .int .i64 dp], .pointer (some ⟨B, 0, none⟩)] w fun e w' => DoY R w B M m most mp (s.setIp (numM mp (nearM s (⟨22, a, b, al, cc, im, dp⟩ : InsV)))) e w' := by
  have HF := Lib.hid hf
  have HSZ := Lib.hid H.mem.sz
  have HX := Lib.hid H
  have hlB := H.mem.sz B H.rB
  have hlC := H.mem.sz C H.rC
  clear H hf
  go_enter Try.func45, Try.ntmps45
  go_upto_region 1 with (fail)
  obtain ⟨w1, hw1⟩ : ∃ w1, w.alloc (.cells #[.int .i64 22, .int .i64 a, .int .i64 b, .int .i64 al, .int .i64 cc, .int .u64 im, .int .i64 dp] 27) = w1 := ⟨_, rfl⟩
  obtain ⟨D, hD⟩ : ∃ D, w.heap.size = D := ⟨_, rfl⟩
  have HX1 := Lib.hid (show Ctx (fun k => R k ∨ k = D) w1 C B M m most mp s0 fk fa s from by rw [← hw1, ← hD]; exact HX.out.boxed _)
  have HD1 := Lib.hid (show w1.heap[D]? = some (.cells #[.int .i64 22, .int .i64 a, .int .i64 b, .int .i64 al, .int .i64 cc, .int .u64 im, .int .i64 dp] 27 (0, 0)) from by rw [← hw1, ← hD]; exact heap_alloc_new w _)
  have HBK := Lib.hid (show Kept R w w1 from by rw [← hw1]; exact (Kept.refl R w).alloc HSZ.out _)
  have HDB := Lib.hid (show D ≠ B ∧ D ≠ C ∧ ¬ R D from ⟨by omega, by omega, fun h => by have := HSZ.out D h; omega⟩)
  refine (congrArg _ hw1).mpr ?_
  rw [hD]
  clear hw1 hD hlB hlC HX HSZ
  obtain ⟨nr, hnr⟩ : ∃ nr, nearM s (⟨22, a, b, al, cc, im, dp⟩ : InsV) = nr := ⟨_, rfl⟩
  have HNR := Lib.hid hnr
  have HNB := nearM_bd s (⟨22, a, b, al, cc, im, dp⟩ : InsV)
  rw [hnr] at HNB HF
  replace HNB := Lib.hid HNB
  clear hnr
  have HN := Lib.hid (show ∀ W, Below w1.heap.size w1 W → Calls Try.prog 66 #[.pointer (some ⟨B, 0, none⟩), .agg #[.int .i64 22, .int .i64 a, .int .i64 b, .int .i64 al, .int .i64 cc, .int .u64 im, .int .i64 dp]] W fun e w' => e = .returned (.int .u64 nr) ∧ Below W.heap.size W w' from fun W hW => by rw [← HNR.out]; exact near_any W B s (⟨22, a, b, al, cc, im, dp⟩ : InsV) (Own.below HX1.out.st hW (HX1.out.mem.sz B HX1.out.rB)))
  have c0 : w1.cell? ⟨D, 0, none⟩ = some (.int .i64 22) := by rw [cell_of_row' HD1.out]; rfl
  go_upto_region 14 with (fail)
  clear c0
  have HS := Lib.hid (show w1.drew.heap[D]? = some (.cells #[.int .i64 22, .int .i64 a, .int .i64 b, .int .i64 al, .int .i64 cc, .int .u64 im, .int .i64 dp] 27 (0, 0)) from HD1.out)
  have HR0 := Lib.hid trivial
  refine wp_region_noPanic ?_
  refine wp_region_K (fun W => W.heap[D]? = some (.cells #[.int .i64 22, .int .i64 a, .int .i64 b, .int .i64 al, .int .i64 cc, .int .u64 im, .int .i64 dp] 27 (0, 0))) (fun _ => True) 99 (by kernel_rfl) ?_
  refine wpAnyK_take (i := 0) (oi := ?_) (v := ?_) ?_ (by kernel_rfl) (by kernel_rfl) (by kernel_rfl) (fun _ _ _ h => h) (by decide) ?_ HS.out (fun _ => HR0.out) ?_
  rotate_left 2
  · (simp only [List.getElem?_toArray, List.getElem?_cons_succ, List.getElem?_cons_zero]; rfl)
  · (first | exact Or.inr ⟨by rfl, rfl⟩ | (refine Or.inl ⟨by rfl, ?_⟩; intro W hSw;  clear hSw; go_simp; try with_reducible rfl))
  try simp only [Act.put, List.setIfInBounds_toArray, List.set_cons_zero, List.set_cons_succ]
  refine wpAnyK_take (i := 1) (oi := ?_) (v := ?_) ?_ (by kernel_rfl) (by kernel_rfl) (by kernel_rfl) (fun _ _ _ h => h) (by decide) ?_ HS.out (fun _ => HR0.out) ?_
  rotate_left 2
  · (simp only [List.getElem?_toArray, List.getElem?_cons_succ, List.getElem?_cons_zero]; rfl)
  · (first | exact Or.inr ⟨by rfl, rfl⟩ | (refine Or.inl ⟨by rfl, ?_⟩; intro W hSw;  clear hSw; go_simp; try with_reducible rfl))
  try simp only [Act.put, List.setIfInBounds_toArray, List.set_cons_zero, List.set_cons_succ]
  refine wpAnyK_take (i := 2) (oi := ?_) (v := ?_) ?_ (by kernel_rfl) (by kernel_rfl) (by kernel_rfl) (fun _ _ _ h => h) (by decide) ?_ HS.out (fun _ => HR0.out) ?_
  rotate_left 2
  · (simp only [List.getElem?_toArray, List.getElem?_cons_succ, List.getElem?_cons_zero]; rfl)
  · (first | exact Or.inr ⟨by rfl, rfl⟩ | (refine Or.inl ⟨by rfl, ?_⟩; intro W hSw; have hq0 : W.cell? ⟨D, 0, none⟩ = some (.int .i64 22) := (by rw [cell_of_row' hSw]; rfl);have hq1 : W.cell? ⟨D, 1, none⟩ = some (.int .i64 a) := (by rw [cell_of_row' hSw]; rfl);have hq2 : W.cell? ⟨D, 2, none⟩ = some (.int .i64 b) := (by rw [cell_of_row' hSw]; rfl);have hq3 : W.cell? ⟨D, 3, none⟩ = some (.int .i64 al) := (by rw [cell_of_row' hSw]; rfl);have hq4 : W.cell? ⟨D, 4, none⟩ = some (.int .i64 cc) := (by rw [cell_of_row' hSw]; rfl);have hq5 : W.cell? ⟨D, 5, none⟩ = some (.int .u64 im) := (by rw [cell_of_row' hSw]; rfl);have hq6 : W.cell? ⟨D, 6, none⟩ = some (.int .i64 dp) := (by rw [cell_of_row' hSw]; rfl); clear hSw; go_simp; try with_reducible rfl))
  try simp only [Act.put, List.setIfInBounds_toArray, List.set_cons_zero, List.set_cons_succ]
  refine wpAnyK_take (i := 4) (oi := ?_) (v := ?_) ?_ (by kernel_rfl) (by kernel_rfl) (by kernel_rfl) (fun _ _ _ h => h) (by decide) ?_ HS.out (fun _ => HR0.out) ?_
  rotate_left 2
  · (simp only [List.getElem?_toArray, List.getElem?_cons_succ, List.getElem?_cons_zero]; rfl)
  · (first | exact Or.inr ⟨by rfl, rfl⟩ | (refine Or.inl ⟨by rfl, ?_⟩; intro W hSw;  clear hSw; go_simp; try with_reducible rfl))
  try simp only [Act.put, List.setIfInBounds_toArray, List.set_cons_zero, List.set_cons_succ]
  refine wpAnyK_take (i := 5) (oi := ?_) (v := ?_) ?_ (by kernel_rfl) (by kernel_rfl) (by kernel_rfl) (fun _ _ _ h => h) (by decide) ?_ HS.out (fun _ => HR0.out) ?_
  rotate_left 2
  · (simp only [List.getElem?_toArray, List.getElem?_cons_succ, List.getElem?_cons_zero]; rfl)
  · (first | exact Or.inr ⟨by rfl, rfl⟩ | (refine Or.inl ⟨by rfl, ?_⟩; intro W hSw;  clear hSw; go_simp; try with_reducible rfl))
  try simp only [Act.put, List.setIfInBounds_toArray, List.set_cons_zero, List.set_cons_succ]
  refine wpAnyK_take (i := 6) (oi := ?_) (v := ?_) ?_ (by kernel_rfl) (by kernel_rfl) (by kernel_rfl) (fun _ _ _ h => h) (by decide) ?_ HS.out (fun _ => HR0.out) ?_
  rotate_left 2
  · (simp only [List.getElem?_toArray, List.getElem?_cons_succ, List.getElem?_cons_zero]; rfl)
  · (first | exact Or.inr ⟨by rfl, rfl⟩ | (refine Or.inl ⟨by rfl, ?_⟩; intro W hSw;  clear hSw; go_simp; try with_reducible rfl))
  try simp only [Act.put, List.setIfInBounds_toArray, List.set_cons_zero, List.set_cons_succ]
  refine wpAnyK_one (i := 3) (o := ?_) (by kernel_rfl) ?_ (fun K hK => ?_)
  rotate_left 1
  · (simp only [List.getElem?_toArray, List.getElem?_cons_succ, List.getElem?_cons_zero]; rfl)
  go_simp
  go_at_call 66
  refine (HN.out w1.drew (Below.refl _ _).drew).mono ?_
  rintro e w2 ⟨rfl, hb2⟩
  have hb3 : Below w1.heap.size w1 w2 := (Below.refl _ w1).drew.trans hb2
  have HX2 := Lib.hid (HX1.out.below hb3)
  have HBK2 := Lib.hid (HBK.out.trans (Kept.of_below hb3 (fun k hk => HX1.out.mem.sz k (.inl hk))))
  have HS2 := Lib.hid (show w2.heap[D]? = some (.cells #[.int .i64 22, .int .i64 a, .int .i64 b, .int .i64 al, .int .i64 cc, .int .u64 im, .int .i64 dp] 27 (0, 0)) from (hb3.block D (lt_of_row' HD1.out)).trans HD1.out)
  clear hb2 hb3
  refine hK.out _ _ HS2.out (fun _ => trivial) ?_
  clear hK K
  try simp only [Act.put, List.setIfInBounds_toArray, List.set_cons_zero, List.set_cons_succ]
  refine wpAnyK_one (i := 7) (o := ?_) (by kernel_rfl) ?_ (fun K hK => ?_)
  rotate_left 1
  · (simp only [List.getElem?_toArray, List.getElem?_cons_succ, List.getElem?_cons_zero]; rfl)
  go_simp
  go_at_call 65
  refine (load_yes _ w2 C M m most mp s0 fk fa nr B 16 _ HX2.out.ok HNB.out.1 HNB.out.2 HX2.out.mem HX2.out.cpu HX2.out.rC HX2.out.rB HX2.out.st.ipc.1 HX2.out.st.ipc.2 HF.out).mono ?_
  rintro e w5 ⟨rfl, w4, hk4, hm4, rfl⟩
  have hb := numM_bd HX2.out.ok nr
  have HX5 := (HX2.out.keep hm4 hk4).setIp hb.1 hb.2
  have hk5 := (hk4.mono (R' := fun k => (R k ∨ k = D) ∧ k ≠ B) (fun k hk => hk.1)).trans (keptB w4 B 16 (.int .u64 (numM mp nr)))
  have HY := Lib.hid ((HX5.yes hk5).back HBK2.out (fun k hk => .inl hk))
  have HS3 := Lib.hid (show (w4.setCell ⟨B, 16, none⟩ (.int .u64 (numM mp nr))).heap[D]? = some (.cells #[.int .i64 22, .int .i64 a, .int .i64 b, .int .i64 al, .int .i64 cc, .int .u64 im, .int .i64 dp] 27 (0, 0)) from (hk5.block D ⟨.inr rfl, HDB.out.1⟩).trans HS2.out)
  clear hb HX5 hk4 hk5 hm4
  refine hK.out _ _ HS3.out (fun _ => trivial) ?_
  clear hK K
  try simp only [Act.put, List.setIfInBounds_toArray, List.set_cons_zero, List.set_cons_succ]
  refine wpAnyK_take (i := 8) (oi := ?_) (v := ?_) ?_ (by kernel_rfl) (by kernel_rfl) (by kernel_rfl) (fun _ _ _ h => h) (by decide) ?_ HS3.out (fun _ => HR0.out) ?_
  rotate_left 2
  · (simp only [List.getElem?_toArray, List.getElem?_cons_succ, List.getElem?_cons_zero]; rfl)
  · (first | exact Or.inr ⟨by rfl, rfl⟩ | (refine Or.inl ⟨by rfl, ?_⟩; intro W hSw;  clear hSw; go_simp; try with_reducible rfl))
  try simp only [Act.put, List.setIfInBounds_toArray, List.set_cons_zero, List.set_cons_succ]
  refine wpAnyK_done (by kernel_rfl) ?_ _
  refine NoPanic.normal ?_
  go_wp2
  go_ret
  rw [HNR.out]
  exact HY.out

set_option maxHeartbeats 4000000 in
theorem doJmpR_no (R : Nat → Prop) (w : World) (C B M m : Nat) (most : Int) (mp : Int → Option Pg) (s0 : StV) (fk fa : Int) (s : StV) (a b al cc im : Nat) (dp : Int) (H : Ctx R w C B M m most mp s0 fk fa s) (hf : (askS mp 1 2 8 (nearM s (⟨22, a, b, al, cc, im, dp⟩ : InsV)) 8).1 ≠ 0) :
    Calls Try.prog 45 #[.pointer (some ⟨C, 0, none⟩), .agg #[.int .i64 22, .int .i64 a, .int .i64 b, .int .i64 al, .int .i64 cc, .int .u64 im, .int .i64 dp], .pointer (some ⟨B, 0, none⟩)] w fun e w' => DoN R w C B M m most (askM mp (askS mp 1 2 8 (nearM s (⟨22, a, b, al, cc, im, dp⟩ : InsV)) 8)) s0 (askS mp 1 2 8 (nearM s (⟨22, a, b, al, cc, im, dp⟩ : InsV)) 8).1 (askS mp 1 2 8 (nearM s (⟨22, a, b, al, cc, im, dp⟩ : InsV)) 8).2.1 e w' := by
  have HF := Lib.hid hf
  have HSZ := Lib.hid H.mem.sz
  have HX := Lib.hid H
  have hlB := H.mem.sz B H.rB
  have hlC := H.mem.sz C H.rC
  clear H hf
  go_enter Try.func45, Try.ntmps45
  go_upto_region 1 with (fail)
  obtain ⟨w1, hw1⟩ : ∃ w1, w.alloc (.cells #[.int .i64 22, .int .i64 a, .int .i64 b, .int .i64 al, .int .i64 cc, .int .u64 im, .int .i64 dp] 27) = w1 := ⟨_, rfl⟩
  obtain ⟨D, hD⟩ : ∃ D, w.heap.size = D := ⟨_, rfl⟩
  have HX1 := Lib.hid (show Ctx (fun k => R k ∨ k = D) w1 C B M m most mp s0 fk fa s from by rw [← hw1, ← hD]; exact HX.out.boxed _)
  have HD1 := Lib.hid (show w1.heap[D]? = some (.cells #[.int .i64 22, .int .i64 a, .int .i64 b, .int .i64 al, .int .i64 cc, .int .u64 im, .int .i64 dp] 27 (0, 0)) from by rw [← hw1, ← hD]; exact heap_alloc_new w _)
  have HBK := Lib.hid (show Kept R w w1 from by rw [← hw1]; exact (Kept.refl R w).alloc HSZ.out _)
  have HDB := Lib.hid (show D ≠ B ∧ D ≠ C ∧ ¬ R D from ⟨by omega, by omega, fun h => by have := HSZ.out D h; omega⟩)
  refine (congrArg _ hw1).mpr ?_
  rw [hD]
  clear hw1 hD hlB hlC HX HSZ
  obtain ⟨nr, hnr⟩ : ∃ nr, nearM s (⟨22, a, b, al, cc, im, dp⟩ : InsV) = nr := ⟨_, rfl⟩
  have HNR := Lib.hid hnr
  have HNB := nearM_bd s (⟨22, a, b, al, cc, im, dp⟩ : InsV)
  rw [hnr] at HNB HF
  replace HNB := Lib.hid HNB
  clear hnr
  have HN := Lib.hid (show ∀ W, Below w1.heap.size w1 W → Calls Try.prog 66 #[.pointer (some ⟨B, 0, none⟩), .agg #[.int .i64 22, .int .i64 a, .int .i64 b, .int .i64 al, .int .i64 cc, .int .u64 im, .int .i64 dp]] W fun e w' => e = .returned (.int .u64 nr) ∧ Below W.heap.size W w' from fun W hW => by rw [← HNR.out]; exact near_any W B s (⟨22, a, b, al, cc, im, dp⟩ : InsV) (Own.below HX1.out.st hW (HX1.out.mem.sz B HX1.out.rB)))
  have c0 : w1.cell? ⟨D, 0, none⟩ = some (.int .i64 22) := by rw [cell_of_row' HD1.out]; rfl
  go_upto_region 14 with (fail)
  clear c0
  have HS := Lib.hid (show w1.drew.heap[D]? = some (.cells #[.int .i64 22, .int .i64 a, .int .i64 b, .int .i64 al, .int .i64 cc, .int .u64 im, .int .i64 dp] 27 (0, 0)) from HD1.out)
  have HR0 := Lib.hid trivial
  refine wp_region_noPanic ?_
  refine wp_region_K (fun W => W.heap[D]? = some (.cells #[.int .i64 22, .int .i64 a, .int .i64 b, .int .i64 al, .int .i64 cc, .int .u64 im, .int .i64 dp] 27 (0, 0))) (fun _ => True) 99 (by kernel_rfl) ?_
  refine wpAnyK_take (i := 0) (oi := ?_) (v := ?_) ?_ (by kernel_rfl) (by kernel_rfl) (by kernel_rfl) (fun _ _ _ h => h) (by decide) ?_ HS.out (fun _ => HR0.out) ?_
  rotate_left 2
  · (simp only [List.getElem?_toArray, List.getElem?_cons_succ, List.getElem?_cons_zero]; rfl)
  · (first | exact Or.inr ⟨by rfl, rfl⟩ | (refine Or.inl ⟨by rfl, ?_⟩; intro W hSw;  clear hSw; go_simp; try with_reducible rfl))
  try simp only [Act.put, List.setIfInBounds_toArray, List.set_cons_zero, List.set_cons_succ]
  refine wpAnyK_take (i := 1) (oi := ?_) (v := ?_) ?_ (by kernel_rfl) (by kernel_rfl) (by kernel_rfl) (fun _ _ _ h => h) (by decide) ?_ HS.out (fun _ => HR0.out) ?_
  rotate_left 2
  · (simp only [List.getElem?_toArray, List.getElem?_cons_succ, List.getElem?_cons_zero]; rfl)
  · (first | exact Or.inr ⟨by rfl, rfl⟩ | (refine Or.inl ⟨by rfl, ?_⟩; intro W hSw;  clear hSw; go_simp; try with_reducible rfl))
  try simp only [Act.put, List.setIfInBounds_toArray, List.set_cons_zero, List.set_cons_succ]
  refine wpAnyK_take (i := 2) (oi := ?_) (v := ?_) ?_ (by kernel_rfl) (by kernel_rfl) (by kernel_rfl) (fun _ _ _ h => h) (by decide) ?_ HS.out (fun _ => HR0.out) ?_
  rotate_left 2
  · (simp only [List.getElem?_toArray, List.getElem?_cons_succ, List.getElem?_cons_zero]; rfl)
  · (first | exact Or.inr ⟨by rfl, rfl⟩ | (refine Or.inl ⟨by rfl, ?_⟩; intro W hSw; have hq0 : W.cell? ⟨D, 0, none⟩ = some (.int .i64 22) := (by rw [cell_of_row' hSw]; rfl);have hq1 : W.cell? ⟨D, 1, none⟩ = some (.int .i64 a) := (by rw [cell_of_row' hSw]; rfl);have hq2 : W.cell? ⟨D, 2, none⟩ = some (.int .i64 b) := (by rw [cell_of_row' hSw]; rfl);have hq3 : W.cell? ⟨D, 3, none⟩ = some (.int .i64 al) := (by rw [cell_of_row' hSw]; rfl);have hq4 : W.cell? ⟨D, 4, none⟩ = some (.int .i64 cc) := (by rw [cell_of_row' hSw]; rfl);have hq5 : W.cell? ⟨D, 5, none⟩ = some (.int .u64 im) := (by rw [cell_of_row' hSw]; rfl);have hq6 : W.cell? ⟨D, 6, none⟩ = some (.int .i64 dp) := (by rw [cell_of_row' hSw]; rfl); clear hSw; go_simp; try with_reducible rfl))
  try simp only [Act.put, List.setIfInBounds_toArray, List.set_cons_zero, List.set_cons_succ]
  refine wpAnyK_take (i := 4) (oi := ?_) (v := ?_) ?_ (by kernel_rfl) (by kernel_rfl) (by kernel_rfl) (fun _ _ _ h => h) (by decide) ?_ HS.out (fun _ => HR0.out) ?_
  rotate_left 2
  · (simp only [List.getElem?_toArray, List.getElem?_cons_succ, List.getElem?_cons_zero]; rfl)
  · (first | exact Or.inr ⟨by rfl, rfl⟩ | (refine Or.inl ⟨by rfl, ?_⟩; intro W hSw;  clear hSw; go_simp; try with_reducible rfl))
  try simp only [Act.put, List.setIfInBounds_toArray, List.set_cons_zero, List.set_cons_succ]
  refine wpAnyK_take (i := 5) (oi := ?_) (v := ?_) ?_ (by kernel_rfl) (by kernel_rfl) (by kernel_rfl) (fun _ _ _ h => h) (by decide) ?_ HS.out (fun _ => HR0.out) ?_
  rotate_left 2
  · (simp only [List.getElem?_toArray, List.getElem?_cons_succ, List.getElem?_cons_zero]; rfl)
  · (first | exact Or.inr ⟨by rfl, rfl⟩ | (refine Or.inl ⟨by rfl, ?_⟩; intro W hSw;  clear hSw; go_simp; try with_reducible rfl))
  try simp only [Act.put, List.setIfInBounds_toArray, List.set_cons_zero, List.set_cons_succ]
  refine wpAnyK_take (i := 6) (oi := ?_) (v := ?_) ?_ (by kernel_rfl) (by kernel_rfl) (by kernel_rfl) (fun _ _ _ h => h) (by decide) ?_ HS.out (fun _ => HR0.out) ?_
  rotate_left 2
  · (simp only [List.getElem?_toArray, List.getElem?_cons_succ, List.getElem?_cons_zero]; rfl)
  · (first | exact Or.inr ⟨by rfl, rfl⟩ | (refine Or.inl ⟨by rfl, ?_⟩; intro W hSw;  clear hSw; go_simp; try with_reducible rfl))
  try simp only [Act.put, List.setIfInBounds_toArray, List.set_cons_zero, List.set_cons_succ]
  refine wpAnyK_one (i := 3) (o := ?_) (by kernel_rfl) ?_ (fun K hK => ?_)
  rotate_left 1
  · (simp only [List.getElem?_toArray, List.getElem?_cons_succ, List.getElem?_cons_zero]; rfl)
  go_simp
  go_at_call 66
  refine (HN.out w1.drew (Below.refl _ _).drew).mono ?_
  rintro e w2 ⟨rfl, hb2⟩
  have hb3 : Below w1.heap.size w1 w2 := (Below.refl _ w1).drew.trans hb2
  have HX2 := Lib.hid (HX1.out.below hb3)
  have HBK2 := Lib.hid (HBK.out.trans (Kept.of_below hb3 (fun k hk => HX1.out.mem.sz k (.inl hk))))
  have HS2 := Lib.hid (show w2.heap[D]? = some (.cells #[.int .i64 22, .int .i64 a, .int .i64 b, .int .i64 al, .int .i64 cc, .int .u64 im, .int .i64 dp] 27 (0, 0)) from (hb3.block D (lt_of_row' HD1.out)).trans HD1.out)
  clear hb2 hb3
  refine hK.out _ _ HS2.out (fun _ => trivial) ?_
  clear hK K
  try simp only [Act.put, List.setIfInBounds_toArray, List.set_cons_zero, List.set_cons_succ]
  refine wpAnyK_one (i := 7) (o := ?_) (by kernel_rfl) ?_ (fun K hK => ?_)
  rotate_left 1
  · (simp only [List.getElem?_toArray, List.getElem?_cons_succ, List.getElem?_cons_zero]; rfl)
  go_simp
  go_at_call 65
  refine (load_no _ w2 C M m most mp s0 fk fa nr _ HX2.out.ok HNB.out.1 HNB.out.2 HX2.out.mem HX2.out.cpu HX2.out.rC HF.out).mono ?_
  rintro e w5 ⟨rfl, hm4, hc4, hk4⟩
  have HY := Lib.hid ((show DoN (fun k => R k ∨ k = D) w2 C B M m most (askM mp (askS mp 1 2 8 nr 8)) s0 (askS mp 1 2 8 nr 8).1 (askS mp 1 2 8 nr 8).2.1 (.returned (.bool false)) w5 from ⟨rfl, hm4, hc4, hk4.mono (fun k hk => ⟨hk.1, hk.2.1⟩)⟩).back HBK2.out (fun k hk => .inl hk))
  have HS3 := Lib.hid (show w5.heap[D]? = some (.cells #[.int .i64 22, .int .i64 a, .int .i64 b, .int .i64 al, .int .i64 cc, .int .u64 im, .int .i64 dp] 27 (0, 0)) from (hk4.block D ⟨.inr rfl, HDB.out.2.1⟩).trans HS2.out)
  clear hm4 hc4 hk4
  refine hK.out _ _ HS3.out (fun _ => trivial) ?_
  clear hK K
  try simp only [Act.put, List.setIfInBounds_toArray, List.set_cons_zero, List.set_cons_succ]
  refine wpAnyK_take (i := 8) (oi := ?_) (v := ?_) ?_ (by kernel_rfl) (by kernel_rfl) (by kernel_rfl) (fun _ _ _ h => h) (by decide) ?_ HS3.out (fun _ => HR0.out) ?_
  rotate_left 2
  · (simp only [List.getElem?_toArray, List.getElem?_cons_succ, List.getElem?_cons_zero]; rfl)
  · (first | exact Or.inr ⟨by rfl, rfl⟩ | (refine Or.inl ⟨by rfl, ?_⟩; intro W hSw;  clear hSw; go_simp; try with_reducible rfl))
  try simp only [Act.put, List.setIfInBounds_toArray, List.set_cons_zero, List.set_cons_succ]
  refine wpAnyK_done (by kernel_rfl) ?_ _
  refine NoPanic.normal ?_
  go_wp2
  go_ret
  rw [HNR.out]
  exact HY.out

end Go.Proofs.Ythbgmlmcjnlopaa
