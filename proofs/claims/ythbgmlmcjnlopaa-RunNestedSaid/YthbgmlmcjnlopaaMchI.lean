/- package cpu: one instruction: numbers, jumps. -/
import Derived.Test.YthbgmlmcjnlopaaMchH
namespace Go.Proofs.Ythbgmlmcjnlopaa
open Go.ChangeShapes Go.WideShapes Go.ChangeAt Go.RowKit
set_option linter.unusedVariables false
set_option linter.unusedSimpArgs false
set_option maxRecDepth 100000

set_option maxHeartbeats 4000000 in
theorem doAluI (R : Nat → Prop) (w : World) (C B M m : Nat) (most : Int) (mp : Int → Option Pg) (s0 : StV) (fk fa : Int) (s : StV) (a b al cc im : Nat) (dp : Int) (H : Ctx R w C B M m most mp s0 fk fa s) (hb : b < 16) (v : Int) (z1 n1 c1 o1 : Bool) (hv0 : 0 ≤ v) (hv1 : v < 18446744073709551616) (hal : AluR al (s.r b) im s.z s.s s.c s.o v z1 n1 c1 o1) :
    Calls Try.prog 45 #[.pointer (some ⟨C, 0, none⟩), .agg #[.int .i64 14, .int .i64 a, .int .i64 b, .int .i64 al, .int .i64 cc, .int .u64 im, .int .i64 dp], .pointer (some ⟨B, 0, none⟩)] w fun e w' => DoY R w B M m most mp ((s.setR b v).setF z1 n1 c1 o1) e w' := by
  have HV := Lib.hid (And.intro hv0 hv1)
  have HAL := Lib.hid hal
  have HSZ := Lib.hid H.mem.sz
  have HX := Lib.hid H
  have hlB := H.mem.sz B H.rB
  have hlC := H.mem.sz C H.rC
  clear H hv0 hv1 hal
  go_enter Try.func45, Try.ntmps45
  go_upto_region 1 with (fail)
  obtain ⟨w1, hw1⟩ : ∃ w1, w.alloc (.cells #[.int .i64 14, .int .i64 a, .int .i64 b, .int .i64 al, .int .i64 cc, .int .u64 im, .int .i64 dp] 27) = w1 := ⟨_, rfl⟩
  obtain ⟨D, hD⟩ : ∃ D, w.heap.size = D := ⟨_, rfl⟩
  have HX1 := Lib.hid (show Ctx (fun k => R k ∨ k = D) w1 C B M m most mp s0 fk fa s from by rw [← hw1, ← hD]; exact HX.out.boxed _)
  have HD1 := Lib.hid (show w1.heap[D]? = some (.cells #[.int .i64 14, .int .i64 a, .int .i64 b, .int .i64 al, .int .i64 cc, .int .u64 im, .int .i64 dp] 27 (0, 0)) from by rw [← hw1, ← hD]; exact heap_alloc_new w _)
  have HBK := Lib.hid (show Kept R w w1 from by rw [← hw1]; exact (Kept.refl R w).alloc HSZ.out _)
  have HDB := Lib.hid (show D ≠ B ∧ D ≠ C ∧ ¬ R D from ⟨by omega, by omega, fun h => by have := HSZ.out D h; omega⟩)
  refine (congrArg _ hw1).mpr ?_
  rw [hD]
  clear hw1 hD hlB hlC HX HSZ
  have k0 : w1.cell? ⟨D, 0, none⟩ = some (.int .i64 14) := by rw [cell_of_row' HD1.out]; rfl
  have k1 : w1.cell? ⟨D, 1, none⟩ = some (.int .i64 a) := by rw [cell_of_row' HD1.out]; rfl
  have k2 : w1.cell? ⟨D, 2, none⟩ = some (.int .i64 b) := by rw [cell_of_row' HD1.out]; rfl
  have k3 : w1.cell? ⟨D, 3, none⟩ = some (.int .i64 al) := by rw [cell_of_row' HD1.out]; rfl
  have k4 : w1.cell? ⟨D, 4, none⟩ = some (.int .i64 cc) := by rw [cell_of_row' HD1.out]; rfl
  have k5 : w1.cell? ⟨D, 5, none⟩ = some (.int .u64 im) := by rw [cell_of_row' HD1.out]; rfl
  have k6 : w1.cell? ⟨D, 6, none⟩ = some (.int .i64 dp) := by rw [cell_of_row' HD1.out]; rfl
  have HRK := Lib.hid (show Calls Try.prog 67 #[.pointer (some ⟨B, 0, none⟩), .agg #[.int .i64 14, .int .i64 a, .int .i64 b, .int .i64 al, .int .i64 cc, .int .u64 im, .int .i64 dp], .int .u64 im] w1 fun e w' => e = .returned (.tuple #[]) ∧ StAt w' B ((s.setR b v).setF z1 n1 c1 o1) ∧ w1.grownBy w' (some B) from reckon_any (fun k => k < w1.heap.size) w1 B s (⟨14, a, b, al, cc, im, dp⟩ : InsV) im v z1 n1 c1 o1 hb HX1.out.st (fun k hk => hk) HAL.out)
  go_wp2_with fail
  refine HRK.out.mono ?_
  rintro e w2 ⟨rfl, hs2, hg2⟩
  have HX2 := HX1.out.turned hg2 hs2 ((HX1.out.sok.setR HV.out.1 HV.out.2).setF _ _ _ _)
  have HY := Lib.hid ((HX2.yes (W := w1) (HX1.out.keptBy hg2)).back HBK.out (fun k hk => .inl hk))
  clear hs2 hg2 HX2 k0 k1 k2 k3 k4 k5 k6 HRK
  go_wp2_with fail
  go_ret
  exact HY.out

set_option maxHeartbeats 4000000 in
theorem doOne (R : Nat → Prop) (w : World) (C B M m : Nat) (most : Int) (mp : Int → Option Pg) (s0 : StV) (fk fa : Int) (s : StV) (a b al cc im : Nat) (dp : Int) (H : Ctx R w C B M m most mp s0 fk fa s) (hb : b < 16) (v : Int) (z1 n1 c1 o1 : Bool) (hv0 : 0 ≤ v) (hv1 : v < 18446744073709551616) (hal : AluR al (s.r b) im s.z s.s s.c s.o v z1 n1 c1 o1) :
    Calls Try.prog 45 #[.pointer (some ⟨C, 0, none⟩), .agg #[.int .i64 15, .int .i64 a, .int .i64 b, .int .i64 al, .int .i64 cc, .int .u64 im, .int .i64 dp], .pointer (some ⟨B, 0, none⟩)] w fun e w' => DoY R w B M m most mp ((s.setR b v).setF z1 n1 c1 o1) e w' := by
  have HV := Lib.hid (And.intro hv0 hv1)
  have HAL := Lib.hid hal
  have HSZ := Lib.hid H.mem.sz
  have HX := Lib.hid H
  have hlB := H.mem.sz B H.rB
  have hlC := H.mem.sz C H.rC
  clear H hv0 hv1 hal
  go_enter Try.func45, Try.ntmps45
  go_upto_region 1 with (fail)
  obtain ⟨w1, hw1⟩ : ∃ w1, w.alloc (.cells #[.int .i64 15, .int .i64 a, .int .i64 b, .int .i64 al, .int .i64 cc, .int .u64 im, .int .i64 dp] 27) = w1 := ⟨_, rfl⟩
  obtain ⟨D, hD⟩ : ∃ D, w.heap.size = D := ⟨_, rfl⟩
  have HX1 := Lib.hid (show Ctx (fun k => R k ∨ k = D) w1 C B M m most mp s0 fk fa s from by rw [← hw1, ← hD]; exact HX.out.boxed _)
  have HD1 := Lib.hid (show w1.heap[D]? = some (.cells #[.int .i64 15, .int .i64 a, .int .i64 b, .int .i64 al, .int .i64 cc, .int .u64 im, .int .i64 dp] 27 (0, 0)) from by rw [← hw1, ← hD]; exact heap_alloc_new w _)
  have HBK := Lib.hid (show Kept R w w1 from by rw [← hw1]; exact (Kept.refl R w).alloc HSZ.out _)
  have HDB := Lib.hid (show D ≠ B ∧ D ≠ C ∧ ¬ R D from ⟨by omega, by omega, fun h => by have := HSZ.out D h; omega⟩)
  refine (congrArg _ hw1).mpr ?_
  rw [hD]
  clear hw1 hD hlB hlC HX HSZ
  have k0 : w1.cell? ⟨D, 0, none⟩ = some (.int .i64 15) := by rw [cell_of_row' HD1.out]; rfl
  have k1 : w1.cell? ⟨D, 1, none⟩ = some (.int .i64 a) := by rw [cell_of_row' HD1.out]; rfl
  have k2 : w1.cell? ⟨D, 2, none⟩ = some (.int .i64 b) := by rw [cell_of_row' HD1.out]; rfl
  have k3 : w1.cell? ⟨D, 3, none⟩ = some (.int .i64 al) := by rw [cell_of_row' HD1.out]; rfl
  have k4 : w1.cell? ⟨D, 4, none⟩ = some (.int .i64 cc) := by rw [cell_of_row' HD1.out]; rfl
  have k5 : w1.cell? ⟨D, 5, none⟩ = some (.int .u64 im) := by rw [cell_of_row' HD1.out]; rfl
  have k6 : w1.cell? ⟨D, 6, none⟩ = some (.int .i64 dp) := by rw [cell_of_row' HD1.out]; rfl
  have HRK := Lib.hid (show Calls Try.prog 67 #[.pointer (some ⟨B, 0, none⟩), .agg #[.int .i64 15, .int .i64 a, .int .i64 b, .int .i64 al, .int .i64 cc, .int .u64 im, .int .i64 dp], .int .u64 im] w1 fun e w' => e = .returned (.tuple #[]) ∧ StAt w' B ((s.setR b v).setF z1 n1 c1 o1) ∧ w1.grownBy w' (some B) from reckon_any (fun k => k < w1.heap.size) w1 B s (⟨15, a, b, al, cc, im, dp⟩ : InsV) im v z1 n1 c1 o1 hb HX1.out.st (fun k hk => hk) HAL.out)
  go_wp2_with fail
  refine HRK.out.mono ?_
  rintro e w2 ⟨rfl, hs2, hg2⟩
  have HX2 := HX1.out.turned hg2 hs2 ((HX1.out.sok.setR HV.out.1 HV.out.2).setF _ _ _ _)
  have HY := Lib.hid ((HX2.yes (W := w1) (HX1.out.keptBy hg2)).back HBK.out (fun k hk => .inl hk))
  clear hs2 hg2 HX2 k0 k1 k2 k3 k4 k5 k6 HRK
  go_wp2_with fail
  go_ret
  exact HY.out

set_option maxHeartbeats 4000000 in
theorem doShift (R : Nat → Prop) (w : World) (C B M m : Nat) (most : Int) (mp : Int → Option Pg) (s0 : StV) (fk fa : Int) (s : StV) (a b al cc im : Nat) (dp : Int) (H : Ctx R w C B M m most mp s0 fk fa s) (hb : b < 16) (v : Int) (z1 n1 c1 o1 : Bool) (hv0 : 0 ≤ v) (hv1 : v < 18446744073709551616) (hal : AluR al (s.r b) im s.z s.s s.c s.o v z1 n1 c1 o1) :
    Calls Try.prog 45 #[.pointer (some ⟨C, 0, none⟩), .agg #[.int .i64 16, .int .i64 a, .int .i64 b, .int .i64 al, .int .i64 cc, .int .u64 im, .int .i64 dp], .pointer (some ⟨B, 0, none⟩)] w fun e w' => DoY R w B M m most mp ((s.setR b v).setF z1 n1 c1 o1) e w' := by
  have HV := Lib.hid (And.intro hv0 hv1)
  have HAL := Lib.hid hal
  have HSZ := Lib.hid H.mem.sz
  have HX := Lib.hid H
  have hlB := H.mem.sz B H.rB
  have hlC := H.mem.sz C H.rC
  clear H hv0 hv1 hal
  go_enter Try.func45, Try.ntmps45
  go_upto_region 1 with (fail)
  obtain ⟨w1, hw1⟩ : ∃ w1, w.alloc (.cells #[.int .i64 16, .int .i64 a, .int .i64 b, .int .i64 al, .int .i64 cc, .int .u64 im, .int .i64 dp] 27) = w1 := ⟨_, rfl⟩
  obtain ⟨D, hD⟩ : ∃ D, w.heap.size = D := ⟨_, rfl⟩
  have HX1 := Lib.hid (show Ctx (fun k => R k ∨ k = D) w1 C B M m most mp s0 fk fa s from by rw [← hw1, ← hD]; exact HX.out.boxed _)
  have HD1 := Lib.hid (show w1.heap[D]? = some (.cells #[.int .i64 16, .int .i64 a, .int .i64 b, .int .i64 al, .int .i64 cc, .int .u64 im, .int .i64 dp] 27 (0, 0)) from by rw [← hw1, ← hD]; exact heap_alloc_new w _)
  have HBK := Lib.hid (show Kept R w w1 from by rw [← hw1]; exact (Kept.refl R w).alloc HSZ.out _)
  have HDB := Lib.hid (show D ≠ B ∧ D ≠ C ∧ ¬ R D from ⟨by omega, by omega, fun h => by have := HSZ.out D h; omega⟩)
  refine (congrArg _ hw1).mpr ?_
  rw [hD]
  clear hw1 hD hlB hlC HX HSZ
  have k0 : w1.cell? ⟨D, 0, none⟩ = some (.int .i64 16) := by rw [cell_of_row' HD1.out]; rfl
  have k1 : w1.cell? ⟨D, 1, none⟩ = some (.int .i64 a) := by rw [cell_of_row' HD1.out]; rfl
  have k2 : w1.cell? ⟨D, 2, none⟩ = some (.int .i64 b) := by rw [cell_of_row' HD1.out]; rfl
  have k3 : w1.cell? ⟨D, 3, none⟩ = some (.int .i64 al) := by rw [cell_of_row' HD1.out]; rfl
  have k4 : w1.cell? ⟨D, 4, none⟩ = some (.int .i64 cc) := by rw [cell_of_row' HD1.out]; rfl
  have k5 : w1.cell? ⟨D, 5, none⟩ = some (.int .u64 im) := by rw [cell_of_row' HD1.out]; rfl
  have k6 : w1.cell? ⟨D, 6, none⟩ = some (.int .i64 dp) := by rw [cell_of_row' HD1.out]; rfl
  have HRK := Lib.hid (show Calls Try.prog 67 #[.pointer (some ⟨B, 0, none⟩), .agg #[.int .i64 16, .int .i64 a, .int .i64 b, .int .i64 al, .int .i64 cc, .int .u64 im, .int .i64 dp], .int .u64 im] w1 fun e w' => e = .returned (.tuple #[]) ∧ StAt w' B ((s.setR b v).setF z1 n1 c1 o1) ∧ w1.grownBy w' (some B) from reckon_any (fun k => k < w1.heap.size) w1 B s (⟨16, a, b, al, cc, im, dp⟩ : InsV) im v z1 n1 c1 o1 hb HX1.out.st (fun k hk => hk) HAL.out)
  go_wp2_with fail
  refine HRK.out.mono ?_
  rintro e w2 ⟨rfl, hs2, hg2⟩
  have HX2 := HX1.out.turned hg2 hs2 ((HX1.out.sok.setR HV.out.1 HV.out.2).setF _ _ _ _)
  have HY := Lib.hid ((HX2.yes (W := w1) (HX1.out.keptBy hg2)).back HBK.out (fun k hk => .inl hk))
  clear hs2 hg2 HX2 k0 k1 k2 k3 k4 k5 k6 HRK
  go_wp2_with fail
  go_ret
  exact HY.out

set_option maxHeartbeats 4000000 in
theorem doJmp (R : Nat → Prop) (w : World) (C B M m : Nat) (most : Int) (mp : Int → Option Pg) (s0 : StV) (fk fa : Int) (s : StV) (a b al cc im : Nat) (dp : Int) (H : Ctx R w C B M m most mp s0 fk fa s) :
    Calls Try.prog 45 #[.pointer (some ⟨C, 0, none⟩), .agg #[.int .i64 18, .int .i64 a, .int .i64 b, .int .i64 al, .int .i64 cc, .int .u64 im, .int .i64 dp], .pointer (some ⟨B, 0, none⟩)] w fun e w' => DoY R w B M m most mp (s.setIp (nearM s (⟨18, a, b, al, cc, im, dp⟩ : InsV))) e w' := by
  have HSZ := Lib.hid H.mem.sz
  have HX := Lib.hid H
  have hlB := H.mem.sz B H.rB
  have hlC := H.mem.sz C H.rC
  clear H 
  go_enter Try.func45, Try.ntmps45
  go_upto_region 1 with (fail)
  obtain ⟨w1, hw1⟩ : ∃ w1, w.alloc (.cells #[.int .i64 18, .int .i64 a, .int .i64 b, .int .i64 al, .int .i64 cc, .int .u64 im, .int .i64 dp] 27) = w1 := ⟨_, rfl⟩
  obtain ⟨D, hD⟩ : ∃ D, w.heap.size = D := ⟨_, rfl⟩
  have HX1 := Lib.hid (show Ctx (fun k => R k ∨ k = D) w1 C B M m most mp s0 fk fa s from by rw [← hw1, ← hD]; exact HX.out.boxed _)
  have HD1 := Lib.hid (show w1.heap[D]? = some (.cells #[.int .i64 18, .int .i64 a, .int .i64 b, .int .i64 al, .int .i64 cc, .int .u64 im, .int .i64 dp] 27 (0, 0)) from by rw [← hw1, ← hD]; exact heap_alloc_new w _)
  have HBK := Lib.hid (show Kept R w w1 from by rw [← hw1]; exact (Kept.refl R w).alloc HSZ.out _)
  have HDB := Lib.hid (show D ≠ B ∧ D ≠ C ∧ ¬ R D from ⟨by omega, by omega, fun h => by have := HSZ.out D h; omega⟩)
  refine (congrArg _ hw1).mpr ?_
  rw [hD]
  clear hw1 hD hlB hlC HX HSZ
  obtain ⟨nr, hnr⟩ : ∃ nr, nearM s (⟨18, a, b, al, cc, im, dp⟩ : InsV) = nr := ⟨_, rfl⟩
  have HNR := Lib.hid hnr
  have HNB := nearM_bd s (⟨18, a, b, al, cc, im, dp⟩ : InsV)
  rw [hnr] at HNB
  replace HNB := Lib.hid HNB
  clear hnr
  have HN := Lib.hid (show ∀ W, Below w1.heap.size w1 W → Calls Try.prog 66 #[.pointer (some ⟨B, 0, none⟩), .agg #[.int .i64 18, .int .i64 a, .int .i64 b, .int .i64 al, .int .i64 cc, .int .u64 im, .int .i64 dp]] W fun e w' => e = .returned (.int .u64 nr) ∧ Below W.heap.size W w' from fun W hW => by rw [← HNR.out]; exact near_any W B s (⟨18, a, b, al, cc, im, dp⟩ : InsV) (Own.below HX1.out.st hW (HX1.out.mem.sz B HX1.out.rB)))
  have c0 : w1.cell? ⟨D, 0, none⟩ = some (.int .i64 18) := by rw [cell_of_row' HD1.out]; rfl
  have c1 : w1.cell? ⟨D, 1, none⟩ = some (.int .i64 a) := by rw [cell_of_row' HD1.out]; rfl
  have c2 : w1.cell? ⟨D, 2, none⟩ = some (.int .i64 b) := by rw [cell_of_row' HD1.out]; rfl
  have c3 : w1.cell? ⟨D, 3, none⟩ = some (.int .i64 al) := by rw [cell_of_row' HD1.out]; rfl
  have c4 : w1.cell? ⟨D, 4, none⟩ = some (.int .i64 cc) := by rw [cell_of_row' HD1.out]; rfl
  have c5 : w1.cell? ⟨D, 5, none⟩ = some (.int .u64 im) := by rw [cell_of_row' HD1.out]; rfl
  have c6 : w1.cell? ⟨D, 6, none⟩ = some (.int .i64 dp) := by rw [cell_of_row' HD1.out]; rfl
  go_wp2_with fail
  refine (HN.out w1 (Below.refl _ _)).mono ?_
  rintro e w2 ⟨rfl, hb2⟩
  have HX2 := Lib.hid (HX1.out.below hb2)
  have HBK2 := Lib.hid (HBK.out.trans (Kept.of_below hb2 (fun k hk => HX1.out.mem.sz k (.inl hk))))
  have hc := HX2.out.st.ipc
  have HX3 := HX2.out.setIp (v := nr) HNB.out.1 HNB.out.2
  have HY := Lib.hid ((HX3.yes (W := w2) (keptB w2 B 16 (.int .u64 nr))).back HBK2.out (fun k hk => .inl hk))
  clear hb2 HX3 c0 c1 c2 c3 c4 c5 c6 HN
  go_wp2_with fail
  go_ret
  rw [HNR.out]
  exact HY.out

set_option maxHeartbeats 4000000 in
theorem doJmpS (R : Nat → Prop) (w : World) (C B M m : Nat) (most : Int) (mp : Int → Option Pg) (s0 : StV) (fk fa : Int) (s : StV) (a b al cc im : Nat) (dp : Int) (H : Ctx R w C B M m most mp s0 fk fa s) :
    Calls Try.prog 45 #[.pointer (some ⟨C, 0, none⟩), .agg #[.int .i64 19, .int .i64 a, .int .i64 b, .int .i64 al, .int .i64 cc, .int .u64 im, .int .i64 dp], .pointer (some ⟨B, 0, none⟩)] w fun e w' => DoY R w B M m most mp (s.setIp (nearM s (⟨19, a, b, al, cc, im, dp⟩ : InsV))) e w' := by
  have HSZ := Lib.hid H.mem.sz
  have HX := Lib.hid H
  have hlB := H.mem.sz B H.rB
  have hlC := H.mem.sz C H.rC
  clear H 
  go_enter Try.func45, Try.ntmps45
  go_upto_region 1 with (fail)
  obtain ⟨w1, hw1⟩ : ∃ w1, w.alloc (.cells #[.int .i64 19, .int .i64 a, .int .i64 b, .int .i64 al, .int .i64 cc, .int .u64 im, .int .i64 dp] 27) = w1 := ⟨_, rfl⟩
  obtain ⟨D, hD⟩ : ∃ D, w.heap.size = D := ⟨_, rfl⟩
  have HX1 := Lib.hid (show Ctx (fun k => R k ∨ k = D) w1 C B M m most mp s0 fk fa s from by rw [← hw1, ← hD]; exact HX.out.boxed _)
  have HD1 := Lib.hid (show w1.heap[D]? = some (.cells #[.int .i64 19, .int .i64 a, .int .i64 b, .int .i64 al, .int .i64 cc, .int .u64 im, .int .i64 dp] 27 (0, 0)) from by rw [← hw1, ← hD]; exact heap_alloc_new w _)
  have HBK := Lib.hid (show Kept R w w1 from by rw [← hw1]; exact (Kept.refl R w).alloc HSZ.out _)
  have HDB := Lib.hid (show D ≠ B ∧ D ≠ C ∧ ¬ R D from ⟨by omega, by omega, fun h => by have := HSZ.out D h; omega⟩)
  refine (congrArg _ hw1).mpr ?_
  rw [hD]
  clear hw1 hD hlB hlC HX HSZ
  obtain ⟨nr, hnr⟩ : ∃ nr, nearM s (⟨19, a, b, al, cc, im, dp⟩ : InsV) = nr := ⟨_, rfl⟩
  have HNR := Lib.hid hnr
  have HNB := nearM_bd s (⟨19, a, b, al, cc, im, dp⟩ : InsV)
  rw [hnr] at HNB
  replace HNB := Lib.hid HNB
  clear hnr
  have HN := Lib.hid (show ∀ W, Below w1.heap.size w1 W → Calls Try.prog 66 #[.pointer (some ⟨B, 0, none⟩), .agg #[.int .i64 19, .int .i64 a, .int .i64 b, .int .i64 al, .int .i64 cc, .int .u64 im, .int .i64 dp]] W fun e w' => e = .returned (.int .u64 nr) ∧ Below W.heap.size W w' from fun W hW => by rw [← HNR.out]; exact near_any W B s (⟨19, a, b, al, cc, im, dp⟩ : InsV) (Own.below HX1.out.st hW (HX1.out.mem.sz B HX1.out.rB)))
  have c0 : w1.cell? ⟨D, 0, none⟩ = some (.int .i64 19) := by rw [cell_of_row' HD1.out]; rfl
  have c1 : w1.cell? ⟨D, 1, none⟩ = some (.int .i64 a) := by rw [cell_of_row' HD1.out]; rfl
  have c2 : w1.cell? ⟨D, 2, none⟩ = some (.int .i64 b) := by rw [cell_of_row' HD1.out]; rfl
  have c3 : w1.cell? ⟨D, 3, none⟩ = some (.int .i64 al) := by rw [cell_of_row' HD1.out]; rfl
  have c4 : w1.cell? ⟨D, 4, none⟩ = some (.int .i64 cc) := by rw [cell_of_row' HD1.out]; rfl
  have c5 : w1.cell? ⟨D, 5, none⟩ = some (.int .u64 im) := by rw [cell_of_row' HD1.out]; rfl
  have c6 : w1.cell? ⟨D, 6, none⟩ = some (.int .i64 dp) := by rw [cell_of_row' HD1.out]; rfl
  go_wp2_with fail
  refine (HN.out w1 (Below.refl _ _)).mono ?_
  rintro e w2 ⟨rfl, hb2⟩
  have HX2 := Lib.hid (HX1.out.below hb2)
  have HBK2 := Lib.hid (HBK.out.trans (Kept.of_below hb2 (fun k hk => HX1.out.mem.sz k (.inl hk))))
  have hc := HX2.out.st.ipc
  have HX3 := HX2.out.setIp (v := nr) HNB.out.1 HNB.out.2
  have HY := Lib.hid ((HX3.yes (W := w2) (keptB w2 B 16 (.int .u64 nr))).back HBK2.out (fun k hk => .inl hk))
  clear hb2 HX3 c0 c1 c2 c3 c4 c5 c6 HN
  go_wp2_with fail
  go_ret
  rw [HNR.out]
  exact HY.out

set_option maxHeartbeats 4000000 in
theorem doJcc_yes (R : Nat → Prop) (w : World) (C B M m : Nat) (most : Int) (mp : Int → Option Pg) (s0 : StV) (fk fa : Int) (s : StV) (a b al cc im : Nat) (dp : Int) (H : Ctx R w C B M m most mp s0 fk fa s) (hcc : ∀ w, Calls Try.prog 68 #[.int .i64 cc, .agg #[.bool s.z, .bool s.s, .bool s.c, .bool s.o]] w fun e w' => e = .returned (.bool true) ∧ Below w.heap.size w w') :
    Calls Try.prog 45 #[.pointer (some ⟨C, 0, none⟩), .agg #[.int .i64 20, .int .i64 a, .int .i64 b, .int .i64 al, .int .i64 cc, .int .u64 im, .int .i64 dp], .pointer (some ⟨B, 0, none⟩)] w fun e w' => DoY R w B M m most mp (s.setIp (nearM s (⟨20, a, b, al, cc, im, dp⟩ : InsV))) e w' := by
  have HCC := Lib.hid hcc
  have HSZ := Lib.hid H.mem.sz
  have HX := Lib.hid H
  have hlB := H.mem.sz B H.rB
  have hlC := H.mem.sz C H.rC
  clear H hcc
  go_enter Try.func45, Try.ntmps45
  go_upto_region 1 with (fail)
  obtain ⟨w1, hw1⟩ : ∃ w1, w.alloc (.cells #[.int .i64 20, .int .i64 a, .int .i64 b, .int .i64 al, .int .i64 cc, .int .u64 im, .int .i64 dp] 27) = w1 := ⟨_, rfl⟩
  obtain ⟨D, hD⟩ : ∃ D, w.heap.size = D := ⟨_, rfl⟩
  have HX1 := Lib.hid (show Ctx (fun k => R k ∨ k = D) w1 C B M m most mp s0 fk fa s from by rw [← hw1, ← hD]; exact HX.out.boxed _)
  have HD1 := Lib.hid (show w1.heap[D]? = some (.cells #[.int .i64 20, .int .i64 a, .int .i64 b, .int .i64 al, .int .i64 cc, .int .u64 im, .int .i64 dp] 27 (0, 0)) from by rw [← hw1, ← hD]; exact heap_alloc_new w _)
  have HBK := Lib.hid (show Kept R w w1 from by rw [← hw1]; exact (Kept.refl R w).alloc HSZ.out _)
  have HDB := Lib.hid (show D ≠ B ∧ D ≠ C ∧ ¬ R D from ⟨by omega, by omega, fun h => by have := HSZ.out D h; omega⟩)
  refine (congrArg _ hw1).mpr ?_
  rw [hD]
  clear hw1 hD hlB hlC HX HSZ
  obtain ⟨nr, hnr⟩ : ∃ nr, nearM s (⟨20, a, b, al, cc, im, dp⟩ : InsV) = nr := ⟨_, rfl⟩
  have HNR := Lib.hid hnr
  have HNB := nearM_bd s (⟨20, a, b, al, cc, im, dp⟩ : InsV)
  rw [hnr] at HNB
  replace HNB := Lib.hid HNB
  clear hnr
  have HN := Lib.hid (show ∀ W, Below w1.heap.size w1 W → Calls Try.prog 66 #[.pointer (some ⟨B, 0, none⟩), .agg #[.int .i64 20, .int .i64 a, .int .i64 b, .int .i64 al, .int .i64 cc, .int .u64 im, .int .i64 dp]] W fun e w' => e = .returned (.int .u64 nr) ∧ Below W.heap.size W w' from fun W hW => by rw [← HNR.out]; exact near_any W B s (⟨20, a, b, al, cc, im, dp⟩ : InsV) (Own.below HX1.out.st hW (HX1.out.mem.sz B HX1.out.rB)))
  have c0 : w1.cell? ⟨D, 0, none⟩ = some (.int .i64 20) := by rw [cell_of_row' HD1.out]; rfl
  go_upto_region 32 with (fail)
  clear c0
  have HS := Lib.hid (show w1.drew.heap[D]? = some (.cells #[.int .i64 20, .int .i64 a, .int .i64 b, .int .i64 al, .int .i64 cc, .int .u64 im, .int .i64 dp] 27 (0, 0)) ∧ StAt w1.drew B s from ⟨HD1.out, HX1.out.st⟩)
  have HR0 := Lib.hid trivial
  refine wp_region_noPanic ?_
  refine wp_region_K (fun W => W.heap[D]? = some (.cells #[.int .i64 20, .int .i64 a, .int .i64 b, .int .i64 al, .int .i64 cc, .int .u64 im, .int .i64 dp] 27 (0, 0)) ∧ StAt W B s) (fun _ => True) 99 (by kernel_rfl) ?_
  refine wpAnyK_take (i := 0) (oi := ?_) (v := ?_) ?_ (by kernel_rfl) (by kernel_rfl) (by kernel_rfl) (fun _ _ _ h => h) (by decide) ?_ HS.out (fun _ => HR0.out) ?_
  rotate_left 2
  · (simp only [List.getElem?_toArray, List.getElem?_cons_succ, List.getElem?_cons_zero]; rfl)
  · (first | exact Or.inr ⟨by rfl, rfl⟩ | (refine Or.inl ⟨by rfl, ?_⟩; intro W hSw;  clear hSw; go_simp; try with_reducible rfl))
  try simp only [Act.put, List.setIfInBounds_toArray, List.set_cons_zero, List.set_cons_succ]
  refine wpAnyK_take (i := 1) (oi := ?_) (v := ?_) ?_ (by kernel_rfl) (by kernel_rfl) (by kernel_rfl) (fun _ _ _ h => h) (by decide) ?_ HS.out (fun _ => HR0.out) ?_
  rotate_left 2
  · (simp only [List.getElem?_toArray, List.getElem?_cons_succ, List.getElem?_cons_zero]; rfl)
  · (first | exact Or.inr ⟨by rfl, rfl⟩ | (refine Or.inl ⟨by rfl, ?_⟩; intro W hSw; have hq : W.cell? ⟨D, 4, none⟩ = some (.int .i64 cc) := (by rw [cell_of_row' hSw.1]; rfl); clear hSw; go_simp; try with_reducible rfl))
  try simp only [Act.put, List.setIfInBounds_toArray, List.set_cons_zero, List.set_cons_succ]
  refine wpAnyK_take (i := 2) (oi := ?_) (v := ?_) ?_ (by kernel_rfl) (by kernel_rfl) (by kernel_rfl) (fun _ _ _ h => h) (by decide) ?_ HS.out (fun _ => HR0.out) ?_
  rotate_left 2
  · (simp only [List.getElem?_toArray, List.getElem?_cons_succ, List.getElem?_cons_zero]; rfl)
  · (first | exact Or.inr ⟨by rfl, rfl⟩ | (refine Or.inl ⟨by rfl, ?_⟩; intro W hSw;  clear hSw; go_simp; try with_reducible rfl))
  try simp only [Act.put, List.setIfInBounds_toArray, List.set_cons_zero, List.set_cons_succ]
  refine wpAnyK_take (i := 3) (oi := ?_) (v := ?_) ?_ (by kernel_rfl) (by kernel_rfl) (by kernel_rfl) (fun _ _ _ h => h) (by decide) ?_ HS.out (fun _ => HR0.out) ?_
  rotate_left 2
  · (simp only [List.getElem?_toArray, List.getElem?_cons_succ, List.getElem?_cons_zero]; rfl)
  · (first | exact Or.inr ⟨by rfl, rfl⟩ | (refine Or.inl ⟨by rfl, ?_⟩; intro W hSw;  clear hSw; go_simp; try with_reducible rfl))
  try simp only [Act.put, List.setIfInBounds_toArray, List.set_cons_zero, List.set_cons_succ]
  refine wpAnyK_take (i := 4) (oi := ?_) (v := ?_) ?_ (by kernel_rfl) (by kernel_rfl) (by kernel_rfl) (fun _ _ _ h => h) (by decide) ?_ HS.out (fun _ => HR0.out) ?_
  rotate_left 2
  · (simp only [List.getElem?_toArray, List.getElem?_cons_succ, List.getElem?_cons_zero]; rfl)
  · (first | exact Or.inr ⟨by rfl, rfl⟩ | (refine Or.inl ⟨by rfl, ?_⟩; intro W hSw;  clear hSw; go_simp; try with_reducible rfl))
  try simp only [Act.put, List.setIfInBounds_toArray, List.set_cons_zero, List.set_cons_succ]
  refine wpAnyK_take (i := 5) (oi := ?_) (v := ?_) ?_ (by kernel_rfl) (by kernel_rfl) (by kernel_rfl) (fun _ _ _ h => h) (by decide) ?_ HS.out (fun _ => HR0.out) ?_
  rotate_left 2
  · (simp only [List.getElem?_toArray, List.getElem?_cons_succ, List.getElem?_cons_zero]; rfl)
  · (first | exact Or.inr ⟨by rfl, rfl⟩ | (refine Or.inl ⟨by rfl, ?_⟩; intro W hSw; have hq := (StAt.flags hSw.2).1; clear hSw; go_simp; try with_reducible rfl))
  try simp only [Act.put, List.setIfInBounds_toArray, List.set_cons_zero, List.set_cons_succ]
  refine wpAnyK_one (i := 6) (o := ?_) (by kernel_rfl) ?_ (fun K hK => ?_)
  rotate_left 1
  · (simp only [List.getElem?_toArray, List.getElem?_cons_succ, List.getElem?_cons_zero]; rfl)
  go_simp
  go_at_call 68
  refine (HCC.out w1.drew).mono ?_
  rintro e w2 ⟨rfl, hb2⟩
  have hb3 : Below w1.heap.size w1 w2 := (Below.refl _ w1).drew.trans hb2
  have HX2 := Lib.hid (HX1.out.below hb3)
  have HBK2 := Lib.hid (HBK.out.trans (Kept.of_below hb3 (fun k hk => HX1.out.mem.sz k (.inl hk))))
  have HS2 := Lib.hid (show w2.heap[D]? = some (.cells #[.int .i64 20, .int .i64 a, .int .i64 b, .int .i64 al, .int .i64 cc, .int .u64 im, .int .i64 dp] 27 (0, 0)) ∧ StAt w2 B s from ⟨(hb3.block D (lt_of_row' HD1.out)).trans HD1.out, HX2.out.st⟩)
  have HB3 := Lib.hid hb3
  clear hb2 hb3
  refine hK.out _ _ HS2.out (fun _ => trivial) ?_
  clear hK K
  try simp only [Act.put, List.setIfInBounds_toArray, List.set_cons_zero, List.set_cons_succ]
  refine wpAnyK_done (by kernel_rfl) ?_ _
  refine NoPanic.normal ?_
  have c0 : w2.cell? ⟨D, 0, none⟩ = some (.int .i64 20) := by rw [cell_of_row' HS2.out.1]; rfl
  have c1 : w2.cell? ⟨D, 1, none⟩ = some (.int .i64 a) := by rw [cell_of_row' HS2.out.1]; rfl
  have c2 : w2.cell? ⟨D, 2, none⟩ = some (.int .i64 b) := by rw [cell_of_row' HS2.out.1]; rfl
  have c3 : w2.cell? ⟨D, 3, none⟩ = some (.int .i64 al) := by rw [cell_of_row' HS2.out.1]; rfl
  have c4 : w2.cell? ⟨D, 4, none⟩ = some (.int .i64 cc) := by rw [cell_of_row' HS2.out.1]; rfl
  have c5 : w2.cell? ⟨D, 5, none⟩ = some (.int .u64 im) := by rw [cell_of_row' HS2.out.1]; rfl
  have c6 : w2.cell? ⟨D, 6, none⟩ = some (.int .i64 dp) := by rw [cell_of_row' HS2.out.1]; rfl
  go_wp2_with fail
  refine (HN.out w2 HB3.out).mono ?_
  rintro e w3 ⟨rfl, hb4⟩
  have HX3 := Lib.hid (HX2.out.below hb4)
  have HBK3 := Lib.hid (HBK2.out.trans (Kept.of_below hb4 (fun k hk => HX2.out.mem.sz k (.inl hk))))
  have hc := HX3.out.st.ipc
  have HX4 := HX3.out.setIp (v := nr) HNB.out.1 HNB.out.2
  have HY := Lib.hid ((HX4.yes (W := w3) (keptB w3 B 16 (.int .u64 nr))).back HBK3.out (fun k hk => .inl hk))
  clear hb4 HX4 c0 c1 c2 c3 c4 c5 c6 HN
  go_wp2_with fail
  go_ret
  rw [HNR.out]
  exact HY.out

set_option maxHeartbeats 4000000 in
theorem doJcc_no (R : Nat → Prop) (w : World) (C B M m : Nat) (most : Int) (mp : Int → Option Pg) (s0 : StV) (fk fa : Int) (s : StV) (a b al cc im : Nat) (dp : Int) (H : Ctx R w C B M m most mp s0 fk fa s) (hcc : ∀ w, Calls Try.prog 68 #[.int .i64 cc, .agg #[.bool s.z, .bool s.s, .bool s.c, .bool s.o]] w fun e w' => e = .returned (.bool false) ∧ Below w.heap.size w w') :
    Calls Try.prog 45 #[.pointer (some ⟨C, 0, none⟩), .agg #[.int .i64 20, .int .i64 a, .int .i64 b, .int .i64 al, .int .i64 cc, .int .u64 im, .int .i64 dp], .pointer (some ⟨B, 0, none⟩)] w fun e w' => DoY R w B M m most mp s e w' := by
  have HCC := Lib.hid hcc
  have HSZ := Lib.hid H.mem.sz
  have HX := Lib.hid H
  have hlB := H.mem.sz B H.rB
  have hlC := H.mem.sz C H.rC
  clear H hcc
  go_enter Try.func45, Try.ntmps45
  go_upto_region 1 with (fail)
  obtain ⟨w1, hw1⟩ : ∃ w1, w.alloc (.cells #[.int .i64 20, .int .i64 a, .int .i64 b, .int .i64 al, .int .i64 cc, .int .u64 im, .int .i64 dp] 27) = w1 := ⟨_, rfl⟩
  obtain ⟨D, hD⟩ : ∃ D, w.heap.size = D := ⟨_, rfl⟩
  have HX1 := Lib.hid (show Ctx (fun k => R k ∨ k = D) w1 C B M m most mp s0 fk fa s from by rw [← hw1, ← hD]; exact HX.out.boxed _)
  have HD1 := Lib.hid (show w1.heap[D]? = some (.cells #[.int .i64 20, .int .i64 a, .int .i64 b, .int .i64 al, .int .i64 cc, .int .u64 im, .int .i64 dp] 27 (0, 0)) from by rw [← hw1, ← hD]; exact heap_alloc_new w _)
  have HBK := Lib.hid (show Kept R w w1 from by rw [← hw1]; exact (Kept.refl R w).alloc HSZ.out _)
  have HDB := Lib.hid (show D ≠ B ∧ D ≠ C ∧ ¬ R D from ⟨by omega, by omega, fun h => by have := HSZ.out D h; omega⟩)
  refine (congrArg _ hw1).mpr ?_
  rw [hD]
  clear hw1 hD hlB hlC HX HSZ
  have c0 : w1.cell? ⟨D, 0, none⟩ = some (.int .i64 20) := by rw [cell_of_row' HD1.out]; rfl
  go_upto_region 32 with (fail)
  clear c0
  have HS := Lib.hid (show w1.drew.heap[D]? = some (.cells #[.int .i64 20, .int .i64 a, .int .i64 b, .int .i64 al, .int .i64 cc, .int .u64 im, .int .i64 dp] 27 (0, 0)) ∧ StAt w1.drew B s from ⟨HD1.out, HX1.out.st⟩)
  have HR0 := Lib.hid trivial
  refine wp_region_noPanic ?_
  refine wp_region_K (fun W => W.heap[D]? = some (.cells #[.int .i64 20, .int .i64 a, .int .i64 b, .int .i64 al, .int .i64 cc, .int .u64 im, .int .i64 dp] 27 (0, 0)) ∧ StAt W B s) (fun _ => True) 99 (by kernel_rfl) ?_
  refine wpAnyK_take (i := 0) (oi := ?_) (v := ?_) ?_ (by kernel_rfl) (by kernel_rfl) (by kernel_rfl) (fun _ _ _ h => h) (by decide) ?_ HS.out (fun _ => HR0.out) ?_
  rotate_left 2
  · (simp only [List.getElem?_toArray, List.getElem?_cons_succ, List.getElem?_cons_zero]; rfl)
  · (first | exact Or.inr ⟨by rfl, rfl⟩ | (refine Or.inl ⟨by rfl, ?_⟩; intro W hSw;  clear hSw; go_simp; try with_reducible rfl))
  try simp only [Act.put, List.setIfInBounds_toArray, List.set_cons_zero, List.set_cons_succ]
  refine wpAnyK_take (i := 1) (oi := ?_) (v := ?_) ?_ (by kernel_rfl) (by kernel_rfl) (by kernel_rfl) (fun _ _ _ h => h) (by decide) ?_ HS.out (fun _ => HR0.out) ?_
  rotate_left 2
  · (simp only [List.getElem?_toArray, List.getElem?_cons_succ, List.getElem?_cons_zero]; rfl)
  · (first | exact Or.inr ⟨by rfl, rfl⟩ | (refine Or.inl ⟨by rfl, ?_⟩; intro W hSw; have hq : W.cell? ⟨D, 4, none⟩ = some (.int .i64 cc) := (by rw [cell_of_row' hSw.1]; rfl); clear hSw; go_simp; try with_reducible rfl))
  try simp only [Act.put, List.setIfInBounds_toArray, List.set_cons_zero, List.set_cons_succ]
  refine wpAnyK_take (i := 2) (oi := ?_) (v := ?_) ?_ (by kernel_rfl) (by kernel_rfl) (by kernel_rfl) (fun _ _ _ h => h) (by decide) ?_ HS.out (fun _ => HR0.out) ?_
  rotate_left 2
  · (simp only [List.getElem?_toArray, List.getElem?_cons_succ, List.getElem?_cons_zero]; rfl)
  · (first | exact Or.inr ⟨by rfl, rfl⟩ | (refine Or.inl ⟨by rfl, ?_⟩; intro W hSw;  clear hSw; go_simp; try with_reducible rfl))
  try simp only [Act.put, List.setIfInBounds_toArray, List.set_cons_zero, List.set_cons_succ]
  refine wpAnyK_take (i := 3) (oi := ?_) (v := ?_) ?_ (by kernel_rfl) (by kernel_rfl) (by kernel_rfl) (fun _ _ _ h => h) (by decide) ?_ HS.out (fun _ => HR0.out) ?_
  rotate_left 2
  · (simp only [List.getElem?_toArray, List.getElem?_cons_succ, List.getElem?_cons_zero]; rfl)
  · (first | exact Or.inr ⟨by rfl, rfl⟩ | (refine Or.inl ⟨by rfl, ?_⟩; intro W hSw;  clear hSw; go_simp; try with_reducible rfl))
  try simp only [Act.put, List.setIfInBounds_toArray, List.set_cons_zero, List.set_cons_succ]
  refine wpAnyK_take (i := 4) (oi := ?_) (v := ?_) ?_ (by kernel_rfl) (by kernel_rfl) (by kernel_rfl) (fun _ _ _ h => h) (by decide) ?_ HS.out (fun _ => HR0.out) ?_
  rotate_left 2
  · (simp only [List.getElem?_toArray, List.getElem?_cons_succ, List.getElem?_cons_zero]; rfl)
  · (first | exact Or.inr ⟨by rfl, rfl⟩ | (refine Or.inl ⟨by rfl, ?_⟩; intro W hSw;  clear hSw; go_simp; try with_reducible rfl))
  try simp only [Act.put, List.setIfInBounds_toArray, List.set_cons_zero, List.set_cons_succ]
  refine wpAnyK_take (i := 5) (oi := ?_) (v := ?_) ?_ (by kernel_rfl) (by kernel_rfl) (by kernel_rfl) (fun _ _ _ h => h) (by decide) ?_ HS.out (fun _ => HR0.out) ?_
  rotate_left 2
  · (simp only [List.getElem?_toArray, List.getElem?_cons_succ, List.getElem?_cons_zero]; rfl)
  · (first | exact Or.inr ⟨by rfl, rfl⟩ | (refine Or.inl ⟨by rfl, ?_⟩; intro W hSw; have hq := (StAt.flags hSw.2).1; clear hSw; go_simp; try with_reducible rfl))
  try simp only [Act.put, List.setIfInBounds_toArray, List.set_cons_zero, List.set_cons_succ]
  refine wpAnyK_one (i := 6) (o := ?_) (by kernel_rfl) ?_ (fun K hK => ?_)
  rotate_left 1
  · (simp only [List.getElem?_toArray, List.getElem?_cons_succ, List.getElem?_cons_zero]; rfl)
  go_simp
  go_at_call 68
  refine (HCC.out w1.drew).mono ?_
  rintro e w2 ⟨rfl, hb2⟩
  have hb3 : Below w1.heap.size w1 w2 := (Below.refl _ w1).drew.trans hb2
  have HX2 := Lib.hid (HX1.out.below hb3)
  have HBK2 := Lib.hid (HBK.out.trans (Kept.of_below hb3 (fun k hk => HX1.out.mem.sz k (.inl hk))))
  have HS2 := Lib.hid (show w2.heap[D]? = some (.cells #[.int .i64 20, .int .i64 a, .int .i64 b, .int .i64 al, .int .i64 cc, .int .u64 im, .int .i64 dp] 27 (0, 0)) ∧ StAt w2 B s from ⟨(hb3.block D (lt_of_row' HD1.out)).trans HD1.out, HX2.out.st⟩)
  skip
  clear hb2 hb3
  refine hK.out _ _ HS2.out (fun _ => trivial) ?_
  clear hK K
  try simp only [Act.put, List.setIfInBounds_toArray, List.set_cons_zero, List.set_cons_succ]
  refine wpAnyK_done (by kernel_rfl) ?_ _
  refine NoPanic.normal ?_
  have HY := Lib.hid ((HX2.out.yes (W := w2) (Kept.refl _ _)).back HBK2.out (fun k hk => .inl hk))
  go_wp2_with fail
  go_ret
  exact HY.out

end Go.Proofs.Ythbgmlmcjnlopaa
