/- package cpu: one instruction, without the memory. -/
import Derived.Test.YthbgmlmcjnlopaaMchG
namespace Go.Proofs.Ythbgmlmcjnlopaa
open Go.ChangeShapes Go.WideShapes Go.ChangeAt Go.RowKit
set_option linter.unusedVariables false
set_option linter.unusedSimpArgs false
set_option maxRecDepth 100000

section
variable {R : Nat → Prop} {w w' : World} {C B M m : Nat} {most : Int} {mp : Int → Option Pg} {s0 : StV} {fk fa : Int} {s s' : StV}
/-- The state's own block has turned. -/
theorem Ctx.turned (h : Ctx R w C B M m most mp s0 fk fa s) (hg : w.grownBy w' (some B)) (hs : StAt w' B s') (ho : StOk s') : Ctx R w' C B M m most mp s0 fk fa s' :=
  ⟨h.mem.kept hg.size (fun k hk hr => hg.block k hk (fun e => hr (by injection e with e; rw [e]; exact h.rB))), h.cpu.of_block (hg.block C h.cpu.1 (fun e => h.ne (by injection e with e))) hg.size, hs, h.rC, h.rB, h.ne, h.ok, ho⟩
theorem Ctx.keptBy (h : Ctx R w C B M m most mp s0 fk fa s) (hg : w.grownBy w' (some B)) : Kept (fun k => R k ∧ k ≠ B) w w' :=
  ⟨hg.os, hg.tape, hg.output, hg.size, fun k hk => hg.block k (h.mem.sz k hk.1) (fun e => hk.2 (by injection e with e))⟩
end
theorem AluR.ok {op a b : Int} {z s c o : Bool} {v : Int} {z' s' c' o' : Bool} (h : AluR op a b z s c o v z' s' c' o') : True := trivial

set_option maxHeartbeats 4000000 in
theorem doNop (R : Nat → Prop) (w : World) (C B M m : Nat) (most : Int) (mp : Int → Option Pg) (s0 : StV) (fk fa : Int) (s : StV) (a b al cc im : Nat) (dp : Int) (H : Ctx R w C B M m most mp s0 fk fa s) :
    Calls Try.prog 45 #[.pointer (some ⟨C, 0, none⟩), .agg #[.int .i64 1, .int .i64 a, .int .i64 b, .int .i64 al, .int .i64 cc, .int .u64 im, .int .i64 dp], .pointer (some ⟨B, 0, none⟩)] w fun e w' => DoY R w B M m most mp s e w' := by
  have HSZ := Lib.hid H.mem.sz
  have HX := Lib.hid H
  have hlB := H.mem.sz B H.rB
  have hlC := H.mem.sz C H.rC
  clear H 
  go_enter Try.func45, Try.ntmps45
  go_upto_region 1 with (fail)
  obtain ⟨w1, hw1⟩ : ∃ w1, w.alloc (.cells #[.int .i64 1, .int .i64 a, .int .i64 b, .int .i64 al, .int .i64 cc, .int .u64 im, .int .i64 dp] 27) = w1 := ⟨_, rfl⟩
  obtain ⟨D, hD⟩ : ∃ D, w.heap.size = D := ⟨_, rfl⟩
  have HX1 := Lib.hid (show Ctx (fun k => R k ∨ k = D) w1 C B M m most mp s0 fk fa s from by rw [← hw1, ← hD]; exact HX.out.boxed _)
  have HD1 := Lib.hid (show w1.heap[D]? = some (.cells #[.int .i64 1, .int .i64 a, .int .i64 b, .int .i64 al, .int .i64 cc, .int .u64 im, .int .i64 dp] 27 (0, 0)) from by rw [← hw1, ← hD]; exact heap_alloc_new w _)
  have HBK := Lib.hid (show Kept R w w1 from by rw [← hw1]; exact (Kept.refl R w).alloc HSZ.out _)
  have HDB := Lib.hid (show D ≠ B ∧ D ≠ C ∧ ¬ R D from ⟨by omega, by omega, fun h => by have := HSZ.out D h; omega⟩)
  refine (congrArg _ hw1).mpr ?_
  rw [hD]
  clear hw1 hD hlB hlC HX HSZ
  have c0 : w1.cell? ⟨D, 0, none⟩ = some (.int .i64 1) := by rw [cell_of_row' HD1.out]; rfl
  go_wp2_with fail
  have HY := Lib.hid ((HX1.out.yes (W := w1) (Kept.refl _ _)).back HBK.out (fun k hk => .inl hk))
  go_ret
  exact HY.out

set_option maxHeartbeats 4000000 in
theorem doInt (R : Nat → Prop) (w : World) (C B M m : Nat) (most : Int) (mp : Int → Option Pg) (s0 : StV) (fk fa : Int) (s : StV) (a b al cc im : Nat) (dp : Int) (H : Ctx R w C B M m most mp s0 fk fa s) :
    Calls Try.prog 45 #[.pointer (some ⟨C, 0, none⟩), .agg #[.int .i64 23, .int .i64 a, .int .i64 b, .int .i64 al, .int .i64 cc, .int .u64 im, .int .i64 dp], .pointer (some ⟨B, 0, none⟩)] w fun e w' => DoY R w B M m most mp s e w' := by
  have HSZ := Lib.hid H.mem.sz
  have HX := Lib.hid H
  have hlB := H.mem.sz B H.rB
  have hlC := H.mem.sz C H.rC
  clear H 
  go_enter Try.func45, Try.ntmps45
  go_upto_region 1 with (fail)
  obtain ⟨w1, hw1⟩ : ∃ w1, w.alloc (.cells #[.int .i64 23, .int .i64 a, .int .i64 b, .int .i64 al, .int .i64 cc, .int .u64 im, .int .i64 dp] 27) = w1 := ⟨_, rfl⟩
  obtain ⟨D, hD⟩ : ∃ D, w.heap.size = D := ⟨_, rfl⟩
  have HX1 := Lib.hid (show Ctx (fun k => R k ∨ k = D) w1 C B M m most mp s0 fk fa s from by rw [← hw1, ← hD]; exact HX.out.boxed _)
  have HD1 := Lib.hid (show w1.heap[D]? = some (.cells #[.int .i64 23, .int .i64 a, .int .i64 b, .int .i64 al, .int .i64 cc, .int .u64 im, .int .i64 dp] 27 (0, 0)) from by rw [← hw1, ← hD]; exact heap_alloc_new w _)
  have HBK := Lib.hid (show Kept R w w1 from by rw [← hw1]; exact (Kept.refl R w).alloc HSZ.out _)
  have HDB := Lib.hid (show D ≠ B ∧ D ≠ C ∧ ¬ R D from ⟨by omega, by omega, fun h => by have := HSZ.out D h; omega⟩)
  refine (congrArg _ hw1).mpr ?_
  rw [hD]
  clear hw1 hD hlB hlC HX HSZ
  have c0 : w1.cell? ⟨D, 0, none⟩ = some (.int .i64 23) := by rw [cell_of_row' HD1.out]; rfl
  go_wp2_with fail
  have HY := Lib.hid ((HX1.out.yes (W := w1) (Kept.refl _ _)).back HBK.out (fun k hk => .inl hk))
  go_ret
  exact HY.out

set_option maxHeartbeats 4000000 in
theorem doMovI (R : Nat → Prop) (w : World) (C B M m : Nat) (most : Int) (mp : Int → Option Pg) (s0 : StV) (fk fa : Int) (s : StV) (a b al cc im : Nat) (dp : Int) (H : Ctx R w C B M m most mp s0 fk fa s) (ha : a < 16) (hi : im < 18446744073709551616) :
    Calls Try.prog 45 #[.pointer (some ⟨C, 0, none⟩), .agg #[.int .i64 5, .int .i64 a, .int .i64 b, .int .i64 al, .int .i64 cc, .int .u64 im, .int .i64 dp], .pointer (some ⟨B, 0, none⟩)] w fun e w' => DoY R w B M m most mp (s.setR a im) e w' := by
  have haI : (a : Int) < 16 := by omega
  have HIM := Lib.hid hi
  have HSZ := Lib.hid H.mem.sz
  have HX := Lib.hid H
  have hlB := H.mem.sz B H.rB
  have hlC := H.mem.sz C H.rC
  clear H hi
  go_enter Try.func45, Try.ntmps45
  go_upto_region 1 with (fail)
  obtain ⟨w1, hw1⟩ : ∃ w1, w.alloc (.cells #[.int .i64 5, .int .i64 a, .int .i64 b, .int .i64 al, .int .i64 cc, .int .u64 im, .int .i64 dp] 27) = w1 := ⟨_, rfl⟩
  obtain ⟨D, hD⟩ : ∃ D, w.heap.size = D := ⟨_, rfl⟩
  have HX1 := Lib.hid (show Ctx (fun k => R k ∨ k = D) w1 C B M m most mp s0 fk fa s from by rw [← hw1, ← hD]; exact HX.out.boxed _)
  have HD1 := Lib.hid (show w1.heap[D]? = some (.cells #[.int .i64 5, .int .i64 a, .int .i64 b, .int .i64 al, .int .i64 cc, .int .u64 im, .int .i64 dp] 27 (0, 0)) from by rw [← hw1, ← hD]; exact heap_alloc_new w _)
  have HBK := Lib.hid (show Kept R w w1 from by rw [← hw1]; exact (Kept.refl R w).alloc HSZ.out _)
  have HDB := Lib.hid (show D ≠ B ∧ D ≠ C ∧ ¬ R D from ⟨by omega, by omega, fun h => by have := HSZ.out D h; omega⟩)
  refine (congrArg _ hw1).mpr ?_
  rw [hD]
  clear hw1 hD hlB hlC HX HSZ
  have c0 : w1.cell? ⟨D, 0, none⟩ = some (.int .i64 5) := by rw [cell_of_row' HD1.out]; rfl
  go_upto_region 17 with (fail)
  clear c0
  have HS := Lib.hid (show w1.drew.heap[D]? = some (.cells #[.int .i64 5, .int .i64 a, .int .i64 b, .int .i64 al, .int .i64 cc, .int .u64 im, .int .i64 dp] 27 (0, 0)) from HD1.out)
  have HR0 := Lib.hid trivial
  refine wp_region_noPanic ?_
  refine wp_region_K (fun W => W.heap[D]? = some (.cells #[.int .i64 5, .int .i64 a, .int .i64 b, .int .i64 al, .int .i64 cc, .int .u64 im, .int .i64 dp] 27 (0, 0))) (fun _ => True) 99 (by kernel_rfl) ?_
  refine wpAnyK_take (i := 0) (oi := ?_) (v := ?_) ?_ (by kernel_rfl) (by kernel_rfl) (by kernel_rfl) (fun _ _ _ h => h) (by decide) ?_ HS.out (fun _ => HR0.out) ?_
  rotate_left 2
  · (simp only [List.getElem?_toArray, List.getElem?_cons_succ, List.getElem?_cons_zero]; rfl)
  · (first | exact Or.inr ⟨by rfl, rfl⟩ | (refine Or.inl ⟨by rfl, ?_⟩; intro W hSw;  clear hSw; go_simp; try with_reducible rfl))
  try simp only [Act.put, List.setIfInBounds_toArray, List.set_cons_zero, List.set_cons_succ]
  refine wpAnyK_take (i := 1) (oi := ?_) (v := ?_) ?_ (by kernel_rfl) (by kernel_rfl) (by kernel_rfl) (fun _ _ _ h => h) (by decide) ?_ HS.out (fun _ => HR0.out) ?_
  rotate_left 2
  · (simp only [List.getElem?_toArray, List.getElem?_cons_succ, List.getElem?_cons_zero]; rfl)
  · (first | exact Or.inr ⟨by rfl, rfl⟩ | (refine Or.inl ⟨by rfl, ?_⟩; intro W hSw;  clear hSw; go_simp; try with_reducible rfl))
  try simp only [Act.put, List.setIfInBounds_toArray, List.set_cons_zero, List.set_cons_succ]
  refine wpAnyK_take (i := 2) (oi := ?_) (v := ?_) ?_ (by kernel_rfl) (by kernel_rfl) (by kernel_rfl) (fun _ _ _ h => h) (by decide) ?_ HS.out (fun _ => HR0.out) ?_
  rotate_left 2
  · (simp only [List.getElem?_toArray, List.getElem?_cons_succ, List.getElem?_cons_zero]; rfl)
  · (first | exact Or.inr ⟨by rfl, rfl⟩ | (refine Or.inl ⟨by rfl, ?_⟩; intro W hSw; have hq : W.cell? ⟨D, 1, none⟩ = some (.int .i64 a) := (by rw [cell_of_row' hSw]; rfl); clear hSw; go_simp; try with_reducible rfl))
  try simp only [Act.put, List.setIfInBounds_toArray, List.set_cons_zero, List.set_cons_succ]
  refine wpAnyK_take (i := 3) (oi := ?_) (v := ?_) ?_ (by kernel_rfl) (by kernel_rfl) (by kernel_rfl) (fun _ _ _ h => h) (by decide) ?_ HS.out (fun _ => HR0.out) ?_
  rotate_left 2
  · (simp only [List.getElem?_toArray, List.getElem?_cons_succ, List.getElem?_cons_zero]; rfl)
  · (first | exact Or.inr ⟨by rfl, rfl⟩ | (refine Or.inl ⟨by rfl, ?_⟩; intro W hSw;  clear hSw; go_simp; try with_reducible rfl))
  try simp only [Act.put, List.setIfInBounds_toArray, List.set_cons_zero, List.set_cons_succ]
  refine wpAnyK_take (i := 4) (oi := ?_) (v := ?_) ?_ (by kernel_rfl) (by kernel_rfl) (by kernel_rfl) (fun _ _ _ h => h) (by decide) ?_ HS.out (fun _ => HR0.out) ?_
  rotate_left 2
  · (simp only [List.getElem?_toArray, List.getElem?_cons_succ, List.getElem?_cons_zero]; rfl)
  · (first | exact Or.inr ⟨by rfl, rfl⟩ | (refine Or.inl ⟨by rfl, ?_⟩; intro W hSw; have hq : W.cell? ⟨D, 5, none⟩ = some (.int .u64 im) := (by rw [cell_of_row' hSw]; rfl); clear hSw; go_simp; try with_reducible rfl))
  try simp only [Act.put, List.setIfInBounds_toArray, List.set_cons_zero, List.set_cons_succ]
  refine wpAnyK_take (i := 5) (oi := ?_) (v := ?_) ?_ (by kernel_rfl) (by kernel_rfl) (by kernel_rfl) (fun _ _ _ h => h) (by decide) ?_ HS.out (fun _ => HR0.out) ?_
  rotate_left 2
  · (simp only [List.getElem?_toArray, List.getElem?_cons_succ, List.getElem?_cons_zero]; rfl)
  · (first | exact Or.inr ⟨by rfl, rfl⟩ | (refine Or.inl ⟨by rfl, ?_⟩; intro W hSw;  clear hSw; go_simp; try with_reducible rfl))
  try simp only [Act.put, List.setIfInBounds_toArray, List.set_cons_zero, List.set_cons_succ]
  refine wpAnyK_take (i := 6) (oi := ?_) (v := ?_) ?_ (by kernel_rfl) (by kernel_rfl) (by kernel_rfl) (fun _ _ _ h => h) (by decide) ?_ HS.out (fun _ => HR0.out) ?_
  rotate_left 2
  · (simp only [List.getElem?_toArray, List.getElem?_cons_succ, List.getElem?_cons_zero]; rfl)
  · (first | exact Or.inr ⟨by rfl, rfl⟩ | (refine Or.inl ⟨by rfl, ?_⟩; intro W hSw;  clear hSw; go_simp; try with_reducible rfl))
  try simp only [Act.put, List.setIfInBounds_toArray, List.set_cons_zero, List.set_cons_succ]
  refine wpAnyK_take (i := 7) (oi := ?_) (v := ?_) ?_ (by kernel_rfl) (by kernel_rfl) (by kernel_rfl) (fun _ _ _ h => h) (by decide) ?_ HS.out (fun _ => HR0.out) ?_
  rotate_left 2
  · (simp only [List.getElem?_toArray, List.getElem?_cons_succ, List.getElem?_cons_zero]; rfl)
  · (first | exact Or.inr ⟨by rfl, rfl⟩ | (refine Or.inl ⟨by rfl, ?_⟩; intro W hSw;  clear hSw; go_simp; try with_reducible rfl))
  try simp only [Act.put, List.setIfInBounds_toArray, List.set_cons_zero, List.set_cons_succ]
  have hc := (HX1.out.drew.st.reg ha)
  refine wpAnyK_one (i := 8) (o := ?_) (by kernel_rfl) ?_ (fun K hK => ?_)
  rotate_left 1
  · (simp only [List.getElem?_toArray, List.getElem?_cons_succ, List.getElem?_cons_zero]; rfl)
  go_simp
  have HX2 := HX1.out.drew.setR ha (v := (im : Int)) (by omega) (by have := HIM.out; omega)
  have HY := Lib.hid ((HX2.yes (W := w1.drew) (keptB w1.drew B a (.int .u64 im))).back HBK.out.drew (fun k hk => .inl hk))
  have HS2 := Lib.hid (show (w1.drew.setCell ⟨B, a, none⟩ (.int .u64 im)).heap[D]? = some (.cells #[.int .i64 5, .int .i64 a, .int .i64 b, .int .i64 al, .int .i64 cc, .int .u64 im, .int .i64 dp] 27 (0, 0)) from (Below.heap_setCell w1.drew ⟨B, a, none⟩ _ D HDB.out.1).trans HS.out)
  clear HX2
  refine hK.out _ _ HS2.out (fun _ => trivial) ?_
  clear hK K
  try simp only [Act.put, List.setIfInBounds_toArray, List.set_cons_zero, List.set_cons_succ]
  refine wpAnyK_done (by kernel_rfl) ?_ _
  refine NoPanic.normal ?_
  clear hc
  go_wp2_with fail
  go_ret
  exact HY.out

set_option maxHeartbeats 4000000 in
theorem doMovL (R : Nat → Prop) (w : World) (C B M m : Nat) (most : Int) (mp : Int → Option Pg) (s0 : StV) (fk fa : Int) (s : StV) (a b al cc im : Nat) (dp : Int) (H : Ctx R w C B M m most mp s0 fk fa s) (ha : a < 16) (hi : im < 18446744073709551616) :
    Calls Try.prog 45 #[.pointer (some ⟨C, 0, none⟩), .agg #[.int .i64 6, .int .i64 a, .int .i64 b, .int .i64 al, .int .i64 cc, .int .u64 im, .int .i64 dp], .pointer (some ⟨B, 0, none⟩)] w fun e w' => DoY R w B M m most mp (s.setR a im) e w' := by
  have haI : (a : Int) < 16 := by omega
  have HIM := Lib.hid hi
  have HSZ := Lib.hid H.mem.sz
  have HX := Lib.hid H
  have hlB := H.mem.sz B H.rB
  have hlC := H.mem.sz C H.rC
  clear H hi
  go_enter Try.func45, Try.ntmps45
  go_upto_region 1 with (fail)
  obtain ⟨w1, hw1⟩ : ∃ w1, w.alloc (.cells #[.int .i64 6, .int .i64 a, .int .i64 b, .int .i64 al, .int .i64 cc, .int .u64 im, .int .i64 dp] 27) = w1 := ⟨_, rfl⟩
  obtain ⟨D, hD⟩ : ∃ D, w.heap.size = D := ⟨_, rfl⟩
  have HX1 := Lib.hid (show Ctx (fun k => R k ∨ k = D) w1 C B M m most mp s0 fk fa s from by rw [← hw1, ← hD]; exact HX.out.boxed _)
  have HD1 := Lib.hid (show w1.heap[D]? = some (.cells #[.int .i64 6, .int .i64 a, .int .i64 b, .int .i64 al, .int .i64 cc, .int .u64 im, .int .i64 dp] 27 (0, 0)) from by rw [← hw1, ← hD]; exact heap_alloc_new w _)
  have HBK := Lib.hid (show Kept R w w1 from by rw [← hw1]; exact (Kept.refl R w).alloc HSZ.out _)
  have HDB := Lib.hid (show D ≠ B ∧ D ≠ C ∧ ¬ R D from ⟨by omega, by omega, fun h => by have := HSZ.out D h; omega⟩)
  refine (congrArg _ hw1).mpr ?_
  rw [hD]
  clear hw1 hD hlB hlC HX HSZ
  have c0 : w1.cell? ⟨D, 0, none⟩ = some (.int .i64 6) := by rw [cell_of_row' HD1.out]; rfl
  go_upto_region 17 with (fail)
  clear c0
  have HS := Lib.hid (show w1.drew.heap[D]? = some (.cells #[.int .i64 6, .int .i64 a, .int .i64 b, .int .i64 al, .int .i64 cc, .int .u64 im, .int .i64 dp] 27 (0, 0)) from HD1.out)
  have HR0 := Lib.hid trivial
  refine wp_region_noPanic ?_
  refine wp_region_K (fun W => W.heap[D]? = some (.cells #[.int .i64 6, .int .i64 a, .int .i64 b, .int .i64 al, .int .i64 cc, .int .u64 im, .int .i64 dp] 27 (0, 0))) (fun _ => True) 99 (by kernel_rfl) ?_
  refine wpAnyK_take (i := 0) (oi := ?_) (v := ?_) ?_ (by kernel_rfl) (by kernel_rfl) (by kernel_rfl) (fun _ _ _ h => h) (by decide) ?_ HS.out (fun _ => HR0.out) ?_
  rotate_left 2
  · (simp only [List.getElem?_toArray, List.getElem?_cons_succ, List.getElem?_cons_zero]; rfl)
  · (first | exact Or.inr ⟨by rfl, rfl⟩ | (refine Or.inl ⟨by rfl, ?_⟩; intro W hSw;  clear hSw; go_simp; try with_reducible rfl))
  try simp only [Act.put, List.setIfInBounds_toArray, List.set_cons_zero, List.set_cons_succ]
  refine wpAnyK_take (i := 1) (oi := ?_) (v := ?_) ?_ (by kernel_rfl) (by kernel_rfl) (by kernel_rfl) (fun _ _ _ h => h) (by decide) ?_ HS.out (fun _ => HR0.out) ?_
  rotate_left 2
  · (simp only [List.getElem?_toArray, List.getElem?_cons_succ, List.getElem?_cons_zero]; rfl)
  · (first | exact Or.inr ⟨by rfl, rfl⟩ | (refine Or.inl ⟨by rfl, ?_⟩; intro W hSw;  clear hSw; go_simp; try with_reducible rfl))
  try simp only [Act.put, List.setIfInBounds_toArray, List.set_cons_zero, List.set_cons_succ]
  refine wpAnyK_take (i := 2) (oi := ?_) (v := ?_) ?_ (by kernel_rfl) (by kernel_rfl) (by kernel_rfl) (fun _ _ _ h => h) (by decide) ?_ HS.out (fun _ => HR0.out) ?_
  rotate_left 2
  · (simp only [List.getElem?_toArray, List.getElem?_cons_succ, List.getElem?_cons_zero]; rfl)
  · (first | exact Or.inr ⟨by rfl, rfl⟩ | (refine Or.inl ⟨by rfl, ?_⟩; intro W hSw; have hq : W.cell? ⟨D, 1, none⟩ = some (.int .i64 a) := (by rw [cell_of_row' hSw]; rfl); clear hSw; go_simp; try with_reducible rfl))
  try simp only [Act.put, List.setIfInBounds_toArray, List.set_cons_zero, List.set_cons_succ]
  refine wpAnyK_take (i := 3) (oi := ?_) (v := ?_) ?_ (by kernel_rfl) (by kernel_rfl) (by kernel_rfl) (fun _ _ _ h => h) (by decide) ?_ HS.out (fun _ => HR0.out) ?_
  rotate_left 2
  · (simp only [List.getElem?_toArray, List.getElem?_cons_succ, List.getElem?_cons_zero]; rfl)
  · (first | exact Or.inr ⟨by rfl, rfl⟩ | (refine Or.inl ⟨by rfl, ?_⟩; intro W hSw;  clear hSw; go_simp; try with_reducible rfl))
  try simp only [Act.put, List.setIfInBounds_toArray, List.set_cons_zero, List.set_cons_succ]
  refine wpAnyK_take (i := 4) (oi := ?_) (v := ?_) ?_ (by kernel_rfl) (by kernel_rfl) (by kernel_rfl) (fun _ _ _ h => h) (by decide) ?_ HS.out (fun _ => HR0.out) ?_
  rotate_left 2
  · (simp only [List.getElem?_toArray, List.getElem?_cons_succ, List.getElem?_cons_zero]; rfl)
  · (first | exact Or.inr ⟨by rfl, rfl⟩ | (refine Or.inl ⟨by rfl, ?_⟩; intro W hSw; have hq : W.cell? ⟨D, 5, none⟩ = some (.int .u64 im) := (by rw [cell_of_row' hSw]; rfl); clear hSw; go_simp; try with_reducible rfl))
  try simp only [Act.put, List.setIfInBounds_toArray, List.set_cons_zero, List.set_cons_succ]
  refine wpAnyK_take (i := 5) (oi := ?_) (v := ?_) ?_ (by kernel_rfl) (by kernel_rfl) (by kernel_rfl) (fun _ _ _ h => h) (by decide) ?_ HS.out (fun _ => HR0.out) ?_
  rotate_left 2
  · (simp only [List.getElem?_toArray, List.getElem?_cons_succ, List.getElem?_cons_zero]; rfl)
  · (first | exact Or.inr ⟨by rfl, rfl⟩ | (refine Or.inl ⟨by rfl, ?_⟩; intro W hSw;  clear hSw; go_simp; try with_reducible rfl))
  try simp only [Act.put, List.setIfInBounds_toArray, List.set_cons_zero, List.set_cons_succ]
  refine wpAnyK_take (i := 6) (oi := ?_) (v := ?_) ?_ (by kernel_rfl) (by kernel_rfl) (by kernel_rfl) (fun _ _ _ h => h) (by decide) ?_ HS.out (fun _ => HR0.out) ?_
  rotate_left 2
  · (simp only [List.getElem?_toArray, List.getElem?_cons_succ, List.getElem?_cons_zero]; rfl)
  · (first | exact Or.inr ⟨by rfl, rfl⟩ | (refine Or.inl ⟨by rfl, ?_⟩; intro W hSw;  clear hSw; go_simp; try with_reducible rfl))
  try simp only [Act.put, List.setIfInBounds_toArray, List.set_cons_zero, List.set_cons_succ]
  refine wpAnyK_take (i := 7) (oi := ?_) (v := ?_) ?_ (by kernel_rfl) (by kernel_rfl) (by kernel_rfl) (fun _ _ _ h => h) (by decide) ?_ HS.out (fun _ => HR0.out) ?_
  rotate_left 2
  · (simp only [List.getElem?_toArray, List.getElem?_cons_succ, List.getElem?_cons_zero]; rfl)
  · (first | exact Or.inr ⟨by rfl, rfl⟩ | (refine Or.inl ⟨by rfl, ?_⟩; intro W hSw;  clear hSw; go_simp; try with_reducible rfl))
  try simp only [Act.put, List.setIfInBounds_toArray, List.set_cons_zero, List.set_cons_succ]
  have hc := (HX1.out.drew.st.reg ha)
  refine wpAnyK_one (i := 8) (o := ?_) (by kernel_rfl) ?_ (fun K hK => ?_)
  rotate_left 1
  · (simp only [List.getElem?_toArray, List.getElem?_cons_succ, List.getElem?_cons_zero]; rfl)
  go_simp
  have HX2 := HX1.out.drew.setR ha (v := (im : Int)) (by omega) (by have := HIM.out; omega)
  have HY := Lib.hid ((HX2.yes (W := w1.drew) (keptB w1.drew B a (.int .u64 im))).back HBK.out.drew (fun k hk => .inl hk))
  have HS2 := Lib.hid (show (w1.drew.setCell ⟨B, a, none⟩ (.int .u64 im)).heap[D]? = some (.cells #[.int .i64 6, .int .i64 a, .int .i64 b, .int .i64 al, .int .i64 cc, .int .u64 im, .int .i64 dp] 27 (0, 0)) from (Below.heap_setCell w1.drew ⟨B, a, none⟩ _ D HDB.out.1).trans HS.out)
  clear HX2
  refine hK.out _ _ HS2.out (fun _ => trivial) ?_
  clear hK K
  try simp only [Act.put, List.setIfInBounds_toArray, List.set_cons_zero, List.set_cons_succ]
  refine wpAnyK_done (by kernel_rfl) ?_ _
  refine NoPanic.normal ?_
  clear hc
  go_wp2_with fail
  go_ret
  exact HY.out

set_option maxHeartbeats 4000000 in
theorem doMov (R : Nat → Prop) (w : World) (C B M m : Nat) (most : Int) (mp : Int → Option Pg) (s0 : StV) (fk fa : Int) (s : StV) (a b al cc im : Nat) (dp : Int) (H : Ctx R w C B M m most mp s0 fk fa s) (ha : a < 16) (hb : b < 16) :
    Calls Try.prog 45 #[.pointer (some ⟨C, 0, none⟩), .agg #[.int .i64 8, .int .i64 a, .int .i64 b, .int .i64 al, .int .i64 cc, .int .u64 im, .int .i64 dp], .pointer (some ⟨B, 0, none⟩)] w fun e w' => DoY R w B M m most mp (s.setR b (s.r a)) e w' := by
  have haI : (a : Int) < 16 := by omega
  have hbI : (b : Int) < 16 := by omega
  have HSZ := Lib.hid H.mem.sz
  have HX := Lib.hid H
  have hlB := H.mem.sz B H.rB
  have hlC := H.mem.sz C H.rC
  clear H 
  go_enter Try.func45, Try.ntmps45
  go_upto_region 1 with (fail)
  obtain ⟨w1, hw1⟩ : ∃ w1, w.alloc (.cells #[.int .i64 8, .int .i64 a, .int .i64 b, .int .i64 al, .int .i64 cc, .int .u64 im, .int .i64 dp] 27) = w1 := ⟨_, rfl⟩
  obtain ⟨D, hD⟩ : ∃ D, w.heap.size = D := ⟨_, rfl⟩
  have HX1 := Lib.hid (show Ctx (fun k => R k ∨ k = D) w1 C B M m most mp s0 fk fa s from by rw [← hw1, ← hD]; exact HX.out.boxed _)
  have HD1 := Lib.hid (show w1.heap[D]? = some (.cells #[.int .i64 8, .int .i64 a, .int .i64 b, .int .i64 al, .int .i64 cc, .int .u64 im, .int .i64 dp] 27 (0, 0)) from by rw [← hw1, ← hD]; exact heap_alloc_new w _)
  have HBK := Lib.hid (show Kept R w w1 from by rw [← hw1]; exact (Kept.refl R w).alloc HSZ.out _)
  have HDB := Lib.hid (show D ≠ B ∧ D ≠ C ∧ ¬ R D from ⟨by omega, by omega, fun h => by have := HSZ.out D h; omega⟩)
  refine (congrArg _ hw1).mpr ?_
  rw [hD]
  clear hw1 hD hlB hlC HX HSZ
  have c0 : w1.cell? ⟨D, 0, none⟩ = some (.int .i64 8) := by rw [cell_of_row' HD1.out]; rfl
  go_upto_region 19 with (fail)
  clear c0
  have HS := Lib.hid (show w1.drew.heap[D]? = some (.cells #[.int .i64 8, .int .i64 a, .int .i64 b, .int .i64 al, .int .i64 cc, .int .u64 im, .int .i64 dp] 27 (0, 0)) from HD1.out)
  have HR0 := Lib.hid (show StAt w1.drew B s from HX1.out.st)
  refine wp_region_noPanic ?_
  refine wp_region_K (fun W => W.heap[D]? = some (.cells #[.int .i64 8, .int .i64 a, .int .i64 b, .int .i64 al, .int .i64 cc, .int .u64 im, .int .i64 dp] 27 (0, 0))) (fun W => StAt W B s) 13 (by kernel_rfl) ?_
  refine wpAnyK_take (i := 0) (oi := ?_) (v := ?_) ?_ (by kernel_rfl) (by kernel_rfl) (by kernel_rfl) (fun _ _ _ h => h) (by decide) ?_ HS.out (fun _ => HR0.out) ?_
  rotate_left 2
  · (simp only [List.getElem?_toArray, List.getElem?_cons_succ, List.getElem?_cons_zero]; rfl)
  · (first | exact Or.inr ⟨by rfl, rfl⟩ | (refine Or.inl ⟨by rfl, ?_⟩; intro W hSw;  clear hSw; go_simp; try with_reducible rfl))
  try simp only [Act.put, List.setIfInBounds_toArray, List.set_cons_zero, List.set_cons_succ]
  refine wpAnyK_take (i := 1) (oi := ?_) (v := ?_) ?_ (by kernel_rfl) (by kernel_rfl) (by kernel_rfl) (fun _ _ _ h => h) (by decide) ?_ HS.out (fun _ => HR0.out) ?_
  rotate_left 2
  · (simp only [List.getElem?_toArray, List.getElem?_cons_succ, List.getElem?_cons_zero]; rfl)
  · (first | exact Or.inr ⟨by rfl, rfl⟩ | (refine Or.inl ⟨by rfl, ?_⟩; intro W hSw;  clear hSw; go_simp; try with_reducible rfl))
  try simp only [Act.put, List.setIfInBounds_toArray, List.set_cons_zero, List.set_cons_succ]
  refine wpAnyK_take (i := 2) (oi := ?_) (v := ?_) ?_ (by kernel_rfl) (by kernel_rfl) (by kernel_rfl) (fun _ _ _ h => h) (by decide) ?_ HS.out (fun _ => HR0.out) ?_
  rotate_left 2
  · (simp only [List.getElem?_toArray, List.getElem?_cons_succ, List.getElem?_cons_zero]; rfl)
  · (first | exact Or.inr ⟨by rfl, rfl⟩ | (refine Or.inl ⟨by rfl, ?_⟩; intro W hSw; have hq : W.cell? ⟨D, 2, none⟩ = some (.int .i64 b) := (by rw [cell_of_row' hSw]; rfl); clear hSw; go_simp; try with_reducible rfl))
  try simp only [Act.put, List.setIfInBounds_toArray, List.set_cons_zero, List.set_cons_succ]
  refine wpAnyK_take (i := 3) (oi := ?_) (v := ?_) ?_ (by kernel_rfl) (by kernel_rfl) (by kernel_rfl) (fun _ _ _ h => h) (by decide) ?_ HS.out (fun _ => HR0.out) ?_
  rotate_left 2
  · (simp only [List.getElem?_toArray, List.getElem?_cons_succ, List.getElem?_cons_zero]; rfl)
  · (first | exact Or.inr ⟨by rfl, rfl⟩ | (refine Or.inl ⟨by rfl, ?_⟩; intro W hSw;  clear hSw; go_simp; try with_reducible rfl))
  try simp only [Act.put, List.setIfInBounds_toArray, List.set_cons_zero, List.set_cons_succ]
  refine wpAnyK_take (i := 4) (oi := ?_) (v := ?_) ?_ (by kernel_rfl) (by kernel_rfl) (by kernel_rfl) (fun _ _ _ h => h) (by decide) ?_ HS.out (fun _ => HR0.out) ?_
  rotate_left 2
  · (simp only [List.getElem?_toArray, List.getElem?_cons_succ, List.getElem?_cons_zero]; rfl)
  · (first | exact Or.inr ⟨by rfl, rfl⟩ | (refine Or.inl ⟨by rfl, ?_⟩; intro W hSw;  clear hSw; go_simp; try with_reducible rfl))
  try simp only [Act.put, List.setIfInBounds_toArray, List.set_cons_zero, List.set_cons_succ]
  refine wpAnyK_take (i := 5) (oi := ?_) (v := ?_) ?_ (by kernel_rfl) (by kernel_rfl) (by kernel_rfl) (fun _ _ _ h => h) (by decide) ?_ HS.out (fun _ => HR0.out) ?_
  rotate_left 2
  · (simp only [List.getElem?_toArray, List.getElem?_cons_succ, List.getElem?_cons_zero]; rfl)
  · (first | exact Or.inr ⟨by rfl, rfl⟩ | (refine Or.inl ⟨by rfl, ?_⟩; intro W hSw; have hq : W.cell? ⟨D, 1, none⟩ = some (.int .i64 a) := (by rw [cell_of_row' hSw]; rfl); clear hSw; go_simp; try with_reducible rfl))
  try simp only [Act.put, List.setIfInBounds_toArray, List.set_cons_zero, List.set_cons_succ]
  refine wpAnyK_take (i := 6) (oi := ?_) (v := ?_) ?_ (by kernel_rfl) (by kernel_rfl) (by kernel_rfl) (fun _ _ _ h => h) (by decide) ?_ HS.out (fun _ => HR0.out) ?_
  rotate_left 2
  · (simp only [List.getElem?_toArray, List.getElem?_cons_succ, List.getElem?_cons_zero]; rfl)
  · (first | exact Or.inr ⟨by rfl, rfl⟩ | (refine Or.inl ⟨by rfl, ?_⟩; intro W hSw;  clear hSw; go_simp; try with_reducible rfl))
  try simp only [Act.put, List.setIfInBounds_toArray, List.set_cons_zero, List.set_cons_succ]
  refine wpAnyK_take (i := 7) (oi := ?_) (v := ?_) ?_ (by kernel_rfl) (by kernel_rfl) (by kernel_rfl) (fun _ _ _ h => h) (by decide) ?_ HS.out (fun _ => HR0.out) ?_
  rotate_left 2
  · (simp only [List.getElem?_toArray, List.getElem?_cons_succ, List.getElem?_cons_zero]; rfl)
  · (first | exact Or.inr ⟨by rfl, rfl⟩ | (refine Or.inl ⟨by rfl, ?_⟩; intro W hSw;  clear hSw; go_simp; try with_reducible rfl))
  try simp only [Act.put, List.setIfInBounds_toArray, List.set_cons_zero, List.set_cons_succ]
  refine wpAnyK_take (i := 8) (oi := ?_) (v := ?_) ?_ (by kernel_rfl) (by kernel_rfl) (by kernel_rfl) (fun _ _ _ h => h) (by decide) ?_ HS.out (fun _ => HR0.out) ?_
  rotate_left 2
  · (simp only [List.getElem?_toArray, List.getElem?_cons_succ, List.getElem?_cons_zero]; rfl)
  · (first | exact Or.inr ⟨by rfl, rfl⟩ | (refine Or.inl ⟨by rfl, ?_⟩; intro W hSw;  clear hSw; go_simp; try with_reducible rfl))
  try simp only [Act.put, List.setIfInBounds_toArray, List.set_cons_zero, List.set_cons_succ]
  refine wpAnyK_direct (i := 9) (oi := ?_) (v := ?_) ?_ (by kernel_rfl) (by kernel_rfl) (by kernel_rfl) (fun _ _ _ h => h) (by decide) (by kernel_rfl) (by kernel_rfl) ?_ HS.out HR0.out ?_
  rotate_left 2
  · (simp only [List.getElem?_toArray, List.getElem?_cons_succ, List.getElem?_cons_zero]; rfl)
  · (refine Or.inl ⟨by rfl, ?_⟩; intro W hSw; have hbw := hSw.2; have hq := (StAt.reg hbw ha).1; clear hSw hbw; go_simp; try with_reducible rfl)
  try simp only [Act.put, List.setIfInBounds_toArray, List.set_cons_zero, List.set_cons_succ]
  refine wpAnyK_take (i := 10) (oi := ?_) (v := ?_) ?_ (by kernel_rfl) (by kernel_rfl) (by kernel_rfl) (fun _ _ _ h => h) (by decide) ?_ HS.out (fun _ => HR0.out) ?_
  rotate_left 2
  · (simp only [List.getElem?_toArray, List.getElem?_cons_succ, List.getElem?_cons_zero]; rfl)
  · (first | exact Or.inr ⟨by rfl, rfl⟩ | (refine Or.inl ⟨by rfl, ?_⟩; intro W hSw;  clear hSw; go_simp; try with_reducible rfl))
  try simp only [Act.put, List.setIfInBounds_toArray, List.set_cons_zero, List.set_cons_succ]
  refine wpAnyK_take (i := 11) (oi := ?_) (v := ?_) ?_ (by kernel_rfl) (by kernel_rfl) (by kernel_rfl) (fun _ _ _ h => h) (by decide) ?_ HS.out (fun _ => HR0.out) ?_
  rotate_left 2
  · (simp only [List.getElem?_toArray, List.getElem?_cons_succ, List.getElem?_cons_zero]; rfl)
  · (first | exact Or.inr ⟨by rfl, rfl⟩ | (refine Or.inl ⟨by rfl, ?_⟩; intro W hSw;  clear hSw; go_simp; try with_reducible rfl))
  try simp only [Act.put, List.setIfInBounds_toArray, List.set_cons_zero, List.set_cons_succ]
  refine wpAnyK_take (i := 12) (oi := ?_) (v := ?_) ?_ (by kernel_rfl) (by kernel_rfl) (by kernel_rfl) (fun _ _ _ h => h) (by decide) ?_ HS.out (fun _ => HR0.out) ?_
  rotate_left 2
  · (simp only [List.getElem?_toArray, List.getElem?_cons_succ, List.getElem?_cons_zero]; rfl)
  · (first | exact Or.inr ⟨by rfl, rfl⟩ | (refine Or.inl ⟨by rfl, ?_⟩; intro W hSw;  clear hSw; go_simp; try with_reducible rfl))
  try simp only [Act.put, List.setIfInBounds_toArray, List.set_cons_zero, List.set_cons_succ]
  have hc := (HX1.out.drew.st.reg hb)
  refine wpAnyK_one (i := 13) (o := ?_) (by kernel_rfl) ?_ (fun K hK => ?_)
  rotate_left 1
  · (simp only [List.getElem?_toArray, List.getElem?_cons_succ, List.getElem?_cons_zero]; rfl)
  go_simp
  have HX2 := HX1.out.drew.setR hb (v := s.r a) (HX1.out.sok.r a ha).1 (HX1.out.sok.r a ha).2
  have HY := Lib.hid ((HX2.yes (W := w1.drew) (keptB w1.drew B b (.int .u64 (s.r a)))).back HBK.out.drew (fun k hk => .inl hk))
  have HS2 := Lib.hid (show (w1.drew.setCell ⟨B, b, none⟩ (.int .u64 (s.r a))).heap[D]? = some (.cells #[.int .i64 8, .int .i64 a, .int .i64 b, .int .i64 al, .int .i64 cc, .int .u64 im, .int .i64 dp] 27 (0, 0)) from (Below.heap_setCell w1.drew ⟨B, b, none⟩ _ D HDB.out.1).trans HS.out)
  clear HX2
  refine hK.out _ _ HS2.out (fun h => by cases h) ?_
  clear hK K
  try simp only [Act.put, List.setIfInBounds_toArray, List.set_cons_zero, List.set_cons_succ]
  refine wpAnyK_done (by kernel_rfl) ?_ _
  refine NoPanic.normal ?_
  clear hc
  go_wp2_with fail
  go_ret
  exact HY.out

set_option maxHeartbeats 4000000 in
theorem doLea (R : Nat → Prop) (w : World) (C B M m : Nat) (most : Int) (mp : Int → Option Pg) (s0 : StV) (fk fa : Int) (s : StV) (a b al cc im : Nat) (dp : Int) (H : Ctx R w C B M m most mp s0 fk fa s) (ha : a < 16) :
    Calls Try.prog 45 #[.pointer (some ⟨C, 0, none⟩), .agg #[.int .i64 13, .int .i64 a, .int .i64 b, .int .i64 al, .int .i64 cc, .int .u64 im, .int .i64 dp], .pointer (some ⟨B, 0, none⟩)] w fun e w' => DoY R w B M m most mp (s.setR a (nearM s (⟨13, a, b, al, cc, im, dp⟩ : InsV))) e w' := by
  have haI : (a : Int) < 16 := by omega
  have HSZ := Lib.hid H.mem.sz
  have HX := Lib.hid H
  have hlB := H.mem.sz B H.rB
  have hlC := H.mem.sz C H.rC
  clear H 
  go_enter Try.func45, Try.ntmps45
  go_upto_region 1 with (fail)
  obtain ⟨w1, hw1⟩ : ∃ w1, w.alloc (.cells #[.int .i64 13, .int .i64 a, .int .i64 b, .int .i64 al, .int .i64 cc, .int .u64 im, .int .i64 dp] 27) = w1 := ⟨_, rfl⟩
  obtain ⟨D, hD⟩ : ∃ D, w.heap.size = D := ⟨_, rfl⟩
  have HX1 := Lib.hid (show Ctx (fun k => R k ∨ k = D) w1 C B M m most mp s0 fk fa s from by rw [← hw1, ← hD]; exact HX.out.boxed _)
  have HD1 := Lib.hid (show w1.heap[D]? = some (.cells #[.int .i64 13, .int .i64 a, .int .i64 b, .int .i64 al, .int .i64 cc, .int .u64 im, .int .i64 dp] 27 (0, 0)) from by rw [← hw1, ← hD]; exact heap_alloc_new w _)
  have HBK := Lib.hid (show Kept R w w1 from by rw [← hw1]; exact (Kept.refl R w).alloc HSZ.out _)
  have HDB := Lib.hid (show D ≠ B ∧ D ≠ C ∧ ¬ R D from ⟨by omega, by omega, fun h => by have := HSZ.out D h; omega⟩)
  refine (congrArg _ hw1).mpr ?_
  rw [hD]
  clear hw1 hD hlB hlC HX HSZ
  obtain ⟨nr, hnr⟩ : ∃ nr, nearM s (⟨13, a, b, al, cc, im, dp⟩ : InsV) = nr := ⟨_, rfl⟩
  have HNR := Lib.hid hnr
  have HNB := nearM_bd s (⟨13, a, b, al, cc, im, dp⟩ : InsV)
  rw [hnr] at HNB
  replace HNB := Lib.hid HNB
  clear hnr
  have HN := Lib.hid (show ∀ W, Below w1.heap.size w1 W → Calls Try.prog 66 #[.pointer (some ⟨B, 0, none⟩), .agg #[.int .i64 13, .int .i64 a, .int .i64 b, .int .i64 al, .int .i64 cc, .int .u64 im, .int .i64 dp]] W fun e w' => e = .returned (.int .u64 nr) ∧ Below W.heap.size W w' from fun W hW => by rw [← HNR.out]; exact near_any W B s (⟨13, a, b, al, cc, im, dp⟩ : InsV) (Own.below HX1.out.st hW (HX1.out.mem.sz B HX1.out.rB)))
  have c0 : w1.cell? ⟨D, 0, none⟩ = some (.int .i64 13) := by rw [cell_of_row' HD1.out]; rfl
  go_upto_region 21 with (fail)
  clear c0
  have HS := Lib.hid (show w1.drew.heap[D]? = some (.cells #[.int .i64 13, .int .i64 a, .int .i64 b, .int .i64 al, .int .i64 cc, .int .u64 im, .int .i64 dp] 27 (0, 0)) from HD1.out)
  have HR0 := Lib.hid trivial
  refine wp_region_noPanic ?_
  refine wp_region_K (fun W => W.heap[D]? = some (.cells #[.int .i64 13, .int .i64 a, .int .i64 b, .int .i64 al, .int .i64 cc, .int .u64 im, .int .i64 dp] 27 (0, 0))) (fun _ => True) 99 (by kernel_rfl) ?_
  refine wpAnyK_take (i := 0) (oi := ?_) (v := ?_) ?_ (by kernel_rfl) (by kernel_rfl) (by kernel_rfl) (fun _ _ _ h => h) (by decide) ?_ HS.out (fun _ => HR0.out) ?_
  rotate_left 2
  · (simp only [List.getElem?_toArray, List.getElem?_cons_succ, List.getElem?_cons_zero]; rfl)
  · (first | exact Or.inr ⟨by rfl, rfl⟩ | (refine Or.inl ⟨by rfl, ?_⟩; intro W hSw;  clear hSw; go_simp; try with_reducible rfl))
  try simp only [Act.put, List.setIfInBounds_toArray, List.set_cons_zero, List.set_cons_succ]
  refine wpAnyK_take (i := 1) (oi := ?_) (v := ?_) ?_ (by kernel_rfl) (by kernel_rfl) (by kernel_rfl) (fun _ _ _ h => h) (by decide) ?_ HS.out (fun _ => HR0.out) ?_
  rotate_left 2
  · (simp only [List.getElem?_toArray, List.getElem?_cons_succ, List.getElem?_cons_zero]; rfl)
  · (first | exact Or.inr ⟨by rfl, rfl⟩ | (refine Or.inl ⟨by rfl, ?_⟩; intro W hSw;  clear hSw; go_simp; try with_reducible rfl))
  try simp only [Act.put, List.setIfInBounds_toArray, List.set_cons_zero, List.set_cons_succ]
  refine wpAnyK_take (i := 2) (oi := ?_) (v := ?_) ?_ (by kernel_rfl) (by kernel_rfl) (by kernel_rfl) (fun _ _ _ h => h) (by decide) ?_ HS.out (fun _ => HR0.out) ?_
  rotate_left 2
  · (simp only [List.getElem?_toArray, List.getElem?_cons_succ, List.getElem?_cons_zero]; rfl)
  · (first | exact Or.inr ⟨by rfl, rfl⟩ | (refine Or.inl ⟨by rfl, ?_⟩; intro W hSw; have hq : W.cell? ⟨D, 1, none⟩ = some (.int .i64 a) := (by rw [cell_of_row' hSw]; rfl); clear hSw; go_simp; try with_reducible rfl))
  try simp only [Act.put, List.setIfInBounds_toArray, List.set_cons_zero, List.set_cons_succ]
  refine wpAnyK_take (i := 3) (oi := ?_) (v := ?_) ?_ (by kernel_rfl) (by kernel_rfl) (by kernel_rfl) (fun _ _ _ h => h) (by decide) ?_ HS.out (fun _ => HR0.out) ?_
  rotate_left 2
  · (simp only [List.getElem?_toArray, List.getElem?_cons_succ, List.getElem?_cons_zero]; rfl)
  · (first | exact Or.inr ⟨by rfl, rfl⟩ | (refine Or.inl ⟨by rfl, ?_⟩; intro W hSw;  clear hSw; go_simp; try with_reducible rfl))
  try simp only [Act.put, List.setIfInBounds_toArray, List.set_cons_zero, List.set_cons_succ]
  refine wpAnyK_take (i := 4) (oi := ?_) (v := ?_) ?_ (by kernel_rfl) (by kernel_rfl) (by kernel_rfl) (fun _ _ _ h => h) (by decide) ?_ HS.out (fun _ => HR0.out) ?_
  rotate_left 2
  · (simp only [List.getElem?_toArray, List.getElem?_cons_succ, List.getElem?_cons_zero]; rfl)
  · (first | exact Or.inr ⟨by rfl, rfl⟩ | (refine Or.inl ⟨by rfl, ?_⟩; intro W hSw; have hq0 : W.cell? ⟨D, 0, none⟩ = some (.int .i64 13) := (by rw [cell_of_row' hSw]; rfl);have hq1 : W.cell? ⟨D, 1, none⟩ = some (.int .i64 a) := (by rw [cell_of_row' hSw]; rfl);have hq2 : W.cell? ⟨D, 2, none⟩ = some (.int .i64 b) := (by rw [cell_of_row' hSw]; rfl);have hq3 : W.cell? ⟨D, 3, none⟩ = some (.int .i64 al) := (by rw [cell_of_row' hSw]; rfl);have hq4 : W.cell? ⟨D, 4, none⟩ = some (.int .i64 cc) := (by rw [cell_of_row' hSw]; rfl);have hq5 : W.cell? ⟨D, 5, none⟩ = some (.int .u64 im) := (by rw [cell_of_row' hSw]; rfl);have hq6 : W.cell? ⟨D, 6, none⟩ = some (.int .i64 dp) := (by rw [cell_of_row' hSw]; rfl); clear hSw; go_simp; try with_reducible rfl))
  try simp only [Act.put, List.setIfInBounds_toArray, List.set_cons_zero, List.set_cons_succ]
  refine wpAnyK_take (i := 6) (oi := ?_) (v := ?_) ?_ (by kernel_rfl) (by kernel_rfl) (by kernel_rfl) (fun _ _ _ h => h) (by decide) ?_ HS.out (fun _ => HR0.out) ?_
  rotate_left 2
  · (simp only [List.getElem?_toArray, List.getElem?_cons_succ, List.getElem?_cons_zero]; rfl)
  · (first | exact Or.inr ⟨by rfl, rfl⟩ | (refine Or.inl ⟨by rfl, ?_⟩; intro W hSw;  clear hSw; go_simp; try with_reducible rfl))
  try simp only [Act.put, List.setIfInBounds_toArray, List.set_cons_zero, List.set_cons_succ]
  refine wpAnyK_take (i := 7) (oi := ?_) (v := ?_) ?_ (by kernel_rfl) (by kernel_rfl) (by kernel_rfl) (fun _ _ _ h => h) (by decide) ?_ HS.out (fun _ => HR0.out) ?_
  rotate_left 2
  · (simp only [List.getElem?_toArray, List.getElem?_cons_succ, List.getElem?_cons_zero]; rfl)
  · (first | exact Or.inr ⟨by rfl, rfl⟩ | (refine Or.inl ⟨by rfl, ?_⟩; intro W hSw;  clear hSw; go_simp; try with_reducible rfl))
  try simp only [Act.put, List.setIfInBounds_toArray, List.set_cons_zero, List.set_cons_succ]
  refine wpAnyK_one (i := 5) (o := ?_) (by kernel_rfl) ?_ (fun K hK => ?_)
  rotate_left 1
  · (simp only [List.getElem?_toArray, List.getElem?_cons_succ, List.getElem?_cons_zero]; rfl)
  go_simp
  go_at_call 66
  refine (HN.out w1.drew (Below.refl _ _).drew).mono ?_
  rintro e w2 ⟨rfl, hb2⟩
  have hb3 : Below w1.heap.size w1 w2 := (Below.refl _ w1).drew.trans hb2
  have HX2 := Lib.hid (HX1.out.below hb3)
  have HBK2 := Lib.hid (HBK.out.trans (Kept.of_below hb3 (fun k hk => HX1.out.mem.sz k (.inl hk))))
  have HS2 := Lib.hid (show w2.heap[D]? = some (.cells #[.int .i64 13, .int .i64 a, .int .i64 b, .int .i64 al, .int .i64 cc, .int .u64 im, .int .i64 dp] 27 (0, 0)) from (hb3.block D (lt_of_row' HD1.out)).trans HD1.out)
  clear hb2 hb3
  refine hK.out _ _ HS2.out (fun _ => trivial) ?_
  clear hK K
  try simp only [Act.put, List.setIfInBounds_toArray, List.set_cons_zero, List.set_cons_succ]
  refine wpAnyK_take (i := 8) (oi := ?_) (v := ?_) ?_ (by kernel_rfl) (by kernel_rfl) (by kernel_rfl) (fun _ _ _ h => h) (by decide) ?_ HS2.out (fun _ => HR0.out) ?_
  rotate_left 2
  · (simp only [List.getElem?_toArray, List.getElem?_cons_succ, List.getElem?_cons_zero]; rfl)
  · (first | exact Or.inr ⟨by rfl, rfl⟩ | (refine Or.inl ⟨by rfl, ?_⟩; intro W hSw;  clear hSw; go_simp; try with_reducible rfl))
  try simp only [Act.put, List.setIfInBounds_toArray, List.set_cons_zero, List.set_cons_succ]
  have hc := (HX2.out.st.reg ha)
  refine wpAnyK_one (i := 9) (o := ?_) (by kernel_rfl) ?_ (fun K hK => ?_)
  rotate_left 1
  · (simp only [List.getElem?_toArray, List.getElem?_cons_succ, List.getElem?_cons_zero]; rfl)
  go_simp
  have HX3 := HX2.out.setR ha (v := nr) HNB.out.1 HNB.out.2
  have HY := Lib.hid ((HX3.yes (W := w2) (keptB w2 B a (.int .u64 nr))).back HBK2.out (fun k hk => .inl hk))
  have HS3 := Lib.hid (show (w2.setCell ⟨B, a, none⟩ (.int .u64 nr)).heap[D]? = some (.cells #[.int .i64 13, .int .i64 a, .int .i64 b, .int .i64 al, .int .i64 cc, .int .u64 im, .int .i64 dp] 27 (0, 0)) from (Below.heap_setCell w2 ⟨B, a, none⟩ _ D HDB.out.1).trans HS2.out)
  clear HX3
  refine hK.out _ _ HS3.out (fun _ => trivial) ?_
  clear hK K
  try simp only [Act.put, List.setIfInBounds_toArray, List.set_cons_zero, List.set_cons_succ]
  refine wpAnyK_done (by kernel_rfl) ?_ _
  refine NoPanic.normal ?_
  clear hc
  go_wp2_with fail
  go_ret
  rw [HNR.out]
  exact HY.out

set_option maxHeartbeats 4000000 in
theorem doAlu (R : Nat → Prop) (w : World) (C B M m : Nat) (most : Int) (mp : Int → Option Pg) (s0 : StV) (fk fa : Int) (s : StV) (a b al cc im : Nat) (dp : Int) (H : Ctx R w C B M m most mp s0 fk fa s) (ha : a < 16) (hb : b < 16) (v : Int) (z1 n1 c1 o1 : Bool) (hv0 : 0 ≤ v) (hv1 : v < 18446744073709551616) (hal : AluR al (s.r b) (s.r a) s.z s.s s.c s.o v z1 n1 c1 o1) :
    Calls Try.prog 45 #[.pointer (some ⟨C, 0, none⟩), .agg #[.int .i64 7, .int .i64 a, .int .i64 b, .int .i64 al, .int .i64 cc, .int .u64 im, .int .i64 dp], .pointer (some ⟨B, 0, none⟩)] w fun e w' => DoY R w B M m most mp ((s.setR b v).setF z1 n1 c1 o1) e w' := by
  have haI : (a : Int) < 16 := by omega
  have HV := Lib.hid (And.intro hv0 hv1)
  have HAL := Lib.hid hal
  have HSZ := Lib.hid H.mem.sz
  have HX := Lib.hid H
  have hlB := H.mem.sz B H.rB
  have hlC := H.mem.sz C H.rC
  clear H hv0 hv1 hal
  go_enter Try.func45, Try.ntmps45
  go_upto_region 1 with (fail)
  obtain ⟨w1, hw1⟩ : ∃ w1, w.alloc (.cells #[.int .i64 7, .int .i64 a, .int .i64 b, .int .i64 al, .int .i64 cc, .int .u64 im, .int .i64 dp] 27) = w1 := ⟨_, rfl⟩
  obtain ⟨D, hD⟩ : ∃ D, w.heap.size = D := ⟨_, rfl⟩
  have HX1 := Lib.hid (show Ctx (fun k => R k ∨ k = D) w1 C B M m most mp s0 fk fa s from by rw [← hw1, ← hD]; exact HX.out.boxed _)
  have HD1 := Lib.hid (show w1.heap[D]? = some (.cells #[.int .i64 7, .int .i64 a, .int .i64 b, .int .i64 al, .int .i64 cc, .int .u64 im, .int .i64 dp] 27 (0, 0)) from by rw [← hw1, ← hD]; exact heap_alloc_new w _)
  have HBK := Lib.hid (show Kept R w w1 from by rw [← hw1]; exact (Kept.refl R w).alloc HSZ.out _)
  have HDB := Lib.hid (show D ≠ B ∧ D ≠ C ∧ ¬ R D from ⟨by omega, by omega, fun h => by have := HSZ.out D h; omega⟩)
  refine (congrArg _ hw1).mpr ?_
  rw [hD]
  clear hw1 hD hlB hlC HX HSZ
  have c0 : w1.cell? ⟨D, 0, none⟩ = some (.int .i64 7) := by rw [cell_of_row' HD1.out]; rfl
  go_upto_region 23 with (fail)
  clear c0
  have HS := Lib.hid (show w1.drew.heap[D]? = some (.cells #[.int .i64 7, .int .i64 a, .int .i64 b, .int .i64 al, .int .i64 cc, .int .u64 im, .int .i64 dp] 27 (0, 0)) from HD1.out)
  have HR0 := Lib.hid (show StAt w1.drew B s from HX1.out.st)
  refine wp_region_noPanic ?_
  refine wp_region_K (fun W => W.heap[D]? = some (.cells #[.int .i64 7, .int .i64 a, .int .i64 b, .int .i64 al, .int .i64 cc, .int .u64 im, .int .i64 dp] 27 (0, 0))) (fun W => StAt W B s) 9 (by kernel_rfl) ?_
  refine wpAnyK_take (i := 0) (oi := ?_) (v := ?_) ?_ (by kernel_rfl) (by kernel_rfl) (by kernel_rfl) (fun _ _ _ h => h) (by decide) ?_ HS.out (fun _ => HR0.out) ?_
  rotate_left 2
  · (simp only [List.getElem?_toArray, List.getElem?_cons_succ, List.getElem?_cons_zero]; rfl)
  · (first | exact Or.inr ⟨by rfl, rfl⟩ | (refine Or.inl ⟨by rfl, ?_⟩; intro W hSw;  clear hSw; go_simp; try with_reducible rfl))
  try simp only [Act.put, List.setIfInBounds_toArray, List.set_cons_zero, List.set_cons_succ]
  refine wpAnyK_take (i := 1) (oi := ?_) (v := ?_) ?_ (by kernel_rfl) (by kernel_rfl) (by kernel_rfl) (fun _ _ _ h => h) (by decide) ?_ HS.out (fun _ => HR0.out) ?_
  rotate_left 2
  · (simp only [List.getElem?_toArray, List.getElem?_cons_succ, List.getElem?_cons_zero]; rfl)
  · (first | exact Or.inr ⟨by rfl, rfl⟩ | (refine Or.inl ⟨by rfl, ?_⟩; intro W hSw; have hq0 : W.cell? ⟨D, 0, none⟩ = some (.int .i64 7) := (by rw [cell_of_row' hSw]; rfl);have hq1 : W.cell? ⟨D, 1, none⟩ = some (.int .i64 a) := (by rw [cell_of_row' hSw]; rfl);have hq2 : W.cell? ⟨D, 2, none⟩ = some (.int .i64 b) := (by rw [cell_of_row' hSw]; rfl);have hq3 : W.cell? ⟨D, 3, none⟩ = some (.int .i64 al) := (by rw [cell_of_row' hSw]; rfl);have hq4 : W.cell? ⟨D, 4, none⟩ = some (.int .i64 cc) := (by rw [cell_of_row' hSw]; rfl);have hq5 : W.cell? ⟨D, 5, none⟩ = some (.int .u64 im) := (by rw [cell_of_row' hSw]; rfl);have hq6 : W.cell? ⟨D, 6, none⟩ = some (.int .i64 dp) := (by rw [cell_of_row' hSw]; rfl); clear hSw; go_simp; try with_reducible rfl))
  try simp only [Act.put, List.setIfInBounds_toArray, List.set_cons_zero, List.set_cons_succ]
  refine wpAnyK_take (i := 2) (oi := ?_) (v := ?_) ?_ (by kernel_rfl) (by kernel_rfl) (by kernel_rfl) (fun _ _ _ h => h) (by decide) ?_ HS.out (fun _ => HR0.out) ?_
  rotate_left 2
  · (simp only [List.getElem?_toArray, List.getElem?_cons_succ, List.getElem?_cons_zero]; rfl)
  · (first | exact Or.inr ⟨by rfl, rfl⟩ | (refine Or.inl ⟨by rfl, ?_⟩; intro W hSw;  clear hSw; go_simp; try with_reducible rfl))
  try simp only [Act.put, List.setIfInBounds_toArray, List.set_cons_zero, List.set_cons_succ]
  refine wpAnyK_take (i := 3) (oi := ?_) (v := ?_) ?_ (by kernel_rfl) (by kernel_rfl) (by kernel_rfl) (fun _ _ _ h => h) (by decide) ?_ HS.out (fun _ => HR0.out) ?_
  rotate_left 2
  · (simp only [List.getElem?_toArray, List.getElem?_cons_succ, List.getElem?_cons_zero]; rfl)
  · (first | exact Or.inr ⟨by rfl, rfl⟩ | (refine Or.inl ⟨by rfl, ?_⟩; intro W hSw;  clear hSw; go_simp; try with_reducible rfl))
  try simp only [Act.put, List.setIfInBounds_toArray, List.set_cons_zero, List.set_cons_succ]
  refine wpAnyK_take (i := 4) (oi := ?_) (v := ?_) ?_ (by kernel_rfl) (by kernel_rfl) (by kernel_rfl) (fun _ _ _ h => h) (by decide) ?_ HS.out (fun _ => HR0.out) ?_
  rotate_left 2
  · (simp only [List.getElem?_toArray, List.getElem?_cons_succ, List.getElem?_cons_zero]; rfl)
  · (first | exact Or.inr ⟨by rfl, rfl⟩ | (refine Or.inl ⟨by rfl, ?_⟩; intro W hSw; have hq : W.cell? ⟨D, 1, none⟩ = some (.int .i64 a) := (by rw [cell_of_row' hSw]; rfl); clear hSw; go_simp; try with_reducible rfl))
  try simp only [Act.put, List.setIfInBounds_toArray, List.set_cons_zero, List.set_cons_succ]
  refine wpAnyK_take (i := 5) (oi := ?_) (v := ?_) ?_ (by kernel_rfl) (by kernel_rfl) (by kernel_rfl) (fun _ _ _ h => h) (by decide) ?_ HS.out (fun _ => HR0.out) ?_
  rotate_left 2
  · (simp only [List.getElem?_toArray, List.getElem?_cons_succ, List.getElem?_cons_zero]; rfl)
  · (first | exact Or.inr ⟨by rfl, rfl⟩ | (refine Or.inl ⟨by rfl, ?_⟩; intro W hSw;  clear hSw; go_simp; try with_reducible rfl))
  try simp only [Act.put, List.setIfInBounds_toArray, List.set_cons_zero, List.set_cons_succ]
  refine wpAnyK_take (i := 6) (oi := ?_) (v := ?_) ?_ (by kernel_rfl) (by kernel_rfl) (by kernel_rfl) (fun _ _ _ h => h) (by decide) ?_ HS.out (fun _ => HR0.out) ?_
  rotate_left 2
  · (simp only [List.getElem?_toArray, List.getElem?_cons_succ, List.getElem?_cons_zero]; rfl)
  · (first | exact Or.inr ⟨by rfl, rfl⟩ | (refine Or.inl ⟨by rfl, ?_⟩; intro W hSw;  clear hSw; go_simp; try with_reducible rfl))
  try simp only [Act.put, List.setIfInBounds_toArray, List.set_cons_zero, List.set_cons_succ]
  refine wpAnyK_take (i := 7) (oi := ?_) (v := ?_) ?_ (by kernel_rfl) (by kernel_rfl) (by kernel_rfl) (fun _ _ _ h => h) (by decide) ?_ HS.out (fun _ => HR0.out) ?_
  rotate_left 2
  · (simp only [List.getElem?_toArray, List.getElem?_cons_succ, List.getElem?_cons_zero]; rfl)
  · (first | exact Or.inr ⟨by rfl, rfl⟩ | (refine Or.inl ⟨by rfl, ?_⟩; intro W hSw;  clear hSw; go_simp; try with_reducible rfl))
  try simp only [Act.put, List.setIfInBounds_toArray, List.set_cons_zero, List.set_cons_succ]
  refine wpAnyK_direct (i := 8) (oi := ?_) (v := ?_) ?_ (by kernel_rfl) (by kernel_rfl) (by kernel_rfl) (fun _ _ _ h => h) (by decide) (by kernel_rfl) (by kernel_rfl) ?_ HS.out HR0.out ?_
  rotate_left 2
  · (simp only [List.getElem?_toArray, List.getElem?_cons_succ, List.getElem?_cons_zero]; rfl)
  · (refine Or.inl ⟨by rfl, ?_⟩; intro W hSw; have hbw := hSw.2; have hq := (StAt.reg hbw ha).1; clear hSw hbw; go_simp; try with_reducible rfl)
  try simp only [Act.put, List.setIfInBounds_toArray, List.set_cons_zero, List.set_cons_succ]
  refine wpAnyK_one (i := 9) (o := ?_) (by kernel_rfl) ?_ (fun K hK => ?_)
  rotate_left 1
  · (simp only [List.getElem?_toArray, List.getElem?_cons_succ, List.getElem?_cons_zero]; rfl)
  go_simp
  go_at_call 67
  refine (show Calls Try.prog 67 #[.pointer (some ⟨B, 0, none⟩), .agg #[.int .i64 7, .int .i64 a, .int .i64 b, .int .i64 al, .int .i64 cc, .int .u64 im, .int .i64 dp], .int .u64 (s.r a)] w1.drew fun e w' => e = .returned (.tuple #[]) ∧ StAt w' B ((s.setR b v).setF z1 n1 c1 o1) ∧ w1.drew.grownBy w' (some B) from reckon_any (fun k => k < w1.drew.heap.size) w1.drew B s (⟨7, a, b, al, cc, im, dp⟩ : InsV) (s.r a) v z1 n1 c1 o1 hb HX1.out.st (fun k hk => hk) HAL.out).mono ?_
  rintro e w2 ⟨rfl, hs2, hg2⟩
  have HX2 := HX1.out.drew.turned hg2 hs2 ((HX1.out.sok.setR HV.out.1 HV.out.2).setF _ _ _ _)
  have HY := Lib.hid ((HX2.yes (W := w1.drew) (HX1.out.drew.keptBy hg2)).back HBK.out.drew (fun k hk => .inl hk))
  have HS2 := Lib.hid (show w2.heap[D]? = some (.cells #[.int .i64 7, .int .i64 a, .int .i64 b, .int .i64 al, .int .i64 cc, .int .u64 im, .int .i64 dp] 27 (0, 0)) from (hg2.block D (lt_of_row' HD1.out) (fun e => HDB.out.1 (by injection e with e))).trans HS.out)
  clear hs2 hg2 HX2
  refine hK.out _ _ HS2.out (fun h => by cases h) ?_
  clear hK K
  try simp only [Act.put, List.setIfInBounds_toArray, List.set_cons_zero, List.set_cons_succ]
  refine wpAnyK_done (by kernel_rfl) ?_ _
  refine NoPanic.normal ?_
  go_wp2_with fail
  go_ret
  exact HY.out

end Go.Proofs.Ythbgmlmcjnlopaa
