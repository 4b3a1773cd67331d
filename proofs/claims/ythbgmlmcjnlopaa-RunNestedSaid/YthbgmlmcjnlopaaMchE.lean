/- package cpu: what pushes and pops. -/
import Derived.Test.YthbgmlmcjnlopaaMchD
import Derived.Test.YthbgmlmcjnlopaaRegD
import Derived.Test.YthbgmlmcjnlopaaStoreRow
namespace Go.Proofs.Ythbgmlmcjnlopaa
open Go.ChangeShapes Go.WideShapes Go.ChangeAt Go.RowKit
set_option linter.unusedVariables false
set_option linter.unusedSimpArgs false
set_option maxRecDepth 100000

section
variable {R R' : Nat → Prop} {w W w' : World} {C B M m : Nat} {most : Int} {mp mp' : Int → Option Pg} {s0 : StV} {fk fa k a : Int} {s s' : StV} {e : Ending}
theorem Ctx.boxed (h : Ctx R w C B M m most mp s0 fk fa s) (o : Obj) : Ctx (fun k => R k ∨ k = w.heap.size) (w.alloc o) C B M m most mp s0 fk fa s := by
  have hb := (Below.refl w.heap.size w).alloc (Nat.le_refl _) o
  have h1 := h.below hb
  refine ⟨(h.mem.more hb).weaken (fun k hk => ?_), h1.cpu, h1.st, .inl h.rC, .inl h.rB, h.ne, h.ok, h.sok⟩
  rcases hk with hk | hk
  · exact .inl hk
  · exact .inr ⟨by omega, by simp; omega⟩
theorem Ctx.less (h : Ctx R' w C B M m most mp s0 fk fa s) (hs : ∀ k, R k → R' k) (hC : R C) (hB : R B) : Ctx R w C B M m most mp s0 fk fa s := ⟨h.mem.weaken hs, h.cpu, h.st, hC, hB, h.ne, h.ok, h.sok⟩
theorem DoY.back (h : DoY R' W B M m most mp' s' e w') (hk : Kept R w W) (hs : ∀ k, R k → R' k) : DoY R w B M m most mp' s' e w' :=
  ⟨h.e, h.mem.weaken hs, h.st, (hk.mono (fun k hk => hk.1)).trans (h.kept.mono (fun k hk => ⟨hs k hk.1, hk.2⟩))⟩
theorem DoN.back (h : DoN R' W C B M m most mp' s0 k a e w') (hk : Kept R w W) (hs : ∀ k, R k → R' k) : DoN R w C B M m most mp' s0 k a e w' :=
  ⟨h.e, h.mem.weaken hs, h.cpu, (hk.mono (fun k hk => hk.1)).trans (h.kept.mono (fun k hk => ⟨hs k hk.1, hk.2⟩))⟩
end

set_option maxHeartbeats 4000000 in
theorem doPush_yes (R : Nat → Prop) (w : World) (C B M m : Nat) (most : Int) (mp : Int → Option Pg) (s0 : StV) (fk fa : Int) (s : StV) (a b al cc im : Nat) (dp : Int) (H : Ctx R w C B M m most mp s0 fk fa s) (ha : a < 16) (hf : (askS mp 2 3 8 (subM (s.r 4)) 8).1 = 0) :
    Calls Try.prog 63 #[.pointer (some ⟨C, 0, none⟩), .agg #[.int .i64 3, .int .i64 a, .int .i64 b, .int .i64 al, .int .i64 cc, .int .u64 im, .int .i64 dp], .pointer (some ⟨B, 0, none⟩)] w fun e w' => DoY R w B M m most (putP mp (subM (s.r 4)) 8 (le8 (s.r a))) (s.setR 4 (subM (s.r 4))) e w' := by
  have HF := Lib.hid hf
  have haI : (a : Int) < 16 := by omega
  have HSZ := Lib.hid H.mem.sz
  have HX := Lib.hid H
  have hlB := H.mem.sz B H.rB
  have hlC := H.mem.sz C H.rC
  clear H hf
  go_enter Try.func63, Try.ntmps63
  go_upto_region 1 with (fail)
  obtain ⟨w1, hw1⟩ : ∃ w1, w.alloc (.cells #[.int .i64 3, .int .i64 a, .int .i64 b, .int .i64 al, .int .i64 cc, .int .u64 im, .int .i64 dp] 27) = w1 := ⟨_, rfl⟩
  obtain ⟨D, hD⟩ : ∃ D, w.heap.size = D := ⟨_, rfl⟩
  have HX1 := Lib.hid (show Ctx (fun k => R k ∨ k = D) w1 C B M m most mp s0 fk fa s from by rw [← hw1, ← hD]; exact HX.out.boxed _)
  have HD1 := Lib.hid (show w1.heap[D]? = some (.cells #[.int .i64 3, .int .i64 a, .int .i64 b, .int .i64 al, .int .i64 cc, .int .u64 im, .int .i64 dp] 27 (0, 0)) from by rw [← hw1, ← hD]; exact heap_alloc_new w _)
  have HBK := Lib.hid (show Kept R w w1 from by rw [← hw1]; exact (Kept.refl R w).alloc HSZ.out _)
  have HDB := Lib.hid (show D ≠ B ∧ D ≠ C ∧ ¬ R D from ⟨by omega, by omega, fun h => by have := HSZ.out D h; omega⟩)
  refine (congrArg _ hw1).mpr ?_
  rw [hD]
  clear hw1 hD hlB hlC HX HSZ
  have c0 : w1.cell? ⟨D, 0, none⟩ = some (.int .i64 3) := by rw [cell_of_row' HD1.out]; rfl
  go_upto_region 3 with (fail)
  clear c0
  have HS := Lib.hid (show w1.drew.heap[D]? = some (.cells #[.int .i64 3, .int .i64 a, .int .i64 b, .int .i64 al, .int .i64 cc, .int .u64 im, .int .i64 dp] 27 (0, 0)) from HD1.out)
  have HR0 := Lib.hid (show StAt w1.drew B s from HX1.out.st)
  refine wp_region_noPanic ?_
  refine wp_region_K (fun W => W.heap[D]? = some (.cells #[.int .i64 3, .int .i64 a, .int .i64 b, .int .i64 al, .int .i64 cc, .int .u64 im, .int .i64 dp] 27 (0, 0))) (fun W => StAt W B s) 9 (by kernel_rfl) ?_
  refine wpAnyK_take (i := 0) (oi := ?_) (v := ?_) ?_ (by kernel_rfl) (by kernel_rfl) (by kernel_rfl) (fun _ _ _ h => h) (by decide) ?_ HS.out (fun _ => HR0.out) ?_
  rotate_left 2
  · (simp only [List.getElem?_toArray, List.getElem?_cons_succ, List.getElem?_cons_zero]; rfl)
  · (first | exact Or.inr ⟨by rfl, rfl⟩ | (refine Or.inl ⟨by rfl, ?_⟩; intro W hSw;  clear hSw; go_simp; try with_reducible rfl))
  try simp only [Act.put, List.setIfInBounds_toArray, List.set_cons_zero, List.set_cons_succ]
  refine wpAnyK_take (i := 1) (oi := ?_) (v := ?_) ?_ (by kernel_rfl) (by kernel_rfl) (by kernel_rfl) (fun _ _ _ h => h) (by decide) ?_ HS.out (fun _ => HR0.out) ?_
  rotate_left 2
  · (simp only [List.getElem?_toArray, List.getElem?_cons_succ, List.getElem?_cons_zero]; rfl)
  · (first | exact Or.inr ⟨by rfl, rfl⟩ | (refine Or.inl ⟨by rfl, ?_⟩; intro W hSw;  clear hSw; go_simp; try with_reducible rfl))
  try simp only [Act.put, List.setIfInBounds_toArray, List.set_cons_zero, List.set_cons_succ]
  refine wpAnyK_take (i := 2) (oi := ?_) (v := ?_) ?_ (by kernel_rfl) (by kernel_rfl) (by kernel_rfl) (fun _ _ _ h => h) (by decide) ?_ HS.out (fun _ => HR0.out) ?_
  rotate_left 2
  · (simp only [List.getElem?_toArray, List.getElem?_cons_succ, List.getElem?_cons_zero]; rfl)
  · (first | exact Or.inr ⟨by rfl, rfl⟩ | (refine Or.inl ⟨by rfl, ?_⟩; intro W hSw;  clear hSw; go_simp; try with_reducible rfl))
  try simp only [Act.put, List.setIfInBounds_toArray, List.set_cons_zero, List.set_cons_succ]
  refine wpAnyK_take (i := 3) (oi := ?_) (v := ?_) ?_ (by kernel_rfl) (by kernel_rfl) (by kernel_rfl) (fun _ _ _ h => h) (by decide) ?_ HS.out (fun _ => HR0.out) ?_
  rotate_left 2
  · (simp only [List.getElem?_toArray, List.getElem?_cons_succ, List.getElem?_cons_zero]; rfl)
  · (first | exact Or.inr ⟨by rfl, rfl⟩ | (refine Or.inl ⟨by rfl, ?_⟩; intro W hSw;  clear hSw; go_simp; try with_reducible rfl))
  try simp only [Act.put, List.setIfInBounds_toArray, List.set_cons_zero, List.set_cons_succ]
  refine wpAnyK_take (i := 4) (oi := ?_) (v := ?_) ?_ (by kernel_rfl) (by kernel_rfl) (by kernel_rfl) (fun _ _ _ h => h) (by decide) ?_ HS.out (fun _ => HR0.out) ?_
  rotate_left 2
  · (simp only [List.getElem?_toArray, List.getElem?_cons_succ, List.getElem?_cons_zero]; rfl)
  · (first | exact Or.inr ⟨by rfl, rfl⟩ | (refine Or.inl ⟨by rfl, ?_⟩; intro W hSw; have hq : W.cell? ⟨D, 1, none⟩ = some (.int .i64 a) := (by rw [cell_of_row' hSw]; rfl); clear hSw; go_simp; try with_reducible rfl))
  try simp only [Act.put, List.setIfInBounds_toArray, List.set_cons_zero, List.set_cons_succ]
  refine wpAnyK_take (i := 5) (oi := ?_) (v := ?_) ?_ (by kernel_rfl) (by kernel_rfl) (by kernel_rfl) (fun _ _ _ h => h) (by decide) ?_ HS.out (fun _ => HR0.out) ?_
  rotate_left 2
  · (simp only [List.getElem?_toArray, List.getElem?_cons_succ, List.getElem?_cons_zero]; rfl)
  · (first | exact Or.inr ⟨by rfl, rfl⟩ | (refine Or.inl ⟨by rfl, ?_⟩; intro W hSw;  clear hSw; go_simp; try with_reducible rfl))
  try simp only [Act.put, List.setIfInBounds_toArray, List.set_cons_zero, List.set_cons_succ]
  refine wpAnyK_take (i := 6) (oi := ?_) (v := ?_) ?_ (by kernel_rfl) (by kernel_rfl) (by kernel_rfl) (fun _ _ _ h => h) (by decide) ?_ HS.out (fun _ => HR0.out) ?_
  rotate_left 2
  · (simp only [List.getElem?_toArray, List.getElem?_cons_succ, List.getElem?_cons_zero]; rfl)
  · (first | exact Or.inr ⟨by rfl, rfl⟩ | (refine Or.inl ⟨by rfl, ?_⟩; intro W hSw;  clear hSw; go_simp; try with_reducible rfl))
  try simp only [Act.put, List.setIfInBounds_toArray, List.set_cons_zero, List.set_cons_succ]
  refine wpAnyK_take (i := 7) (oi := ?_) (v := ?_) ?_ (by kernel_rfl) (by kernel_rfl) (by kernel_rfl) (fun _ _ _ h => h) (by decide) ?_ HS.out (fun _ => HR0.out) ?_
  rotate_left 2
  · (simp only [List.getElem?_toArray, List.getElem?_cons_succ, List.getElem?_cons_zero]; rfl)
  · (first | exact Or.inr ⟨by rfl, rfl⟩ | (refine Or.inl ⟨by rfl, ?_⟩; intro W hSw;  clear hSw; go_simp; try with_reducible rfl))
  try simp only [Act.put, List.setIfInBounds_toArray, List.set_cons_zero, List.set_cons_succ]
  refine wpAnyK_direct (i := 8) (oi := ?_) (v := ?_) ?_ (by kernel_rfl) (by kernel_rfl) (by kernel_rfl) (fun _ _ _ h => h) (by decide) (by kernel_rfl) (by kernel_rfl) ?_ HS.out HR0.out ?_
  rotate_left 2
  · (simp only [List.getElem?_toArray, List.getElem?_cons_succ, List.getElem?_cons_zero]; rfl)
  · (refine Or.inl ⟨by rfl, ?_⟩; intro W hSw; have hbw := hSw.2; have hq := (StAt.reg hbw ha).1; clear hSw hbw; go_simp; try with_reducible rfl)
  try simp only [Act.put, List.setIfInBounds_toArray, List.set_cons_zero, List.set_cons_succ]
  refine wpAnyK_one (i := 9) (o := ?_) (by kernel_rfl) ?_ (fun K hK => ?_)
  rotate_left 1
  · (simp only [List.getElem?_toArray, List.getElem?_cons_succ, List.getElem?_cons_zero]; rfl)
  go_simp
  go_at_call 79
  refine (push_yes _ w1.drew C B M m most mp s0 fk fa s (s.r a) (HX1.out.sok.r a ha).1 (HX1.out.sok.r a ha).2 HX1.out.drew HF.out).mono ?_
  intro e w2 hY
  have HY := Lib.hid (hY.back HBK.out.drew (fun k hk => .inl hk))
  have HS2 := Lib.hid (show w2.heap[D]? = some (.cells #[.int .i64 3, .int .i64 a, .int .i64 b, .int .i64 al, .int .i64 cc, .int .u64 im, .int .i64 dp] 27 (0, 0)) from (hY.kept.block D ⟨.inr rfl, HDB.out.1⟩).trans HS.out)
  obtain rfl := hY.e
  clear hY
  refine hK.out _ _ HS2.out (fun h => by cases h) ?_
  clear hK K
  try simp only [Act.put, List.setIfInBounds_toArray, List.set_cons_zero, List.set_cons_succ]
  refine wpAnyK_take (i := 10) (oi := ?_) (v := ?_) ?_ (by kernel_rfl) (by kernel_rfl) (by kernel_rfl) (fun _ _ _ h => h) (by decide) ?_ HS2.out (fun h => by cases h) ?_
  rotate_left 2
  · (simp only [List.getElem?_toArray, List.getElem?_cons_succ, List.getElem?_cons_zero]; rfl)
  · (first | exact Or.inr ⟨by rfl, rfl⟩ | (refine Or.inl ⟨by rfl, ?_⟩; intro W hSw;  clear hSw; go_simp; try with_reducible rfl))
  try simp only [Act.put, List.setIfInBounds_toArray, List.set_cons_zero, List.set_cons_succ]
  refine wpAnyK_done (by kernel_rfl) ?_ _
  refine NoPanic.normal ?_
  go_wp2
  go_ret
  exact HY.out

set_option maxHeartbeats 4000000 in
theorem doPush_no (R : Nat → Prop) (w : World) (C B M m : Nat) (most : Int) (mp : Int → Option Pg) (s0 : StV) (fk fa : Int) (s : StV) (a b al cc im : Nat) (dp : Int) (H : Ctx R w C B M m most mp s0 fk fa s) (ha : a < 16) (hf : (askS mp 2 3 8 (subM (s.r 4)) 8).1 ≠ 0) :
    Calls Try.prog 63 #[.pointer (some ⟨C, 0, none⟩), .agg #[.int .i64 3, .int .i64 a, .int .i64 b, .int .i64 al, .int .i64 cc, .int .u64 im, .int .i64 dp], .pointer (some ⟨B, 0, none⟩)] w fun e w' => DoN R w C B M m most (askM mp (askS mp 2 3 8 (subM (s.r 4)) 8)) s0 (askS mp 2 3 8 (subM (s.r 4)) 8).1 (askS mp 2 3 8 (subM (s.r 4)) 8).2.1 e w' := by
  have HF := Lib.hid hf
  have haI : (a : Int) < 16 := by omega
  have HSZ := Lib.hid H.mem.sz
  have HX := Lib.hid H
  have hlB := H.mem.sz B H.rB
  have hlC := H.mem.sz C H.rC
  clear H hf
  go_enter Try.func63, Try.ntmps63
  go_upto_region 1 with (fail)
  obtain ⟨w1, hw1⟩ : ∃ w1, w.alloc (.cells #[.int .i64 3, .int .i64 a, .int .i64 b, .int .i64 al, .int .i64 cc, .int .u64 im, .int .i64 dp] 27) = w1 := ⟨_, rfl⟩
  obtain ⟨D, hD⟩ : ∃ D, w.heap.size = D := ⟨_, rfl⟩
  have HX1 := Lib.hid (show Ctx (fun k => R k ∨ k = D) w1 C B M m most mp s0 fk fa s from by rw [← hw1, ← hD]; exact HX.out.boxed _)
  have HD1 := Lib.hid (show w1.heap[D]? = some (.cells #[.int .i64 3, .int .i64 a, .int .i64 b, .int .i64 al, .int .i64 cc, .int .u64 im, .int .i64 dp] 27 (0, 0)) from by rw [← hw1, ← hD]; exact heap_alloc_new w _)
  have HBK := Lib.hid (show Kept R w w1 from by rw [← hw1]; exact (Kept.refl R w).alloc HSZ.out _)
  have HDB := Lib.hid (show D ≠ B ∧ D ≠ C ∧ ¬ R D from ⟨by omega, by omega, fun h => by have := HSZ.out D h; omega⟩)
  refine (congrArg _ hw1).mpr ?_
  rw [hD]
  clear hw1 hD hlB hlC HX HSZ
  have c0 : w1.cell? ⟨D, 0, none⟩ = some (.int .i64 3) := by rw [cell_of_row' HD1.out]; rfl
  go_upto_region 3 with (fail)
  clear c0
  have HS := Lib.hid (show w1.drew.heap[D]? = some (.cells #[.int .i64 3, .int .i64 a, .int .i64 b, .int .i64 al, .int .i64 cc, .int .u64 im, .int .i64 dp] 27 (0, 0)) from HD1.out)
  have HR0 := Lib.hid (show StAt w1.drew B s from HX1.out.st)
  refine wp_region_noPanic ?_
  refine wp_region_K (fun W => W.heap[D]? = some (.cells #[.int .i64 3, .int .i64 a, .int .i64 b, .int .i64 al, .int .i64 cc, .int .u64 im, .int .i64 dp] 27 (0, 0))) (fun W => StAt W B s) 9 (by kernel_rfl) ?_
  refine wpAnyK_take (i := 0) (oi := ?_) (v := ?_) ?_ (by kernel_rfl) (by kernel_rfl) (by kernel_rfl) (fun _ _ _ h => h) (by decide) ?_ HS.out (fun _ => HR0.out) ?_
  rotate_left 2
  · (simp only [List.getElem?_toArray, List.getElem?_cons_succ, List.getElem?_cons_zero]; rfl)
  · (first | exact Or.inr ⟨by rfl, rfl⟩ | (refine Or.inl ⟨by rfl, ?_⟩; intro W hSw;  clear hSw; go_simp; try with_reducible rfl))
  try simp only [Act.put, List.setIfInBounds_toArray, List.set_cons_zero, List.set_cons_succ]
  refine wpAnyK_take (i := 1) (oi := ?_) (v := ?_) ?_ (by kernel_rfl) (by kernel_rfl) (by kernel_rfl) (fun _ _ _ h => h) (by decide) ?_ HS.out (fun _ => HR0.out) ?_
  rotate_left 2
  · (simp only [List.getElem?_toArray, List.getElem?_cons_succ, List.getElem?_cons_zero]; rfl)
  · (first | exact Or.inr ⟨by rfl, rfl⟩ | (refine Or.inl ⟨by rfl, ?_⟩; intro W hSw;  clear hSw; go_simp; try with_reducible rfl))
  try simp only [Act.put, List.setIfInBounds_toArray, List.set_cons_zero, List.set_cons_succ]
  refine wpAnyK_take (i := 2) (oi := ?_) (v := ?_) ?_ (by kernel_rfl) (by kernel_rfl) (by kernel_rfl) (fun _ _ _ h => h) (by decide) ?_ HS.out (fun _ => HR0.out) ?_
  rotate_left 2
  · (simp only [List.getElem?_toArray, List.getElem?_cons_succ, List.getElem?_cons_zero]; rfl)
  · (first | exact Or.inr ⟨by rfl, rfl⟩ | (refine Or.inl ⟨by rfl, ?_⟩; intro W hSw;  clear hSw; go_simp; try with_reducible rfl))
  try simp only [Act.put, List.setIfInBounds_toArray, List.set_cons_zero, List.set_cons_succ]
  refine wpAnyK_take (i := 3) (oi := ?_) (v := ?_) ?_ (by kernel_rfl) (by kernel_rfl) (by kernel_rfl) (fun _ _ _ h => h) (by decide) ?_ HS.out (fun _ => HR0.out) ?_
  rotate_left 2
  · (simp only [List.getElem?_toArray, List.getElem?_cons_succ, List.getElem?_cons_zero]; rfl)
  · (first | exact Or.inr ⟨by rfl, rfl⟩ | (refine Or.inl ⟨by rfl, ?_⟩; intro W hSw;  clear hSw; go_simp; try with_reducible rfl))
  try simp only [Act.put, List.setIfInBounds_toArray, List.set_cons_zero, List.set_cons_succ]
  refine wpAnyK_take (i := 4) (oi := ?_) (v := ?_) ?_ (by kernel_rfl) (by kernel_rfl) (by kernel_rfl) (fun _ _ _ h => h) (by decide) ?_ HS.out (fun _ => HR0.out) ?_
  rotate_left 2
  · (simp only [List.getElem?_toArray, List.getElem?_cons_succ, List.getElem?_cons_zero]; rfl)
  · (first | exact Or.inr ⟨by rfl, rfl⟩ | (refine Or.inl ⟨by rfl, ?_⟩; intro W hSw; have hq : W.cell? ⟨D, 1, none⟩ = some (.int .i64 a) := (by rw [cell_of_row' hSw]; rfl); clear hSw; go_simp; try with_reducible rfl))
  try simp only [Act.put, List.setIfInBounds_toArray, List.set_cons_zero, List.set_cons_succ]
  refine wpAnyK_take (i := 5) (oi := ?_) (v := ?_) ?_ (by kernel_rfl) (by kernel_rfl) (by kernel_rfl) (fun _ _ _ h => h) (by decide) ?_ HS.out (fun _ => HR0.out) ?_
  rotate_left 2
  · (simp only [List.getElem?_toArray, List.getElem?_cons_succ, List.getElem?_cons_zero]; rfl)
  · (first | exact Or.inr ⟨by rfl, rfl⟩ | (refine Or.inl ⟨by rfl, ?_⟩; intro W hSw;  clear hSw; go_simp; try with_reducible rfl))
  try simp only [Act.put, List.setIfInBounds_toArray, List.set_cons_zero, List.set_cons_succ]
  refine wpAnyK_take (i := 6) (oi := ?_) (v := ?_) ?_ (by kernel_rfl) (by kernel_rfl) (by kernel_rfl) (fun _ _ _ h => h) (by decide) ?_ HS.out (fun _ => HR0.out) ?_
  rotate_left 2
  · (simp only [List.getElem?_toArray, List.getElem?_cons_succ, List.getElem?_cons_zero]; rfl)
  · (first | exact Or.inr ⟨by rfl, rfl⟩ | (refine Or.inl ⟨by rfl, ?_⟩; intro W hSw;  clear hSw; go_simp; try with_reducible rfl))
  try simp only [Act.put, List.setIfInBounds_toArray, List.set_cons_zero, List.set_cons_succ]
  refine wpAnyK_take (i := 7) (oi := ?_) (v := ?_) ?_ (by kernel_rfl) (by kernel_rfl) (by kernel_rfl) (fun _ _ _ h => h) (by decide) ?_ HS.out (fun _ => HR0.out) ?_
  rotate_left 2
  · (simp only [List.getElem?_toArray, List.getElem?_cons_succ, List.getElem?_cons_zero]; rfl)
  · (first | exact Or.inr ⟨by rfl, rfl⟩ | (refine Or.inl ⟨by rfl, ?_⟩; intro W hSw;  clear hSw; go_simp; try with_reducible rfl))
  try simp only [Act.put, List.setIfInBounds_toArray, List.set_cons_zero, List.set_cons_succ]
  refine wpAnyK_direct (i := 8) (oi := ?_) (v := ?_) ?_ (by kernel_rfl) (by kernel_rfl) (by kernel_rfl) (fun _ _ _ h => h) (by decide) (by kernel_rfl) (by kernel_rfl) ?_ HS.out HR0.out ?_
  rotate_left 2
  · (simp only [List.getElem?_toArray, List.getElem?_cons_succ, List.getElem?_cons_zero]; rfl)
  · (refine Or.inl ⟨by rfl, ?_⟩; intro W hSw; have hbw := hSw.2; have hq := (StAt.reg hbw ha).1; clear hSw hbw; go_simp; try with_reducible rfl)
  try simp only [Act.put, List.setIfInBounds_toArray, List.set_cons_zero, List.set_cons_succ]
  refine wpAnyK_one (i := 9) (o := ?_) (by kernel_rfl) ?_ (fun K hK => ?_)
  rotate_left 1
  · (simp only [List.getElem?_toArray, List.getElem?_cons_succ, List.getElem?_cons_zero]; rfl)
  go_simp
  go_at_call 79
  refine (push_no _ w1.drew C B M m most mp s0 fk fa s (s.r a) (HX1.out.sok.r a ha).1 (HX1.out.sok.r a ha).2 HX1.out.drew HF.out).mono ?_
  intro e w2 hY
  have HY := Lib.hid (hY.back HBK.out.drew (fun k hk => .inl hk))
  have HS2 := Lib.hid (show w2.heap[D]? = some (.cells #[.int .i64 3, .int .i64 a, .int .i64 b, .int .i64 al, .int .i64 cc, .int .u64 im, .int .i64 dp] 27 (0, 0)) from (hY.kept.block D ⟨.inr rfl, HDB.out.2.1, HDB.out.1⟩).trans HS.out)
  obtain rfl := hY.e
  clear hY
  refine hK.out _ _ HS2.out (fun h => by cases h) ?_
  clear hK K
  try simp only [Act.put, List.setIfInBounds_toArray, List.set_cons_zero, List.set_cons_succ]
  refine wpAnyK_take (i := 10) (oi := ?_) (v := ?_) ?_ (by kernel_rfl) (by kernel_rfl) (by kernel_rfl) (fun _ _ _ h => h) (by decide) ?_ HS2.out (fun h => by cases h) ?_
  rotate_left 2
  · (simp only [List.getElem?_toArray, List.getElem?_cons_succ, List.getElem?_cons_zero]; rfl)
  · (first | exact Or.inr ⟨by rfl, rfl⟩ | (refine Or.inl ⟨by rfl, ?_⟩; intro W hSw;  clear hSw; go_simp; try with_reducible rfl))
  try simp only [Act.put, List.setIfInBounds_toArray, List.set_cons_zero, List.set_cons_succ]
  refine wpAnyK_done (by kernel_rfl) ?_ _
  refine NoPanic.normal ?_
  go_wp2
  go_ret
  exact HY.out

set_option maxHeartbeats 4000000 in
theorem doPop_yes (R : Nat → Prop) (w : World) (C B M m : Nat) (most : Int) (mp : Int → Option Pg) (s0 : StV) (fk fa : Int) (s : StV) (a b al cc im : Nat) (dp : Int) (H : Ctx R w C B M m most mp s0 fk fa s) (ha : a < 16) (hf : (askS mp 1 2 8 (s.r 4) 8).1 = 0) :
    Calls Try.prog 63 #[.pointer (some ⟨C, 0, none⟩), .agg #[.int .i64 4, .int .i64 a, .int .i64 b, .int .i64 al, .int .i64 cc, .int .u64 im, .int .i64 dp], .pointer (some ⟨B, 0, none⟩)] w fun e w' => DoY R w B M m most mp ((s.setR 4 (addM (s.r 4))).setR a (numM mp (s.r 4))) e w' := by
  have HF := Lib.hid hf
  have haI : (a : Int) < 16 := by omega
  have HSZ := Lib.hid H.mem.sz
  have HX := Lib.hid H
  have hlB := H.mem.sz B H.rB
  have hlC := H.mem.sz C H.rC
  clear H hf
  go_enter Try.func63, Try.ntmps63
  go_upto_region 1 with (fail)
  obtain ⟨w1, hw1⟩ : ∃ w1, w.alloc (.cells #[.int .i64 4, .int .i64 a, .int .i64 b, .int .i64 al, .int .i64 cc, .int .u64 im, .int .i64 dp] 27) = w1 := ⟨_, rfl⟩
  obtain ⟨D, hD⟩ : ∃ D, w.heap.size = D := ⟨_, rfl⟩
  have HX1 := Lib.hid (show Ctx (fun k => R k ∨ k = D) w1 C B M m most mp s0 fk fa s from by rw [← hw1, ← hD]; exact HX.out.boxed _)
  have HD1 := Lib.hid (show w1.heap[D]? = some (.cells #[.int .i64 4, .int .i64 a, .int .i64 b, .int .i64 al, .int .i64 cc, .int .u64 im, .int .i64 dp] 27 (0, 0)) from by rw [← hw1, ← hD]; exact heap_alloc_new w _)
  have HBK := Lib.hid (show Kept R w w1 from by rw [← hw1]; exact (Kept.refl R w).alloc HSZ.out _)
  have HDB := Lib.hid (show D ≠ B ∧ D ≠ C ∧ ¬ R D from ⟨by omega, by omega, fun h => by have := HSZ.out D h; omega⟩)
  refine (congrArg _ hw1).mpr ?_
  rw [hD]
  clear hw1 hD hlB hlC HX HSZ
  have c0 : w1.cell? ⟨D, 0, none⟩ = some (.int .i64 4) := by rw [cell_of_row' HD1.out]; rfl
  go_upto_region 5 with (fail)
  clear c0
  have HS := Lib.hid (show w1.drew.heap[D]? = some (.cells #[.int .i64 4, .int .i64 a, .int .i64 b, .int .i64 al, .int .i64 cc, .int .u64 im, .int .i64 dp] 27 (0, 0)) from HD1.out)
  have HR0 := Lib.hid trivial
  refine wp_region_noPanic ?_
  refine wp_region_K (fun W => W.heap[D]? = some (.cells #[.int .i64 4, .int .i64 a, .int .i64 b, .int .i64 al, .int .i64 cc, .int .u64 im, .int .i64 dp] 27 (0, 0))) (fun _ => True) 99 (by kernel_rfl) ?_
  refine wpAnyK_take (i := 0) (oi := ?_) (v := ?_) ?_ (by kernel_rfl) (by kernel_rfl) (by kernel_rfl) (fun _ _ _ h => h) (by decide) ?_ HS.out (fun _ => HR0.out) ?_
  rotate_left 2
  · (simp only [List.getElem?_toArray, List.getElem?_cons_succ, List.getElem?_cons_zero]; rfl)
  · (first | exact Or.inr ⟨by rfl, rfl⟩ | (refine Or.inl ⟨by rfl, ?_⟩; intro W hSw;  clear hSw; go_simp; try with_reducible rfl))
  try simp only [Act.put, List.setIfInBounds_toArray, List.set_cons_zero, List.set_cons_succ]
  refine wpAnyK_take (i := 1) (oi := ?_) (v := ?_) ?_ (by kernel_rfl) (by kernel_rfl) (by kernel_rfl) (fun _ _ _ h => h) (by decide) ?_ HS.out (fun _ => HR0.out) ?_
  rotate_left 2
  · (simp only [List.getElem?_toArray, List.getElem?_cons_succ, List.getElem?_cons_zero]; rfl)
  · (first | exact Or.inr ⟨by rfl, rfl⟩ | (refine Or.inl ⟨by rfl, ?_⟩; intro W hSw;  clear hSw; go_simp; try with_reducible rfl))
  try simp only [Act.put, List.setIfInBounds_toArray, List.set_cons_zero, List.set_cons_succ]
  refine wpAnyK_take (i := 2) (oi := ?_) (v := ?_) ?_ (by kernel_rfl) (by kernel_rfl) (by kernel_rfl) (fun _ _ _ h => h) (by decide) ?_ HS.out (fun _ => HR0.out) ?_
  rotate_left 2
  · (simp only [List.getElem?_toArray, List.getElem?_cons_succ, List.getElem?_cons_zero]; rfl)
  · (first | exact Or.inr ⟨by rfl, rfl⟩ | (refine Or.inl ⟨by rfl, ?_⟩; intro W hSw;  clear hSw; go_simp; try with_reducible rfl))
  try simp only [Act.put, List.setIfInBounds_toArray, List.set_cons_zero, List.set_cons_succ]
  refine wpAnyK_take (i := 3) (oi := ?_) (v := ?_) ?_ (by kernel_rfl) (by kernel_rfl) (by kernel_rfl) (fun _ _ _ h => h) (by decide) ?_ HS.out (fun _ => HR0.out) ?_
  rotate_left 2
  · (simp only [List.getElem?_toArray, List.getElem?_cons_succ, List.getElem?_cons_zero]; rfl)
  · (first | exact Or.inr ⟨by rfl, rfl⟩ | (refine Or.inl ⟨by rfl, ?_⟩; intro W hSw;  clear hSw; go_simp; try with_reducible rfl))
  try simp only [Act.put, List.setIfInBounds_toArray, List.set_cons_zero, List.set_cons_succ]
  refine wpAnyK_take (i := 4) (oi := ?_) (v := ?_) ?_ (by kernel_rfl) (by kernel_rfl) (by kernel_rfl) (fun _ _ _ h => h) (by decide) ?_ HS.out (fun _ => HR0.out) ?_
  rotate_left 2
  · (simp only [List.getElem?_toArray, List.getElem?_cons_succ, List.getElem?_cons_zero]; rfl)
  · (first | exact Or.inr ⟨by rfl, rfl⟩ | (refine Or.inl ⟨by rfl, ?_⟩; intro W hSw; have hq : W.cell? ⟨D, 1, none⟩ = some (.int .i64 a) := (by rw [cell_of_row' hSw]; rfl); clear hSw; go_simp; try with_reducible rfl))
  try simp only [Act.put, List.setIfInBounds_toArray, List.set_cons_zero, List.set_cons_succ]
  refine wpAnyK_take (i := 5) (oi := ?_) (v := ?_) ?_ (by kernel_rfl) (by kernel_rfl) (by kernel_rfl) (fun _ _ _ h => h) (by decide) ?_ HS.out (fun _ => HR0.out) ?_
  rotate_left 2
  · (simp only [List.getElem?_toArray, List.getElem?_cons_succ, List.getElem?_cons_zero]; rfl)
  · (first | exact Or.inr ⟨by rfl, rfl⟩ | (refine Or.inl ⟨by rfl, ?_⟩; intro W hSw;  clear hSw; go_simp; try with_reducible rfl))
  try simp only [Act.put, List.setIfInBounds_toArray, List.set_cons_zero, List.set_cons_succ]
  refine wpAnyK_take (i := 6) (oi := ?_) (v := ?_) ?_ (by kernel_rfl) (by kernel_rfl) (by kernel_rfl) (fun _ _ _ h => h) (by decide) ?_ HS.out (fun _ => HR0.out) ?_
  rotate_left 2
  · (simp only [List.getElem?_toArray, List.getElem?_cons_succ, List.getElem?_cons_zero]; rfl)
  · (first | exact Or.inr ⟨by rfl, rfl⟩ | (refine Or.inl ⟨by rfl, ?_⟩; intro W hSw;  clear hSw; go_simp; try with_reducible rfl))
  try simp only [Act.put, List.setIfInBounds_toArray, List.set_cons_zero, List.set_cons_succ]
  refine wpAnyK_take (i := 7) (oi := ?_) (v := ?_) ?_ (by kernel_rfl) (by kernel_rfl) (by kernel_rfl) (fun _ _ _ h => h) (by decide) ?_ HS.out (fun _ => HR0.out) ?_
  rotate_left 2
  · (simp only [List.getElem?_toArray, List.getElem?_cons_succ, List.getElem?_cons_zero]; rfl)
  · (first | exact Or.inr ⟨by rfl, rfl⟩ | (refine Or.inl ⟨by rfl, ?_⟩; intro W hSw;  clear hSw; go_simp; try with_reducible rfl))
  try simp only [Act.put, List.setIfInBounds_toArray, List.set_cons_zero, List.set_cons_succ]
  refine wpAnyK_one (i := 8) (o := ?_) (by kernel_rfl) ?_ (fun K hK => ?_)
  rotate_left 1
  · (simp only [List.getElem?_toArray, List.getElem?_cons_succ, List.getElem?_cons_zero]; rfl)
  go_simp
  go_at_call 80
  refine (pop_reg _ w1.drew C B M m most mp s0 fk fa s a ha HX1.out.drew HF.out).mono ?_
  intro e w2 hY
  have HY := Lib.hid (hY.back HBK.out.drew (fun k hk => .inl hk))
  have HS2 := Lib.hid (show w2.heap[D]? = some (.cells #[.int .i64 4, .int .i64 a, .int .i64 b, .int .i64 al, .int .i64 cc, .int .u64 im, .int .i64 dp] 27 (0, 0)) from (hY.kept.block D ⟨.inr rfl, HDB.out.1⟩).trans HS.out)
  obtain rfl := hY.e
  clear hY
  refine hK.out _ _ HS2.out (fun _ => trivial) ?_
  clear hK K
  try simp only [Act.put, List.setIfInBounds_toArray, List.set_cons_zero, List.set_cons_succ]
  refine wpAnyK_take (i := 9) (oi := ?_) (v := ?_) ?_ (by kernel_rfl) (by kernel_rfl) (by kernel_rfl) (fun _ _ _ h => h) (by decide) ?_ HS2.out (fun _ => HR0.out) ?_
  rotate_left 2
  · (simp only [List.getElem?_toArray, List.getElem?_cons_succ, List.getElem?_cons_zero]; rfl)
  · (first | exact Or.inr ⟨by rfl, rfl⟩ | (refine Or.inl ⟨by rfl, ?_⟩; intro W hSw;  clear hSw; go_simp; try with_reducible rfl))
  try simp only [Act.put, List.setIfInBounds_toArray, List.set_cons_zero, List.set_cons_succ]
  refine wpAnyK_done (by kernel_rfl) ?_ _
  refine NoPanic.normal ?_
  go_wp2
  go_ret
  exact HY.out

set_option maxHeartbeats 4000000 in
theorem doPop_no (R : Nat → Prop) (w : World) (C B M m : Nat) (most : Int) (mp : Int → Option Pg) (s0 : StV) (fk fa : Int) (s : StV) (a b al cc im : Nat) (dp : Int) (H : Ctx R w C B M m most mp s0 fk fa s) (ha : a < 16) (hf : (askS mp 1 2 8 (s.r 4) 8).1 ≠ 0) :
    Calls Try.prog 63 #[.pointer (some ⟨C, 0, none⟩), .agg #[.int .i64 4, .int .i64 a, .int .i64 b, .int .i64 al, .int .i64 cc, .int .u64 im, .int .i64 dp], .pointer (some ⟨B, 0, none⟩)] w fun e w' => DoN R w C B M m most (askM mp (askS mp 1 2 8 (s.r 4) 8)) s0 (askS mp 1 2 8 (s.r 4) 8).1 (askS mp 1 2 8 (s.r 4) 8).2.1 e w' := by
  have HF := Lib.hid hf
  have haI : (a : Int) < 16 := by omega
  have HSZ := Lib.hid H.mem.sz
  have HX := Lib.hid H
  have hlB := H.mem.sz B H.rB
  have hlC := H.mem.sz C H.rC
  clear H hf
  go_enter Try.func63, Try.ntmps63
  go_upto_region 1 with (fail)
  obtain ⟨w1, hw1⟩ : ∃ w1, w.alloc (.cells #[.int .i64 4, .int .i64 a, .int .i64 b, .int .i64 al, .int .i64 cc, .int .u64 im, .int .i64 dp] 27) = w1 := ⟨_, rfl⟩
  obtain ⟨D, hD⟩ : ∃ D, w.heap.size = D := ⟨_, rfl⟩
  have HX1 := Lib.hid (show Ctx (fun k => R k ∨ k = D) w1 C B M m most mp s0 fk fa s from by rw [← hw1, ← hD]; exact HX.out.boxed _)
  have HD1 := Lib.hid (show w1.heap[D]? = some (.cells #[.int .i64 4, .int .i64 a, .int .i64 b, .int .i64 al, .int .i64 cc, .int .u64 im, .int .i64 dp] 27 (0, 0)) from by rw [← hw1, ← hD]; exact heap_alloc_new w _)
  have HBK := Lib.hid (show Kept R w w1 from by rw [← hw1]; exact (Kept.refl R w).alloc HSZ.out _)
  have HDB := Lib.hid (show D ≠ B ∧ D ≠ C ∧ ¬ R D from ⟨by omega, by omega, fun h => by have := HSZ.out D h; omega⟩)
  refine (congrArg _ hw1).mpr ?_
  rw [hD]
  clear hw1 hD hlB hlC HX HSZ
  have c0 : w1.cell? ⟨D, 0, none⟩ = some (.int .i64 4) := by rw [cell_of_row' HD1.out]; rfl
  go_upto_region 5 with (fail)
  clear c0
  have HS := Lib.hid (show w1.drew.heap[D]? = some (.cells #[.int .i64 4, .int .i64 a, .int .i64 b, .int .i64 al, .int .i64 cc, .int .u64 im, .int .i64 dp] 27 (0, 0)) from HD1.out)
  have HR0 := Lib.hid trivial
  refine wp_region_noPanic ?_
  refine wp_region_K (fun W => W.heap[D]? = some (.cells #[.int .i64 4, .int .i64 a, .int .i64 b, .int .i64 al, .int .i64 cc, .int .u64 im, .int .i64 dp] 27 (0, 0))) (fun _ => True) 99 (by kernel_rfl) ?_
  refine wpAnyK_take (i := 0) (oi := ?_) (v := ?_) ?_ (by kernel_rfl) (by kernel_rfl) (by kernel_rfl) (fun _ _ _ h => h) (by decide) ?_ HS.out (fun _ => HR0.out) ?_
  rotate_left 2
  · (simp only [List.getElem?_toArray, List.getElem?_cons_succ, List.getElem?_cons_zero]; rfl)
  · (first | exact Or.inr ⟨by rfl, rfl⟩ | (refine Or.inl ⟨by rfl, ?_⟩; intro W hSw;  clear hSw; go_simp; try with_reducible rfl))
  try simp only [Act.put, List.setIfInBounds_toArray, List.set_cons_zero, List.set_cons_succ]
  refine wpAnyK_take (i := 1) (oi := ?_) (v := ?_) ?_ (by kernel_rfl) (by kernel_rfl) (by kernel_rfl) (fun _ _ _ h => h) (by decide) ?_ HS.out (fun _ => HR0.out) ?_
  rotate_left 2
  · (simp only [List.getElem?_toArray, List.getElem?_cons_succ, List.getElem?_cons_zero]; rfl)
  · (first | exact Or.inr ⟨by rfl, rfl⟩ | (refine Or.inl ⟨by rfl, ?_⟩; intro W hSw;  clear hSw; go_simp; try with_reducible rfl))
  try simp only [Act.put, List.setIfInBounds_toArray, List.set_cons_zero, List.set_cons_succ]
  refine wpAnyK_take (i := 2) (oi := ?_) (v := ?_) ?_ (by kernel_rfl) (by kernel_rfl) (by kernel_rfl) (fun _ _ _ h => h) (by decide) ?_ HS.out (fun _ => HR0.out) ?_
  rotate_left 2
  · (simp only [List.getElem?_toArray, List.getElem?_cons_succ, List.getElem?_cons_zero]; rfl)
  · (first | exact Or.inr ⟨by rfl, rfl⟩ | (refine Or.inl ⟨by rfl, ?_⟩; intro W hSw;  clear hSw; go_simp; try with_reducible rfl))
  try simp only [Act.put, List.setIfInBounds_toArray, List.set_cons_zero, List.set_cons_succ]
  refine wpAnyK_take (i := 3) (oi := ?_) (v := ?_) ?_ (by kernel_rfl) (by kernel_rfl) (by kernel_rfl) (fun _ _ _ h => h) (by decide) ?_ HS.out (fun _ => HR0.out) ?_
  rotate_left 2
  · (simp only [List.getElem?_toArray, List.getElem?_cons_succ, List.getElem?_cons_zero]; rfl)
  · (first | exact Or.inr ⟨by rfl, rfl⟩ | (refine Or.inl ⟨by rfl, ?_⟩; intro W hSw;  clear hSw; go_simp; try with_reducible rfl))
  try simp only [Act.put, List.setIfInBounds_toArray, List.set_cons_zero, List.set_cons_succ]
  refine wpAnyK_take (i := 4) (oi := ?_) (v := ?_) ?_ (by kernel_rfl) (by kernel_rfl) (by kernel_rfl) (fun _ _ _ h => h) (by decide) ?_ HS.out (fun _ => HR0.out) ?_
  rotate_left 2
  · (simp only [List.getElem?_toArray, List.getElem?_cons_succ, List.getElem?_cons_zero]; rfl)
  · (first | exact Or.inr ⟨by rfl, rfl⟩ | (refine Or.inl ⟨by rfl, ?_⟩; intro W hSw; have hq : W.cell? ⟨D, 1, none⟩ = some (.int .i64 a) := (by rw [cell_of_row' hSw]; rfl); clear hSw; go_simp; try with_reducible rfl))
  try simp only [Act.put, List.setIfInBounds_toArray, List.set_cons_zero, List.set_cons_succ]
  refine wpAnyK_take (i := 5) (oi := ?_) (v := ?_) ?_ (by kernel_rfl) (by kernel_rfl) (by kernel_rfl) (fun _ _ _ h => h) (by decide) ?_ HS.out (fun _ => HR0.out) ?_
  rotate_left 2
  · (simp only [List.getElem?_toArray, List.getElem?_cons_succ, List.getElem?_cons_zero]; rfl)
  · (first | exact Or.inr ⟨by rfl, rfl⟩ | (refine Or.inl ⟨by rfl, ?_⟩; intro W hSw;  clear hSw; go_simp; try with_reducible rfl))
  try simp only [Act.put, List.setIfInBounds_toArray, List.set_cons_zero, List.set_cons_succ]
  refine wpAnyK_take (i := 6) (oi := ?_) (v := ?_) ?_ (by kernel_rfl) (by kernel_rfl) (by kernel_rfl) (fun _ _ _ h => h) (by decide) ?_ HS.out (fun _ => HR0.out) ?_
  rotate_left 2
  · (simp only [List.getElem?_toArray, List.getElem?_cons_succ, List.getElem?_cons_zero]; rfl)
  · (first | exact Or.inr ⟨by rfl, rfl⟩ | (refine Or.inl ⟨by rfl, ?_⟩; intro W hSw;  clear hSw; go_simp; try with_reducible rfl))
  try simp only [Act.put, List.setIfInBounds_toArray, List.set_cons_zero, List.set_cons_succ]
  refine wpAnyK_take (i := 7) (oi := ?_) (v := ?_) ?_ (by kernel_rfl) (by kernel_rfl) (by kernel_rfl) (fun _ _ _ h => h) (by decide) ?_ HS.out (fun _ => HR0.out) ?_
  rotate_left 2
  · (simp only [List.getElem?_toArray, List.getElem?_cons_succ, List.getElem?_cons_zero]; rfl)
  · (first | exact Or.inr ⟨by rfl, rfl⟩ | (refine Or.inl ⟨by rfl, ?_⟩; intro W hSw;  clear hSw; go_simp; try with_reducible rfl))
  try simp only [Act.put, List.setIfInBounds_toArray, List.set_cons_zero, List.set_cons_succ]
  refine wpAnyK_one (i := 8) (o := ?_) (by kernel_rfl) ?_ (fun K hK => ?_)
  rotate_left 1
  · (simp only [List.getElem?_toArray, List.getElem?_cons_succ, List.getElem?_cons_zero]; rfl)
  go_simp
  go_at_call 80
  refine (pop_no _ w1.drew C B M m most mp s0 fk fa s _ HX1.out.drew HF.out).mono ?_
  intro e w2 hY
  have HY := Lib.hid (hY.back HBK.out.drew (fun k hk => .inl hk))
  have HS2 := Lib.hid (show w2.heap[D]? = some (.cells #[.int .i64 4, .int .i64 a, .int .i64 b, .int .i64 al, .int .i64 cc, .int .u64 im, .int .i64 dp] 27 (0, 0)) from (hY.kept.block D ⟨.inr rfl, HDB.out.2.1, HDB.out.1⟩).trans HS.out)
  obtain rfl := hY.e
  clear hY
  refine hK.out _ _ HS2.out (fun _ => trivial) ?_
  clear hK K
  try simp only [Act.put, List.setIfInBounds_toArray, List.set_cons_zero, List.set_cons_succ]
  refine wpAnyK_take (i := 9) (oi := ?_) (v := ?_) ?_ (by kernel_rfl) (by kernel_rfl) (by kernel_rfl) (fun _ _ _ h => h) (by decide) ?_ HS2.out (fun _ => HR0.out) ?_
  rotate_left 2
  · (simp only [List.getElem?_toArray, List.getElem?_cons_succ, List.getElem?_cons_zero]; rfl)
  · (first | exact Or.inr ⟨by rfl, rfl⟩ | (refine Or.inl ⟨by rfl, ?_⟩; intro W hSw;  clear hSw; go_simp; try with_reducible rfl))
  try simp only [Act.put, List.setIfInBounds_toArray, List.set_cons_zero, List.set_cons_succ]
  refine wpAnyK_done (by kernel_rfl) ?_ _
  refine NoPanic.normal ?_
  go_wp2
  go_ret
  exact HY.out

set_option maxHeartbeats 4000000 in
theorem doRet_yes (R : Nat → Prop) (w : World) (C B M m : Nat) (most : Int) (mp : Int → Option Pg) (s0 : StV) (fk fa : Int) (s : StV) (a b al cc im : Nat) (dp : Int) (H : Ctx R w C B M m most mp s0 fk fa s) (hf : (askS mp 1 2 8 (s.r 4) 8).1 = 0) :
    Calls Try.prog 63 #[.pointer (some ⟨C, 0, none⟩), .agg #[.int .i64 2, .int .i64 a, .int .i64 b, .int .i64 al, .int .i64 cc, .int .u64 im, .int .i64 dp], .pointer (some ⟨B, 0, none⟩)] w fun e w' => DoY R w B M m most mp ((s.setR 4 (addM (s.r 4))).setIp (numM mp (s.r 4))) e w' := by
  have HF := Lib.hid hf
  have HSZ := Lib.hid H.mem.sz
  have HX := Lib.hid H
  have hlB := H.mem.sz B H.rB
  have hlC := H.mem.sz C H.rC
  clear H hf
  go_enter Try.func63, Try.ntmps63
  go_upto_region 1 with (fail)
  obtain ⟨w1, hw1⟩ : ∃ w1, w.alloc (.cells #[.int .i64 2, .int .i64 a, .int .i64 b, .int .i64 al, .int .i64 cc, .int .u64 im, .int .i64 dp] 27) = w1 := ⟨_, rfl⟩
  obtain ⟨D, hD⟩ : ∃ D, w.heap.size = D := ⟨_, rfl⟩
  have HX1 := Lib.hid (show Ctx (fun k => R k ∨ k = D) w1 C B M m most mp s0 fk fa s from by rw [← hw1, ← hD]; exact HX.out.boxed _)
  have HD1 := Lib.hid (show w1.heap[D]? = some (.cells #[.int .i64 2, .int .i64 a, .int .i64 b, .int .i64 al, .int .i64 cc, .int .u64 im, .int .i64 dp] 27 (0, 0)) from by rw [← hw1, ← hD]; exact heap_alloc_new w _)
  have HBK := Lib.hid (show Kept R w w1 from by rw [← hw1]; exact (Kept.refl R w).alloc HSZ.out _)
  have HDB := Lib.hid (show D ≠ B ∧ D ≠ C ∧ ¬ R D from ⟨by omega, by omega, fun h => by have := HSZ.out D h; omega⟩)
  refine (congrArg _ hw1).mpr ?_
  rw [hD]
  clear hw1 hD hlB hlC HX HSZ
  have c0 : w1.cell? ⟨D, 0, none⟩ = some (.int .i64 2) := by rw [cell_of_row' HD1.out]; rfl
  go_wp2_with fail
  refine (pop_ip _ w1 C B M m most mp s0 fk fa s HX1.out HF.out).mono ?_
  intro e w2 hY
  have HY := Lib.hid (hY.back HBK.out (fun k hk => .inl hk))
  obtain rfl := hY.e
  clear hY c0
  go_wp2
  go_ret
  exact HY.out

set_option maxHeartbeats 4000000 in
theorem doRet_no (R : Nat → Prop) (w : World) (C B M m : Nat) (most : Int) (mp : Int → Option Pg) (s0 : StV) (fk fa : Int) (s : StV) (a b al cc im : Nat) (dp : Int) (H : Ctx R w C B M m most mp s0 fk fa s) (hf : (askS mp 1 2 8 (s.r 4) 8).1 ≠ 0) :
    Calls Try.prog 63 #[.pointer (some ⟨C, 0, none⟩), .agg #[.int .i64 2, .int .i64 a, .int .i64 b, .int .i64 al, .int .i64 cc, .int .u64 im, .int .i64 dp], .pointer (some ⟨B, 0, none⟩)] w fun e w' => DoN R w C B M m most (askM mp (askS mp 1 2 8 (s.r 4) 8)) s0 (askS mp 1 2 8 (s.r 4) 8).1 (askS mp 1 2 8 (s.r 4) 8).2.1 e w' := by
  have HF := Lib.hid hf
  have HSZ := Lib.hid H.mem.sz
  have HX := Lib.hid H
  have hlB := H.mem.sz B H.rB
  have hlC := H.mem.sz C H.rC
  clear H hf
  go_enter Try.func63, Try.ntmps63
  go_upto_region 1 with (fail)
  obtain ⟨w1, hw1⟩ : ∃ w1, w.alloc (.cells #[.int .i64 2, .int .i64 a, .int .i64 b, .int .i64 al, .int .i64 cc, .int .u64 im, .int .i64 dp] 27) = w1 := ⟨_, rfl⟩
  obtain ⟨D, hD⟩ : ∃ D, w.heap.size = D := ⟨_, rfl⟩
  have HX1 := Lib.hid (show Ctx (fun k => R k ∨ k = D) w1 C B M m most mp s0 fk fa s from by rw [← hw1, ← hD]; exact HX.out.boxed _)
  have HD1 := Lib.hid (show w1.heap[D]? = some (.cells #[.int .i64 2, .int .i64 a, .int .i64 b, .int .i64 al, .int .i64 cc, .int .u64 im, .int .i64 dp] 27 (0, 0)) from by rw [← hw1, ← hD]; exact heap_alloc_new w _)
  have HBK := Lib.hid (show Kept R w w1 from by rw [← hw1]; exact (Kept.refl R w).alloc HSZ.out _)
  have HDB := Lib.hid (show D ≠ B ∧ D ≠ C ∧ ¬ R D from ⟨by omega, by omega, fun h => by have := HSZ.out D h; omega⟩)
  refine (congrArg _ hw1).mpr ?_
  rw [hD]
  clear hw1 hD hlB hlC HX HSZ
  have c0 : w1.cell? ⟨D, 0, none⟩ = some (.int .i64 2) := by rw [cell_of_row' HD1.out]; rfl
  go_wp2_with fail
  refine (pop_no _ w1 C B M m most mp s0 fk fa s _ HX1.out HF.out).mono ?_
  intro e w2 hY
  have HY := Lib.hid (hY.back HBK.out (fun k hk => .inl hk))
  obtain rfl := hY.e
  clear hY c0
  go_wp2
  go_ret
  exact HY.out

end Go.Proofs.Ythbgmlmcjnlopaa
