/- package cpu: what reads or writes a register. -/
import Derived.Test.YthbgmlmcjnlopaaMchF
namespace Go.Proofs.Ythbgmlmcjnlopaa
open Go.ChangeShapes Go.WideShapes Go.ChangeAt Go.RowKit
set_option linter.unusedVariables false
set_option linter.unusedSimpArgs false
set_option maxRecDepth 100000

/-- The address that a register leads to. -/
def baseM (s : StV) (x : InsV) : Int := (s.r x.b + x.disp) % 18446744073709551616
theorem baseM_bd (s : StV) (x : InsV) : 0 ≤ baseM s x ∧ baseM s x < 18446744073709551616 := by unfold baseM; omega
/-- The address that an instruction of memory has. -/
def atM (s : StV) (x : InsV) : Int := if x.op = 9 ∨ x.op = 10 then baseM s x else nearM s x
theorem atM_bd (s : StV) (x : InsV) : 0 ≤ atM s x ∧ atM s x < 18446744073709551616 := by
  unfold atM
  split
  · exact baseM_bd s x
  · exact nearM_bd s x

set_option maxHeartbeats 4000000 in
theorem doLoad_yes (R : Nat → Prop) (w : World) (C B M m : Nat) (most : Int) (mp : Int → Option Pg) (s0 : StV) (fk fa : Int) (s : StV) (a b al cc im : Nat) (dp : Int) (H : Ctx R w C B M m most mp s0 fk fa s) (ha : a < 16) (hb : b < 16) (hf : (askS mp 1 2 8 (atM s (⟨9, a, b, al, cc, im, dp⟩ : InsV)) 8).1 = 0) :
    Calls Try.prog 64 #[.pointer (some ⟨C, 0, none⟩), .agg #[.int .i64 9, .int .i64 a, .int .i64 b, .int .i64 al, .int .i64 cc, .int .u64 im, .int .i64 dp], .pointer (some ⟨B, 0, none⟩)] w fun e w' => DoY R w B M m most mp (s.setR a (numM mp (atM s (⟨9, a, b, al, cc, im, dp⟩ : InsV)))) e w' := by
  have HF := Lib.hid hf
  have haI : (a : Int) < 16 := by omega
  have hbI : (b : Int) < 16 := by omega
  have HHB := Lib.hid hb
  have HSZ := Lib.hid H.mem.sz
  have HX := Lib.hid H
  have hlB := H.mem.sz B H.rB
  have hlC := H.mem.sz C H.rC
  clear H hf
  go_enter Try.func64, Try.ntmps64
  go_upto_region 1 with (fail)
  obtain ⟨w1, hw1⟩ : ∃ w1, w.alloc (.cells #[.int .i64 9, .int .i64 a, .int .i64 b, .int .i64 al, .int .i64 cc, .int .u64 im, .int .i64 dp] 27) = w1 := ⟨_, rfl⟩
  obtain ⟨D, hD⟩ : ∃ D, w.heap.size = D := ⟨_, rfl⟩
  have HX1 := Lib.hid (show Ctx (fun k => R k ∨ k = D) w1 C B M m most mp s0 fk fa s from by rw [← hw1, ← hD]; exact HX.out.boxed _)
  have HD1 := Lib.hid (show w1.heap[D]? = some (.cells #[.int .i64 9, .int .i64 a, .int .i64 b, .int .i64 al, .int .i64 cc, .int .u64 im, .int .i64 dp] 27 (0, 0)) from by rw [← hw1, ← hD]; exact heap_alloc_new w _)
  have HBK := Lib.hid (show Kept R w w1 from by rw [← hw1]; exact (Kept.refl R w).alloc HSZ.out _)
  have HDB := Lib.hid (show D ≠ B ∧ D ≠ C ∧ ¬ R D from ⟨by omega, by omega, fun h => by have := HSZ.out D h; omega⟩)
  refine (congrArg _ hw1).mpr ?_
  rw [hD]
  clear hw1 hD hlB hlC HX HSZ
  have c0 : w1.cell? ⟨D, 0, none⟩ = some (.int .i64 9) := by rw [cell_of_row' HD1.out]; rfl
  have c1 : w1.cell? ⟨D, 1, none⟩ = some (.int .i64 a) := by rw [cell_of_row' HD1.out]; rfl
  have c2 : w1.cell? ⟨D, 2, none⟩ = some (.int .i64 b) := by rw [cell_of_row' HD1.out]; rfl
  have c3 : w1.cell? ⟨D, 3, none⟩ = some (.int .i64 al) := by rw [cell_of_row' HD1.out]; rfl
  have c4 : w1.cell? ⟨D, 4, none⟩ = some (.int .i64 cc) := by rw [cell_of_row' HD1.out]; rfl
  have c5 : w1.cell? ⟨D, 5, none⟩ = some (.int .u64 im) := by rw [cell_of_row' HD1.out]; rfl
  have c6 : w1.cell? ⟨D, 6, none⟩ = some (.int .i64 dp) := by rw [cell_of_row' HD1.out]; rfl
  have HN := Lib.hid (show Calls Try.prog 66 #[.pointer (some ⟨B, 0, none⟩), .agg #[.int .i64 9, .int .i64 a, .int .i64 b, .int .i64 al, .int .i64 cc, .int .u64 im, .int .i64 dp]] w1 fun e w' => e = .returned (.int .u64 (nearM s (⟨9, a, b, al, cc, im, dp⟩ : InsV))) ∧ Below w1.heap.size w1 w' from near_any w1 B s (⟨9, a, b, al, cc, im, dp⟩ : InsV) HX1.out.st)
  have HAB := Lib.hid (atM_bd s (⟨9, a, b, al, cc, im, dp⟩ : InsV))
  have hat0 : atM s (⟨9, a, b, al, cc, im, dp⟩ : InsV) = baseM s (⟨9, a, b, al, cc, im, dp⟩ : InsV) := by unfold atM; rw [if_pos (by simp)]
  have hbw : IntKind.u64.wrap (s.r b + IntKind.u64.wrap dp) = atM s (⟨9, a, b, al, cc, im, dp⟩ : InsV) := by rw [hat0, IntKind.wrap_u64, IntKind.wrap_u64]; unfold baseM; show _ = (s.r b + dp) % _; omega
  generalize nearM s (⟨9, a, b, al, cc, im, dp⟩ : InsV) = nr at *
  obtain ⟨at', hat⟩ : ∃ q, atM s (⟨9, a, b, al, cc, im, dp⟩ : InsV) = q := ⟨_, rfl⟩
  have HAT := Lib.hid hat
  rw [hat] at HF HAB hbw
  clear hat hat0
  have HBW := Lib.hid hbw
  clear hbw
  go_wp2_with fail
  refine HN.out.mono ?_
  rintro e w2 ⟨rfl, hb2⟩
  have HX2 := Lib.hid (HX1.out.below hb2)
  have HD2 := Lib.hid (show w2.heap[D]? = some (.cells #[.int .i64 9, .int .i64 a, .int .i64 b, .int .i64 al, .int .i64 cc, .int .u64 im, .int .i64 dp] 27 (0, 0)) from (hb2.block D (lt_of_row' HD1.out)).trans HD1.out)
  have HBK2 := Lib.hid (HBK.out.trans (Kept.of_below hb2 (fun k hk => HX1.out.mem.sz k (.inl hk))))
  clear hb2 HN c0 c1 c2 c3 c4 c5 c6
  have c0 : w2.cell? ⟨D, 0, none⟩ = some (.int .i64 9) := by rw [cell_of_row' HD2.out]; rfl
  go_upto_region 3 with (fail)
  clear c0
  have HS := Lib.hid (show w2.drew.heap[D]? = some (.cells #[.int .i64 9, .int .i64 a, .int .i64 b, .int .i64 al, .int .i64 cc, .int .u64 im, .int .i64 dp] 27 (0, 0)) ∧ StAt w2.drew B s from ⟨HD2.out, HX2.out.st⟩)
  have HR0 := Lib.hid trivial
  have hbw := HBW.out
  refine wp_region_noPanic ?_
  refine wp_region_K (fun W => W.heap[D]? = some (.cells #[.int .i64 9, .int .i64 a, .int .i64 b, .int .i64 al, .int .i64 cc, .int .u64 im, .int .i64 dp] 27 (0, 0)) ∧ StAt W B s) (fun _ => True) 99 (by kernel_rfl) ?_
  refine wpAnyK_take (i := 0) (oi := ?_) (v := ?_) ?_ (by kernel_rfl) (by kernel_rfl) (by kernel_rfl) (fun _ _ _ h => h) (by decide) ?_ HS.out (fun _ => HR0.out) ?_
  rotate_left 2
  · (simp only [List.getElem?_toArray, List.getElem?_cons_succ, List.getElem?_cons_zero]; rfl)
  · (first | exact Or.inr ⟨by rfl, rfl⟩ | (refine Or.inl ⟨by rfl, ?_⟩; intro W hSw;  clear hSw; go_simp; try with_reducible rfl))
  try simp only [Act.put, List.setIfInBounds_toArray, List.set_cons_zero, List.set_cons_succ]
  refine wpAnyK_take (i := 1) (oi := ?_) (v := ?_) ?_ (by kernel_rfl) (by kernel_rfl) (by kernel_rfl) (fun _ _ _ h => h) (by decide) ?_ HS.out (fun _ => HR0.out) ?_
  rotate_left 2
  · (simp only [List.getElem?_toArray, List.getElem?_cons_succ, List.getElem?_cons_zero]; rfl)
  · (first | exact Or.inr ⟨by rfl, rfl⟩ | (refine Or.inl ⟨by rfl, ?_⟩; intro W hSw;  clear hSw; go_simp; try with_reducible rfl))
  try simp only [Act.put, List.setIfInBounds_toArray, List.set_cons_zero, List.set_cons_succ]
  refine wpAnyK_take (i := 2) (oi := ?_) (v := ?_) ?_ (by kernel_rfl) (by kernel_rfl) (by kernel_rfl) (fun _ _ _ h => h) (by decide) ?_ HS.out (fun _ => HR0.out) ?_
  rotate_left 2
  · (simp only [List.getElem?_toArray, List.getElem?_cons_succ, List.getElem?_cons_zero]; rfl)
  · (first | exact Or.inr ⟨by rfl, rfl⟩ | (refine Or.inl ⟨by rfl, ?_⟩; intro W hSw; have hq : W.cell? ⟨D, 2, none⟩ = some (.int .i64 b) := (by rw [cell_of_row' hSw.1]; rfl); clear hSw; go_simp; try with_reducible rfl))
  try simp only [Act.put, List.setIfInBounds_toArray, List.set_cons_zero, List.set_cons_succ]
  refine wpAnyK_take (i := 3) (oi := ?_) (v := ?_) ?_ (by kernel_rfl) (by kernel_rfl) (by kernel_rfl) (fun _ _ _ h => h) (by decide) ?_ HS.out (fun _ => HR0.out) ?_
  rotate_left 2
  · (simp only [List.getElem?_toArray, List.getElem?_cons_succ, List.getElem?_cons_zero]; rfl)
  · (first | exact Or.inr ⟨by rfl, rfl⟩ | (refine Or.inl ⟨by rfl, ?_⟩; intro W hSw;  clear hSw; go_simp; try with_reducible rfl))
  try simp only [Act.put, List.setIfInBounds_toArray, List.set_cons_zero, List.set_cons_succ]
  refine wpAnyK_take (i := 4) (oi := ?_) (v := ?_) ?_ (by kernel_rfl) (by kernel_rfl) (by kernel_rfl) (fun _ _ _ h => h) (by decide) ?_ HS.out (fun _ => HR0.out) ?_
  rotate_left 2
  · (simp only [List.getElem?_toArray, List.getElem?_cons_succ, List.getElem?_cons_zero]; rfl)
  · (first | exact Or.inr ⟨by rfl, rfl⟩ | (refine Or.inl ⟨by rfl, ?_⟩; intro W hSw;  clear hSw; go_simp; try with_reducible rfl))
  try simp only [Act.put, List.setIfInBounds_toArray, List.set_cons_zero, List.set_cons_succ]
  refine wpAnyK_take (i := 5) (oi := ?_) (v := ?_) ?_ (by kernel_rfl) (by kernel_rfl) (by kernel_rfl) (fun _ _ _ h => h) (by decide) ?_ HS.out (fun _ => HR0.out) ?_
  rotate_left 2
  · (simp only [List.getElem?_toArray, List.getElem?_cons_succ, List.getElem?_cons_zero]; rfl)
  · (first | exact Or.inr ⟨by rfl, rfl⟩ | (refine Or.inl ⟨by rfl, ?_⟩; intro W hSw;  clear hSw; go_simp; try with_reducible rfl))
  try simp only [Act.put, List.setIfInBounds_toArray, List.set_cons_zero, List.set_cons_succ]
  refine wpAnyK_take (i := 6) (oi := ?_) (v := ?_) ?_ (by kernel_rfl) (by kernel_rfl) (by kernel_rfl) (fun _ _ _ h => h) (by decide) ?_ HS.out (fun _ => HR0.out) ?_
  rotate_left 2
  · (simp only [List.getElem?_toArray, List.getElem?_cons_succ, List.getElem?_cons_zero]; rfl)
  · (first | exact Or.inr ⟨by rfl, rfl⟩ | (refine Or.inl ⟨by rfl, ?_⟩; intro W hSw; have hq := (StAt.reg hSw.2 HHB.out).1; clear hSw; go_simp; try with_reducible rfl))
  try simp only [Act.put, List.setIfInBounds_toArray, List.set_cons_zero, List.set_cons_succ]
  refine wpAnyK_take (i := 7) (oi := ?_) (v := ?_) ?_ (by kernel_rfl) (by kernel_rfl) (by kernel_rfl) (fun _ _ _ h => h) (by decide) ?_ HS.out (fun _ => HR0.out) ?_
  rotate_left 2
  · (simp only [List.getElem?_toArray, List.getElem?_cons_succ, List.getElem?_cons_zero]; rfl)
  · (first | exact Or.inr ⟨by rfl, rfl⟩ | (refine Or.inl ⟨by rfl, ?_⟩; intro W hSw;  clear hSw; go_simp; try with_reducible rfl))
  try simp only [Act.put, List.setIfInBounds_toArray, List.set_cons_zero, List.set_cons_succ]
  refine wpAnyK_take (i := 8) (oi := ?_) (v := ?_) ?_ (by kernel_rfl) (by kernel_rfl) (by kernel_rfl) (fun _ _ _ h => h) (by decide) ?_ HS.out (fun _ => HR0.out) ?_
  rotate_left 2
  · (simp only [List.getElem?_toArray, List.getElem?_cons_succ, List.getElem?_cons_zero]; rfl)
  · (first | exact Or.inr ⟨by rfl, rfl⟩ | (refine Or.inl ⟨by rfl, ?_⟩; intro W hSw; have hq : W.cell? ⟨D, 6, none⟩ = some (.int .i64 dp) := (by rw [cell_of_row' hSw.1]; rfl); clear hSw; go_simp; try with_reducible rfl))
  try simp only [Act.put, List.setIfInBounds_toArray, List.set_cons_zero, List.set_cons_succ]
  refine wpAnyK_take (i := 9) (oi := ?_) (v := ?_) ?_ (by kernel_rfl) (by kernel_rfl) (by kernel_rfl) (fun _ _ _ h => h) (by decide) ?_ HS.out (fun _ => HR0.out) ?_
  rotate_left 2
  · (simp only [List.getElem?_toArray, List.getElem?_cons_succ, List.getElem?_cons_zero]; rfl)
  · (first | exact Or.inr ⟨by rfl, rfl⟩ | (refine Or.inl ⟨by rfl, ?_⟩; intro W hSw;  clear hSw; go_simp; try with_reducible rfl))
  try simp only [Act.put, List.setIfInBounds_toArray, List.set_cons_zero, List.set_cons_succ]
  refine wpAnyK_take (i := 10) (oi := ?_) (v := ?_) ?_ (by kernel_rfl) (by kernel_rfl) (by kernel_rfl) (fun _ _ _ h => h) (by decide) ?_ HS.out (fun _ => HR0.out) ?_
  rotate_left 2
  · (simp only [List.getElem?_toArray, List.getElem?_cons_succ, List.getElem?_cons_zero]; rfl)
  · (first | exact Or.inr ⟨by rfl, rfl⟩ | (refine Or.inl ⟨by rfl, ?_⟩; intro W hSw;  clear hSw; go_simp; try with_reducible rfl))
  try simp only [Act.put, List.setIfInBounds_toArray, List.set_cons_zero, List.set_cons_succ]
  refine wpAnyK_take (i := 11) (oi := ?_) (v := ?_) ?_ (by kernel_rfl) (by kernel_rfl) (by kernel_rfl) (fun _ _ _ h => h) (by decide) ?_ HS.out (fun _ => HR0.out) ?_
  rotate_left 2
  · (simp only [List.getElem?_toArray, List.getElem?_cons_succ, List.getElem?_cons_zero]; rfl)
  · (first | exact Or.inr ⟨by rfl, rfl⟩ | (refine Or.inl ⟨by rfl, ?_⟩; intro W hSw;  clear hSw; go_simp; try with_reducible rfl))
  try simp only [Act.put, List.setIfInBounds_toArray, List.set_cons_zero, List.set_cons_succ]
  refine wpAnyK_done (by kernel_rfl) ?_ _
  refine NoPanic.normal ?_
  clear hbw HS HR0
  have c0 : w2.drew.cell? ⟨D, 0, none⟩ = some (.int .i64 9) := by rw [cell_of_row' (show w2.drew.heap[D]? = some (.cells #[.int .i64 9, .int .i64 a, .int .i64 b, .int .i64 al, .int .i64 cc, .int .u64 im, .int .i64 dp] 27 (0, 0)) from HD2.out)]; rfl
  go_upto_region 5 with (fail)
  clear c0
  have HX3 := Lib.hid (show Ctx (fun k => R k ∨ k = D) w2.drew.drew C B M m most mp s0 fk fa s from HX2.out.drew.drew)
  have HS := Lib.hid (show w2.drew.drew.heap[D]? = some (.cells #[.int .i64 9, .int .i64 a, .int .i64 b, .int .i64 al, .int .i64 cc, .int .u64 im, .int .i64 dp] 27 (0, 0)) from HD2.out)
  have HBK3 := Lib.hid (show Kept R w w2.drew.drew from HBK2.out.drew.drew)
  have HR0 := Lib.hid trivial
  refine wp_region_noPanic ?_
  refine wp_region_K (fun W => W.heap[D]? = some (.cells #[.int .i64 9, .int .i64 a, .int .i64 b, .int .i64 al, .int .i64 cc, .int .u64 im, .int .i64 dp] 27 (0, 0))) (fun _ => True) 99 (by kernel_rfl) ?_
  refine wpAnyK_take (i := 0) (oi := ?_) (v := ?_) ?_ (by kernel_rfl) (by kernel_rfl) (by kernel_rfl) (fun _ _ _ h => h) (by decide) ?_ HS.out (fun _ => HR0.out) ?_
  rotate_left 2
  · (simp only [List.getElem?_toArray, List.getElem?_cons_succ, List.getElem?_cons_zero]; rfl)
  · (first | exact Or.inr ⟨by rfl, rfl⟩ | (refine Or.inl ⟨by rfl, ?_⟩; intro W hSw;  clear hSw; go_simp; try with_reducible rfl))
  try simp only [Act.put, List.setIfInBounds_toArray, List.set_cons_zero, List.set_cons_succ]
  refine wpAnyK_take (i := 1) (oi := ?_) (v := ?_) ?_ (by kernel_rfl) (by kernel_rfl) (by kernel_rfl) (fun _ _ _ h => h) (by decide) ?_ HS.out (fun _ => HR0.out) ?_
  rotate_left 2
  · (simp only [List.getElem?_toArray, List.getElem?_cons_succ, List.getElem?_cons_zero]; rfl)
  · (first | exact Or.inr ⟨by rfl, rfl⟩ | (refine Or.inl ⟨by rfl, ?_⟩; intro W hSw;  clear hSw; go_simp; try with_reducible rfl))
  try simp only [Act.put, List.setIfInBounds_toArray, List.set_cons_zero, List.set_cons_succ]
  refine wpAnyK_take (i := 2) (oi := ?_) (v := ?_) ?_ (by kernel_rfl) (by kernel_rfl) (by kernel_rfl) (fun _ _ _ h => h) (by decide) ?_ HS.out (fun _ => HR0.out) ?_
  rotate_left 2
  · (simp only [List.getElem?_toArray, List.getElem?_cons_succ, List.getElem?_cons_zero]; rfl)
  · (first | exact Or.inr ⟨by rfl, rfl⟩ | (refine Or.inl ⟨by rfl, ?_⟩; intro W hSw;  clear hSw; go_simp; try with_reducible rfl))
  try simp only [Act.put, List.setIfInBounds_toArray, List.set_cons_zero, List.set_cons_succ]
  refine wpAnyK_take (i := 3) (oi := ?_) (v := ?_) ?_ (by kernel_rfl) (by kernel_rfl) (by kernel_rfl) (fun _ _ _ h => h) (by decide) ?_ HS.out (fun _ => HR0.out) ?_
  rotate_left 2
  · (simp only [List.getElem?_toArray, List.getElem?_cons_succ, List.getElem?_cons_zero]; rfl)
  · (first | exact Or.inr ⟨by rfl, rfl⟩ | (refine Or.inl ⟨by rfl, ?_⟩; intro W hSw;  clear hSw; go_simp; try with_reducible rfl))
  try simp only [Act.put, List.setIfInBounds_toArray, List.set_cons_zero, List.set_cons_succ]
  refine wpAnyK_take (i := 4) (oi := ?_) (v := ?_) ?_ (by kernel_rfl) (by kernel_rfl) (by kernel_rfl) (fun _ _ _ h => h) (by decide) ?_ HS.out (fun _ => HR0.out) ?_
  rotate_left 2
  · (simp only [List.getElem?_toArray, List.getElem?_cons_succ, List.getElem?_cons_zero]; rfl)
  · (first | exact Or.inr ⟨by rfl, rfl⟩ | (refine Or.inl ⟨by rfl, ?_⟩; intro W hSw; have hq : W.cell? ⟨D, 1, none⟩ = some (.int .i64 a) := (by rw [cell_of_row' hSw]; rfl); clear hSw; go_simp; try with_reducible rfl))
  try simp only [Act.put, List.setIfInBounds_toArray, List.set_cons_zero, List.set_cons_succ]
  refine wpAnyK_take (i := 5) (oi := ?_) (v := ?_) ?_ (by kernel_rfl) (by kernel_rfl) (by kernel_rfl) (fun _ _ _ h => h) (by decide) ?_ HS.out (fun _ => HR0.out) ?_
  rotate_left 2
  · (simp only [List.getElem?_toArray, List.getElem?_cons_succ, List.getElem?_cons_zero]; rfl)
  · (first | exact Or.inr ⟨by rfl, rfl⟩ | (refine Or.inl ⟨by rfl, ?_⟩; intro W hSw;  clear hSw; go_simp; try with_reducible rfl))
  try simp only [Act.put, List.setIfInBounds_toArray, List.set_cons_zero, List.set_cons_succ]
  refine wpAnyK_take (i := 6) (oi := ?_) (v := ?_) ?_ (by kernel_rfl) (by kernel_rfl) (by kernel_rfl) (fun _ _ _ h => h) (by decide) ?_ HS.out (fun _ => HR0.out) ?_
  rotate_left 2
  · (simp only [List.getElem?_toArray, List.getElem?_cons_succ, List.getElem?_cons_zero]; rfl)
  · (first | exact Or.inr ⟨by rfl, rfl⟩ | (refine Or.inl ⟨by rfl, ?_⟩; intro W hSw;  clear hSw; go_simp; try with_reducible rfl))
  try simp only [Act.put, List.setIfInBounds_toArray, List.set_cons_zero, List.set_cons_succ]
  refine wpAnyK_take (i := 7) (oi := ?_) (v := ?_) ?_ (by kernel_rfl) (by kernel_rfl) (by kernel_rfl) (fun _ _ _ h => h) (by decide) ?_ HS.out (fun _ => HR0.out) ?_
  rotate_left 2
  · (simp only [List.getElem?_toArray, List.getElem?_cons_succ, List.getElem?_cons_zero]; rfl)
  · (first | exact Or.inr ⟨by rfl, rfl⟩ | (refine Or.inl ⟨by rfl, ?_⟩; intro W hSw;  clear hSw; go_simp; try with_reducible rfl))
  try simp only [Act.put, List.setIfInBounds_toArray, List.set_cons_zero, List.set_cons_succ]
  refine wpAnyK_one (i := 8) (o := ?_) (by kernel_rfl) ?_ (fun K hK => ?_)
  rotate_left 1
  · (simp only [List.getElem?_toArray, List.getElem?_cons_succ, List.getElem?_cons_zero]; rfl)
  go_simp
  go_at_call 65
  refine (load_yes _ w2.drew.drew C M m most mp s0 fk fa at' B a _ HX3.out.ok HAB.out.1 HAB.out.2 HX3.out.mem HX3.out.cpu HX3.out.rC HX3.out.rB (HX3.out.st.reg ha).1 (HX3.out.st.reg ha).2 HF.out).mono ?_
  rintro e w5 ⟨rfl, w4, hk4, hm4, rfl⟩
  have hb := numM_bd HX3.out.ok at'
  have HX5 := (HX3.out.keep hm4 hk4).setR ha hb.1 hb.2
  have hk5 := (hk4.mono (R' := fun k => (R k ∨ k = D) ∧ k ≠ B) (fun k hk => hk.1)).trans (keptB w4 B a (.int .u64 (numM mp at')))
  have HY := Lib.hid ((HX5.yes hk5).back HBK3.out (fun k hk => .inl hk))
  have HS2 := Lib.hid (show (w4.setCell ⟨B, a, none⟩ (.int .u64 (numM mp at'))).heap[D]? = some (.cells #[.int .i64 9, .int .i64 a, .int .i64 b, .int .i64 al, .int .i64 cc, .int .u64 im, .int .i64 dp] 27 (0, 0)) from (hk5.block D ⟨.inr rfl, HDB.out.1⟩).trans HS.out)
  clear hb HX5 hk4 hk5 hm4
  refine hK.out _ _ HS2.out (fun _ => trivial) ?_
  clear hK K
  try simp only [Act.put, List.setIfInBounds_toArray, List.set_cons_zero, List.set_cons_succ]
  refine wpAnyK_take (i := 9) (oi := ?_) (v := ?_) ?_ (by kernel_rfl) (by kernel_rfl) (by kernel_rfl) (fun _ _ _ h => h) (by decide) ?_ HS2.out (fun _ => HR0.out) ?_
  rotate_left 2
  · (simp only [List.getElem?_toArray, List.getElem?_cons_succ, List.getElem?_cons_zero]; rfl)
  · (first | exact Or.inr ⟨by rfl, rfl⟩ | (refine Or.inl ⟨by rfl, ?_⟩; intro W hSw;  clear hSw; go_simp; try with_reducible rfl))
  try simp only [Act.put, List.setIfInBounds_toArray, List.set_cons_zero, List.set_cons_succ]
  refine wpAnyK_done (by kernel_rfl) ?_ _
  refine NoPanic.normal ?_
  go_wp2
  go_ret
  rw [HAT.out]
  exact HY.out

set_option maxHeartbeats 4000000 in
theorem doLoad_no (R : Nat → Prop) (w : World) (C B M m : Nat) (most : Int) (mp : Int → Option Pg) (s0 : StV) (fk fa : Int) (s : StV) (a b al cc im : Nat) (dp : Int) (H : Ctx R w C B M m most mp s0 fk fa s) (ha : a < 16) (hb : b < 16) (hf : (askS mp 1 2 8 (atM s (⟨9, a, b, al, cc, im, dp⟩ : InsV)) 8).1 ≠ 0) :
    Calls Try.prog 64 #[.pointer (some ⟨C, 0, none⟩), .agg #[.int .i64 9, .int .i64 a, .int .i64 b, .int .i64 al, .int .i64 cc, .int .u64 im, .int .i64 dp], .pointer (some ⟨B, 0, none⟩)] w fun e w' => DoN R w C B M m most (askM mp (askS mp 1 2 8 (atM s (⟨9, a, b, al, cc, im, dp⟩ : InsV)) 8)) s0 (askS mp 1 2 8 (atM s (⟨9, a, b, al, cc, im, dp⟩ : InsV)) 8).1 (askS mp 1 2 8 (atM s (⟨9, a, b, al, cc, im, dp⟩ : InsV)) 8).2.1 e w' := by
  have HF := Lib.hid hf
  have haI : (a : Int) < 16 := by omega
  have hbI : (b : Int) < 16 := by omega
  have HHB := Lib.hid hb
  have HSZ := Lib.hid H.mem.sz
  have HX := Lib.hid H
  have hlB := H.mem.sz B H.rB
  have hlC := H.mem.sz C H.rC
  clear H hf
  go_enter Try.func64, Try.ntmps64
  go_upto_region 1 with (fail)
  obtain ⟨w1, hw1⟩ : ∃ w1, w.alloc (.cells #[.int .i64 9, .int .i64 a, .int .i64 b, .int .i64 al, .int .i64 cc, .int .u64 im, .int .i64 dp] 27) = w1 := ⟨_, rfl⟩
  obtain ⟨D, hD⟩ : ∃ D, w.heap.size = D := ⟨_, rfl⟩
  have HX1 := Lib.hid (show Ctx (fun k => R k ∨ k = D) w1 C B M m most mp s0 fk fa s from by rw [← hw1, ← hD]; exact HX.out.boxed _)
  have HD1 := Lib.hid (show w1.heap[D]? = some (.cells #[.int .i64 9, .int .i64 a, .int .i64 b, .int .i64 al, .int .i64 cc, .int .u64 im, .int .i64 dp] 27 (0, 0)) from by rw [← hw1, ← hD]; exact heap_alloc_new w _)
  have HBK := Lib.hid (show Kept R w w1 from by rw [← hw1]; exact (Kept.refl R w).alloc HSZ.out _)
  have HDB := Lib.hid (show D ≠ B ∧ D ≠ C ∧ ¬ R D from ⟨by omega, by omega, fun h => by have := HSZ.out D h; omega⟩)
  refine (congrArg _ hw1).mpr ?_
  rw [hD]
  clear hw1 hD hlB hlC HX HSZ
  have c0 : w1.cell? ⟨D, 0, none⟩ = some (.int .i64 9) := by rw [cell_of_row' HD1.out]; rfl
  have c1 : w1.cell? ⟨D, 1, none⟩ = some (.int .i64 a) := by rw [cell_of_row' HD1.out]; rfl
  have c2 : w1.cell? ⟨D, 2, none⟩ = some (.int .i64 b) := by rw [cell_of_row' HD1.out]; rfl
  have c3 : w1.cell? ⟨D, 3, none⟩ = some (.int .i64 al) := by rw [cell_of_row' HD1.out]; rfl
  have c4 : w1.cell? ⟨D, 4, none⟩ = some (.int .i64 cc) := by rw [cell_of_row' HD1.out]; rfl
  have c5 : w1.cell? ⟨D, 5, none⟩ = some (.int .u64 im) := by rw [cell_of_row' HD1.out]; rfl
  have c6 : w1.cell? ⟨D, 6, none⟩ = some (.int .i64 dp) := by rw [cell_of_row' HD1.out]; rfl
  have HN := Lib.hid (show Calls Try.prog 66 #[.pointer (some ⟨B, 0, none⟩), .agg #[.int .i64 9, .int .i64 a, .int .i64 b, .int .i64 al, .int .i64 cc, .int .u64 im, .int .i64 dp]] w1 fun e w' => e = .returned (.int .u64 (nearM s (⟨9, a, b, al, cc, im, dp⟩ : InsV))) ∧ Below w1.heap.size w1 w' from near_any w1 B s (⟨9, a, b, al, cc, im, dp⟩ : InsV) HX1.out.st)
  have HAB := Lib.hid (atM_bd s (⟨9, a, b, al, cc, im, dp⟩ : InsV))
  have hat0 : atM s (⟨9, a, b, al, cc, im, dp⟩ : InsV) = baseM s (⟨9, a, b, al, cc, im, dp⟩ : InsV) := by unfold atM; rw [if_pos (by simp)]
  have hbw : IntKind.u64.wrap (s.r b + IntKind.u64.wrap dp) = atM s (⟨9, a, b, al, cc, im, dp⟩ : InsV) := by rw [hat0, IntKind.wrap_u64, IntKind.wrap_u64]; unfold baseM; show _ = (s.r b + dp) % _; omega
  generalize nearM s (⟨9, a, b, al, cc, im, dp⟩ : InsV) = nr at *
  obtain ⟨at', hat⟩ : ∃ q, atM s (⟨9, a, b, al, cc, im, dp⟩ : InsV) = q := ⟨_, rfl⟩
  have HAT := Lib.hid hat
  rw [hat] at HF HAB hbw
  clear hat hat0
  have HBW := Lib.hid hbw
  clear hbw
  go_wp2_with fail
  refine HN.out.mono ?_
  rintro e w2 ⟨rfl, hb2⟩
  have HX2 := Lib.hid (HX1.out.below hb2)
  have HD2 := Lib.hid (show w2.heap[D]? = some (.cells #[.int .i64 9, .int .i64 a, .int .i64 b, .int .i64 al, .int .i64 cc, .int .u64 im, .int .i64 dp] 27 (0, 0)) from (hb2.block D (lt_of_row' HD1.out)).trans HD1.out)
  have HBK2 := Lib.hid (HBK.out.trans (Kept.of_below hb2 (fun k hk => HX1.out.mem.sz k (.inl hk))))
  clear hb2 HN c0 c1 c2 c3 c4 c5 c6
  have c0 : w2.cell? ⟨D, 0, none⟩ = some (.int .i64 9) := by rw [cell_of_row' HD2.out]; rfl
  go_upto_region 3 with (fail)
  clear c0
  have HS := Lib.hid (show w2.drew.heap[D]? = some (.cells #[.int .i64 9, .int .i64 a, .int .i64 b, .int .i64 al, .int .i64 cc, .int .u64 im, .int .i64 dp] 27 (0, 0)) ∧ StAt w2.drew B s from ⟨HD2.out, HX2.out.st⟩)
  have HR0 := Lib.hid trivial
  have hbw := HBW.out
  refine wp_region_noPanic ?_
  refine wp_region_K (fun W => W.heap[D]? = some (.cells #[.int .i64 9, .int .i64 a, .int .i64 b, .int .i64 al, .int .i64 cc, .int .u64 im, .int .i64 dp] 27 (0, 0)) ∧ StAt W B s) (fun _ => True) 99 (by kernel_rfl) ?_
  refine wpAnyK_take (i := 0) (oi := ?_) (v := ?_) ?_ (by kernel_rfl) (by kernel_rfl) (by kernel_rfl) (fun _ _ _ h => h) (by decide) ?_ HS.out (fun _ => HR0.out) ?_
  rotate_left 2
  · (simp only [List.getElem?_toArray, List.getElem?_cons_succ, List.getElem?_cons_zero]; rfl)
  · (first | exact Or.inr ⟨by rfl, rfl⟩ | (refine Or.inl ⟨by rfl, ?_⟩; intro W hSw;  clear hSw; go_simp; try with_reducible rfl))
  try simp only [Act.put, List.setIfInBounds_toArray, List.set_cons_zero, List.set_cons_succ]
  refine wpAnyK_take (i := 1) (oi := ?_) (v := ?_) ?_ (by kernel_rfl) (by kernel_rfl) (by kernel_rfl) (fun _ _ _ h => h) (by decide) ?_ HS.out (fun _ => HR0.out) ?_
  rotate_left 2
  · (simp only [List.getElem?_toArray, List.getElem?_cons_succ, List.getElem?_cons_zero]; rfl)
  · (first | exact Or.inr ⟨by rfl, rfl⟩ | (refine Or.inl ⟨by rfl, ?_⟩; intro W hSw;  clear hSw; go_simp; try with_reducible rfl))
  try simp only [Act.put, List.setIfInBounds_toArray, List.set_cons_zero, List.set_cons_succ]
  refine wpAnyK_take (i := 2) (oi := ?_) (v := ?_) ?_ (by kernel_rfl) (by kernel_rfl) (by kernel_rfl) (fun _ _ _ h => h) (by decide) ?_ HS.out (fun _ => HR0.out) ?_
  rotate_left 2
  · (simp only [List.getElem?_toArray, List.getElem?_cons_succ, List.getElem?_cons_zero]; rfl)
  · (first | exact Or.inr ⟨by rfl, rfl⟩ | (refine Or.inl ⟨by rfl, ?_⟩; intro W hSw; have hq : W.cell? ⟨D, 2, none⟩ = some (.int .i64 b) := (by rw [cell_of_row' hSw.1]; rfl); clear hSw; go_simp; try with_reducible rfl))
  try simp only [Act.put, List.setIfInBounds_toArray, List.set_cons_zero, List.set_cons_succ]
  refine wpAnyK_take (i := 3) (oi := ?_) (v := ?_) ?_ (by kernel_rfl) (by kernel_rfl) (by kernel_rfl) (fun _ _ _ h => h) (by decide) ?_ HS.out (fun _ => HR0.out) ?_
  rotate_left 2
  · (simp only [List.getElem?_toArray, List.getElem?_cons_succ, List.getElem?_cons_zero]; rfl)
  · (first | exact Or.inr ⟨by rfl, rfl⟩ | (refine Or.inl ⟨by rfl, ?_⟩; intro W hSw;  clear hSw; go_simp; try with_reducible rfl))
  try simp only [Act.put, List.setIfInBounds_toArray, List.set_cons_zero, List.set_cons_succ]
  refine wpAnyK_take (i := 4) (oi := ?_) (v := ?_) ?_ (by kernel_rfl) (by kernel_rfl) (by kernel_rfl) (fun _ _ _ h => h) (by decide) ?_ HS.out (fun _ => HR0.out) ?_
  rotate_left 2
  · (simp only [List.getElem?_toArray, List.getElem?_cons_succ, List.getElem?_cons_zero]; rfl)
  · (first | exact Or.inr ⟨by rfl, rfl⟩ | (refine Or.inl ⟨by rfl, ?_⟩; intro W hSw;  clear hSw; go_simp; try with_reducible rfl))
  try simp only [Act.put, List.setIfInBounds_toArray, List.set_cons_zero, List.set_cons_succ]
  refine wpAnyK_take (i := 5) (oi := ?_) (v := ?_) ?_ (by kernel_rfl) (by kernel_rfl) (by kernel_rfl) (fun _ _ _ h => h) (by decide) ?_ HS.out (fun _ => HR0.out) ?_
  rotate_left 2
  · (simp only [List.getElem?_toArray, List.getElem?_cons_succ, List.getElem?_cons_zero]; rfl)
  · (first | exact Or.inr ⟨by rfl, rfl⟩ | (refine Or.inl ⟨by rfl, ?_⟩; intro W hSw;  clear hSw; go_simp; try with_reducible rfl))
  try simp only [Act.put, List.setIfInBounds_toArray, List.set_cons_zero, List.set_cons_succ]
  refine wpAnyK_take (i := 6) (oi := ?_) (v := ?_) ?_ (by kernel_rfl) (by kernel_rfl) (by kernel_rfl) (fun _ _ _ h => h) (by decide) ?_ HS.out (fun _ => HR0.out) ?_
  rotate_left 2
  · (simp only [List.getElem?_toArray, List.getElem?_cons_succ, List.getElem?_cons_zero]; rfl)
  · (first | exact Or.inr ⟨by rfl, rfl⟩ | (refine Or.inl ⟨by rfl, ?_⟩; intro W hSw; have hq := (StAt.reg hSw.2 HHB.out).1; clear hSw; go_simp; try with_reducible rfl))
  try simp only [Act.put, List.setIfInBounds_toArray, List.set_cons_zero, List.set_cons_succ]
  refine wpAnyK_take (i := 7) (oi := ?_) (v := ?_) ?_ (by kernel_rfl) (by kernel_rfl) (by kernel_rfl) (fun _ _ _ h => h) (by decide) ?_ HS.out (fun _ => HR0.out) ?_
  rotate_left 2
  · (simp only [List.getElem?_toArray, List.getElem?_cons_succ, List.getElem?_cons_zero]; rfl)
  · (first | exact Or.inr ⟨by rfl, rfl⟩ | (refine Or.inl ⟨by rfl, ?_⟩; intro W hSw;  clear hSw; go_simp; try with_reducible rfl))
  try simp only [Act.put, List.setIfInBounds_toArray, List.set_cons_zero, List.set_cons_succ]
  refine wpAnyK_take (i := 8) (oi := ?_) (v := ?_) ?_ (by kernel_rfl) (by kernel_rfl) (by kernel_rfl) (fun _ _ _ h => h) (by decide) ?_ HS.out (fun _ => HR0.out) ?_
  rotate_left 2
  · (simp only [List.getElem?_toArray, List.getElem?_cons_succ, List.getElem?_cons_zero]; rfl)
  · (first | exact Or.inr ⟨by rfl, rfl⟩ | (refine Or.inl ⟨by rfl, ?_⟩; intro W hSw; have hq : W.cell? ⟨D, 6, none⟩ = some (.int .i64 dp) := (by rw [cell_of_row' hSw.1]; rfl); clear hSw; go_simp; try with_reducible rfl))
  try simp only [Act.put, List.setIfInBounds_toArray, List.set_cons_zero, List.set_cons_succ]
  refine wpAnyK_take (i := 9) (oi := ?_) (v := ?_) ?_ (by kernel_rfl) (by kernel_rfl) (by kernel_rfl) (fun _ _ _ h => h) (by decide) ?_ HS.out (fun _ => HR0.out) ?_
  rotate_left 2
  · (simp only [List.getElem?_toArray, List.getElem?_cons_succ, List.getElem?_cons_zero]; rfl)
  · (first | exact Or.inr ⟨by rfl, rfl⟩ | (refine Or.inl ⟨by rfl, ?_⟩; intro W hSw;  clear hSw; go_simp; try with_reducible rfl))
  try simp only [Act.put, List.setIfInBounds_toArray, List.set_cons_zero, List.set_cons_succ]
  refine wpAnyK_take (i := 10) (oi := ?_) (v := ?_) ?_ (by kernel_rfl) (by kernel_rfl) (by kernel_rfl) (fun _ _ _ h => h) (by decide) ?_ HS.out (fun _ => HR0.out) ?_
  rotate_left 2
  · (simp only [List.getElem?_toArray, List.getElem?_cons_succ, List.getElem?_cons_zero]; rfl)
  · (first | exact Or.inr ⟨by rfl, rfl⟩ | (refine Or.inl ⟨by rfl, ?_⟩; intro W hSw;  clear hSw; go_simp; try with_reducible rfl))
  try simp only [Act.put, List.setIfInBounds_toArray, List.set_cons_zero, List.set_cons_succ]
  refine wpAnyK_take (i := 11) (oi := ?_) (v := ?_) ?_ (by kernel_rfl) (by kernel_rfl) (by kernel_rfl) (fun _ _ _ h => h) (by decide) ?_ HS.out (fun _ => HR0.out) ?_
  rotate_left 2
  · (simp only [List.getElem?_toArray, List.getElem?_cons_succ, List.getElem?_cons_zero]; rfl)
  · (first | exact Or.inr ⟨by rfl, rfl⟩ | (refine Or.inl ⟨by rfl, ?_⟩; intro W hSw;  clear hSw; go_simp; try with_reducible rfl))
  try simp only [Act.put, List.setIfInBounds_toArray, List.set_cons_zero, List.set_cons_succ]
  refine wpAnyK_done (by kernel_rfl) ?_ _
  refine NoPanic.normal ?_
  clear hbw HS HR0
  have c0 : w2.drew.cell? ⟨D, 0, none⟩ = some (.int .i64 9) := by rw [cell_of_row' (show w2.drew.heap[D]? = some (.cells #[.int .i64 9, .int .i64 a, .int .i64 b, .int .i64 al, .int .i64 cc, .int .u64 im, .int .i64 dp] 27 (0, 0)) from HD2.out)]; rfl
  go_upto_region 5 with (fail)
  clear c0
  have HX3 := Lib.hid (show Ctx (fun k => R k ∨ k = D) w2.drew.drew C B M m most mp s0 fk fa s from HX2.out.drew.drew)
  have HS := Lib.hid (show w2.drew.drew.heap[D]? = some (.cells #[.int .i64 9, .int .i64 a, .int .i64 b, .int .i64 al, .int .i64 cc, .int .u64 im, .int .i64 dp] 27 (0, 0)) from HD2.out)
  have HBK3 := Lib.hid (show Kept R w w2.drew.drew from HBK2.out.drew.drew)
  have HR0 := Lib.hid trivial
  refine wp_region_noPanic ?_
  refine wp_region_K (fun W => W.heap[D]? = some (.cells #[.int .i64 9, .int .i64 a, .int .i64 b, .int .i64 al, .int .i64 cc, .int .u64 im, .int .i64 dp] 27 (0, 0))) (fun _ => True) 99 (by kernel_rfl) ?_
  refine wpAnyK_take (i := 0) (oi := ?_) (v := ?_) ?_ (by kernel_rfl) (by kernel_rfl) (by kernel_rfl) (fun _ _ _ h => h) (by decide) ?_ HS.out (fun _ => HR0.out) ?_
  rotate_left 2
  · (simp only [List.getElem?_toArray, List.getElem?_cons_succ, List.getElem?_cons_zero]; rfl)
  · (first | exact Or.inr ⟨by rfl, rfl⟩ | (refine Or.inl ⟨by rfl, ?_⟩; intro W hSw;  clear hSw; go_simp; try with_reducible rfl))
  try simp only [Act.put, List.setIfInBounds_toArray, List.set_cons_zero, List.set_cons_succ]
  refine wpAnyK_take (i := 1) (oi := ?_) (v := ?_) ?_ (by kernel_rfl) (by kernel_rfl) (by kernel_rfl) (fun _ _ _ h => h) (by decide) ?_ HS.out (fun _ => HR0.out) ?_
  rotate_left 2
  · (simp only [List.getElem?_toArray, List.getElem?_cons_succ, List.getElem?_cons_zero]; rfl)
  · (first | exact Or.inr ⟨by rfl, rfl⟩ | (refine Or.inl ⟨by rfl, ?_⟩; intro W hSw;  clear hSw; go_simp; try with_reducible rfl))
  try simp only [Act.put, List.setIfInBounds_toArray, List.set_cons_zero, List.set_cons_succ]
  refine wpAnyK_take (i := 2) (oi := ?_) (v := ?_) ?_ (by kernel_rfl) (by kernel_rfl) (by kernel_rfl) (fun _ _ _ h => h) (by decide) ?_ HS.out (fun _ => HR0.out) ?_
  rotate_left 2
  · (simp only [List.getElem?_toArray, List.getElem?_cons_succ, List.getElem?_cons_zero]; rfl)
  · (first | exact Or.inr ⟨by rfl, rfl⟩ | (refine Or.inl ⟨by rfl, ?_⟩; intro W hSw;  clear hSw; go_simp; try with_reducible rfl))
  try simp only [Act.put, List.setIfInBounds_toArray, List.set_cons_zero, List.set_cons_succ]
  refine wpAnyK_take (i := 3) (oi := ?_) (v := ?_) ?_ (by kernel_rfl) (by kernel_rfl) (by kernel_rfl) (fun _ _ _ h => h) (by decide) ?_ HS.out (fun _ => HR0.out) ?_
  rotate_left 2
  · (simp only [List.getElem?_toArray, List.getElem?_cons_succ, List.getElem?_cons_zero]; rfl)
  · (first | exact Or.inr ⟨by rfl, rfl⟩ | (refine Or.inl ⟨by rfl, ?_⟩; intro W hSw;  clear hSw; go_simp; try with_reducible rfl))
  try simp only [Act.put, List.setIfInBounds_toArray, List.set_cons_zero, List.set_cons_succ]
  refine wpAnyK_take (i := 4) (oi := ?_) (v := ?_) ?_ (by kernel_rfl) (by kernel_rfl) (by kernel_rfl) (fun _ _ _ h => h) (by decide) ?_ HS.out (fun _ => HR0.out) ?_
  rotate_left 2
  · (simp only [List.getElem?_toArray, List.getElem?_cons_succ, List.getElem?_cons_zero]; rfl)
  · (first | exact Or.inr ⟨by rfl, rfl⟩ | (refine Or.inl ⟨by rfl, ?_⟩; intro W hSw; have hq : W.cell? ⟨D, 1, none⟩ = some (.int .i64 a) := (by rw [cell_of_row' hSw]; rfl); clear hSw; go_simp; try with_reducible rfl))
  try simp only [Act.put, List.setIfInBounds_toArray, List.set_cons_zero, List.set_cons_succ]
  refine wpAnyK_take (i := 5) (oi := ?_) (v := ?_) ?_ (by kernel_rfl) (by kernel_rfl) (by kernel_rfl) (fun _ _ _ h => h) (by decide) ?_ HS.out (fun _ => HR0.out) ?_
  rotate_left 2
  · (simp only [List.getElem?_toArray, List.getElem?_cons_succ, List.getElem?_cons_zero]; rfl)
  · (first | exact Or.inr ⟨by rfl, rfl⟩ | (refine Or.inl ⟨by rfl, ?_⟩; intro W hSw;  clear hSw; go_simp; try with_reducible rfl))
  try simp only [Act.put, List.setIfInBounds_toArray, List.set_cons_zero, List.set_cons_succ]
  refine wpAnyK_take (i := 6) (oi := ?_) (v := ?_) ?_ (by kernel_rfl) (by kernel_rfl) (by kernel_rfl) (fun _ _ _ h => h) (by decide) ?_ HS.out (fun _ => HR0.out) ?_
  rotate_left 2
  · (simp only [List.getElem?_toArray, List.getElem?_cons_succ, List.getElem?_cons_zero]; rfl)
  · (first | exact Or.inr ⟨by rfl, rfl⟩ | (refine Or.inl ⟨by rfl, ?_⟩; intro W hSw;  clear hSw; go_simp; try with_reducible rfl))
  try simp only [Act.put, List.setIfInBounds_toArray, List.set_cons_zero, List.set_cons_succ]
  refine wpAnyK_take (i := 7) (oi := ?_) (v := ?_) ?_ (by kernel_rfl) (by kernel_rfl) (by kernel_rfl) (fun _ _ _ h => h) (by decide) ?_ HS.out (fun _ => HR0.out) ?_
  rotate_left 2
  · (simp only [List.getElem?_toArray, List.getElem?_cons_succ, List.getElem?_cons_zero]; rfl)
  · (first | exact Or.inr ⟨by rfl, rfl⟩ | (refine Or.inl ⟨by rfl, ?_⟩; intro W hSw;  clear hSw; go_simp; try with_reducible rfl))
  try simp only [Act.put, List.setIfInBounds_toArray, List.set_cons_zero, List.set_cons_succ]
  refine wpAnyK_one (i := 8) (o := ?_) (by kernel_rfl) ?_ (fun K hK => ?_)
  rotate_left 1
  · (simp only [List.getElem?_toArray, List.getElem?_cons_succ, List.getElem?_cons_zero]; rfl)
  go_simp
  go_at_call 65
  refine (load_no _ w2.drew.drew C M m most mp s0 fk fa at' _ HX3.out.ok HAB.out.1 HAB.out.2 HX3.out.mem HX3.out.cpu HX3.out.rC HF.out).mono ?_
  rintro e w5 ⟨rfl, hm4, hc4, hk4⟩
  have HY := Lib.hid ((show DoN (fun k => R k ∨ k = D) w2.drew.drew C B M m most (askM mp (askS mp 1 2 8 at' 8)) s0 (askS mp 1 2 8 at' 8).1 (askS mp 1 2 8 at' 8).2.1 (.returned (.bool false)) w5 from ⟨rfl, hm4, hc4, hk4.mono (fun k hk => ⟨hk.1, hk.2.1⟩)⟩).back HBK3.out (fun k hk => .inl hk))
  have HS2 := Lib.hid (show w5.heap[D]? = some (.cells #[.int .i64 9, .int .i64 a, .int .i64 b, .int .i64 al, .int .i64 cc, .int .u64 im, .int .i64 dp] 27 (0, 0)) from (hk4.block D ⟨.inr rfl, HDB.out.2.1⟩).trans HS.out)
  clear hm4 hc4 hk4
  refine hK.out _ _ HS2.out (fun _ => trivial) ?_
  clear hK K
  try simp only [Act.put, List.setIfInBounds_toArray, List.set_cons_zero, List.set_cons_succ]
  refine wpAnyK_take (i := 9) (oi := ?_) (v := ?_) ?_ (by kernel_rfl) (by kernel_rfl) (by kernel_rfl) (fun _ _ _ h => h) (by decide) ?_ HS2.out (fun _ => HR0.out) ?_
  rotate_left 2
  · (simp only [List.getElem?_toArray, List.getElem?_cons_succ, List.getElem?_cons_zero]; rfl)
  · (first | exact Or.inr ⟨by rfl, rfl⟩ | (refine Or.inl ⟨by rfl, ?_⟩; intro W hSw;  clear hSw; go_simp; try with_reducible rfl))
  try simp only [Act.put, List.setIfInBounds_toArray, List.set_cons_zero, List.set_cons_succ]
  refine wpAnyK_done (by kernel_rfl) ?_ _
  refine NoPanic.normal ?_
  go_wp2
  go_ret
  rw [HAT.out]
  exact HY.out

set_option maxHeartbeats 4000000 in
theorem doLoadR_yes (R : Nat → Prop) (w : World) (C B M m : Nat) (most : Int) (mp : Int → Option Pg) (s0 : StV) (fk fa : Int) (s : StV) (a b al cc im : Nat) (dp : Int) (H : Ctx R w C B M m most mp s0 fk fa s) (ha : a < 16) (hf : (askS mp 1 2 8 (atM s (⟨11, a, b, al, cc, im, dp⟩ : InsV)) 8).1 = 0) :
    Calls Try.prog 64 #[.pointer (some ⟨C, 0, none⟩), .agg #[.int .i64 11, .int .i64 a, .int .i64 b, .int .i64 al, .int .i64 cc, .int .u64 im, .int .i64 dp], .pointer (some ⟨B, 0, none⟩)] w fun e w' => DoY R w B M m most mp (s.setR a (numM mp (atM s (⟨11, a, b, al, cc, im, dp⟩ : InsV)))) e w' := by
  have HF := Lib.hid hf
  have haI : (a : Int) < 16 := by omega
  have HSZ := Lib.hid H.mem.sz
  have HX := Lib.hid H
  have hlB := H.mem.sz B H.rB
  have hlC := H.mem.sz C H.rC
  clear H hf
  go_enter Try.func64, Try.ntmps64
  go_upto_region 1 with (fail)
  obtain ⟨w1, hw1⟩ : ∃ w1, w.alloc (.cells #[.int .i64 11, .int .i64 a, .int .i64 b, .int .i64 al, .int .i64 cc, .int .u64 im, .int .i64 dp] 27) = w1 := ⟨_, rfl⟩
  obtain ⟨D, hD⟩ : ∃ D, w.heap.size = D := ⟨_, rfl⟩
  have HX1 := Lib.hid (show Ctx (fun k => R k ∨ k = D) w1 C B M m most mp s0 fk fa s from by rw [← hw1, ← hD]; exact HX.out.boxed _)
  have HD1 := Lib.hid (show w1.heap[D]? = some (.cells #[.int .i64 11, .int .i64 a, .int .i64 b, .int .i64 al, .int .i64 cc, .int .u64 im, .int .i64 dp] 27 (0, 0)) from by rw [← hw1, ← hD]; exact heap_alloc_new w _)
  have HBK := Lib.hid (show Kept R w w1 from by rw [← hw1]; exact (Kept.refl R w).alloc HSZ.out _)
  have HDB := Lib.hid (show D ≠ B ∧ D ≠ C ∧ ¬ R D from ⟨by omega, by omega, fun h => by have := HSZ.out D h; omega⟩)
  refine (congrArg _ hw1).mpr ?_
  rw [hD]
  clear hw1 hD hlB hlC HX HSZ
  have c0 : w1.cell? ⟨D, 0, none⟩ = some (.int .i64 11) := by rw [cell_of_row' HD1.out]; rfl
  have c1 : w1.cell? ⟨D, 1, none⟩ = some (.int .i64 a) := by rw [cell_of_row' HD1.out]; rfl
  have c2 : w1.cell? ⟨D, 2, none⟩ = some (.int .i64 b) := by rw [cell_of_row' HD1.out]; rfl
  have c3 : w1.cell? ⟨D, 3, none⟩ = some (.int .i64 al) := by rw [cell_of_row' HD1.out]; rfl
  have c4 : w1.cell? ⟨D, 4, none⟩ = some (.int .i64 cc) := by rw [cell_of_row' HD1.out]; rfl
  have c5 : w1.cell? ⟨D, 5, none⟩ = some (.int .u64 im) := by rw [cell_of_row' HD1.out]; rfl
  have c6 : w1.cell? ⟨D, 6, none⟩ = some (.int .i64 dp) := by rw [cell_of_row' HD1.out]; rfl
  have HN := Lib.hid (show Calls Try.prog 66 #[.pointer (some ⟨B, 0, none⟩), .agg #[.int .i64 11, .int .i64 a, .int .i64 b, .int .i64 al, .int .i64 cc, .int .u64 im, .int .i64 dp]] w1 fun e w' => e = .returned (.int .u64 (nearM s (⟨11, a, b, al, cc, im, dp⟩ : InsV))) ∧ Below w1.heap.size w1 w' from near_any w1 B s (⟨11, a, b, al, cc, im, dp⟩ : InsV) HX1.out.st)
  have HAB := Lib.hid (atM_bd s (⟨11, a, b, al, cc, im, dp⟩ : InsV))
  have hat0 : atM s (⟨11, a, b, al, cc, im, dp⟩ : InsV) = nearM s (⟨11, a, b, al, cc, im, dp⟩ : InsV) := by unfold atM; rw [if_neg (by simp)]
  rw [← hat0] at HN
  obtain ⟨at', hat⟩ : ∃ q, atM s (⟨11, a, b, al, cc, im, dp⟩ : InsV) = q := ⟨_, rfl⟩
  have HAT := Lib.hid hat
  rw [hat] at HF HAB HN
  clear hat hat0
  go_wp2_with fail
  refine HN.out.mono ?_
  rintro e w2 ⟨rfl, hb2⟩
  have HX2 := Lib.hid (HX1.out.below hb2)
  have HD2 := Lib.hid (show w2.heap[D]? = some (.cells #[.int .i64 11, .int .i64 a, .int .i64 b, .int .i64 al, .int .i64 cc, .int .u64 im, .int .i64 dp] 27 (0, 0)) from (hb2.block D (lt_of_row' HD1.out)).trans HD1.out)
  have HBK2 := Lib.hid (HBK.out.trans (Kept.of_below hb2 (fun k hk => HX1.out.mem.sz k (.inl hk))))
  clear hb2 HN c0 c1 c2 c3 c4 c5 c6
  have c0 : w2.cell? ⟨D, 0, none⟩ = some (.int .i64 11) := by rw [cell_of_row' HD2.out]; rfl
  go_upto_region 5 with (fail)
  clear c0
  have HX3 := Lib.hid (show Ctx (fun k => R k ∨ k = D) w2.drew C B M m most mp s0 fk fa s from HX2.out.drew)
  have HS := Lib.hid (show w2.drew.heap[D]? = some (.cells #[.int .i64 11, .int .i64 a, .int .i64 b, .int .i64 al, .int .i64 cc, .int .u64 im, .int .i64 dp] 27 (0, 0)) from HD2.out)
  have HBK3 := Lib.hid (show Kept R w w2.drew from HBK2.out.drew)
  have HR0 := Lib.hid trivial
  refine wp_region_noPanic ?_
  refine wp_region_K (fun W => W.heap[D]? = some (.cells #[.int .i64 11, .int .i64 a, .int .i64 b, .int .i64 al, .int .i64 cc, .int .u64 im, .int .i64 dp] 27 (0, 0))) (fun _ => True) 99 (by kernel_rfl) ?_
  refine wpAnyK_take (i := 0) (oi := ?_) (v := ?_) ?_ (by kernel_rfl) (by kernel_rfl) (by kernel_rfl) (fun _ _ _ h => h) (by decide) ?_ HS.out (fun _ => HR0.out) ?_
  rotate_left 2
  · (simp only [List.getElem?_toArray, List.getElem?_cons_succ, List.getElem?_cons_zero]; rfl)
  · (first | exact Or.inr ⟨by rfl, rfl⟩ | (refine Or.inl ⟨by rfl, ?_⟩; intro W hSw;  clear hSw; go_simp; try with_reducible rfl))
  try simp only [Act.put, List.setIfInBounds_toArray, List.set_cons_zero, List.set_cons_succ]
  refine wpAnyK_take (i := 1) (oi := ?_) (v := ?_) ?_ (by kernel_rfl) (by kernel_rfl) (by kernel_rfl) (fun _ _ _ h => h) (by decide) ?_ HS.out (fun _ => HR0.out) ?_
  rotate_left 2
  · (simp only [List.getElem?_toArray, List.getElem?_cons_succ, List.getElem?_cons_zero]; rfl)
  · (first | exact Or.inr ⟨by rfl, rfl⟩ | (refine Or.inl ⟨by rfl, ?_⟩; intro W hSw;  clear hSw; go_simp; try with_reducible rfl))
  try simp only [Act.put, List.setIfInBounds_toArray, List.set_cons_zero, List.set_cons_succ]
  refine wpAnyK_take (i := 2) (oi := ?_) (v := ?_) ?_ (by kernel_rfl) (by kernel_rfl) (by kernel_rfl) (fun _ _ _ h => h) (by decide) ?_ HS.out (fun _ => HR0.out) ?_
  rotate_left 2
  · (simp only [List.getElem?_toArray, List.getElem?_cons_succ, List.getElem?_cons_zero]; rfl)
  · (first | exact Or.inr ⟨by rfl, rfl⟩ | (refine Or.inl ⟨by rfl, ?_⟩; intro W hSw;  clear hSw; go_simp; try with_reducible rfl))
  try simp only [Act.put, List.setIfInBounds_toArray, List.set_cons_zero, List.set_cons_succ]
  refine wpAnyK_take (i := 3) (oi := ?_) (v := ?_) ?_ (by kernel_rfl) (by kernel_rfl) (by kernel_rfl) (fun _ _ _ h => h) (by decide) ?_ HS.out (fun _ => HR0.out) ?_
  rotate_left 2
  · (simp only [List.getElem?_toArray, List.getElem?_cons_succ, List.getElem?_cons_zero]; rfl)
  · (first | exact Or.inr ⟨by rfl, rfl⟩ | (refine Or.inl ⟨by rfl, ?_⟩; intro W hSw;  clear hSw; go_simp; try with_reducible rfl))
  try simp only [Act.put, List.setIfInBounds_toArray, List.set_cons_zero, List.set_cons_succ]
  refine wpAnyK_take (i := 4) (oi := ?_) (v := ?_) ?_ (by kernel_rfl) (by kernel_rfl) (by kernel_rfl) (fun _ _ _ h => h) (by decide) ?_ HS.out (fun _ => HR0.out) ?_
  rotate_left 2
  · (simp only [List.getElem?_toArray, List.getElem?_cons_succ, List.getElem?_cons_zero]; rfl)
  · (first | exact Or.inr ⟨by rfl, rfl⟩ | (refine Or.inl ⟨by rfl, ?_⟩; intro W hSw; have hq : W.cell? ⟨D, 1, none⟩ = some (.int .i64 a) := (by rw [cell_of_row' hSw]; rfl); clear hSw; go_simp; try with_reducible rfl))
  try simp only [Act.put, List.setIfInBounds_toArray, List.set_cons_zero, List.set_cons_succ]
  refine wpAnyK_take (i := 5) (oi := ?_) (v := ?_) ?_ (by kernel_rfl) (by kernel_rfl) (by kernel_rfl) (fun _ _ _ h => h) (by decide) ?_ HS.out (fun _ => HR0.out) ?_
  rotate_left 2
  · (simp only [List.getElem?_toArray, List.getElem?_cons_succ, List.getElem?_cons_zero]; rfl)
  · (first | exact Or.inr ⟨by rfl, rfl⟩ | (refine Or.inl ⟨by rfl, ?_⟩; intro W hSw;  clear hSw; go_simp; try with_reducible rfl))
  try simp only [Act.put, List.setIfInBounds_toArray, List.set_cons_zero, List.set_cons_succ]
  refine wpAnyK_take (i := 6) (oi := ?_) (v := ?_) ?_ (by kernel_rfl) (by kernel_rfl) (by kernel_rfl) (fun _ _ _ h => h) (by decide) ?_ HS.out (fun _ => HR0.out) ?_
  rotate_left 2
  · (simp only [List.getElem?_toArray, List.getElem?_cons_succ, List.getElem?_cons_zero]; rfl)
  · (first | exact Or.inr ⟨by rfl, rfl⟩ | (refine Or.inl ⟨by rfl, ?_⟩; intro W hSw;  clear hSw; go_simp; try with_reducible rfl))
  try simp only [Act.put, List.setIfInBounds_toArray, List.set_cons_zero, List.set_cons_succ]
  refine wpAnyK_take (i := 7) (oi := ?_) (v := ?_) ?_ (by kernel_rfl) (by kernel_rfl) (by kernel_rfl) (fun _ _ _ h => h) (by decide) ?_ HS.out (fun _ => HR0.out) ?_
  rotate_left 2
  · (simp only [List.getElem?_toArray, List.getElem?_cons_succ, List.getElem?_cons_zero]; rfl)
  · (first | exact Or.inr ⟨by rfl, rfl⟩ | (refine Or.inl ⟨by rfl, ?_⟩; intro W hSw;  clear hSw; go_simp; try with_reducible rfl))
  try simp only [Act.put, List.setIfInBounds_toArray, List.set_cons_zero, List.set_cons_succ]
  refine wpAnyK_one (i := 8) (o := ?_) (by kernel_rfl) ?_ (fun K hK => ?_)
  rotate_left 1
  · (simp only [List.getElem?_toArray, List.getElem?_cons_succ, List.getElem?_cons_zero]; rfl)
  go_simp
  go_at_call 65
  refine (load_yes _ w2.drew C M m most mp s0 fk fa at' B a _ HX3.out.ok HAB.out.1 HAB.out.2 HX3.out.mem HX3.out.cpu HX3.out.rC HX3.out.rB (HX3.out.st.reg ha).1 (HX3.out.st.reg ha).2 HF.out).mono ?_
  rintro e w5 ⟨rfl, w4, hk4, hm4, rfl⟩
  have hb := numM_bd HX3.out.ok at'
  have HX5 := (HX3.out.keep hm4 hk4).setR ha hb.1 hb.2
  have hk5 := (hk4.mono (R' := fun k => (R k ∨ k = D) ∧ k ≠ B) (fun k hk => hk.1)).trans (keptB w4 B a (.int .u64 (numM mp at')))
  have HY := Lib.hid ((HX5.yes hk5).back HBK3.out (fun k hk => .inl hk))
  have HS2 := Lib.hid (show (w4.setCell ⟨B, a, none⟩ (.int .u64 (numM mp at'))).heap[D]? = some (.cells #[.int .i64 11, .int .i64 a, .int .i64 b, .int .i64 al, .int .i64 cc, .int .u64 im, .int .i64 dp] 27 (0, 0)) from (hk5.block D ⟨.inr rfl, HDB.out.1⟩).trans HS.out)
  clear hb HX5 hk4 hk5 hm4
  refine hK.out _ _ HS2.out (fun _ => trivial) ?_
  clear hK K
  try simp only [Act.put, List.setIfInBounds_toArray, List.set_cons_zero, List.set_cons_succ]
  refine wpAnyK_take (i := 9) (oi := ?_) (v := ?_) ?_ (by kernel_rfl) (by kernel_rfl) (by kernel_rfl) (fun _ _ _ h => h) (by decide) ?_ HS2.out (fun _ => HR0.out) ?_
  rotate_left 2
  · (simp only [List.getElem?_toArray, List.getElem?_cons_succ, List.getElem?_cons_zero]; rfl)
  · (first | exact Or.inr ⟨by rfl, rfl⟩ | (refine Or.inl ⟨by rfl, ?_⟩; intro W hSw;  clear hSw; go_simp; try with_reducible rfl))
  try simp only [Act.put, List.setIfInBounds_toArray, List.set_cons_zero, List.set_cons_succ]
  refine wpAnyK_done (by kernel_rfl) ?_ _
  refine NoPanic.normal ?_
  go_wp2
  go_ret
  rw [HAT.out]
  exact HY.out

set_option maxHeartbeats 4000000 in
theorem doLoadR_no (R : Nat → Prop) (w : World) (C B M m : Nat) (most : Int) (mp : Int → Option Pg) (s0 : StV) (fk fa : Int) (s : StV) (a b al cc im : Nat) (dp : Int) (H : Ctx R w C B M m most mp s0 fk fa s) (ha : a < 16) (hf : (askS mp 1 2 8 (atM s (⟨11, a, b, al, cc, im, dp⟩ : InsV)) 8).1 ≠ 0) :
    Calls Try.prog 64 #[.pointer (some ⟨C, 0, none⟩), .agg #[.int .i64 11, .int .i64 a, .int .i64 b, .int .i64 al, .int .i64 cc, .int .u64 im, .int .i64 dp], .pointer (some ⟨B, 0, none⟩)] w fun e w' => DoN R w C B M m most (askM mp (askS mp 1 2 8 (atM s (⟨11, a, b, al, cc, im, dp⟩ : InsV)) 8)) s0 (askS mp 1 2 8 (atM s (⟨11, a, b, al, cc, im, dp⟩ : InsV)) 8).1 (askS mp 1 2 8 (atM s (⟨11, a, b, al, cc, im, dp⟩ : InsV)) 8).2.1 e w' := by
  have HF := Lib.hid hf
  have haI : (a : Int) < 16 := by omega
  have HSZ := Lib.hid H.mem.sz
  have HX := Lib.hid H
  have hlB := H.mem.sz B H.rB
  have hlC := H.mem.sz C H.rC
  clear H hf
  go_enter Try.func64, Try.ntmps64
  go_upto_region 1 with (fail)
  obtain ⟨w1, hw1⟩ : ∃ w1, w.alloc (.cells #[.int .i64 11, .int .i64 a, .int .i64 b, .int .i64 al, .int .i64 cc, .int .u64 im, .int .i64 dp] 27) = w1 := ⟨_, rfl⟩
  obtain ⟨D, hD⟩ : ∃ D, w.heap.size = D := ⟨_, rfl⟩
  have HX1 := Lib.hid (show Ctx (fun k => R k ∨ k = D) w1 C B M m most mp s0 fk fa s from by rw [← hw1, ← hD]; exact HX.out.boxed _)
  have HD1 := Lib.hid (show w1.heap[D]? = some (.cells #[.int .i64 11, .int .i64 a, .int .i64 b, .int .i64 al, .int .i64 cc, .int .u64 im, .int .i64 dp] 27 (0, 0)) from by rw [← hw1, ← hD]; exact heap_alloc_new w _)
  have HBK := Lib.hid (show Kept R w w1 from by rw [← hw1]; exact (Kept.refl R w).alloc HSZ.out _)
  have HDB := Lib.hid (show D ≠ B ∧ D ≠ C ∧ ¬ R D from ⟨by omega, by omega, fun h => by have := HSZ.out D h; omega⟩)
  refine (congrArg _ hw1).mpr ?_
  rw [hD]
  clear hw1 hD hlB hlC HX HSZ
  have c0 : w1.cell? ⟨D, 0, none⟩ = some (.int .i64 11) := by rw [cell_of_row' HD1.out]; rfl
  have c1 : w1.cell? ⟨D, 1, none⟩ = some (.int .i64 a) := by rw [cell_of_row' HD1.out]; rfl
  have c2 : w1.cell? ⟨D, 2, none⟩ = some (.int .i64 b) := by rw [cell_of_row' HD1.out]; rfl
  have c3 : w1.cell? ⟨D, 3, none⟩ = some (.int .i64 al) := by rw [cell_of_row' HD1.out]; rfl
  have c4 : w1.cell? ⟨D, 4, none⟩ = some (.int .i64 cc) := by rw [cell_of_row' HD1.out]; rfl
  have c5 : w1.cell? ⟨D, 5, none⟩ = some (.int .u64 im) := by rw [cell_of_row' HD1.out]; rfl
  have c6 : w1.cell? ⟨D, 6, none⟩ = some (.int .i64 dp) := by rw [cell_of_row' HD1.out]; rfl
  have HN := Lib.hid (show Calls Try.prog 66 #[.pointer (some ⟨B, 0, none⟩), .agg #[.int .i64 11, .int .i64 a, .int .i64 b, .int .i64 al, .int .i64 cc, .int .u64 im, .int .i64 dp]] w1 fun e w' => e = .returned (.int .u64 (nearM s (⟨11, a, b, al, cc, im, dp⟩ : InsV))) ∧ Below w1.heap.size w1 w' from near_any w1 B s (⟨11, a, b, al, cc, im, dp⟩ : InsV) HX1.out.st)
  have HAB := Lib.hid (atM_bd s (⟨11, a, b, al, cc, im, dp⟩ : InsV))
  have hat0 : atM s (⟨11, a, b, al, cc, im, dp⟩ : InsV) = nearM s (⟨11, a, b, al, cc, im, dp⟩ : InsV) := by unfold atM; rw [if_neg (by simp)]
  rw [← hat0] at HN
  obtain ⟨at', hat⟩ : ∃ q, atM s (⟨11, a, b, al, cc, im, dp⟩ : InsV) = q := ⟨_, rfl⟩
  have HAT := Lib.hid hat
  rw [hat] at HF HAB HN
  clear hat hat0
  go_wp2_with fail
  refine HN.out.mono ?_
  rintro e w2 ⟨rfl, hb2⟩
  have HX2 := Lib.hid (HX1.out.below hb2)
  have HD2 := Lib.hid (show w2.heap[D]? = some (.cells #[.int .i64 11, .int .i64 a, .int .i64 b, .int .i64 al, .int .i64 cc, .int .u64 im, .int .i64 dp] 27 (0, 0)) from (hb2.block D (lt_of_row' HD1.out)).trans HD1.out)
  have HBK2 := Lib.hid (HBK.out.trans (Kept.of_below hb2 (fun k hk => HX1.out.mem.sz k (.inl hk))))
  clear hb2 HN c0 c1 c2 c3 c4 c5 c6
  have c0 : w2.cell? ⟨D, 0, none⟩ = some (.int .i64 11) := by rw [cell_of_row' HD2.out]; rfl
  go_upto_region 5 with (fail)
  clear c0
  have HX3 := Lib.hid (show Ctx (fun k => R k ∨ k = D) w2.drew C B M m most mp s0 fk fa s from HX2.out.drew)
  have HS := Lib.hid (show w2.drew.heap[D]? = some (.cells #[.int .i64 11, .int .i64 a, .int .i64 b, .int .i64 al, .int .i64 cc, .int .u64 im, .int .i64 dp] 27 (0, 0)) from HD2.out)
  have HBK3 := Lib.hid (show Kept R w w2.drew from HBK2.out.drew)
  have HR0 := Lib.hid trivial
  refine wp_region_noPanic ?_
  refine wp_region_K (fun W => W.heap[D]? = some (.cells #[.int .i64 11, .int .i64 a, .int .i64 b, .int .i64 al, .int .i64 cc, .int .u64 im, .int .i64 dp] 27 (0, 0))) (fun _ => True) 99 (by kernel_rfl) ?_
  refine wpAnyK_take (i := 0) (oi := ?_) (v := ?_) ?_ (by kernel_rfl) (by kernel_rfl) (by kernel_rfl) (fun _ _ _ h => h) (by decide) ?_ HS.out (fun _ => HR0.out) ?_
  rotate_left 2
  · (simp only [List.getElem?_toArray, List.getElem?_cons_succ, List.getElem?_cons_zero]; rfl)
  · (first | exact Or.inr ⟨by rfl, rfl⟩ | (refine Or.inl ⟨by rfl, ?_⟩; intro W hSw;  clear hSw; go_simp; try with_reducible rfl))
  try simp only [Act.put, List.setIfInBounds_toArray, List.set_cons_zero, List.set_cons_succ]
  refine wpAnyK_take (i := 1) (oi := ?_) (v := ?_) ?_ (by kernel_rfl) (by kernel_rfl) (by kernel_rfl) (fun _ _ _ h => h) (by decide) ?_ HS.out (fun _ => HR0.out) ?_
  rotate_left 2
  · (simp only [List.getElem?_toArray, List.getElem?_cons_succ, List.getElem?_cons_zero]; rfl)
  · (first | exact Or.inr ⟨by rfl, rfl⟩ | (refine Or.inl ⟨by rfl, ?_⟩; intro W hSw;  clear hSw; go_simp; try with_reducible rfl))
  try simp only [Act.put, List.setIfInBounds_toArray, List.set_cons_zero, List.set_cons_succ]
  refine wpAnyK_take (i := 2) (oi := ?_) (v := ?_) ?_ (by kernel_rfl) (by kernel_rfl) (by kernel_rfl) (fun _ _ _ h => h) (by decide) ?_ HS.out (fun _ => HR0.out) ?_
  rotate_left 2
  · (simp only [List.getElem?_toArray, List.getElem?_cons_succ, List.getElem?_cons_zero]; rfl)
  · (first | exact Or.inr ⟨by rfl, rfl⟩ | (refine Or.inl ⟨by rfl, ?_⟩; intro W hSw;  clear hSw; go_simp; try with_reducible rfl))
  try simp only [Act.put, List.setIfInBounds_toArray, List.set_cons_zero, List.set_cons_succ]
  refine wpAnyK_take (i := 3) (oi := ?_) (v := ?_) ?_ (by kernel_rfl) (by kernel_rfl) (by kernel_rfl) (fun _ _ _ h => h) (by decide) ?_ HS.out (fun _ => HR0.out) ?_
  rotate_left 2
  · (simp only [List.getElem?_toArray, List.getElem?_cons_succ, List.getElem?_cons_zero]; rfl)
  · (first | exact Or.inr ⟨by rfl, rfl⟩ | (refine Or.inl ⟨by rfl, ?_⟩; intro W hSw;  clear hSw; go_simp; try with_reducible rfl))
  try simp only [Act.put, List.setIfInBounds_toArray, List.set_cons_zero, List.set_cons_succ]
  refine wpAnyK_take (i := 4) (oi := ?_) (v := ?_) ?_ (by kernel_rfl) (by kernel_rfl) (by kernel_rfl) (fun _ _ _ h => h) (by decide) ?_ HS.out (fun _ => HR0.out) ?_
  rotate_left 2
  · (simp only [List.getElem?_toArray, List.getElem?_cons_succ, List.getElem?_cons_zero]; rfl)
  · (first | exact Or.inr ⟨by rfl, rfl⟩ | (refine Or.inl ⟨by rfl, ?_⟩; intro W hSw; have hq : W.cell? ⟨D, 1, none⟩ = some (.int .i64 a) := (by rw [cell_of_row' hSw]; rfl); clear hSw; go_simp; try with_reducible rfl))
  try simp only [Act.put, List.setIfInBounds_toArray, List.set_cons_zero, List.set_cons_succ]
  refine wpAnyK_take (i := 5) (oi := ?_) (v := ?_) ?_ (by kernel_rfl) (by kernel_rfl) (by kernel_rfl) (fun _ _ _ h => h) (by decide) ?_ HS.out (fun _ => HR0.out) ?_
  rotate_left 2
  · (simp only [List.getElem?_toArray, List.getElem?_cons_succ, List.getElem?_cons_zero]; rfl)
  · (first | exact Or.inr ⟨by rfl, rfl⟩ | (refine Or.inl ⟨by rfl, ?_⟩; intro W hSw;  clear hSw; go_simp; try with_reducible rfl))
  try simp only [Act.put, List.setIfInBounds_toArray, List.set_cons_zero, List.set_cons_succ]
  refine wpAnyK_take (i := 6) (oi := ?_) (v := ?_) ?_ (by kernel_rfl) (by kernel_rfl) (by kernel_rfl) (fun _ _ _ h => h) (by decide) ?_ HS.out (fun _ => HR0.out) ?_
  rotate_left 2
  · (simp only [List.getElem?_toArray, List.getElem?_cons_succ, List.getElem?_cons_zero]; rfl)
  · (first | exact Or.inr ⟨by rfl, rfl⟩ | (refine Or.inl ⟨by rfl, ?_⟩; intro W hSw;  clear hSw; go_simp; try with_reducible rfl))
  try simp only [Act.put, List.setIfInBounds_toArray, List.set_cons_zero, List.set_cons_succ]
  refine wpAnyK_take (i := 7) (oi := ?_) (v := ?_) ?_ (by kernel_rfl) (by kernel_rfl) (by kernel_rfl) (fun _ _ _ h => h) (by decide) ?_ HS.out (fun _ => HR0.out) ?_
  rotate_left 2
  · (simp only [List.getElem?_toArray, List.getElem?_cons_succ, List.getElem?_cons_zero]; rfl)
  · (first | exact Or.inr ⟨by rfl, rfl⟩ | (refine Or.inl ⟨by rfl, ?_⟩; intro W hSw;  clear hSw; go_simp; try with_reducible rfl))
  try simp only [Act.put, List.setIfInBounds_toArray, List.set_cons_zero, List.set_cons_succ]
  refine wpAnyK_one (i := 8) (o := ?_) (by kernel_rfl) ?_ (fun K hK => ?_)
  rotate_left 1
  · (simp only [List.getElem?_toArray, List.getElem?_cons_succ, List.getElem?_cons_zero]; rfl)
  go_simp
  go_at_call 65
  refine (load_no _ w2.drew C M m most mp s0 fk fa at' _ HX3.out.ok HAB.out.1 HAB.out.2 HX3.out.mem HX3.out.cpu HX3.out.rC HF.out).mono ?_
  rintro e w5 ⟨rfl, hm4, hc4, hk4⟩
  have HY := Lib.hid ((show DoN (fun k => R k ∨ k = D) w2.drew C B M m most (askM mp (askS mp 1 2 8 at' 8)) s0 (askS mp 1 2 8 at' 8).1 (askS mp 1 2 8 at' 8).2.1 (.returned (.bool false)) w5 from ⟨rfl, hm4, hc4, hk4.mono (fun k hk => ⟨hk.1, hk.2.1⟩)⟩).back HBK3.out (fun k hk => .inl hk))
  have HS2 := Lib.hid (show w5.heap[D]? = some (.cells #[.int .i64 11, .int .i64 a, .int .i64 b, .int .i64 al, .int .i64 cc, .int .u64 im, .int .i64 dp] 27 (0, 0)) from (hk4.block D ⟨.inr rfl, HDB.out.2.1⟩).trans HS.out)
  clear hm4 hc4 hk4
  refine hK.out _ _ HS2.out (fun _ => trivial) ?_
  clear hK K
  try simp only [Act.put, List.setIfInBounds_toArray, List.set_cons_zero, List.set_cons_succ]
  refine wpAnyK_take (i := 9) (oi := ?_) (v := ?_) ?_ (by kernel_rfl) (by kernel_rfl) (by kernel_rfl) (fun _ _ _ h => h) (by decide) ?_ HS2.out (fun _ => HR0.out) ?_
  rotate_left 2
  · (simp only [List.getElem?_toArray, List.getElem?_cons_succ, List.getElem?_cons_zero]; rfl)
  · (first | exact Or.inr ⟨by rfl, rfl⟩ | (refine Or.inl ⟨by rfl, ?_⟩; intro W hSw;  clear hSw; go_simp; try with_reducible rfl))
  try simp only [Act.put, List.setIfInBounds_toArray, List.set_cons_zero, List.set_cons_succ]
  refine wpAnyK_done (by kernel_rfl) ?_ _
  refine NoPanic.normal ?_
  go_wp2
  go_ret
  rw [HAT.out]
  exact HY.out

set_option maxHeartbeats 4000000 in
theorem doStore_yes (R : Nat → Prop) (w : World) (C B M m : Nat) (most : Int) (mp : Int → Option Pg) (s0 : StV) (fk fa : Int) (s : StV) (a b al cc im : Nat) (dp : Int) (H : Ctx R w C B M m most mp s0 fk fa s) (ha : a < 16) (hb : b < 16) (hf : (askS mp 2 3 8 (atM s (⟨10, a, b, al, cc, im, dp⟩ : InsV)) 8).1 = 0) :
    Calls Try.prog 64 #[.pointer (some ⟨C, 0, none⟩), .agg #[.int .i64 10, .int .i64 a, .int .i64 b, .int .i64 al, .int .i64 cc, .int .u64 im, .int .i64 dp], .pointer (some ⟨B, 0, none⟩)] w fun e w' => DoY R w B M m most (putP mp (atM s (⟨10, a, b, al, cc, im, dp⟩ : InsV)) 8 (le8 (s.r a))) s e w' := by
  have HF := Lib.hid hf
  have haI : (a : Int) < 16 := by omega
  have hbI : (b : Int) < 16 := by omega
  have HHB := Lib.hid hb
  have HSZ := Lib.hid H.mem.sz
  have HX := Lib.hid H
  have hlB := H.mem.sz B H.rB
  have hlC := H.mem.sz C H.rC
  clear H hf
  go_enter Try.func64, Try.ntmps64
  go_upto_region 1 with (fail)
  obtain ⟨w1, hw1⟩ : ∃ w1, w.alloc (.cells #[.int .i64 10, .int .i64 a, .int .i64 b, .int .i64 al, .int .i64 cc, .int .u64 im, .int .i64 dp] 27) = w1 := ⟨_, rfl⟩
  obtain ⟨D, hD⟩ : ∃ D, w.heap.size = D := ⟨_, rfl⟩
  have HX1 := Lib.hid (show Ctx (fun k => R k ∨ k = D) w1 C B M m most mp s0 fk fa s from by rw [← hw1, ← hD]; exact HX.out.boxed _)
  have HD1 := Lib.hid (show w1.heap[D]? = some (.cells #[.int .i64 10, .int .i64 a, .int .i64 b, .int .i64 al, .int .i64 cc, .int .u64 im, .int .i64 dp] 27 (0, 0)) from by rw [← hw1, ← hD]; exact heap_alloc_new w _)
  have HBK := Lib.hid (show Kept R w w1 from by rw [← hw1]; exact (Kept.refl R w).alloc HSZ.out _)
  have HDB := Lib.hid (show D ≠ B ∧ D ≠ C ∧ ¬ R D from ⟨by omega, by omega, fun h => by have := HSZ.out D h; omega⟩)
  refine (congrArg _ hw1).mpr ?_
  rw [hD]
  clear hw1 hD hlB hlC HX HSZ
  have c0 : w1.cell? ⟨D, 0, none⟩ = some (.int .i64 10) := by rw [cell_of_row' HD1.out]; rfl
  have c1 : w1.cell? ⟨D, 1, none⟩ = some (.int .i64 a) := by rw [cell_of_row' HD1.out]; rfl
  have c2 : w1.cell? ⟨D, 2, none⟩ = some (.int .i64 b) := by rw [cell_of_row' HD1.out]; rfl
  have c3 : w1.cell? ⟨D, 3, none⟩ = some (.int .i64 al) := by rw [cell_of_row' HD1.out]; rfl
  have c4 : w1.cell? ⟨D, 4, none⟩ = some (.int .i64 cc) := by rw [cell_of_row' HD1.out]; rfl
  have c5 : w1.cell? ⟨D, 5, none⟩ = some (.int .u64 im) := by rw [cell_of_row' HD1.out]; rfl
  have c6 : w1.cell? ⟨D, 6, none⟩ = some (.int .i64 dp) := by rw [cell_of_row' HD1.out]; rfl
  have HN := Lib.hid (show Calls Try.prog 66 #[.pointer (some ⟨B, 0, none⟩), .agg #[.int .i64 10, .int .i64 a, .int .i64 b, .int .i64 al, .int .i64 cc, .int .u64 im, .int .i64 dp]] w1 fun e w' => e = .returned (.int .u64 (nearM s (⟨10, a, b, al, cc, im, dp⟩ : InsV))) ∧ Below w1.heap.size w1 w' from near_any w1 B s (⟨10, a, b, al, cc, im, dp⟩ : InsV) HX1.out.st)
  have HAB := Lib.hid (atM_bd s (⟨10, a, b, al, cc, im, dp⟩ : InsV))
  have hat0 : atM s (⟨10, a, b, al, cc, im, dp⟩ : InsV) = baseM s (⟨10, a, b, al, cc, im, dp⟩ : InsV) := by unfold atM; rw [if_pos (by simp)]
  have hbw : IntKind.u64.wrap (s.r b + IntKind.u64.wrap dp) = atM s (⟨10, a, b, al, cc, im, dp⟩ : InsV) := by rw [hat0, IntKind.wrap_u64, IntKind.wrap_u64]; unfold baseM; show _ = (s.r b + dp) % _; omega
  generalize nearM s (⟨10, a, b, al, cc, im, dp⟩ : InsV) = nr at *
  obtain ⟨at', hat⟩ : ∃ q, atM s (⟨10, a, b, al, cc, im, dp⟩ : InsV) = q := ⟨_, rfl⟩
  have HAT := Lib.hid hat
  rw [hat] at HF HAB hbw
  clear hat hat0
  have HBW := Lib.hid hbw
  clear hbw
  go_wp2_with fail
  refine HN.out.mono ?_
  rintro e w2 ⟨rfl, hb2⟩
  have HX2 := Lib.hid (HX1.out.below hb2)
  have HD2 := Lib.hid (show w2.heap[D]? = some (.cells #[.int .i64 10, .int .i64 a, .int .i64 b, .int .i64 al, .int .i64 cc, .int .u64 im, .int .i64 dp] 27 (0, 0)) from (hb2.block D (lt_of_row' HD1.out)).trans HD1.out)
  have HBK2 := Lib.hid (HBK.out.trans (Kept.of_below hb2 (fun k hk => HX1.out.mem.sz k (.inl hk))))
  clear hb2 HN c0 c1 c2 c3 c4 c5 c6
  have c0 : w2.cell? ⟨D, 0, none⟩ = some (.int .i64 10) := by rw [cell_of_row' HD2.out]; rfl
  go_upto_region 3 with (fail)
  clear c0
  have HS := Lib.hid (show w2.drew.heap[D]? = some (.cells #[.int .i64 10, .int .i64 a, .int .i64 b, .int .i64 al, .int .i64 cc, .int .u64 im, .int .i64 dp] 27 (0, 0)) ∧ StAt w2.drew B s from ⟨HD2.out, HX2.out.st⟩)
  have HR0 := Lib.hid trivial
  have hbw := HBW.out
  refine wp_region_noPanic ?_
  refine wp_region_K (fun W => W.heap[D]? = some (.cells #[.int .i64 10, .int .i64 a, .int .i64 b, .int .i64 al, .int .i64 cc, .int .u64 im, .int .i64 dp] 27 (0, 0)) ∧ StAt W B s) (fun _ => True) 99 (by kernel_rfl) ?_
  refine wpAnyK_take (i := 0) (oi := ?_) (v := ?_) ?_ (by kernel_rfl) (by kernel_rfl) (by kernel_rfl) (fun _ _ _ h => h) (by decide) ?_ HS.out (fun _ => HR0.out) ?_
  rotate_left 2
  · (simp only [List.getElem?_toArray, List.getElem?_cons_succ, List.getElem?_cons_zero]; rfl)
  · (first | exact Or.inr ⟨by rfl, rfl⟩ | (refine Or.inl ⟨by rfl, ?_⟩; intro W hSw;  clear hSw; go_simp; try with_reducible rfl))
  try simp only [Act.put, List.setIfInBounds_toArray, List.set_cons_zero, List.set_cons_succ]
  refine wpAnyK_take (i := 1) (oi := ?_) (v := ?_) ?_ (by kernel_rfl) (by kernel_rfl) (by kernel_rfl) (fun _ _ _ h => h) (by decide) ?_ HS.out (fun _ => HR0.out) ?_
  rotate_left 2
  · (simp only [List.getElem?_toArray, List.getElem?_cons_succ, List.getElem?_cons_zero]; rfl)
  · (first | exact Or.inr ⟨by rfl, rfl⟩ | (refine Or.inl ⟨by rfl, ?_⟩; intro W hSw;  clear hSw; go_simp; try with_reducible rfl))
  try simp only [Act.put, List.setIfInBounds_toArray, List.set_cons_zero, List.set_cons_succ]
  refine wpAnyK_take (i := 2) (oi := ?_) (v := ?_) ?_ (by kernel_rfl) (by kernel_rfl) (by kernel_rfl) (fun _ _ _ h => h) (by decide) ?_ HS.out (fun _ => HR0.out) ?_
  rotate_left 2
  · (simp only [List.getElem?_toArray, List.getElem?_cons_succ, List.getElem?_cons_zero]; rfl)
  · (first | exact Or.inr ⟨by rfl, rfl⟩ | (refine Or.inl ⟨by rfl, ?_⟩; intro W hSw; have hq : W.cell? ⟨D, 2, none⟩ = some (.int .i64 b) := (by rw [cell_of_row' hSw.1]; rfl); clear hSw; go_simp; try with_reducible rfl))
  try simp only [Act.put, List.setIfInBounds_toArray, List.set_cons_zero, List.set_cons_succ]
  refine wpAnyK_take (i := 3) (oi := ?_) (v := ?_) ?_ (by kernel_rfl) (by kernel_rfl) (by kernel_rfl) (fun _ _ _ h => h) (by decide) ?_ HS.out (fun _ => HR0.out) ?_
  rotate_left 2
  · (simp only [List.getElem?_toArray, List.getElem?_cons_succ, List.getElem?_cons_zero]; rfl)
  · (first | exact Or.inr ⟨by rfl, rfl⟩ | (refine Or.inl ⟨by rfl, ?_⟩; intro W hSw;  clear hSw; go_simp; try with_reducible rfl))
  try simp only [Act.put, List.setIfInBounds_toArray, List.set_cons_zero, List.set_cons_succ]
  refine wpAnyK_take (i := 4) (oi := ?_) (v := ?_) ?_ (by kernel_rfl) (by kernel_rfl) (by kernel_rfl) (fun _ _ _ h => h) (by decide) ?_ HS.out (fun _ => HR0.out) ?_
  rotate_left 2
  · (simp only [List.getElem?_toArray, List.getElem?_cons_succ, List.getElem?_cons_zero]; rfl)
  · (first | exact Or.inr ⟨by rfl, rfl⟩ | (refine Or.inl ⟨by rfl, ?_⟩; intro W hSw;  clear hSw; go_simp; try with_reducible rfl))
  try simp only [Act.put, List.setIfInBounds_toArray, List.set_cons_zero, List.set_cons_succ]
  refine wpAnyK_take (i := 5) (oi := ?_) (v := ?_) ?_ (by kernel_rfl) (by kernel_rfl) (by kernel_rfl) (fun _ _ _ h => h) (by decide) ?_ HS.out (fun _ => HR0.out) ?_
  rotate_left 2
  · (simp only [List.getElem?_toArray, List.getElem?_cons_succ, List.getElem?_cons_zero]; rfl)
  · (first | exact Or.inr ⟨by rfl, rfl⟩ | (refine Or.inl ⟨by rfl, ?_⟩; intro W hSw;  clear hSw; go_simp; try with_reducible rfl))
  try simp only [Act.put, List.setIfInBounds_toArray, List.set_cons_zero, List.set_cons_succ]
  refine wpAnyK_take (i := 6) (oi := ?_) (v := ?_) ?_ (by kernel_rfl) (by kernel_rfl) (by kernel_rfl) (fun _ _ _ h => h) (by decide) ?_ HS.out (fun _ => HR0.out) ?_
  rotate_left 2
  · (simp only [List.getElem?_toArray, List.getElem?_cons_succ, List.getElem?_cons_zero]; rfl)
  · (first | exact Or.inr ⟨by rfl, rfl⟩ | (refine Or.inl ⟨by rfl, ?_⟩; intro W hSw; have hq := (StAt.reg hSw.2 HHB.out).1; clear hSw; go_simp; try with_reducible rfl))
  try simp only [Act.put, List.setIfInBounds_toArray, List.set_cons_zero, List.set_cons_succ]
  refine wpAnyK_take (i := 7) (oi := ?_) (v := ?_) ?_ (by kernel_rfl) (by kernel_rfl) (by kernel_rfl) (fun _ _ _ h => h) (by decide) ?_ HS.out (fun _ => HR0.out) ?_
  rotate_left 2
  · (simp only [List.getElem?_toArray, List.getElem?_cons_succ, List.getElem?_cons_zero]; rfl)
  · (first | exact Or.inr ⟨by rfl, rfl⟩ | (refine Or.inl ⟨by rfl, ?_⟩; intro W hSw;  clear hSw; go_simp; try with_reducible rfl))
  try simp only [Act.put, List.setIfInBounds_toArray, List.set_cons_zero, List.set_cons_succ]
  refine wpAnyK_take (i := 8) (oi := ?_) (v := ?_) ?_ (by kernel_rfl) (by kernel_rfl) (by kernel_rfl) (fun _ _ _ h => h) (by decide) ?_ HS.out (fun _ => HR0.out) ?_
  rotate_left 2
  · (simp only [List.getElem?_toArray, List.getElem?_cons_succ, List.getElem?_cons_zero]; rfl)
  · (first | exact Or.inr ⟨by rfl, rfl⟩ | (refine Or.inl ⟨by rfl, ?_⟩; intro W hSw; have hq : W.cell? ⟨D, 6, none⟩ = some (.int .i64 dp) := (by rw [cell_of_row' hSw.1]; rfl); clear hSw; go_simp; try with_reducible rfl))
  try simp only [Act.put, List.setIfInBounds_toArray, List.set_cons_zero, List.set_cons_succ]
  refine wpAnyK_take (i := 9) (oi := ?_) (v := ?_) ?_ (by kernel_rfl) (by kernel_rfl) (by kernel_rfl) (fun _ _ _ h => h) (by decide) ?_ HS.out (fun _ => HR0.out) ?_
  rotate_left 2
  · (simp only [List.getElem?_toArray, List.getElem?_cons_succ, List.getElem?_cons_zero]; rfl)
  · (first | exact Or.inr ⟨by rfl, rfl⟩ | (refine Or.inl ⟨by rfl, ?_⟩; intro W hSw;  clear hSw; go_simp; try with_reducible rfl))
  try simp only [Act.put, List.setIfInBounds_toArray, List.set_cons_zero, List.set_cons_succ]
  refine wpAnyK_take (i := 10) (oi := ?_) (v := ?_) ?_ (by kernel_rfl) (by kernel_rfl) (by kernel_rfl) (fun _ _ _ h => h) (by decide) ?_ HS.out (fun _ => HR0.out) ?_
  rotate_left 2
  · (simp only [List.getElem?_toArray, List.getElem?_cons_succ, List.getElem?_cons_zero]; rfl)
  · (first | exact Or.inr ⟨by rfl, rfl⟩ | (refine Or.inl ⟨by rfl, ?_⟩; intro W hSw;  clear hSw; go_simp; try with_reducible rfl))
  try simp only [Act.put, List.setIfInBounds_toArray, List.set_cons_zero, List.set_cons_succ]
  refine wpAnyK_take (i := 11) (oi := ?_) (v := ?_) ?_ (by kernel_rfl) (by kernel_rfl) (by kernel_rfl) (fun _ _ _ h => h) (by decide) ?_ HS.out (fun _ => HR0.out) ?_
  rotate_left 2
  · (simp only [List.getElem?_toArray, List.getElem?_cons_succ, List.getElem?_cons_zero]; rfl)
  · (first | exact Or.inr ⟨by rfl, rfl⟩ | (refine Or.inl ⟨by rfl, ?_⟩; intro W hSw;  clear hSw; go_simp; try with_reducible rfl))
  try simp only [Act.put, List.setIfInBounds_toArray, List.set_cons_zero, List.set_cons_succ]
  refine wpAnyK_done (by kernel_rfl) ?_ _
  refine NoPanic.normal ?_
  clear hbw HS HR0
  have c0 : w2.drew.cell? ⟨D, 0, none⟩ = some (.int .i64 10) := by rw [cell_of_row' (show w2.drew.heap[D]? = some (.cells #[.int .i64 10, .int .i64 a, .int .i64 b, .int .i64 al, .int .i64 cc, .int .u64 im, .int .i64 dp] 27 (0, 0)) from HD2.out)]; rfl
  go_upto_region 6 with (fail)
  clear c0
  have HX3 := Lib.hid (show Ctx (fun k => R k ∨ k = D) w2.drew.drew C B M m most mp s0 fk fa s from HX2.out.drew.drew)
  have HS := Lib.hid (show w2.drew.drew.heap[D]? = some (.cells #[.int .i64 10, .int .i64 a, .int .i64 b, .int .i64 al, .int .i64 cc, .int .u64 im, .int .i64 dp] 27 (0, 0)) from HD2.out)
  have HBK3 := Lib.hid (show Kept R w w2.drew.drew from HBK2.out.drew.drew)
  have HR0 := Lib.hid (show StAt w2.drew.drew B s from HX3.out.st)
  refine wp_region_noPanic ?_
  refine wp_region_K (fun W => W.heap[D]? = some (.cells #[.int .i64 10, .int .i64 a, .int .i64 b, .int .i64 al, .int .i64 cc, .int .u64 im, .int .i64 dp] 27 (0, 0))) (fun W => StAt W B s) 9 (by kernel_rfl) ?_
  refine wpAnyK_take (i := 0) (oi := ?_) (v := ?_) ?_ (by kernel_rfl) (by kernel_rfl) (by kernel_rfl) (fun _ _ _ h => h) (by decide) ?_ HS.out (fun _ => HR0.out) ?_
  rotate_left 2
  · (simp only [List.getElem?_toArray, List.getElem?_cons_succ, List.getElem?_cons_zero]; rfl)
  · (first | exact Or.inr ⟨by rfl, rfl⟩ | (refine Or.inl ⟨by rfl, ?_⟩; intro W hSw;  clear hSw; go_simp; try with_reducible rfl))
  try simp only [Act.put, List.setIfInBounds_toArray, List.set_cons_zero, List.set_cons_succ]
  refine wpAnyK_take (i := 1) (oi := ?_) (v := ?_) ?_ (by kernel_rfl) (by kernel_rfl) (by kernel_rfl) (fun _ _ _ h => h) (by decide) ?_ HS.out (fun _ => HR0.out) ?_
  rotate_left 2
  · (simp only [List.getElem?_toArray, List.getElem?_cons_succ, List.getElem?_cons_zero]; rfl)
  · (first | exact Or.inr ⟨by rfl, rfl⟩ | (refine Or.inl ⟨by rfl, ?_⟩; intro W hSw;  clear hSw; go_simp; try with_reducible rfl))
  try simp only [Act.put, List.setIfInBounds_toArray, List.set_cons_zero, List.set_cons_succ]
  refine wpAnyK_take (i := 2) (oi := ?_) (v := ?_) ?_ (by kernel_rfl) (by kernel_rfl) (by kernel_rfl) (fun _ _ _ h => h) (by decide) ?_ HS.out (fun _ => HR0.out) ?_
  rotate_left 2
  · (simp only [List.getElem?_toArray, List.getElem?_cons_succ, List.getElem?_cons_zero]; rfl)
  · (first | exact Or.inr ⟨by rfl, rfl⟩ | (refine Or.inl ⟨by rfl, ?_⟩; intro W hSw;  clear hSw; go_simp; try with_reducible rfl))
  try simp only [Act.put, List.setIfInBounds_toArray, List.set_cons_zero, List.set_cons_succ]
  refine wpAnyK_take (i := 3) (oi := ?_) (v := ?_) ?_ (by kernel_rfl) (by kernel_rfl) (by kernel_rfl) (fun _ _ _ h => h) (by decide) ?_ HS.out (fun _ => HR0.out) ?_
  rotate_left 2
  · (simp only [List.getElem?_toArray, List.getElem?_cons_succ, List.getElem?_cons_zero]; rfl)
  · (first | exact Or.inr ⟨by rfl, rfl⟩ | (refine Or.inl ⟨by rfl, ?_⟩; intro W hSw;  clear hSw; go_simp; try with_reducible rfl))
  try simp only [Act.put, List.setIfInBounds_toArray, List.set_cons_zero, List.set_cons_succ]
  refine wpAnyK_take (i := 4) (oi := ?_) (v := ?_) ?_ (by kernel_rfl) (by kernel_rfl) (by kernel_rfl) (fun _ _ _ h => h) (by decide) ?_ HS.out (fun _ => HR0.out) ?_
  rotate_left 2
  · (simp only [List.getElem?_toArray, List.getElem?_cons_succ, List.getElem?_cons_zero]; rfl)
  · (first | exact Or.inr ⟨by rfl, rfl⟩ | (refine Or.inl ⟨by rfl, ?_⟩; intro W hSw; have hq : W.cell? ⟨D, 1, none⟩ = some (.int .i64 a) := (by rw [cell_of_row' hSw]; rfl); clear hSw; go_simp; try with_reducible rfl))
  try simp only [Act.put, List.setIfInBounds_toArray, List.set_cons_zero, List.set_cons_succ]
  refine wpAnyK_take (i := 5) (oi := ?_) (v := ?_) ?_ (by kernel_rfl) (by kernel_rfl) (by kernel_rfl) (fun _ _ _ h => h) (by decide) ?_ HS.out (fun _ => HR0.out) ?_
  rotate_left 2
  · (simp only [List.getElem?_toArray, List.getElem?_cons_succ, List.getElem?_cons_zero]; rfl)
  · (first | exact Or.inr ⟨by rfl, rfl⟩ | (refine Or.inl ⟨by rfl, ?_⟩; intro W hSw;  clear hSw; go_simp; try with_reducible rfl))
  try simp only [Act.put, List.setIfInBounds_toArray, List.set_cons_zero, List.set_cons_succ]
  refine wpAnyK_take (i := 6) (oi := ?_) (v := ?_) ?_ (by kernel_rfl) (by kernel_rfl) (by kernel_rfl) (fun _ _ _ h => h) (by decide) ?_ HS.out (fun _ => HR0.out) ?_
  rotate_left 2
  · (simp only [List.getElem?_toArray, List.getElem?_cons_succ, List.getElem?_cons_zero]; rfl)
  · (first | exact Or.inr ⟨by rfl, rfl⟩ | (refine Or.inl ⟨by rfl, ?_⟩; intro W hSw;  clear hSw; go_simp; try with_reducible rfl))
  try simp only [Act.put, List.setIfInBounds_toArray, List.set_cons_zero, List.set_cons_succ]
  refine wpAnyK_take (i := 7) (oi := ?_) (v := ?_) ?_ (by kernel_rfl) (by kernel_rfl) (by kernel_rfl) (fun _ _ _ h => h) (by decide) ?_ HS.out (fun _ => HR0.out) ?_
  rotate_left 2
  · (simp only [List.getElem?_toArray, List.getElem?_cons_succ, List.getElem?_cons_zero]; rfl)
  · (first | exact Or.inr ⟨by rfl, rfl⟩ | (refine Or.inl ⟨by rfl, ?_⟩; intro W hSw;  clear hSw; go_simp; try with_reducible rfl))
  try simp only [Act.put, List.setIfInBounds_toArray, List.set_cons_zero, List.set_cons_succ]
  refine wpAnyK_direct (i := 8) (oi := ?_) (v := ?_) ?_ (by kernel_rfl) (by kernel_rfl) (by kernel_rfl) (fun _ _ _ h => h) (by decide) (by kernel_rfl) (by kernel_rfl) ?_ HS.out HR0.out ?_
  rotate_left 2
  · (simp only [List.getElem?_toArray, List.getElem?_cons_succ, List.getElem?_cons_zero]; rfl)
  · (refine Or.inl ⟨by rfl, ?_⟩; intro W hSw; have hbw := hSw.2; have hq := (StAt.reg hbw ha).1; clear hSw hbw; go_simp; try with_reducible rfl)
  try simp only [Act.put, List.setIfInBounds_toArray, List.set_cons_zero, List.set_cons_succ]
  refine wpAnyK_one (i := 9) (o := ?_) (by kernel_rfl) ?_ (fun K hK => ?_)
  rotate_left 1
  · (simp only [List.getElem?_toArray, List.getElem?_cons_succ, List.getElem?_cons_zero]; rfl)
  go_simp
  go_at_call 81
  refine (store_yes _ w2.drew.drew C M m most mp s0 fk fa at' (s.r a) HX3.out.ok HAB.out.1 HAB.out.2 (HX3.out.sok.r a ha).1 (HX3.out.sok.r a ha).2 HX3.out.mem HX3.out.cpu HX3.out.rC HF.out).mono ?_
  rintro e w5 ⟨rfl, hm4, hk4⟩
  have HY := Lib.hid ((show DoY (fun k => R k ∨ k = D) w2.drew.drew B M m most (putP mp at' 8 (le8 (s.r a))) s (.returned (.bool true)) w5 from ⟨rfl, hm4, hk4.own HX3.out.st HX3.out.rB, hk4.mono (fun k hk => hk.1)⟩).back HBK3.out (fun k hk => .inl hk))
  have HS2 := Lib.hid (show w5.heap[D]? = some (.cells #[.int .i64 10, .int .i64 a, .int .i64 b, .int .i64 al, .int .i64 cc, .int .u64 im, .int .i64 dp] 27 (0, 0)) from (hk4.block D (.inr rfl)).trans HS.out)
  clear hm4 hk4
  refine hK.out _ _ HS2.out (fun h => by cases h) ?_
  clear hK K
  try simp only [Act.put, List.setIfInBounds_toArray, List.set_cons_zero, List.set_cons_succ]
  refine wpAnyK_take (i := 10) (oi := ?_) (v := ?_) ?_ (by kernel_rfl) (by kernel_rfl) (by kernel_rfl) (fun _ _ _ h => h) (by decide) ?_ HS2.out (fun h => by cases h) ?_
  rotate_left 2
  · (simp only [List.getElem?_toArray, List.getElem?_cons_succ, List.getElem?_cons_zero]; rfl)
  · (first | exact Or.inr ⟨by rfl, rfl⟩ | (refine Or.inl ⟨by rfl, ?_⟩; intro W hSw;  clear hSw; go_simp; try with_reducible rfl))
  try simp only [Act.put, List.setIfInBounds_toArray, List.set_cons_zero, List.set_cons_succ]
  refine wpAnyK_done (by kernel_rfl) ?_ _
  refine NoPanic.normal ?_
  go_wp2
  go_ret
  rw [HAT.out]
  exact HY.out

set_option maxHeartbeats 4000000 in
theorem doStore_no (R : Nat → Prop) (w : World) (C B M m : Nat) (most : Int) (mp : Int → Option Pg) (s0 : StV) (fk fa : Int) (s : StV) (a b al cc im : Nat) (dp : Int) (H : Ctx R w C B M m most mp s0 fk fa s) (ha : a < 16) (hb : b < 16) (hf : (askS mp 2 3 8 (atM s (⟨10, a, b, al, cc, im, dp⟩ : InsV)) 8).1 ≠ 0) :
    Calls Try.prog 64 #[.pointer (some ⟨C, 0, none⟩), .agg #[.int .i64 10, .int .i64 a, .int .i64 b, .int .i64 al, .int .i64 cc, .int .u64 im, .int .i64 dp], .pointer (some ⟨B, 0, none⟩)] w fun e w' => DoN R w C B M m most (askM mp (askS mp 2 3 8 (atM s (⟨10, a, b, al, cc, im, dp⟩ : InsV)) 8)) s0 (askS mp 2 3 8 (atM s (⟨10, a, b, al, cc, im, dp⟩ : InsV)) 8).1 (askS mp 2 3 8 (atM s (⟨10, a, b, al, cc, im, dp⟩ : InsV)) 8).2.1 e w' := by
  have HF := Lib.hid hf
  have haI : (a : Int) < 16 := by omega
  have hbI : (b : Int) < 16 := by omega
  have HHB := Lib.hid hb
  have HSZ := Lib.hid H.mem.sz
  have HX := Lib.hid H
  have hlB := H.mem.sz B H.rB
  have hlC := H.mem.sz C H.rC
  clear H hf
  go_enter Try.func64, Try.ntmps64
  go_upto_region 1 with (fail)
  obtain ⟨w1, hw1⟩ : ∃ w1, w.alloc (.cells #[.int .i64 10, .int .i64 a, .int .i64 b, .int .i64 al, .int .i64 cc, .int .u64 im, .int .i64 dp] 27) = w1 := ⟨_, rfl⟩
  obtain ⟨D, hD⟩ : ∃ D, w.heap.size = D := ⟨_, rfl⟩
  have HX1 := Lib.hid (show Ctx (fun k => R k ∨ k = D) w1 C B M m most mp s0 fk fa s from by rw [← hw1, ← hD]; exact HX.out.boxed _)
  have HD1 := Lib.hid (show w1.heap[D]? = some (.cells #[.int .i64 10, .int .i64 a, .int .i64 b, .int .i64 al, .int .i64 cc, .int .u64 im, .int .i64 dp] 27 (0, 0)) from by rw [← hw1, ← hD]; exact heap_alloc_new w _)
  have HBK := Lib.hid (show Kept R w w1 from by rw [← hw1]; exact (Kept.refl R w).alloc HSZ.out _)
  have HDB := Lib.hid (show D ≠ B ∧ D ≠ C ∧ ¬ R D from ⟨by omega, by omega, fun h => by have := HSZ.out D h; omega⟩)
  refine (congrArg _ hw1).mpr ?_
  rw [hD]
  clear hw1 hD hlB hlC HX HSZ
  have c0 : w1.cell? ⟨D, 0, none⟩ = some (.int .i64 10) := by rw [cell_of_row' HD1.out]; rfl
  have c1 : w1.cell? ⟨D, 1, none⟩ = some (.int .i64 a) := by rw [cell_of_row' HD1.out]; rfl
  have c2 : w1.cell? ⟨D, 2, none⟩ = some (.int .i64 b) := by rw [cell_of_row' HD1.out]; rfl
  have c3 : w1.cell? ⟨D, 3, none⟩ = some (.int .i64 al) := by rw [cell_of_row' HD1.out]; rfl
  have c4 : w1.cell? ⟨D, 4, none⟩ = some (.int .i64 cc) := by rw [cell_of_row' HD1.out]; rfl
  have c5 : w1.cell? ⟨D, 5, none⟩ = some (.int .u64 im) := by rw [cell_of_row' HD1.out]; rfl
  have c6 : w1.cell? ⟨D, 6, none⟩ = some (.int .i64 dp) := by rw [cell_of_row' HD1.out]; rfl
  have HN := Lib.hid (show Calls Try.prog 66 #[.pointer (some ⟨B, 0, none⟩), .agg #[.int .i64 10, .int .i64 a, .int .i64 b, .int .i64 al, .int .i64 cc, .int .u64 im, .int .i64 dp]] w1 fun e w' => e = .returned (.int .u64 (nearM s (⟨10, a, b, al, cc, im, dp⟩ : InsV))) ∧ Below w1.heap.size w1 w' from near_any w1 B s (⟨10, a, b, al, cc, im, dp⟩ : InsV) HX1.out.st)
  have HAB := Lib.hid (atM_bd s (⟨10, a, b, al, cc, im, dp⟩ : InsV))
  have hat0 : atM s (⟨10, a, b, al, cc, im, dp⟩ : InsV) = baseM s (⟨10, a, b, al, cc, im, dp⟩ : InsV) := by unfold atM; rw [if_pos (by simp)]
  have hbw : IntKind.u64.wrap (s.r b + IntKind.u64.wrap dp) = atM s (⟨10, a, b, al, cc, im, dp⟩ : InsV) := by rw [hat0, IntKind.wrap_u64, IntKind.wrap_u64]; unfold baseM; show _ = (s.r b + dp) % _; omega
  generalize nearM s (⟨10, a, b, al, cc, im, dp⟩ : InsV) = nr at *
  obtain ⟨at', hat⟩ : ∃ q, atM s (⟨10, a, b, al, cc, im, dp⟩ : InsV) = q := ⟨_, rfl⟩
  have HAT := Lib.hid hat
  rw [hat] at HF HAB hbw
  clear hat hat0
  have HBW := Lib.hid hbw
  clear hbw
  go_wp2_with fail
  refine HN.out.mono ?_
  rintro e w2 ⟨rfl, hb2⟩
  have HX2 := Lib.hid (HX1.out.below hb2)
  have HD2 := Lib.hid (show w2.heap[D]? = some (.cells #[.int .i64 10, .int .i64 a, .int .i64 b, .int .i64 al, .int .i64 cc, .int .u64 im, .int .i64 dp] 27 (0, 0)) from (hb2.block D (lt_of_row' HD1.out)).trans HD1.out)
  have HBK2 := Lib.hid (HBK.out.trans (Kept.of_below hb2 (fun k hk => HX1.out.mem.sz k (.inl hk))))
  clear hb2 HN c0 c1 c2 c3 c4 c5 c6
  have c0 : w2.cell? ⟨D, 0, none⟩ = some (.int .i64 10) := by rw [cell_of_row' HD2.out]; rfl
  go_upto_region 3 with (fail)
  clear c0
  have HS := Lib.hid (show w2.drew.heap[D]? = some (.cells #[.int .i64 10, .int .i64 a, .int .i64 b, .int .i64 al, .int .i64 cc, .int .u64 im, .int .i64 dp] 27 (0, 0)) ∧ StAt w2.drew B s from ⟨HD2.out, HX2.out.st⟩)
  have HR0 := Lib.hid trivial
  have hbw := HBW.out
  refine wp_region_noPanic ?_
  refine wp_region_K (fun W => W.heap[D]? = some (.cells #[.int .i64 10, .int .i64 a, .int .i64 b, .int .i64 al, .int .i64 cc, .int .u64 im, .int .i64 dp] 27 (0, 0)) ∧ StAt W B s) (fun _ => True) 99 (by kernel_rfl) ?_
  refine wpAnyK_take (i := 0) (oi := ?_) (v := ?_) ?_ (by kernel_rfl) (by kernel_rfl) (by kernel_rfl) (fun _ _ _ h => h) (by decide) ?_ HS.out (fun _ => HR0.out) ?_
  rotate_left 2
  · (simp only [List.getElem?_toArray, List.getElem?_cons_succ, List.getElem?_cons_zero]; rfl)
  · (first | exact Or.inr ⟨by rfl, rfl⟩ | (refine Or.inl ⟨by rfl, ?_⟩; intro W hSw;  clear hSw; go_simp; try with_reducible rfl))
  try simp only [Act.put, List.setIfInBounds_toArray, List.set_cons_zero, List.set_cons_succ]
  refine wpAnyK_take (i := 1) (oi := ?_) (v := ?_) ?_ (by kernel_rfl) (by kernel_rfl) (by kernel_rfl) (fun _ _ _ h => h) (by decide) ?_ HS.out (fun _ => HR0.out) ?_
  rotate_left 2
  · (simp only [List.getElem?_toArray, List.getElem?_cons_succ, List.getElem?_cons_zero]; rfl)
  · (first | exact Or.inr ⟨by rfl, rfl⟩ | (refine Or.inl ⟨by rfl, ?_⟩; intro W hSw;  clear hSw; go_simp; try with_reducible rfl))
  try simp only [Act.put, List.setIfInBounds_toArray, List.set_cons_zero, List.set_cons_succ]
  refine wpAnyK_take (i := 2) (oi := ?_) (v := ?_) ?_ (by kernel_rfl) (by kernel_rfl) (by kernel_rfl) (fun _ _ _ h => h) (by decide) ?_ HS.out (fun _ => HR0.out) ?_
  rotate_left 2
  · (simp only [List.getElem?_toArray, List.getElem?_cons_succ, List.getElem?_cons_zero]; rfl)
  · (first | exact Or.inr ⟨by rfl, rfl⟩ | (refine Or.inl ⟨by rfl, ?_⟩; intro W hSw; have hq : W.cell? ⟨D, 2, none⟩ = some (.int .i64 b) := (by rw [cell_of_row' hSw.1]; rfl); clear hSw; go_simp; try with_reducible rfl))
  try simp only [Act.put, List.setIfInBounds_toArray, List.set_cons_zero, List.set_cons_succ]
  refine wpAnyK_take (i := 3) (oi := ?_) (v := ?_) ?_ (by kernel_rfl) (by kernel_rfl) (by kernel_rfl) (fun _ _ _ h => h) (by decide) ?_ HS.out (fun _ => HR0.out) ?_
  rotate_left 2
  · (simp only [List.getElem?_toArray, List.getElem?_cons_succ, List.getElem?_cons_zero]; rfl)
  · (first | exact Or.inr ⟨by rfl, rfl⟩ | (refine Or.inl ⟨by rfl, ?_⟩; intro W hSw;  clear hSw; go_simp; try with_reducible rfl))
  try simp only [Act.put, List.setIfInBounds_toArray, List.set_cons_zero, List.set_cons_succ]
  refine wpAnyK_take (i := 4) (oi := ?_) (v := ?_) ?_ (by kernel_rfl) (by kernel_rfl) (by kernel_rfl) (fun _ _ _ h => h) (by decide) ?_ HS.out (fun _ => HR0.out) ?_
  rotate_left 2
  · (simp only [List.getElem?_toArray, List.getElem?_cons_succ, List.getElem?_cons_zero]; rfl)
  · (first | exact Or.inr ⟨by rfl, rfl⟩ | (refine Or.inl ⟨by rfl, ?_⟩; intro W hSw;  clear hSw; go_simp; try with_reducible rfl))
  try simp only [Act.put, List.setIfInBounds_toArray, List.set_cons_zero, List.set_cons_succ]
  refine wpAnyK_take (i := 5) (oi := ?_) (v := ?_) ?_ (by kernel_rfl) (by kernel_rfl) (by kernel_rfl) (fun _ _ _ h => h) (by decide) ?_ HS.out (fun _ => HR0.out) ?_
  rotate_left 2
  · (simp only [List.getElem?_toArray, List.getElem?_cons_succ, List.getElem?_cons_zero]; rfl)
  · (first | exact Or.inr ⟨by rfl, rfl⟩ | (refine Or.inl ⟨by rfl, ?_⟩; intro W hSw;  clear hSw; go_simp; try with_reducible rfl))
  try simp only [Act.put, List.setIfInBounds_toArray, List.set_cons_zero, List.set_cons_succ]
  refine wpAnyK_take (i := 6) (oi := ?_) (v := ?_) ?_ (by kernel_rfl) (by kernel_rfl) (by kernel_rfl) (fun _ _ _ h => h) (by decide) ?_ HS.out (fun _ => HR0.out) ?_
  rotate_left 2
  · (simp only [List.getElem?_toArray, List.getElem?_cons_succ, List.getElem?_cons_zero]; rfl)
  · (first | exact Or.inr ⟨by rfl, rfl⟩ | (refine Or.inl ⟨by rfl, ?_⟩; intro W hSw; have hq := (StAt.reg hSw.2 HHB.out).1; clear hSw; go_simp; try with_reducible rfl))
  try simp only [Act.put, List.setIfInBounds_toArray, List.set_cons_zero, List.set_cons_succ]
  refine wpAnyK_take (i := 7) (oi := ?_) (v := ?_) ?_ (by kernel_rfl) (by kernel_rfl) (by kernel_rfl) (fun _ _ _ h => h) (by decide) ?_ HS.out (fun _ => HR0.out) ?_
  rotate_left 2
  · (simp only [List.getElem?_toArray, List.getElem?_cons_succ, List.getElem?_cons_zero]; rfl)
  · (first | exact Or.inr ⟨by rfl, rfl⟩ | (refine Or.inl ⟨by rfl, ?_⟩; intro W hSw;  clear hSw; go_simp; try with_reducible rfl))
  try simp only [Act.put, List.setIfInBounds_toArray, List.set_cons_zero, List.set_cons_succ]
  refine wpAnyK_take (i := 8) (oi := ?_) (v := ?_) ?_ (by kernel_rfl) (by kernel_rfl) (by kernel_rfl) (fun _ _ _ h => h) (by decide) ?_ HS.out (fun _ => HR0.out) ?_
  rotate_left 2
  · (simp only [List.getElem?_toArray, List.getElem?_cons_succ, List.getElem?_cons_zero]; rfl)
  · (first | exact Or.inr ⟨by rfl, rfl⟩ | (refine Or.inl ⟨by rfl, ?_⟩; intro W hSw; have hq : W.cell? ⟨D, 6, none⟩ = some (.int .i64 dp) := (by rw [cell_of_row' hSw.1]; rfl); clear hSw; go_simp; try with_reducible rfl))
  try simp only [Act.put, List.setIfInBounds_toArray, List.set_cons_zero, List.set_cons_succ]
  refine wpAnyK_take (i := 9) (oi := ?_) (v := ?_) ?_ (by kernel_rfl) (by kernel_rfl) (by kernel_rfl) (fun _ _ _ h => h) (by decide) ?_ HS.out (fun _ => HR0.out) ?_
  rotate_left 2
  · (simp only [List.getElem?_toArray, List.getElem?_cons_succ, List.getElem?_cons_zero]; rfl)
  · (first | exact Or.inr ⟨by rfl, rfl⟩ | (refine Or.inl ⟨by rfl, ?_⟩; intro W hSw;  clear hSw; go_simp; try with_reducible rfl))
  try simp only [Act.put, List.setIfInBounds_toArray, List.set_cons_zero, List.set_cons_succ]
  refine wpAnyK_take (i := 10) (oi := ?_) (v := ?_) ?_ (by kernel_rfl) (by kernel_rfl) (by kernel_rfl) (fun _ _ _ h => h) (by decide) ?_ HS.out (fun _ => HR0.out) ?_
  rotate_left 2
  · (simp only [List.getElem?_toArray, List.getElem?_cons_succ, List.getElem?_cons_zero]; rfl)
  · (first | exact Or.inr ⟨by rfl, rfl⟩ | (refine Or.inl ⟨by rfl, ?_⟩; intro W hSw;  clear hSw; go_simp; try with_reducible rfl))
  try simp only [Act.put, List.setIfInBounds_toArray, List.set_cons_zero, List.set_cons_succ]
  refine wpAnyK_take (i := 11) (oi := ?_) (v := ?_) ?_ (by kernel_rfl) (by kernel_rfl) (by kernel_rfl) (fun _ _ _ h => h) (by decide) ?_ HS.out (fun _ => HR0.out) ?_
  rotate_left 2
  · (simp only [List.getElem?_toArray, List.getElem?_cons_succ, List.getElem?_cons_zero]; rfl)
  · (first | exact Or.inr ⟨by rfl, rfl⟩ | (refine Or.inl ⟨by rfl, ?_⟩; intro W hSw;  clear hSw; go_simp; try with_reducible rfl))
  try simp only [Act.put, List.setIfInBounds_toArray, List.set_cons_zero, List.set_cons_succ]
  refine wpAnyK_done (by kernel_rfl) ?_ _
  refine NoPanic.normal ?_
  clear hbw HS HR0
  have c0 : w2.drew.cell? ⟨D, 0, none⟩ = some (.int .i64 10) := by rw [cell_of_row' (show w2.drew.heap[D]? = some (.cells #[.int .i64 10, .int .i64 a, .int .i64 b, .int .i64 al, .int .i64 cc, .int .u64 im, .int .i64 dp] 27 (0, 0)) from HD2.out)]; rfl
  go_upto_region 6 with (fail)
  clear c0
  have HX3 := Lib.hid (show Ctx (fun k => R k ∨ k = D) w2.drew.drew C B M m most mp s0 fk fa s from HX2.out.drew.drew)
  have HS := Lib.hid (show w2.drew.drew.heap[D]? = some (.cells #[.int .i64 10, .int .i64 a, .int .i64 b, .int .i64 al, .int .i64 cc, .int .u64 im, .int .i64 dp] 27 (0, 0)) from HD2.out)
  have HBK3 := Lib.hid (show Kept R w w2.drew.drew from HBK2.out.drew.drew)
  have HR0 := Lib.hid (show StAt w2.drew.drew B s from HX3.out.st)
  refine wp_region_noPanic ?_
  refine wp_region_K (fun W => W.heap[D]? = some (.cells #[.int .i64 10, .int .i64 a, .int .i64 b, .int .i64 al, .int .i64 cc, .int .u64 im, .int .i64 dp] 27 (0, 0))) (fun W => StAt W B s) 9 (by kernel_rfl) ?_
  refine wpAnyK_take (i := 0) (oi := ?_) (v := ?_) ?_ (by kernel_rfl) (by kernel_rfl) (by kernel_rfl) (fun _ _ _ h => h) (by decide) ?_ HS.out (fun _ => HR0.out) ?_
  rotate_left 2
  · (simp only [List.getElem?_toArray, List.getElem?_cons_succ, List.getElem?_cons_zero]; rfl)
  · (first | exact Or.inr ⟨by rfl, rfl⟩ | (refine Or.inl ⟨by rfl, ?_⟩; intro W hSw;  clear hSw; go_simp; try with_reducible rfl))
  try simp only [Act.put, List.setIfInBounds_toArray, List.set_cons_zero, List.set_cons_succ]
  refine wpAnyK_take (i := 1) (oi := ?_) (v := ?_) ?_ (by kernel_rfl) (by kernel_rfl) (by kernel_rfl) (fun _ _ _ h => h) (by decide) ?_ HS.out (fun _ => HR0.out) ?_
  rotate_left 2
  · (simp only [List.getElem?_toArray, List.getElem?_cons_succ, List.getElem?_cons_zero]; rfl)
  · (first | exact Or.inr ⟨by rfl, rfl⟩ | (refine Or.inl ⟨by rfl, ?_⟩; intro W hSw;  clear hSw; go_simp; try with_reducible rfl))
  try simp only [Act.put, List.setIfInBounds_toArray, List.set_cons_zero, List.set_cons_succ]
  refine wpAnyK_take (i := 2) (oi := ?_) (v := ?_) ?_ (by kernel_rfl) (by kernel_rfl) (by kernel_rfl) (fun _ _ _ h => h) (by decide) ?_ HS.out (fun _ => HR0.out) ?_
  rotate_left 2
  · (simp only [List.getElem?_toArray, List.getElem?_cons_succ, List.getElem?_cons_zero]; rfl)
  · (first | exact Or.inr ⟨by rfl, rfl⟩ | (refine Or.inl ⟨by rfl, ?_⟩; intro W hSw;  clear hSw; go_simp; try with_reducible rfl))
  try simp only [Act.put, List.setIfInBounds_toArray, List.set_cons_zero, List.set_cons_succ]
  refine wpAnyK_take (i := 3) (oi := ?_) (v := ?_) ?_ (by kernel_rfl) (by kernel_rfl) (by kernel_rfl) (fun _ _ _ h => h) (by decide) ?_ HS.out (fun _ => HR0.out) ?_
  rotate_left 2
  · (simp only [List.getElem?_toArray, List.getElem?_cons_succ, List.getElem?_cons_zero]; rfl)
  · (first | exact Or.inr ⟨by rfl, rfl⟩ | (refine Or.inl ⟨by rfl, ?_⟩; intro W hSw;  clear hSw; go_simp; try with_reducible rfl))
  try simp only [Act.put, List.setIfInBounds_toArray, List.set_cons_zero, List.set_cons_succ]
  refine wpAnyK_take (i := 4) (oi := ?_) (v := ?_) ?_ (by kernel_rfl) (by kernel_rfl) (by kernel_rfl) (fun _ _ _ h => h) (by decide) ?_ HS.out (fun _ => HR0.out) ?_
  rotate_left 2
  · (simp only [List.getElem?_toArray, List.getElem?_cons_succ, List.getElem?_cons_zero]; rfl)
  · (first | exact Or.inr ⟨by rfl, rfl⟩ | (refine Or.inl ⟨by rfl, ?_⟩; intro W hSw; have hq : W.cell? ⟨D, 1, none⟩ = some (.int .i64 a) := (by rw [cell_of_row' hSw]; rfl); clear hSw; go_simp; try with_reducible rfl))
  try simp only [Act.put, List.setIfInBounds_toArray, List.set_cons_zero, List.set_cons_succ]
  refine wpAnyK_take (i := 5) (oi := ?_) (v := ?_) ?_ (by kernel_rfl) (by kernel_rfl) (by kernel_rfl) (fun _ _ _ h => h) (by decide) ?_ HS.out (fun _ => HR0.out) ?_
  rotate_left 2
  · (simp only [List.getElem?_toArray, List.getElem?_cons_succ, List.getElem?_cons_zero]; rfl)
  · (first | exact Or.inr ⟨by rfl, rfl⟩ | (refine Or.inl ⟨by rfl, ?_⟩; intro W hSw;  clear hSw; go_simp; try with_reducible rfl))
  try simp only [Act.put, List.setIfInBounds_toArray, List.set_cons_zero, List.set_cons_succ]
  refine wpAnyK_take (i := 6) (oi := ?_) (v := ?_) ?_ (by kernel_rfl) (by kernel_rfl) (by kernel_rfl) (fun _ _ _ h => h) (by decide) ?_ HS.out (fun _ => HR0.out) ?_
  rotate_left 2
  · (simp only [List.getElem?_toArray, List.getElem?_cons_succ, List.getElem?_cons_zero]; rfl)
  · (first | exact Or.inr ⟨by rfl, rfl⟩ | (refine Or.inl ⟨by rfl, ?_⟩; intro W hSw;  clear hSw; go_simp; try with_reducible rfl))
  try simp only [Act.put, List.setIfInBounds_toArray, List.set_cons_zero, List.set_cons_succ]
  refine wpAnyK_take (i := 7) (oi := ?_) (v := ?_) ?_ (by kernel_rfl) (by kernel_rfl) (by kernel_rfl) (fun _ _ _ h => h) (by decide) ?_ HS.out (fun _ => HR0.out) ?_
  rotate_left 2
  · (simp only [List.getElem?_toArray, List.getElem?_cons_succ, List.getElem?_cons_zero]; rfl)
  · (first | exact Or.inr ⟨by rfl, rfl⟩ | (refine Or.inl ⟨by rfl, ?_⟩; intro W hSw;  clear hSw; go_simp; try with_reducible rfl))
  try simp only [Act.put, List.setIfInBounds_toArray, List.set_cons_zero, List.set_cons_succ]
  refine wpAnyK_direct (i := 8) (oi := ?_) (v := ?_) ?_ (by kernel_rfl) (by kernel_rfl) (by kernel_rfl) (fun _ _ _ h => h) (by decide) (by kernel_rfl) (by kernel_rfl) ?_ HS.out HR0.out ?_
  rotate_left 2
  · (simp only [List.getElem?_toArray, List.getElem?_cons_succ, List.getElem?_cons_zero]; rfl)
  · (refine Or.inl ⟨by rfl, ?_⟩; intro W hSw; have hbw := hSw.2; have hq := (StAt.reg hbw ha).1; clear hSw hbw; go_simp; try with_reducible rfl)
  try simp only [Act.put, List.setIfInBounds_toArray, List.set_cons_zero, List.set_cons_succ]
  refine wpAnyK_one (i := 9) (o := ?_) (by kernel_rfl) ?_ (fun K hK => ?_)
  rotate_left 1
  · (simp only [List.getElem?_toArray, List.getElem?_cons_succ, List.getElem?_cons_zero]; rfl)
  go_simp
  go_at_call 81
  refine (store_no _ w2.drew.drew C M m most mp s0 fk fa at' (s.r a) HX3.out.ok HAB.out.1 HAB.out.2 (HX3.out.sok.r a ha).1 (HX3.out.sok.r a ha).2 HX3.out.mem HX3.out.cpu HX3.out.rC HF.out).mono ?_
  rintro e w5 ⟨rfl, hm4, hc4, hk4⟩
  have HY := Lib.hid ((show DoN (fun k => R k ∨ k = D) w2.drew.drew C B M m most (askM mp (askS mp 2 3 8 at' 8)) s0 (askS mp 2 3 8 at' 8).1 (askS mp 2 3 8 at' 8).2.1 (.returned (.bool false)) w5 from ⟨rfl, hm4, hc4, hk4.mono (fun k hk => ⟨hk.1, hk.2.1⟩)⟩).back HBK3.out (fun k hk => .inl hk))
  have HS2 := Lib.hid (show w5.heap[D]? = some (.cells #[.int .i64 10, .int .i64 a, .int .i64 b, .int .i64 al, .int .i64 cc, .int .u64 im, .int .i64 dp] 27 (0, 0)) from (hk4.block D ⟨.inr rfl, HDB.out.2.1⟩).trans HS.out)
  clear hm4 hc4 hk4
  refine hK.out _ _ HS2.out (fun h => by cases h) ?_
  clear hK K
  try simp only [Act.put, List.setIfInBounds_toArray, List.set_cons_zero, List.set_cons_succ]
  refine wpAnyK_take (i := 10) (oi := ?_) (v := ?_) ?_ (by kernel_rfl) (by kernel_rfl) (by kernel_rfl) (fun _ _ _ h => h) (by decide) ?_ HS2.out (fun h => by cases h) ?_
  rotate_left 2
  · (simp only [List.getElem?_toArray, List.getElem?_cons_succ, List.getElem?_cons_zero]; rfl)
  · (first | exact Or.inr ⟨by rfl, rfl⟩ | (refine Or.inl ⟨by rfl, ?_⟩; intro W hSw;  clear hSw; go_simp; try with_reducible rfl))
  try simp only [Act.put, List.setIfInBounds_toArray, List.set_cons_zero, List.set_cons_succ]
  refine wpAnyK_done (by kernel_rfl) ?_ _
  refine NoPanic.normal ?_
  go_wp2
  go_ret
  rw [HAT.out]
  exact HY.out

set_option maxHeartbeats 4000000 in
theorem doStoreR_yes (R : Nat → Prop) (w : World) (C B M m : Nat) (most : Int) (mp : Int → Option Pg) (s0 : StV) (fk fa : Int) (s : StV) (a b al cc im : Nat) (dp : Int) (H : Ctx R w C B M m most mp s0 fk fa s) (ha : a < 16) (hf : (askS mp 2 3 8 (atM s (⟨12, a, b, al, cc, im, dp⟩ : InsV)) 8).1 = 0) :
    Calls Try.prog 64 #[.pointer (some ⟨C, 0, none⟩), .agg #[.int .i64 12, .int .i64 a, .int .i64 b, .int .i64 al, .int .i64 cc, .int .u64 im, .int .i64 dp], .pointer (some ⟨B, 0, none⟩)] w fun e w' => DoY R w B M m most (putP mp (atM s (⟨12, a, b, al, cc, im, dp⟩ : InsV)) 8 (le8 (s.r a))) s e w' := by
  have HF := Lib.hid hf
  have haI : (a : Int) < 16 := by omega
  have HSZ := Lib.hid H.mem.sz
  have HX := Lib.hid H
  have hlB := H.mem.sz B H.rB
  have hlC := H.mem.sz C H.rC
  clear H hf
  go_enter Try.func64, Try.ntmps64
  go_upto_region 1 with (fail)
  obtain ⟨w1, hw1⟩ : ∃ w1, w.alloc (.cells #[.int .i64 12, .int .i64 a, .int .i64 b, .int .i64 al, .int .i64 cc, .int .u64 im, .int .i64 dp] 27) = w1 := ⟨_, rfl⟩
  obtain ⟨D, hD⟩ : ∃ D, w.heap.size = D := ⟨_, rfl⟩
  have HX1 := Lib.hid (show Ctx (fun k => R k ∨ k = D) w1 C B M m most mp s0 fk fa s from by rw [← hw1, ← hD]; exact HX.out.boxed _)
  have HD1 := Lib.hid (show w1.heap[D]? = some (.cells #[.int .i64 12, .int .i64 a, .int .i64 b, .int .i64 al, .int .i64 cc, .int .u64 im, .int .i64 dp] 27 (0, 0)) from by rw [← hw1, ← hD]; exact heap_alloc_new w _)
  have HBK := Lib.hid (show Kept R w w1 from by rw [← hw1]; exact (Kept.refl R w).alloc HSZ.out _)
  have HDB := Lib.hid (show D ≠ B ∧ D ≠ C ∧ ¬ R D from ⟨by omega, by omega, fun h => by have := HSZ.out D h; omega⟩)
  refine (congrArg _ hw1).mpr ?_
  rw [hD]
  clear hw1 hD hlB hlC HX HSZ
  have c0 : w1.cell? ⟨D, 0, none⟩ = some (.int .i64 12) := by rw [cell_of_row' HD1.out]; rfl
  have c1 : w1.cell? ⟨D, 1, none⟩ = some (.int .i64 a) := by rw [cell_of_row' HD1.out]; rfl
  have c2 : w1.cell? ⟨D, 2, none⟩ = some (.int .i64 b) := by rw [cell_of_row' HD1.out]; rfl
  have c3 : w1.cell? ⟨D, 3, none⟩ = some (.int .i64 al) := by rw [cell_of_row' HD1.out]; rfl
  have c4 : w1.cell? ⟨D, 4, none⟩ = some (.int .i64 cc) := by rw [cell_of_row' HD1.out]; rfl
  have c5 : w1.cell? ⟨D, 5, none⟩ = some (.int .u64 im) := by rw [cell_of_row' HD1.out]; rfl
  have c6 : w1.cell? ⟨D, 6, none⟩ = some (.int .i64 dp) := by rw [cell_of_row' HD1.out]; rfl
  have HN := Lib.hid (show Calls Try.prog 66 #[.pointer (some ⟨B, 0, none⟩), .agg #[.int .i64 12, .int .i64 a, .int .i64 b, .int .i64 al, .int .i64 cc, .int .u64 im, .int .i64 dp]] w1 fun e w' => e = .returned (.int .u64 (nearM s (⟨12, a, b, al, cc, im, dp⟩ : InsV))) ∧ Below w1.heap.size w1 w' from near_any w1 B s (⟨12, a, b, al, cc, im, dp⟩ : InsV) HX1.out.st)
  have HAB := Lib.hid (atM_bd s (⟨12, a, b, al, cc, im, dp⟩ : InsV))
  have hat0 : atM s (⟨12, a, b, al, cc, im, dp⟩ : InsV) = nearM s (⟨12, a, b, al, cc, im, dp⟩ : InsV) := by unfold atM; rw [if_neg (by simp)]
  rw [← hat0] at HN
  obtain ⟨at', hat⟩ : ∃ q, atM s (⟨12, a, b, al, cc, im, dp⟩ : InsV) = q := ⟨_, rfl⟩
  have HAT := Lib.hid hat
  rw [hat] at HF HAB HN
  clear hat hat0
  go_wp2_with fail
  refine HN.out.mono ?_
  rintro e w2 ⟨rfl, hb2⟩
  have HX2 := Lib.hid (HX1.out.below hb2)
  have HD2 := Lib.hid (show w2.heap[D]? = some (.cells #[.int .i64 12, .int .i64 a, .int .i64 b, .int .i64 al, .int .i64 cc, .int .u64 im, .int .i64 dp] 27 (0, 0)) from (hb2.block D (lt_of_row' HD1.out)).trans HD1.out)
  have HBK2 := Lib.hid (HBK.out.trans (Kept.of_below hb2 (fun k hk => HX1.out.mem.sz k (.inl hk))))
  clear hb2 HN c0 c1 c2 c3 c4 c5 c6
  have c0 : w2.cell? ⟨D, 0, none⟩ = some (.int .i64 12) := by rw [cell_of_row' HD2.out]; rfl
  go_upto_region 6 with (fail)
  clear c0
  have HX3 := Lib.hid (show Ctx (fun k => R k ∨ k = D) w2.drew C B M m most mp s0 fk fa s from HX2.out.drew)
  have HS := Lib.hid (show w2.drew.heap[D]? = some (.cells #[.int .i64 12, .int .i64 a, .int .i64 b, .int .i64 al, .int .i64 cc, .int .u64 im, .int .i64 dp] 27 (0, 0)) from HD2.out)
  have HBK3 := Lib.hid (show Kept R w w2.drew from HBK2.out.drew)
  have HR0 := Lib.hid (show StAt w2.drew B s from HX3.out.st)
  refine wp_region_noPanic ?_
  refine wp_region_K (fun W => W.heap[D]? = some (.cells #[.int .i64 12, .int .i64 a, .int .i64 b, .int .i64 al, .int .i64 cc, .int .u64 im, .int .i64 dp] 27 (0, 0))) (fun W => StAt W B s) 9 (by kernel_rfl) ?_
  refine wpAnyK_take (i := 0) (oi := ?_) (v := ?_) ?_ (by kernel_rfl) (by kernel_rfl) (by kernel_rfl) (fun _ _ _ h => h) (by decide) ?_ HS.out (fun _ => HR0.out) ?_
  rotate_left 2
  · (simp only [List.getElem?_toArray, List.getElem?_cons_succ, List.getElem?_cons_zero]; rfl)
  · (first | exact Or.inr ⟨by rfl, rfl⟩ | (refine Or.inl ⟨by rfl, ?_⟩; intro W hSw;  clear hSw; go_simp; try with_reducible rfl))
  try simp only [Act.put, List.setIfInBounds_toArray, List.set_cons_zero, List.set_cons_succ]
  refine wpAnyK_take (i := 1) (oi := ?_) (v := ?_) ?_ (by kernel_rfl) (by kernel_rfl) (by kernel_rfl) (fun _ _ _ h => h) (by decide) ?_ HS.out (fun _ => HR0.out) ?_
  rotate_left 2
  · (simp only [List.getElem?_toArray, List.getElem?_cons_succ, List.getElem?_cons_zero]; rfl)
  · (first | exact Or.inr ⟨by rfl, rfl⟩ | (refine Or.inl ⟨by rfl, ?_⟩; intro W hSw;  clear hSw; go_simp; try with_reducible rfl))
  try simp only [Act.put, List.setIfInBounds_toArray, List.set_cons_zero, List.set_cons_succ]
  refine wpAnyK_take (i := 2) (oi := ?_) (v := ?_) ?_ (by kernel_rfl) (by kernel_rfl) (by kernel_rfl) (fun _ _ _ h => h) (by decide) ?_ HS.out (fun _ => HR0.out) ?_
  rotate_left 2
  · (simp only [List.getElem?_toArray, List.getElem?_cons_succ, List.getElem?_cons_zero]; rfl)
  · (first | exact Or.inr ⟨by rfl, rfl⟩ | (refine Or.inl ⟨by rfl, ?_⟩; intro W hSw;  clear hSw; go_simp; try with_reducible rfl))
  try simp only [Act.put, List.setIfInBounds_toArray, List.set_cons_zero, List.set_cons_succ]
  refine wpAnyK_take (i := 3) (oi := ?_) (v := ?_) ?_ (by kernel_rfl) (by kernel_rfl) (by kernel_rfl) (fun _ _ _ h => h) (by decide) ?_ HS.out (fun _ => HR0.out) ?_
  rotate_left 2
  · (simp only [List.getElem?_toArray, List.getElem?_cons_succ, List.getElem?_cons_zero]; rfl)
  · (first | exact Or.inr ⟨by rfl, rfl⟩ | (refine Or.inl ⟨by rfl, ?_⟩; intro W hSw;  clear hSw; go_simp; try with_reducible rfl))
  try simp only [Act.put, List.setIfInBounds_toArray, List.set_cons_zero, List.set_cons_succ]
  refine wpAnyK_take (i := 4) (oi := ?_) (v := ?_) ?_ (by kernel_rfl) (by kernel_rfl) (by kernel_rfl) (fun _ _ _ h => h) (by decide) ?_ HS.out (fun _ => HR0.out) ?_
  rotate_left 2
  · (simp only [List.getElem?_toArray, List.getElem?_cons_succ, List.getElem?_cons_zero]; rfl)
  · (first | exact Or.inr ⟨by rfl, rfl⟩ | (refine Or.inl ⟨by rfl, ?_⟩; intro W hSw; have hq : W.cell? ⟨D, 1, none⟩ = some (.int .i64 a) := (by rw [cell_of_row' hSw]; rfl); clear hSw; go_simp; try with_reducible rfl))
  try simp only [Act.put, List.setIfInBounds_toArray, List.set_cons_zero, List.set_cons_succ]
  refine wpAnyK_take (i := 5) (oi := ?_) (v := ?_) ?_ (by kernel_rfl) (by kernel_rfl) (by kernel_rfl) (fun _ _ _ h => h) (by decide) ?_ HS.out (fun _ => HR0.out) ?_
  rotate_left 2
  · (simp only [List.getElem?_toArray, List.getElem?_cons_succ, List.getElem?_cons_zero]; rfl)
  · (first | exact Or.inr ⟨by rfl, rfl⟩ | (refine Or.inl ⟨by rfl, ?_⟩; intro W hSw;  clear hSw; go_simp; try with_reducible rfl))
  try simp only [Act.put, List.setIfInBounds_toArray, List.set_cons_zero, List.set_cons_succ]
  refine wpAnyK_take (i := 6) (oi := ?_) (v := ?_) ?_ (by kernel_rfl) (by kernel_rfl) (by kernel_rfl) (fun _ _ _ h => h) (by decide) ?_ HS.out (fun _ => HR0.out) ?_
  rotate_left 2
  · (simp only [List.getElem?_toArray, List.getElem?_cons_succ, List.getElem?_cons_zero]; rfl)
  · (first | exact Or.inr ⟨by rfl, rfl⟩ | (refine Or.inl ⟨by rfl, ?_⟩; intro W hSw;  clear hSw; go_simp; try with_reducible rfl))
  try simp only [Act.put, List.setIfInBounds_toArray, List.set_cons_zero, List.set_cons_succ]
  refine wpAnyK_take (i := 7) (oi := ?_) (v := ?_) ?_ (by kernel_rfl) (by kernel_rfl) (by kernel_rfl) (fun _ _ _ h => h) (by decide) ?_ HS.out (fun _ => HR0.out) ?_
  rotate_left 2
  · (simp only [List.getElem?_toArray, List.getElem?_cons_succ, List.getElem?_cons_zero]; rfl)
  · (first | exact Or.inr ⟨by rfl, rfl⟩ | (refine Or.inl ⟨by rfl, ?_⟩; intro W hSw;  clear hSw; go_simp; try with_reducible rfl))
  try simp only [Act.put, List.setIfInBounds_toArray, List.set_cons_zero, List.set_cons_succ]
  refine wpAnyK_direct (i := 8) (oi := ?_) (v := ?_) ?_ (by kernel_rfl) (by kernel_rfl) (by kernel_rfl) (fun _ _ _ h => h) (by decide) (by kernel_rfl) (by kernel_rfl) ?_ HS.out HR0.out ?_
  rotate_left 2
  · (simp only [List.getElem?_toArray, List.getElem?_cons_succ, List.getElem?_cons_zero]; rfl)
  · (refine Or.inl ⟨by rfl, ?_⟩; intro W hSw; have hbw := hSw.2; have hq := (StAt.reg hbw ha).1; clear hSw hbw; go_simp; try with_reducible rfl)
  try simp only [Act.put, List.setIfInBounds_toArray, List.set_cons_zero, List.set_cons_succ]
  refine wpAnyK_one (i := 9) (o := ?_) (by kernel_rfl) ?_ (fun K hK => ?_)
  rotate_left 1
  · (simp only [List.getElem?_toArray, List.getElem?_cons_succ, List.getElem?_cons_zero]; rfl)
  go_simp
  go_at_call 81
  refine (store_yes _ w2.drew C M m most mp s0 fk fa at' (s.r a) HX3.out.ok HAB.out.1 HAB.out.2 (HX3.out.sok.r a ha).1 (HX3.out.sok.r a ha).2 HX3.out.mem HX3.out.cpu HX3.out.rC HF.out).mono ?_
  rintro e w5 ⟨rfl, hm4, hk4⟩
  have HY := Lib.hid ((show DoY (fun k => R k ∨ k = D) w2.drew B M m most (putP mp at' 8 (le8 (s.r a))) s (.returned (.bool true)) w5 from ⟨rfl, hm4, hk4.own HX3.out.st HX3.out.rB, hk4.mono (fun k hk => hk.1)⟩).back HBK3.out (fun k hk => .inl hk))
  have HS2 := Lib.hid (show w5.heap[D]? = some (.cells #[.int .i64 12, .int .i64 a, .int .i64 b, .int .i64 al, .int .i64 cc, .int .u64 im, .int .i64 dp] 27 (0, 0)) from (hk4.block D (.inr rfl)).trans HS.out)
  clear hm4 hk4
  refine hK.out _ _ HS2.out (fun h => by cases h) ?_
  clear hK K
  try simp only [Act.put, List.setIfInBounds_toArray, List.set_cons_zero, List.set_cons_succ]
  refine wpAnyK_take (i := 10) (oi := ?_) (v := ?_) ?_ (by kernel_rfl) (by kernel_rfl) (by kernel_rfl) (fun _ _ _ h => h) (by decide) ?_ HS2.out (fun h => by cases h) ?_
  rotate_left 2
  · (simp only [List.getElem?_toArray, List.getElem?_cons_succ, List.getElem?_cons_zero]; rfl)
  · (first | exact Or.inr ⟨by rfl, rfl⟩ | (refine Or.inl ⟨by rfl, ?_⟩; intro W hSw;  clear hSw; go_simp; try with_reducible rfl))
  try simp only [Act.put, List.setIfInBounds_toArray, List.set_cons_zero, List.set_cons_succ]
  refine wpAnyK_done (by kernel_rfl) ?_ _
  refine NoPanic.normal ?_
  go_wp2
  go_ret
  rw [HAT.out]
  exact HY.out

set_option maxHeartbeats 4000000 in
theorem doStoreR_no (R : Nat → Prop) (w : World) (C B M m : Nat) (most : Int) (mp : Int → Option Pg) (s0 : StV) (fk fa : Int) (s : StV) (a b al cc im : Nat) (dp : Int) (H : Ctx R w C B M m most mp s0 fk fa s) (ha : a < 16) (hf : (askS mp 2 3 8 (atM s (⟨12, a, b, al, cc, im, dp⟩ : InsV)) 8).1 ≠ 0) :
    Calls Try.prog 64 #[.pointer (some ⟨C, 0, none⟩), .agg #[.int .i64 12, .int .i64 a, .int .i64 b, .int .i64 al, .int .i64 cc, .int .u64 im, .int .i64 dp], .pointer (some ⟨B, 0, none⟩)] w fun e w' => DoN R w C B M m most (askM mp (askS mp 2 3 8 (atM s (⟨12, a, b, al, cc, im, dp⟩ : InsV)) 8)) s0 (askS mp 2 3 8 (atM s (⟨12, a, b, al, cc, im, dp⟩ : InsV)) 8).1 (askS mp 2 3 8 (atM s (⟨12, a, b, al, cc, im, dp⟩ : InsV)) 8).2.1 e w' := by
  have HF := Lib.hid hf
  have haI : (a : Int) < 16 := by omega
  have HSZ := Lib.hid H.mem.sz
  have HX := Lib.hid H
  have hlB := H.mem.sz B H.rB
  have hlC := H.mem.sz C H.rC
  clear H hf
  go_enter Try.func64, Try.ntmps64
  go_upto_region 1 with (fail)
  obtain ⟨w1, hw1⟩ : ∃ w1, w.alloc (.cells #[.int .i64 12, .int .i64 a, .int .i64 b, .int .i64 al, .int .i64 cc, .int .u64 im, .int .i64 dp] 27) = w1 := ⟨_, rfl⟩
  obtain ⟨D, hD⟩ : ∃ D, w.heap.size = D := ⟨_, rfl⟩
  have HX1 := Lib.hid (show Ctx (fun k => R k ∨ k = D) w1 C B M m most mp s0 fk fa s from by rw [← hw1, ← hD]; exact HX.out.boxed _)
  have HD1 := Lib.hid (show w1.heap[D]? = some (.cells #[.int .i64 12, .int .i64 a, .int .i64 b, .int .i64 al, .int .i64 cc, .int .u64 im, .int .i64 dp] 27 (0, 0)) from by rw [← hw1, ← hD]; exact heap_alloc_new w _)
  have HBK := Lib.hid (show Kept R w w1 from by rw [← hw1]; exact (Kept.refl R w).alloc HSZ.out _)
  have HDB := Lib.hid (show D ≠ B ∧ D ≠ C ∧ ¬ R D from ⟨by omega, by omega, fun h => by have := HSZ.out D h; omega⟩)
  refine (congrArg _ hw1).mpr ?_
  rw [hD]
  clear hw1 hD hlB hlC HX HSZ
  have c0 : w1.cell? ⟨D, 0, none⟩ = some (.int .i64 12) := by rw [cell_of_row' HD1.out]; rfl
  have c1 : w1.cell? ⟨D, 1, none⟩ = some (.int .i64 a) := by rw [cell_of_row' HD1.out]; rfl
  have c2 : w1.cell? ⟨D, 2, none⟩ = some (.int .i64 b) := by rw [cell_of_row' HD1.out]; rfl
  have c3 : w1.cell? ⟨D, 3, none⟩ = some (.int .i64 al) := by rw [cell_of_row' HD1.out]; rfl
  have c4 : w1.cell? ⟨D, 4, none⟩ = some (.int .i64 cc) := by rw [cell_of_row' HD1.out]; rfl
  have c5 : w1.cell? ⟨D, 5, none⟩ = some (.int .u64 im) := by rw [cell_of_row' HD1.out]; rfl
  have c6 : w1.cell? ⟨D, 6, none⟩ = some (.int .i64 dp) := by rw [cell_of_row' HD1.out]; rfl
  have HN := Lib.hid (show Calls Try.prog 66 #[.pointer (some ⟨B, 0, none⟩), .agg #[.int .i64 12, .int .i64 a, .int .i64 b, .int .i64 al, .int .i64 cc, .int .u64 im, .int .i64 dp]] w1 fun e w' => e = .returned (.int .u64 (nearM s (⟨12, a, b, al, cc, im, dp⟩ : InsV))) ∧ Below w1.heap.size w1 w' from near_any w1 B s (⟨12, a, b, al, cc, im, dp⟩ : InsV) HX1.out.st)
  have HAB := Lib.hid (atM_bd s (⟨12, a, b, al, cc, im, dp⟩ : InsV))
  have hat0 : atM s (⟨12, a, b, al, cc, im, dp⟩ : InsV) = nearM s (⟨12, a, b, al, cc, im, dp⟩ : InsV) := by unfold atM; rw [if_neg (by simp)]
  rw [← hat0] at HN
  obtain ⟨at', hat⟩ : ∃ q, atM s (⟨12, a, b, al, cc, im, dp⟩ : InsV) = q := ⟨_, rfl⟩
  have HAT := Lib.hid hat
  rw [hat] at HF HAB HN
  clear hat hat0
  go_wp2_with fail
  refine HN.out.mono ?_
  rintro e w2 ⟨rfl, hb2⟩
  have HX2 := Lib.hid (HX1.out.below hb2)
  have HD2 := Lib.hid (show w2.heap[D]? = some (.cells #[.int .i64 12, .int .i64 a, .int .i64 b, .int .i64 al, .int .i64 cc, .int .u64 im, .int .i64 dp] 27 (0, 0)) from (hb2.block D (lt_of_row' HD1.out)).trans HD1.out)
  have HBK2 := Lib.hid (HBK.out.trans (Kept.of_below hb2 (fun k hk => HX1.out.mem.sz k (.inl hk))))
  clear hb2 HN c0 c1 c2 c3 c4 c5 c6
  have c0 : w2.cell? ⟨D, 0, none⟩ = some (.int .i64 12) := by rw [cell_of_row' HD2.out]; rfl
  go_upto_region 6 with (fail)
  clear c0
  have HX3 := Lib.hid (show Ctx (fun k => R k ∨ k = D) w2.drew C B M m most mp s0 fk fa s from HX2.out.drew)
  have HS := Lib.hid (show w2.drew.heap[D]? = some (.cells #[.int .i64 12, .int .i64 a, .int .i64 b, .int .i64 al, .int .i64 cc, .int .u64 im, .int .i64 dp] 27 (0, 0)) from HD2.out)
  have HBK3 := Lib.hid (show Kept R w w2.drew from HBK2.out.drew)
  have HR0 := Lib.hid (show StAt w2.drew B s from HX3.out.st)
  refine wp_region_noPanic ?_
  refine wp_region_K (fun W => W.heap[D]? = some (.cells #[.int .i64 12, .int .i64 a, .int .i64 b, .int .i64 al, .int .i64 cc, .int .u64 im, .int .i64 dp] 27 (0, 0))) (fun W => StAt W B s) 9 (by kernel_rfl) ?_
  refine wpAnyK_take (i := 0) (oi := ?_) (v := ?_) ?_ (by kernel_rfl) (by kernel_rfl) (by kernel_rfl) (fun _ _ _ h => h) (by decide) ?_ HS.out (fun _ => HR0.out) ?_
  rotate_left 2
  · (simp only [List.getElem?_toArray, List.getElem?_cons_succ, List.getElem?_cons_zero]; rfl)
  · (first | exact Or.inr ⟨by rfl, rfl⟩ | (refine Or.inl ⟨by rfl, ?_⟩; intro W hSw;  clear hSw; go_simp; try with_reducible rfl))
  try simp only [Act.put, List.setIfInBounds_toArray, List.set_cons_zero, List.set_cons_succ]
  refine wpAnyK_take (i := 1) (oi := ?_) (v := ?_) ?_ (by kernel_rfl) (by kernel_rfl) (by kernel_rfl) (fun _ _ _ h => h) (by decide) ?_ HS.out (fun _ => HR0.out) ?_
  rotate_left 2
  · (simp only [List.getElem?_toArray, List.getElem?_cons_succ, List.getElem?_cons_zero]; rfl)
  · (first | exact Or.inr ⟨by rfl, rfl⟩ | (refine Or.inl ⟨by rfl, ?_⟩; intro W hSw;  clear hSw; go_simp; try with_reducible rfl))
  try simp only [Act.put, List.setIfInBounds_toArray, List.set_cons_zero, List.set_cons_succ]
  refine wpAnyK_take (i := 2) (oi := ?_) (v := ?_) ?_ (by kernel_rfl) (by kernel_rfl) (by kernel_rfl) (fun _ _ _ h => h) (by decide) ?_ HS.out (fun _ => HR0.out) ?_
  rotate_left 2
  · (simp only [List.getElem?_toArray, List.getElem?_cons_succ, List.getElem?_cons_zero]; rfl)
  · (first | exact Or.inr ⟨by rfl, rfl⟩ | (refine Or.inl ⟨by rfl, ?_⟩; intro W hSw;  clear hSw; go_simp; try with_reducible rfl))
  try simp only [Act.put, List.setIfInBounds_toArray, List.set_cons_zero, List.set_cons_succ]
  refine wpAnyK_take (i := 3) (oi := ?_) (v := ?_) ?_ (by kernel_rfl) (by kernel_rfl) (by kernel_rfl) (fun _ _ _ h => h) (by decide) ?_ HS.out (fun _ => HR0.out) ?_
  rotate_left 2
  · (simp only [List.getElem?_toArray, List.getElem?_cons_succ, List.getElem?_cons_zero]; rfl)
  · (first | exact Or.inr ⟨by rfl, rfl⟩ | (refine Or.inl ⟨by rfl, ?_⟩; intro W hSw;  clear hSw; go_simp; try with_reducible rfl))
  try simp only [Act.put, List.setIfInBounds_toArray, List.set_cons_zero, List.set_cons_succ]
  refine wpAnyK_take (i := 4) (oi := ?_) (v := ?_) ?_ (by kernel_rfl) (by kernel_rfl) (by kernel_rfl) (fun _ _ _ h => h) (by decide) ?_ HS.out (fun _ => HR0.out) ?_
  rotate_left 2
  · (simp only [List.getElem?_toArray, List.getElem?_cons_succ, List.getElem?_cons_zero]; rfl)
  · (first | exact Or.inr ⟨by rfl, rfl⟩ | (refine Or.inl ⟨by rfl, ?_⟩; intro W hSw; have hq : W.cell? ⟨D, 1, none⟩ = some (.int .i64 a) := (by rw [cell_of_row' hSw]; rfl); clear hSw; go_simp; try with_reducible rfl))
  try simp only [Act.put, List.setIfInBounds_toArray, List.set_cons_zero, List.set_cons_succ]
  refine wpAnyK_take (i := 5) (oi := ?_) (v := ?_) ?_ (by kernel_rfl) (by kernel_rfl) (by kernel_rfl) (fun _ _ _ h => h) (by decide) ?_ HS.out (fun _ => HR0.out) ?_
  rotate_left 2
  · (simp only [List.getElem?_toArray, List.getElem?_cons_succ, List.getElem?_cons_zero]; rfl)
  · (first | exact Or.inr ⟨by rfl, rfl⟩ | (refine Or.inl ⟨by rfl, ?_⟩; intro W hSw;  clear hSw; go_simp; try with_reducible rfl))
  try simp only [Act.put, List.setIfInBounds_toArray, List.set_cons_zero, List.set_cons_succ]
  refine wpAnyK_take (i := 6) (oi := ?_) (v := ?_) ?_ (by kernel_rfl) (by kernel_rfl) (by kernel_rfl) (fun _ _ _ h => h) (by decide) ?_ HS.out (fun _ => HR0.out) ?_
  rotate_left 2
  · (simp only [List.getElem?_toArray, List.getElem?_cons_succ, List.getElem?_cons_zero]; rfl)
  · (first | exact Or.inr ⟨by rfl, rfl⟩ | (refine Or.inl ⟨by rfl, ?_⟩; intro W hSw;  clear hSw; go_simp; try with_reducible rfl))
  try simp only [Act.put, List.setIfInBounds_toArray, List.set_cons_zero, List.set_cons_succ]
  refine wpAnyK_take (i := 7) (oi := ?_) (v := ?_) ?_ (by kernel_rfl) (by kernel_rfl) (by kernel_rfl) (fun _ _ _ h => h) (by decide) ?_ HS.out (fun _ => HR0.out) ?_
  rotate_left 2
  · (simp only [List.getElem?_toArray, List.getElem?_cons_succ, List.getElem?_cons_zero]; rfl)
  · (first | exact Or.inr ⟨by rfl, rfl⟩ | (refine Or.inl ⟨by rfl, ?_⟩; intro W hSw;  clear hSw; go_simp; try with_reducible rfl))
  try simp only [Act.put, List.setIfInBounds_toArray, List.set_cons_zero, List.set_cons_succ]
  refine wpAnyK_direct (i := 8) (oi := ?_) (v := ?_) ?_ (by kernel_rfl) (by kernel_rfl) (by kernel_rfl) (fun _ _ _ h => h) (by decide) (by kernel_rfl) (by kernel_rfl) ?_ HS.out HR0.out ?_
  rotate_left 2
  · (simp only [List.getElem?_toArray, List.getElem?_cons_succ, List.getElem?_cons_zero]; rfl)
  · (refine Or.inl ⟨by rfl, ?_⟩; intro W hSw; have hbw := hSw.2; have hq := (StAt.reg hbw ha).1; clear hSw hbw; go_simp; try with_reducible rfl)
  try simp only [Act.put, List.setIfInBounds_toArray, List.set_cons_zero, List.set_cons_succ]
  refine wpAnyK_one (i := 9) (o := ?_) (by kernel_rfl) ?_ (fun K hK => ?_)
  rotate_left 1
  · (simp only [List.getElem?_toArray, List.getElem?_cons_succ, List.getElem?_cons_zero]; rfl)
  go_simp
  go_at_call 81
  refine (store_no _ w2.drew C M m most mp s0 fk fa at' (s.r a) HX3.out.ok HAB.out.1 HAB.out.2 (HX3.out.sok.r a ha).1 (HX3.out.sok.r a ha).2 HX3.out.mem HX3.out.cpu HX3.out.rC HF.out).mono ?_
  rintro e w5 ⟨rfl, hm4, hc4, hk4⟩
  have HY := Lib.hid ((show DoN (fun k => R k ∨ k = D) w2.drew C B M m most (askM mp (askS mp 2 3 8 at' 8)) s0 (askS mp 2 3 8 at' 8).1 (askS mp 2 3 8 at' 8).2.1 (.returned (.bool false)) w5 from ⟨rfl, hm4, hc4, hk4.mono (fun k hk => ⟨hk.1, hk.2.1⟩)⟩).back HBK3.out (fun k hk => .inl hk))
  have HS2 := Lib.hid (show w5.heap[D]? = some (.cells #[.int .i64 12, .int .i64 a, .int .i64 b, .int .i64 al, .int .i64 cc, .int .u64 im, .int .i64 dp] 27 (0, 0)) from (hk4.block D ⟨.inr rfl, HDB.out.2.1⟩).trans HS.out)
  clear hm4 hc4 hk4
  refine hK.out _ _ HS2.out (fun h => by cases h) ?_
  clear hK K
  try simp only [Act.put, List.setIfInBounds_toArray, List.set_cons_zero, List.set_cons_succ]
  refine wpAnyK_take (i := 10) (oi := ?_) (v := ?_) ?_ (by kernel_rfl) (by kernel_rfl) (by kernel_rfl) (fun _ _ _ h => h) (by decide) ?_ HS2.out (fun h => by cases h) ?_
  rotate_left 2
  · (simp only [List.getElem?_toArray, List.getElem?_cons_succ, List.getElem?_cons_zero]; rfl)
  · (first | exact Or.inr ⟨by rfl, rfl⟩ | (refine Or.inl ⟨by rfl, ?_⟩; intro W hSw;  clear hSw; go_simp; try with_reducible rfl))
  try simp only [Act.put, List.setIfInBounds_toArray, List.set_cons_zero, List.set_cons_succ]
  refine wpAnyK_done (by kernel_rfl) ?_ _
  refine NoPanic.normal ?_
  go_wp2
  go_ret
  rw [HAT.out]
  exact HY.out

end Go.Proofs.Ythbgmlmcjnlopaa
