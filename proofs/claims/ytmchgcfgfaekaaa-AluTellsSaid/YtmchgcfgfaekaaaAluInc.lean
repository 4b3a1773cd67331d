/- The contracts of alu.Do: one more, one less. -/
import Derived.Test.YtmchgcfgfaekaaaAluDo
namespace Go.Proofs.Ytmchgcfgfaekaaa
open Go.ChangeShapes Go.WideShapes Go.ChangeAt Go.RowKit
set_option linter.unusedVariables false

theorem do_inc (a b v : Int) (z s c o z1 s1 c1 o1 : Bool) (w : World) (ha : Word a) (h1w : Word 1) (hv : Word v) (he : (a + 1) % 18446744073709551616 = v) (hF : addF a 1 v = .agg #[.bool z1, .bool s1, .bool c1, .bool o1]) :
    Calls Try.prog 8 #[.int .i64 5, .int .u64 a, .int .u64 b, .agg #[.bool z, .bool s, .bool c, .bool o]] w fun e w' => e = .returned (.tuple #[.int .u64 v, .agg #[.bool z1, .bool s1, .bool c, .bool o1]]) ∧ Below w.heap.size w w' := by
  go_enter Try.func8, Try.ntmps8
  go_wp2_with fail
  refine (add_any a 1 v _ ha h1w hv he).mono ?_
  rintro e w1 ⟨rfl, hb1⟩
  rw [hF]
  obtain ⟨⟨h0, h1, h2, h3, g0, g1, g2, g3⟩, ⟨k0, k1, k2, k3, l0, l1, l2, l3⟩, hb2, hs⟩ := Blk.two hb1
  have s0 : w.heap.size < w1.heap.size := by omega
  have n0 : w.heap.size ≠ w1.heap.size := by omega
  have n1 : w.heap.size + 1 ≠ w1.heap.size := by omega
  have C2 : ∀ x, (w1.alloc x).cell? ⟨w.heap.size, 2, none⟩ = some (.bool c) := fun x => by simp [h2, s0, n0, go_sem]
  clear hb1 hF
  go_wp2
  obtain ⟨W, hW⟩ : ∃ W, W = w1.alloc (Obj.cells #[.bool z1, .bool s1, .bool c, .bool o1] 24) := ⟨_, rfl⟩
  rw [← hW]
  have hb3 : Below w.heap.size w W := by
    rw [hW]
    exact hb2.alloc (by omega) _
  have M0 : W.cell? ⟨w.heap.size + 1, 0, none⟩ = some (.bool false) := by rw [hW]; simp [k0, hs, n1, go_sem]
  have M1 : W.cell? ⟨w.heap.size + 1, 1, none⟩ = some (.bool false) := by rw [hW]; simp [k1, hs, n1, go_sem]
  have M2 : W.cell? ⟨w.heap.size + 1, 2, none⟩ = some (.bool false) := by rw [hW]; simp [k2, hs, n1, go_sem]
  have M3 : W.cell? ⟨w.heap.size + 1, 3, none⟩ = some (.bool false) := by rw [hW]; simp [k3, hs, n1, go_sem]
  have N0 : W.frozen? ⟨w.heap.size + 1, 0, none⟩ = false := by rw [hW]; simp [l0, hs, n1, go_sem]
  have N1 : W.frozen? ⟨w.heap.size + 1, 1, none⟩ = false := by rw [hW]; simp [l1, hs, n1, go_sem]
  have N2 : W.frozen? ⟨w.heap.size + 1, 2, none⟩ = false := by rw [hW]; simp [l2, hs, n1, go_sem]
  have N3 : W.frozen? ⟨w.heap.size + 1, 3, none⟩ = false := by rw [hW]; simp [l3, hs, n1, go_sem]
  have P0 : W.cell? ⟨w1.heap.size, 0, none⟩ = some (.bool z1) := by rw [hW]; simp [go_sem]
  have P1 : W.cell? ⟨w1.heap.size, 1, none⟩ = some (.bool s1) := by rw [hW]; simp [go_sem]
  have P2 : W.cell? ⟨w1.heap.size, 2, none⟩ = some (.bool c) := by rw [hW]; simp [go_sem]
  have P3 : W.cell? ⟨w1.heap.size, 3, none⟩ = some (.bool o1) := by rw [hW]; simp [go_sem]
  clear hW h0 h1 h2 h3 g0 g1 g2 g3 k0 k1 k2 k3 l0 l1 l2 l3 C2
  go_region
  go_wp2
  exact bodyPost_ret (v := .tuple #[.int .u64 v, .agg #[.bool z1, .bool s1, .bool c, .bool o1]]) (by simp [results, Try.results8, go_sem, M0, M1, M2, M3, P0, P1, P2, P3, n1, n1.symm]) rfl ⟨rfl, by go_grown⟩

theorem do_dec (a b v : Int) (z s c o z1 s1 c1 o1 : Bool) (w : World) (ha : Word a) (h1w : Word 1) (hv : Word v) (he : IntKind.u64.wrap (a - 1) = v) (hF : subF a 1 v = .agg #[.bool z1, .bool s1, .bool c1, .bool o1]) :
    Calls Try.prog 8 #[.int .i64 6, .int .u64 a, .int .u64 b, .agg #[.bool z, .bool s, .bool c, .bool o]] w fun e w' => e = .returned (.tuple #[.int .u64 v, .agg #[.bool z1, .bool s1, .bool c, .bool o1]]) ∧ Below w.heap.size w w' := by
  go_enter Try.func8, Try.ntmps8
  go_wp2_with fail
  refine (sub_any a 1 v _ ha h1w hv he).mono ?_
  rintro e w1 ⟨rfl, hb1⟩
  rw [hF]
  obtain ⟨⟨h0, h1, h2, h3, g0, g1, g2, g3⟩, ⟨k0, k1, k2, k3, l0, l1, l2, l3⟩, hb2, hs⟩ := Blk.two hb1
  have s0 : w.heap.size < w1.heap.size := by omega
  have n0 : w.heap.size ≠ w1.heap.size := by omega
  have n1 : w.heap.size + 1 ≠ w1.heap.size := by omega
  have C2 : ∀ x, (w1.alloc x).cell? ⟨w.heap.size, 2, none⟩ = some (.bool c) := fun x => by simp [h2, s0, n0, go_sem]
  clear hb1 hF
  go_wp2
  obtain ⟨W, hW⟩ : ∃ W, W = w1.alloc (Obj.cells #[.bool z1, .bool s1, .bool c, .bool o1] 24) := ⟨_, rfl⟩
  rw [← hW]
  have hb3 : Below w.heap.size w W := by
    rw [hW]
    exact hb2.alloc (by omega) _
  have M0 : W.cell? ⟨w.heap.size + 1, 0, none⟩ = some (.bool false) := by rw [hW]; simp [k0, hs, n1, go_sem]
  have M1 : W.cell? ⟨w.heap.size + 1, 1, none⟩ = some (.bool false) := by rw [hW]; simp [k1, hs, n1, go_sem]
  have M2 : W.cell? ⟨w.heap.size + 1, 2, none⟩ = some (.bool false) := by rw [hW]; simp [k2, hs, n1, go_sem]
  have M3 : W.cell? ⟨w.heap.size + 1, 3, none⟩ = some (.bool false) := by rw [hW]; simp [k3, hs, n1, go_sem]
  have N0 : W.frozen? ⟨w.heap.size + 1, 0, none⟩ = false := by rw [hW]; simp [l0, hs, n1, go_sem]
  have N1 : W.frozen? ⟨w.heap.size + 1, 1, none⟩ = false := by rw [hW]; simp [l1, hs, n1, go_sem]
  have N2 : W.frozen? ⟨w.heap.size + 1, 2, none⟩ = false := by rw [hW]; simp [l2, hs, n1, go_sem]
  have N3 : W.frozen? ⟨w.heap.size + 1, 3, none⟩ = false := by rw [hW]; simp [l3, hs, n1, go_sem]
  have P0 : W.cell? ⟨w1.heap.size, 0, none⟩ = some (.bool z1) := by rw [hW]; simp [go_sem]
  have P1 : W.cell? ⟨w1.heap.size, 1, none⟩ = some (.bool s1) := by rw [hW]; simp [go_sem]
  have P2 : W.cell? ⟨w1.heap.size, 2, none⟩ = some (.bool c) := by rw [hW]; simp [go_sem]
  have P3 : W.cell? ⟨w1.heap.size, 3, none⟩ = some (.bool o1) := by rw [hW]; simp [go_sem]
  clear hW h0 h1 h2 h3 g0 g1 g2 g3 k0 k1 k2 k3 l0 l1 l2 l3 C2
  go_region
  go_wp2
  exact bodyPost_ret (v := .tuple #[.int .u64 v, .agg #[.bool z1, .bool s1, .bool c, .bool o1]]) (by simp [results, Try.results8, go_sem, M0, M1, M2, M3, P0, P1, P2, P3, n1, n1.symm]) rfl ⟨rfl, by go_grown⟩

theorem cond_b (z s c o : Bool) (w : World) : Calls Try.prog 11 #[.int .i64 2, .agg #[.bool z, .bool s, .bool c, .bool o]] w fun e w' => e = .returned (.bool c) ∧ Below w.heap.size w w' := by
  go_enter Try.func11, Try.ntmps11
  go_wp2
  go_ret
  exact ⟨rfl, by go_grown⟩
theorem cond_l (z s c o : Bool) (w : World) : Calls Try.prog 11 #[.int .i64 12, .agg #[.bool z, .bool s, .bool c, .bool o]] w fun e w' => e = .returned (.bool (s != o)) ∧ Below w.heap.size w w' := by
  go_enter Try.func11, Try.ntmps11
  go_wp2
  go_ret
  exact ⟨rfl, by go_grown⟩
end Go.Proofs.Ytmchgcfgfaekaaa
