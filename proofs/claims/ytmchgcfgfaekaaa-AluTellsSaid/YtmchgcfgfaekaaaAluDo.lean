/- The contracts of alu.Do, op by op. -/
import Derived.Test.YtmchgcfgfaekaaaAlu
namespace Go.Proofs.Ytmchgcfgfaekaaa
open Go.ChangeShapes Go.WideShapes Go.ChangeAt Go.RowKit
set_option linter.unusedVariables false

/-- A block of four flags. -/
structure Blk (W : World) (B : Nat) (z s c o : Bool) : Prop where
  c0 : W.cell? ⟨B, 0, none⟩ = some (.bool z)
  c1 : W.cell? ⟨B, 1, none⟩ = some (.bool s)
  c2 : W.cell? ⟨B, 2, none⟩ = some (.bool c)
  c3 : W.cell? ⟨B, 3, none⟩ = some (.bool o)
  f0 : W.frozen? ⟨B, 0, none⟩ = false
  f1 : W.frozen? ⟨B, 1, none⟩ = false
  f2 : W.frozen? ⟨B, 2, none⟩ = false
  f3 : W.frozen? ⟨B, 3, none⟩ = false

theorem Blk.new (w : World) (z s c o : Bool) (t : TypeId) : Blk (w.alloc (Obj.cells #[.bool z, .bool s, .bool c, .bool o] t)) w.heap.size z s c o := by
  constructor <;> simp [go_sem]

theorem Blk.below {w w' : World} {n B : Nat} {z s c o : Bool} (h : Blk w B z s c o) (hb : Below n w w') (hn : B < n) : Blk w' B z s c o :=
  ⟨(hb.cell (p := ⟨B, 0, none⟩) hn).trans h.c0, (hb.cell (p := ⟨B, 1, none⟩) hn).trans h.c1, (hb.cell (p := ⟨B, 2, none⟩) hn).trans h.c2, (hb.cell (p := ⟨B, 3, none⟩) hn).trans h.c3,
   (hb.frozen (p := ⟨B, 0, none⟩) hn).trans h.f0, (hb.frozen (p := ⟨B, 1, none⟩) hn).trans h.f1, (hb.frozen (p := ⟨B, 2, none⟩) hn).trans h.f2, (hb.frozen (p := ⟨B, 3, none⟩) hn).trans h.f3⟩

theorem Blk.set {w : World} {B : Nat} {z s c o : Bool} (h : Blk w B z s c o) (z' s' c' o' : Bool) :
    Blk ((((w.setCell ⟨B, 0, none⟩ (.bool z')).setCell ⟨B, 1, none⟩ (.bool s')).setCell ⟨B, 2, none⟩ (.bool c')).setCell ⟨B, 3, none⟩ (.bool o')) B z' s' c' o' := by
  obtain ⟨h0, h1, h2, h3, g0, g1, g2, g3⟩ := h
  constructor <;> simp [go_sem, *]

theorem logic_any (v : Int) (w : World) (h : Word v) : Calls Try.prog 28 #[.int .u64 v] w fun e w' => e = .returned (.tuple #[.int .u64 v, .agg #[.bool (v == 0), .bool (hiB v), .bool false, .bool false]]) ∧ Below w.heap.size w w' := by
  go_enter Try.func28, Try.ntmps28
  go_wp2_with fail
  refine (like_any v _ h).mono ?_
  rintro e w1 ⟨rfl, hb1⟩
  obtain ⟨h0, h1, h2, h3, g0, g1, g2, g3⟩ := (Blk.new w false false false false 24).below hb1 (by simp)
  have hb2 : Below w.heap.size w w1 := ((Below.refl w.heap.size w).alloc (Nat.le_refl _) _).trans (hb1.mono (by simp))
  clear hb1
  go_wp2
  exact bodyPost_ret (v := .tuple #[.int .u64 v, .agg #[.bool (v == 0), .bool (hiB v), .bool false, .bool false]]) (by simp [results, Try.results28, go_sem, h0, h1, h2, h3]) rfl ⟨rfl, by go_grown⟩

theorem Blk.two {w w1 : World} {z s c o : Bool} {t : TypeId}
    (hb : Below ((w.alloc (Obj.cells #[.bool z, .bool s, .bool c, .bool o] t)).alloc (Obj.cells #[.bool false, .bool false, .bool false, .bool false] t)).heap.size
      ((w.alloc (Obj.cells #[.bool z, .bool s, .bool c, .bool o] t)).alloc (Obj.cells #[.bool false, .bool false, .bool false, .bool false] t)) w1) :
    Blk w1 w.heap.size z s c o ∧ Blk w1 (w.heap.size + 1) false false false false ∧ Below w.heap.size w w1 ∧ w.heap.size + 1 < w1.heap.size := by
  have e : (w.alloc (Obj.cells #[.bool z, .bool s, .bool c, .bool o] t)).heap.size = w.heap.size + 1 := by simp
  have hs := hb.size
  have h1 := Blk.new (w.alloc (Obj.cells #[.bool z, .bool s, .bool c, .bool o] t)) false false false false t
  rw [e] at h1
  have h0 := (Blk.new w z s c o t).below ((Below.refl (w.heap.size + 1) _).alloc (by simp) (Obj.cells #[.bool false, .bool false, .bool false, .bool false] t)) (by omega)
  refine ⟨h0.below hb (by simp; omega), h1.below hb (by simp), (((Below.refl w.heap.size w).alloc (Nat.le_refl _) _).alloc (by simp) _).trans (hb.mono (by simp; omega)), by simp at hs; omega⟩

theorem do_add (a b v : Int) (z s c o z1 s1 c1 o1 : Bool) (w : World) (ha : Word a) (hb : Word b) (hv : Word v) (he : (a + b) % 18446744073709551616 = v) (hF : addF a b v = .agg #[.bool z1, .bool s1, .bool c1, .bool o1]) :
    Calls Try.prog 8 #[.int .i64 0, .int .u64 a, .int .u64 b, .agg #[.bool z, .bool s, .bool c, .bool o]] w fun e w' => e = .returned (.tuple #[.int .u64 v, .agg #[.bool z1, .bool s1, .bool c1, .bool o1]]) ∧ Below w.heap.size w w' := by
  go_enter Try.func8, Try.ntmps8
  go_wp2_with fail
  refine (add_any a b v _ ha hb hv he).mono ?_
  rintro e w1 ⟨rfl, hb1⟩
  rw [hF]
  obtain ⟨⟨h0, h1, h2, h3, g0, g1, g2, g3⟩, ⟨k0, k1, k2, k3, l0, l1, l2, l3⟩, hb2, hs⟩ := Blk.two hb1
  clear hb1 hF
  go_wp2
  exact bodyPost_ret (v := .tuple #[.int .u64 v, .agg #[.bool z1, .bool s1, .bool c1, .bool o1]]) (by simp [results, Try.results8, go_sem, h0, h1, h2, h3, k0, k1, k2, k3]) rfl ⟨rfl, by go_grown⟩

theorem do_sub (a b v : Int) (z s c o z1 s1 c1 o1 : Bool) (w : World) (ha : Word a) (hb : Word b) (hv : Word v) (he : IntKind.u64.wrap (a - b) = v) (hF : subF a b v = .agg #[.bool z1, .bool s1, .bool c1, .bool o1]) :
    Calls Try.prog 8 #[.int .i64 1, .int .u64 a, .int .u64 b, .agg #[.bool z, .bool s, .bool c, .bool o]] w fun e w' => e = .returned (.tuple #[.int .u64 v, .agg #[.bool z1, .bool s1, .bool c1, .bool o1]]) ∧ Below w.heap.size w w' := by
  go_enter Try.func8, Try.ntmps8
  go_wp2_with fail
  refine (sub_any a b v _ ha hb hv he).mono ?_
  rintro e w1 ⟨rfl, hb1⟩
  rw [hF]
  obtain ⟨⟨h0, h1, h2, h3, g0, g1, g2, g3⟩, ⟨k0, k1, k2, k3, l0, l1, l2, l3⟩, hb2, hs⟩ := Blk.two hb1
  clear hb1 hF
  go_wp2
  exact bodyPost_ret (v := .tuple #[.int .u64 v, .agg #[.bool z1, .bool s1, .bool c1, .bool o1]]) (by simp [results, Try.results8, go_sem, h0, h1, h2, h3, k0, k1, k2, k3]) rfl ⟨rfl, by go_grown⟩

theorem do_cmp (a b v : Int) (z s c o z1 s1 c1 o1 : Bool) (w : World) (ha : Word a) (hb : Word b) (hv : Word v) (he : IntKind.u64.wrap (a - b) = v) (hF : subF a b v = .agg #[.bool z1, .bool s1, .bool c1, .bool o1]) :
    Calls Try.prog 8 #[.int .i64 7, .int .u64 a, .int .u64 b, .agg #[.bool z, .bool s, .bool c, .bool o]] w fun e w' => e = .returned (.tuple #[.int .u64 a, .agg #[.bool z1, .bool s1, .bool c1, .bool o1]]) ∧ Below w.heap.size w w' := by
  go_enter Try.func8, Try.ntmps8
  go_wp2_with fail
  refine (sub_any a b v _ ha hb hv he).mono ?_
  rintro e w1 ⟨rfl, hb1⟩
  rw [hF]
  obtain ⟨K0, ⟨k0, k1, k2, k3, l0, l1, l2, l3⟩, hb2, hs⟩ := Blk.two hb1
  have K := Lib.hid K0
  obtain ⟨h0, h1, h2, h3, g0, g1, g2, g3⟩ := K0
  clear hb1 hF
  go_wp2
  obtain ⟨W, hW⟩ : ∃ W, W = (((w1.setCell ⟨w.heap.size, 0, none⟩ (.bool z1)).setCell ⟨w.heap.size, 1, none⟩ (.bool s1)).setCell ⟨w.heap.size, 2, none⟩ (.bool c1)).setCell ⟨w.heap.size, 3, none⟩ (.bool o1) := ⟨_, rfl⟩
  rw [← hW]
  have hb3 : Below w.heap.size w W := by
    rw [hW]
    exact (((hb2.setCell (p := ⟨w.heap.size, 0, none⟩) (Nat.le_refl _) _).setCell (p := ⟨w.heap.size, 1, none⟩) (Nat.le_refl _) _).setCell (p := ⟨w.heap.size, 2, none⟩) (Nat.le_refl _) _).setCell (p := ⟨w.heap.size, 3, none⟩) (Nat.le_refl _) _
  have M0 : W.cell? ⟨w.heap.size + 1, 0, none⟩ = some (.bool false) := by rw [hW]; simp [k0, go_sem]
  have M1 : W.cell? ⟨w.heap.size + 1, 1, none⟩ = some (.bool false) := by rw [hW]; simp [k1, go_sem]
  have M2 : W.cell? ⟨w.heap.size + 1, 2, none⟩ = some (.bool false) := by rw [hW]; simp [k2, go_sem]
  have M3 : W.cell? ⟨w.heap.size + 1, 3, none⟩ = some (.bool false) := by rw [hW]; simp [k3, go_sem]
  have N0 : W.frozen? ⟨w.heap.size + 1, 0, none⟩ = false := by rw [hW]; simp [l0, go_sem]
  have N1 : W.frozen? ⟨w.heap.size + 1, 1, none⟩ = false := by rw [hW]; simp [l1, go_sem]
  have N2 : W.frozen? ⟨w.heap.size + 1, 2, none⟩ = false := by rw [hW]; simp [l2, go_sem]
  have N3 : W.frozen? ⟨w.heap.size + 1, 3, none⟩ = false := by rw [hW]; simp [l3, go_sem]
  have Q := K.out.set z1 s1 c1 o1
  rw [← hW] at Q
  clear hW h0 h1 h2 h3 g0 g1 g2 g3 k0 k1 k2 k3 l0 l1 l2 l3
  obtain ⟨h0, h1, h2, h3, g0, g1, g2, g3⟩ := Q
  go_region
  go_wp2
  exact bodyPost_ret (v := .tuple #[.int .u64 a, .agg #[.bool z1, .bool s1, .bool c1, .bool o1]]) (by simp [results, Try.results8, go_sem, h0, h1, h2, h3, M0, M1, M2, M3]) rfl ⟨rfl, by go_grown⟩

end Go.Proofs.Ytmchgcfgfaekaaa
