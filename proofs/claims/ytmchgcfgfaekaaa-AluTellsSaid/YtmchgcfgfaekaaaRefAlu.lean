/- The document's own answer for numbers and flags. -/
import Derived.Test.YtmchgcfgfaekaaaAluOps
import Derived.Test.YtmchgcfgfaekaaaAluShifts
import Derived.Deep.DeepCutAuto
namespace Go.Proofs.Ytmchgcfgfaekaaa
open Go.ChangeShapes Go.WideShapes Go.ChangeAt Go.RowKit
set_option linter.unusedVariables false

theorem told_any (v : Int) (c o : Bool) (w : World) (h : Word v) : Calls Try.prog 32 #[.int .u64 v, .bool c, .bool o] w fun e w' => e = .returned (.agg #[.int .u64 v, .bool (v == 0), .bool (hiB v), .bool c, .bool o]) ∧ Below w.heap.size w w' := by
  have h0 := h.low
  have h1 := h.high
  have hS := shS v h
  go_enter Try.func32, Try.ntmps32
  go_wp2
  exact bodyPost_ret (v := .agg #[.int .u64 v, .bool (v == 0), .bool (hiB v), .bool c, .bool o]) (by simp [results, Try.results32, go_sem]) rfl ⟨rfl, by go_grown⟩

theorem below_of_told {w w1 : World} {t : TypeId} {x : Obj} (hb : Below (w.alloc x).heap.size (w.alloc x) w1) : Below w.heap.size w w1 ∧ w.heap.size < w1.heap.size :=
  ⟨((Below.refl w.heap.size w).alloc (Nat.le_refl _) _).trans (hb.mono (by simp)), by have := hb.size; simp at this; omega⟩

/-- A block of a number and four flags. -/
structure Blk5 (W : World) (B : Nat) (v : Int) (z s c o : Bool) : Prop where
  c0 : W.cell? ⟨B, 0, none⟩ = some (.int .u64 v)
  c1 : W.cell? ⟨B, 1, none⟩ = some (.bool z)
  c2 : W.cell? ⟨B, 2, none⟩ = some (.bool s)
  c3 : W.cell? ⟨B, 3, none⟩ = some (.bool c)
  c4 : W.cell? ⟨B, 4, none⟩ = some (.bool o)
  f0 : W.frozen? ⟨B, 0, none⟩ = false
  f1 : W.frozen? ⟨B, 1, none⟩ = false
  f2 : W.frozen? ⟨B, 2, none⟩ = false
  f3 : W.frozen? ⟨B, 3, none⟩ = false
  f4 : W.frozen? ⟨B, 4, none⟩ = false

theorem Blk5.new (w : World) (v : Int) (z s c o : Bool) (t : TypeId) : Blk5 (w.alloc (Obj.cells #[.int .u64 v, .bool z, .bool s, .bool c, .bool o] t)) w.heap.size v z s c o := by
  constructor <;> simp [go_sem]

theorem Blk5.below {w w' : World} {n B : Nat} {v : Int} {z s c o : Bool} (h : Blk5 w B v z s c o) (hb : Below n w w') (hn : B < n) : Blk5 w' B v z s c o :=
  ⟨(hb.cell (p := ⟨B, 0, none⟩) hn).trans h.c0, (hb.cell (p := ⟨B, 1, none⟩) hn).trans h.c1, (hb.cell (p := ⟨B, 2, none⟩) hn).trans h.c2, (hb.cell (p := ⟨B, 3, none⟩) hn).trans h.c3, (hb.cell (p := ⟨B, 4, none⟩) hn).trans h.c4,
   (hb.frozen (p := ⟨B, 0, none⟩) hn).trans h.f0, (hb.frozen (p := ⟨B, 1, none⟩) hn).trans h.f1, (hb.frozen (p := ⟨B, 2, none⟩) hn).trans h.f2, (hb.frozen (p := ⟨B, 3, none⟩) hn).trans h.f3, (hb.frozen (p := ⟨B, 4, none⟩) hn).trans h.f4⟩

theorem Blk5.put {w : World} {B : Nat} {v : Int} {z s c o : Bool} (h : Blk5 w B v z s c o) (v' : Int) (z' s' c' o' : Bool) :
    Blk5 (((((w.setCell ⟨B, 0, none⟩ (.int .u64 v')).setCell ⟨B, 1, none⟩ (.bool z')).setCell ⟨B, 2, none⟩ (.bool s')).setCell ⟨B, 3, none⟩ (.bool c')).setCell ⟨B, 4, none⟩ (.bool o')) B v' z' s' c' o' := by
  obtain ⟨h0, h1, h2, h3, h4, g0, g1, g2, g3, g4⟩ := h
  constructor <;> simp [go_sem, *]

theorem Blk5.far {w : World} {B C : Nat} {v : Int} {z s c o : Bool} (h : Blk5 w C v z s c o) (hn : B ≠ C) (v' : Int) (z' s' c' o' : Bool) :
    Blk5 (((((w.setCell ⟨B, 0, none⟩ (.int .u64 v')).setCell ⟨B, 1, none⟩ (.bool z')).setCell ⟨B, 2, none⟩ (.bool s')).setCell ⟨B, 3, none⟩ (.bool c')).setCell ⟨B, 4, none⟩ (.bool o')) C v z s c o := by
  obtain ⟨h0, h1, h2, h3, h4, g0, g1, g2, g3, g4⟩ := h
  constructor <;> simp [go_sem, *]

theorem Blk.far5 {w : World} {B C : Nat} {z s c o : Bool} (h : Blk w C z s c o) (hn : B ≠ C) (v' : Int) (z' s' c' o' : Bool) :
    Blk (((((w.setCell ⟨B, 0, none⟩ (.int .u64 v')).setCell ⟨B, 1, none⟩ (.bool z')).setCell ⟨B, 2, none⟩ (.bool s')).setCell ⟨B, 3, none⟩ (.bool c')).setCell ⟨B, 4, none⟩ (.bool o')) C z s c o := by
  obtain ⟨h0, h1, h2, h3, g0, g1, g2, g3⟩ := h
  constructor <;> simp [go_sem, *]

theorem Blk.three {w w1 : World} {a : Int} {z s c o : Bool} {t u : TypeId}
    (hb : Below (((w.alloc (Obj.cells #[.bool z, .bool s, .bool c, .bool o] t)).alloc (Obj.cells #[.int .u64 0, .bool false, .bool false, .bool false, .bool false] u)).alloc (Obj.cells #[.int .u64 a, .bool z, .bool s, .bool c, .bool o] u)).heap.size
      (((w.alloc (Obj.cells #[.bool z, .bool s, .bool c, .bool o] t)).alloc (Obj.cells #[.int .u64 0, .bool false, .bool false, .bool false, .bool false] u)).alloc (Obj.cells #[.int .u64 a, .bool z, .bool s, .bool c, .bool o] u)) w1) :
    Blk w1 w.heap.size z s c o ∧ Blk5 w1 (w.heap.size + 1) 0 false false false false ∧ Blk5 w1 (w.heap.size + 2) a z s c o ∧ Below w.heap.size w w1 ∧ w.heap.size + 2 < w1.heap.size := by
  have hs := hb.size
  simp at hs
  have k0 := (((Blk.new w z s c o t).below ((Below.refl (w.heap.size + 1) _).alloc (by simp) (Obj.cells #[.int .u64 0, .bool false, .bool false, .bool false, .bool false] u)) (by omega)).below ((Below.refl (w.heap.size + 1) _).alloc (by simp) (Obj.cells #[.int .u64 a, .bool z, .bool s, .bool c, .bool o] u)) (by omega)).below hb (by simp; omega)
  have k1 := ((Blk5.new (w.alloc (Obj.cells #[.bool z, .bool s, .bool c, .bool o] t)) 0 false false false false u).below (n := w.heap.size + 2) ((Below.refl (w.heap.size + 2) _).alloc (by simp) (Obj.cells #[.int .u64 a, .bool z, .bool s, .bool c, .bool o] u)) (by simp)).below hb (by simp)
  have k2 := (Blk5.new ((w.alloc (Obj.cells #[.bool z, .bool s, .bool c, .bool o] t)).alloc (Obj.cells #[.int .u64 0, .bool false, .bool false, .bool false, .bool false] u)) a z s c o u).below hb (by simp)
  simp at k1 k2
  exact ⟨k0, k1, k2, ((((Below.refl w.heap.size w).alloc (Nat.le_refl _) _).alloc (by simp) _).alloc (by simp; omega) _).trans (hb.mono (by simp; omega)), by omega⟩

theorem radd_add (a b v : Int) (c1 o1 : Bool) (w : World) (ha : Word a) (hb : Word b) (hv : Word v) (he : IntKind.u64.wrap (a + b) = v) (hC : decide (v < a) = c1) (hO : (bits .and .u64 (bits .xor .u64 a v) (bits .xor .u64 b v) / 9223372036854775808 == 1) = o1) :
    Calls Try.prog 30 #[.int .u64 a, .int .u64 b] w fun e w' => e = .returned (.agg #[.int .u64 v, .bool (v == 0), .bool (hiB v), .bool c1, .bool o1]) ∧ Below w.heap.size w w' := by
  have a0 := ha.low
  have a1 := ha.high
  have b0 := hb.low
  have b1 := hb.high
  have X := (word_and (word_xor ha hv) (word_xor hb hv))
  have x0 := X.low
  have x1 := X.high
  go_enter Try.func30, Try.ntmps30
  go_wp2_with fail
  clear he hC hO x0 x1 X
  refine (told_any v c1 o1 _ hv).mono ?_
  rintro e w1 ⟨rfl, hb1⟩
  obtain ⟨h0, h1, h2, h3, h4, g0, g1, g2, g3, g4⟩ := (Blk5.new w 0 false false false false 31).below hb1 (by simp)
  obtain ⟨hb2, hs⟩ := below_of_told (t := 0) hb1
  clear hb1
  go_wp2
  exact bodyPost_ret (v := .agg #[.int .u64 v, .bool (v == 0), .bool (hiB v), .bool c1, .bool o1]) (by simp [results, Try.results30, go_sem, h0, h1, h2, h3, h4]) rfl ⟨rfl, by go_grown⟩

theorem radd_sub (a b v : Int) (c1 o1 : Bool) (w : World) (ha : Word a) (hb : Word b) (hv : Word v) (he : IntKind.u64.wrap (a - b) = v) (hC : decide (a < b) = c1) (hO : (bits .and .u64 (bits .xor .u64 a b) (bits .xor .u64 a v) / 9223372036854775808 == 1) = o1) :
    Calls Try.prog 31 #[.int .u64 a, .int .u64 b] w fun e w' => e = .returned (.agg #[.int .u64 v, .bool (v == 0), .bool (hiB v), .bool c1, .bool o1]) ∧ Below w.heap.size w w' := by
  have a0 := ha.low
  have a1 := ha.high
  have b0 := hb.low
  have b1 := hb.high
  have X := (word_and (word_xor ha hb) (word_xor ha hv))
  have x0 := X.low
  have x1 := X.high
  go_enter Try.func31, Try.ntmps31
  go_wp2_with fail
  clear he hC hO x0 x1 X
  refine (told_any v c1 o1 _ hv).mono ?_
  rintro e w1 ⟨rfl, hb1⟩
  obtain ⟨h0, h1, h2, h3, h4, g0, g1, g2, g3, g4⟩ := (Blk5.new w 0 false false false false 31).below hb1 (by simp)
  obtain ⟨hb2, hs⟩ := below_of_told (t := 0) hb1
  clear hb1
  go_wp2
  exact bodyPost_ret (v := .agg #[.int .u64 v, .bool (v == 0), .bool (hiB v), .bool c1, .bool o1]) (by simp [results, Try.results31, go_sem, h0, h1, h2, h3, h4]) rfl ⟨rfl, by go_grown⟩

theorem ralu_add (a b v : Int) (z s c o z1 s1 c1 o1 : Bool) (w : World) (hb : Word b)
    (hc : Hid (∀ w, Calls Try.prog 30 #[.int .u64 a, .int .u64 b] w fun e w' => e = .returned (.agg #[.int .u64 v, .bool z1, .bool s1, .bool c1, .bool o1]) ∧ Below w.heap.size w w')) :
    Calls Try.prog 10 #[.int .i64 0, .int .u64 a, .int .u64 b, .agg #[.bool z, .bool s, .bool c, .bool o]] w fun e w' => e = .returned (.agg #[.int .u64 v, .bool z1, .bool s1, .bool c1, .bool o1]) ∧ Below w.heap.size w w' := by
  have H63 := and_63 b hb
  go_enter Try.func10, Try.ntmps10
  go_wp2_with fail
  refine (hc.out _).mono ?_
  rintro e w1 ⟨rfl, hb1⟩
  obtain ⟨_, ⟨h0, h1, h2, h3, h4, g0, g1, g2, g3, g4⟩, _, hb2, hs⟩ := Blk.three hb1
  clear hb1
  go_wp2
  exact bodyPost_ret (v := .agg #[.int .u64 v, .bool z1, .bool s1, .bool c1, .bool o1]) (by simp [results, Try.results10, go_sem, h0, h1, h2, h3, h4]) rfl ⟨rfl, by go_grown⟩

theorem ralu_sub (a b v : Int) (z s c o z1 s1 c1 o1 : Bool) (w : World) (hb : Word b)
    (hc : Hid (∀ w, Calls Try.prog 31 #[.int .u64 a, .int .u64 b] w fun e w' => e = .returned (.agg #[.int .u64 v, .bool z1, .bool s1, .bool c1, .bool o1]) ∧ Below w.heap.size w w')) :
    Calls Try.prog 10 #[.int .i64 1, .int .u64 a, .int .u64 b, .agg #[.bool z, .bool s, .bool c, .bool o]] w fun e w' => e = .returned (.agg #[.int .u64 v, .bool z1, .bool s1, .bool c1, .bool o1]) ∧ Below w.heap.size w w' := by
  have H63 := and_63 b hb
  go_enter Try.func10, Try.ntmps10
  go_wp2_with fail
  refine (hc.out _).mono ?_
  rintro e w1 ⟨rfl, hb1⟩
  obtain ⟨_, ⟨h0, h1, h2, h3, h4, g0, g1, g2, g3, g4⟩, _, hb2, hs⟩ := Blk.three hb1
  clear hb1
  go_wp2
  exact bodyPost_ret (v := .agg #[.int .u64 v, .bool z1, .bool s1, .bool c1, .bool o1]) (by simp [results, Try.results10, go_sem, h0, h1, h2, h3, h4]) rfl ⟨rfl, by go_grown⟩

theorem ralu_cmp (a b v : Int) (z s c o z1 s1 c1 o1 : Bool) (w : World) (hb : Word b)
    (hc : Hid (∀ w, Calls Try.prog 31 #[.int .u64 a, .int .u64 b] w fun e w' => e = .returned (.agg #[.int .u64 v, .bool z1, .bool s1, .bool c1, .bool o1]) ∧ Below w.heap.size w w')) :
    Calls Try.prog 10 #[.int .i64 7, .int .u64 a, .int .u64 b, .agg #[.bool z, .bool s, .bool c, .bool o]] w fun e w' => e = .returned (.agg #[.int .u64 a, .bool z1, .bool s1, .bool c1, .bool o1]) ∧ Below w.heap.size w w' := by
  have H63 := and_63 b hb
  have hfld : ∀ W, (Instr.field 31 (.agg #[.int .u64 v, .bool z1, .bool s1, .bool c1, .bool o1]) 1).run Try.prog W = .ok (.agg #[.bool z1, .bool s1, .bool c1, .bool o1]) W := fun _ => by kernel_rfl
  go_enter Try.func10, Try.ntmps10
  go_wp2_with fail
  refine (hc.out _).mono ?_
  rintro e w1 ⟨rfl, hb1⟩
  obtain ⟨_, ⟨h0, h1, h2, h3, h4, g0, g1, g2, g3, g4⟩, _, hb2, hs⟩ := Blk.three hb1
  clear hb1
  go_wp2
  exact bodyPost_ret (v := .agg #[.int .u64 a, .bool z1, .bool s1, .bool c1, .bool o1]) (by simp [results, Try.results10, go_sem, h0, h1, h2, h3, h4]) rfl ⟨rfl, by go_grown⟩

theorem ralu_and (a b v : Int) (z s c o z1 s1 c1 o1 : Bool) (w : World) (hb : Word b) (x : Int) (he : Hid (bits .and .u64 a b = x))
    (hc : Hid (∀ w, Calls Try.prog 32 #[.int .u64 x, .bool false, .bool false] w fun e w' => e = .returned (.agg #[.int .u64 v, .bool z1, .bool s1, .bool c1, .bool o1]) ∧ Below w.heap.size w w')) :
    Calls Try.prog 10 #[.int .i64 2, .int .u64 a, .int .u64 b, .agg #[.bool z, .bool s, .bool c, .bool o]] w fun e w' => e = .returned (.agg #[.int .u64 v, .bool z1, .bool s1, .bool c1, .bool o1]) ∧ Below w.heap.size w w' := by
  have H63 := and_63 b hb
  go_enter Try.func10, Try.ntmps10
  go_wp2_with fail
  rw [he.out]
  refine (hc.out _).mono ?_
  rintro e w1 ⟨rfl, hb1⟩
  obtain ⟨_, ⟨h0, h1, h2, h3, h4, g0, g1, g2, g3, g4⟩, _, hb2, hs⟩ := Blk.three hb1
  clear hb1
  go_wp2
  exact bodyPost_ret (v := .agg #[.int .u64 v, .bool z1, .bool s1, .bool c1, .bool o1]) (by simp [results, Try.results10, go_sem, h0, h1, h2, h3, h4]) rfl ⟨rfl, by go_grown⟩

theorem ralu_or (a b v : Int) (z s c o z1 s1 c1 o1 : Bool) (w : World) (hb : Word b) (x : Int) (he : Hid (bits .or .u64 a b = x))
    (hc : Hid (∀ w, Calls Try.prog 32 #[.int .u64 x, .bool false, .bool false] w fun e w' => e = .returned (.agg #[.int .u64 v, .bool z1, .bool s1, .bool c1, .bool o1]) ∧ Below w.heap.size w w')) :
    Calls Try.prog 10 #[.int .i64 3, .int .u64 a, .int .u64 b, .agg #[.bool z, .bool s, .bool c, .bool o]] w fun e w' => e = .returned (.agg #[.int .u64 v, .bool z1, .bool s1, .bool c1, .bool o1]) ∧ Below w.heap.size w w' := by
  have H63 := and_63 b hb
  go_enter Try.func10, Try.ntmps10
  go_wp2_with fail
  rw [he.out]
  refine (hc.out _).mono ?_
  rintro e w1 ⟨rfl, hb1⟩
  obtain ⟨_, ⟨h0, h1, h2, h3, h4, g0, g1, g2, g3, g4⟩, _, hb2, hs⟩ := Blk.three hb1
  clear hb1
  go_wp2
  exact bodyPost_ret (v := .agg #[.int .u64 v, .bool z1, .bool s1, .bool c1, .bool o1]) (by simp [results, Try.results10, go_sem, h0, h1, h2, h3, h4]) rfl ⟨rfl, by go_grown⟩

theorem ralu_xor (a b v : Int) (z s c o z1 s1 c1 o1 : Bool) (w : World) (hb : Word b) (x : Int) (he : Hid (bits .xor .u64 a b = x))
    (hc : Hid (∀ w, Calls Try.prog 32 #[.int .u64 x, .bool false, .bool false] w fun e w' => e = .returned (.agg #[.int .u64 v, .bool z1, .bool s1, .bool c1, .bool o1]) ∧ Below w.heap.size w w')) :
    Calls Try.prog 10 #[.int .i64 4, .int .u64 a, .int .u64 b, .agg #[.bool z, .bool s, .bool c, .bool o]] w fun e w' => e = .returned (.agg #[.int .u64 v, .bool z1, .bool s1, .bool c1, .bool o1]) ∧ Below w.heap.size w w' := by
  have H63 := and_63 b hb
  go_enter Try.func10, Try.ntmps10
  go_wp2_with fail
  rw [he.out]
  refine (hc.out _).mono ?_
  rintro e w1 ⟨rfl, hb1⟩
  obtain ⟨_, ⟨h0, h1, h2, h3, h4, g0, g1, g2, g3, g4⟩, _, hb2, hs⟩ := Blk.three hb1
  clear hb1
  go_wp2
  exact bodyPost_ret (v := .agg #[.int .u64 v, .bool z1, .bool s1, .bool c1, .bool o1]) (by simp [results, Try.results10, go_sem, h0, h1, h2, h3, h4]) rfl ⟨rfl, by go_grown⟩

theorem ralu_test (a b v : Int) (z s c o z1 s1 c1 o1 : Bool) (w : World) (hb : Word b) (x : Int) (he : Hid (bits .and .u64 a b = x))
    (hc : Hid (∀ w, Calls Try.prog 32 #[.int .u64 x, .bool false, .bool false] w fun e w' => e = .returned (.agg #[.int .u64 v, .bool z1, .bool s1, .bool c1, .bool o1]) ∧ Below w.heap.size w w')) :
    Calls Try.prog 10 #[.int .i64 8, .int .u64 a, .int .u64 b, .agg #[.bool z, .bool s, .bool c, .bool o]] w fun e w' => e = .returned (.agg #[.int .u64 a, .bool z1, .bool s1, .bool c1, .bool o1]) ∧ Below w.heap.size w w' := by
  have H63 := and_63 b hb
  have hfld : ∀ W, (Instr.field 31 (.agg #[.int .u64 v, .bool z1, .bool s1, .bool c1, .bool o1]) 1).run Try.prog W = .ok (.agg #[.bool z1, .bool s1, .bool c1, .bool o1]) W := fun _ => by kernel_rfl
  go_enter Try.func10, Try.ntmps10
  go_wp2_with fail
  rw [he.out]
  refine (hc.out _).mono ?_
  rintro e w1 ⟨rfl, hb1⟩
  obtain ⟨_, ⟨h0, h1, h2, h3, h4, g0, g1, g2, g3, g4⟩, _, hb2, hs⟩ := Blk.three hb1
  clear hb1
  go_wp2
  exact bodyPost_ret (v := .agg #[.int .u64 a, .bool z1, .bool s1, .bool c1, .bool o1]) (by simp [results, Try.results10, go_sem, h0, h1, h2, h3, h4]) rfl ⟨rfl, by go_grown⟩

end Go.Proofs.Ytmchgcfgfaekaaa
