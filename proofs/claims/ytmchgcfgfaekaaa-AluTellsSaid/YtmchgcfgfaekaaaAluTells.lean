/- AluTells. -/
import Derived.Test.YtmchgcfgfaekaaaAluSame
namespace Go.Proofs.Ytmchgcfgfaekaaa
open Go.ChangeShapes Go.WideShapes Go.ChangeAt Go.RowKit
set_option linter.unusedVariables false

/-- What the region of a round reads. -/
def TellS (w : World) (B G D : Nat) (v : Int) (z s c o z1 s1 c1 o1 : Bool) (W : World) : Prop :=
  W.cell? ⟨B, 0, none⟩ = some (.bool z) ∧ W.cell? ⟨B, 1, none⟩ = some (.bool s) ∧ W.cell? ⟨B, 2, none⟩ = some (.bool c) ∧ W.cell? ⟨B, 3, none⟩ = some (.bool o) ∧
  W.cell? ⟨G, 0, none⟩ = some (.bool z1) ∧ W.cell? ⟨G, 1, none⟩ = some (.bool s1) ∧ W.cell? ⟨G, 2, none⟩ = some (.bool c1) ∧ W.cell? ⟨G, 3, none⟩ = some (.bool o1) ∧
  W.cell? ⟨D, 0, none⟩ = some (.int .u64 v) ∧ W.cell? ⟨D, 1, none⟩ = some (.bool z1) ∧ W.cell? ⟨D, 2, none⟩ = some (.bool s1) ∧ W.cell? ⟨D, 3, none⟩ = some (.bool c1) ∧ W.cell? ⟨D, 4, none⟩ = some (.bool o1) ∧
  Fits w B z s c o W ∧ G < W.heap.size ∧ D < W.heap.size

theorem TellS.below {w : World} {B G D : Nat} {v : Int} {z s c o z1 s1 c1 o1 : Bool} {W W' : World} (h : TellS w B G D v z s c o z1 s1 c1 o1 W) (hb : Below W.heap.size W W') : TellS w B G D v z s c o z1 s1 c1 o1 W' := by
  obtain ⟨h0, h1, h2, h3, h4, h5, h6, h7, h8, h9, h10, h11, h12, hF, hG, hD⟩ := h
  have k := fun (B o : Nat) (h : B < W.heap.size) => hb.cell (p := ⟨B, o, none⟩) h
  have hs := hb.size
  exact ⟨(k B 0 hF.lt).trans h0, (k B 1 hF.lt).trans h1, (k B 2 hF.lt).trans h2, (k B 3 hF.lt).trans h3, (k G 0 hG).trans h4, (k G 1 hG).trans h5, (k G 2 hG).trans h6, (k G 3 hG).trans h7,
    (k D 0 hD).trans h8, (k D 1 hD).trans h9, (k D 2 hD).trans h10, (k D 3 hD).trans h11, (k D 4 hD).trans h12, hF.below hb, by omega, by omega⟩
theorem TellS.drew {w : World} {B G D : Nat} {v : Int} {z s c o z1 s1 c1 o1 : Bool} {W : World} (h : TellS w B G D v z s c o z1 s1 c1 o1 W) : TellS w B G D v z s c o z1 s1 c1 o1 W.drew := h.below ((Below.refl _ _).drew)

set_option maxRecDepth 100000 in
set_option maxHeartbeats 4000000 in
theorem tells_law (op cc a b : Int) (z s c o : Bool) (w : World) (ha : Word a) (hb : Word b) :
    Calls Try.prog 4 #[.int .i64 op, .int .i64 cc, .int .u64 a, .int .u64 b, .agg #[.bool z, .bool s, .bool c, .bool o]] w fun e w' => e = .returned (.bool true) ∧ Below w.heap.size w w' := by
  go_enter Try.func4, Try.ntmps4
  go_wp2_with fail
  have F := Lib.hid (Fits.new (w := w) (w1 := w) (z := z) (s := s) (c := c) (o := o) (t := 24) (Below.refl _ _))
  generalize w.alloc (Obj.cells #[.bool z, .bool s, .bool c, .bool o] 24) = W at *
  go_loopw [0, 1, 11] (fun p q i wr => ∃ (op cc : Int) (j : Nat), j ≤ 2 ∧ p = .int .i64 op ∧ q = .int .i64 cc ∧ i = .int .i64 j ∧ Fits w w.heap.size z s c o wr) (fun _ _ i _ => 2 - (intOf i).toNat)
  case atStart => exact ⟨op, cc, 0, by omega, rfl, rfl, rfl, F.out⟩
  case round =>
    clear F W
    obtain ⟨op, cc, j, hj, rfl, rfl, rfl, hF⟩ := hrel
    have F := Lib.hid hF
    by_cases hlt : j < 2
    · obtain ⟨v, z1, s1, c1, o1, E1, E2⟩ := alu_same op a b z s c o ha hb
      obtain ⟨r, C1, C2⟩ := cond_same cc z s c o
      have H1 := Lib.hid E1
      have H2 := Lib.hid E2
      have K1 := Lib.hid C1
      have K2 := Lib.hid C2
      clear E1 E2 C1 C2
      obtain ⟨f0, f1, f2, f3, _, _, _, _⟩ := hF.blk
      clear hF
      go_wp2_with fail
      refine (H1.out _).mono ?_
      rintro e w1 ⟨rfl, hb1⟩
      have F1 := Lib.hid (F.out.below hb1)
      clear f0 f1 f2 f3 hb1 H1 F
      have f0 := fun X => (F1.out.ahead (X := X)).blk.c0
      have f1 := fun X => (F1.out.ahead (X := X)).blk.c1
      have f2 := fun X => (F1.out.ahead (X := X)).blk.c2
      have f3 := fun X => (F1.out.ahead (X := X)).blk.c3
      go_wp2_with fail
      have G := Lib.hid (Fits.new (w := w) (w1 := w1) (z := z1) (s := s1) (c := c1) (o := o1) (t := 24) F1.out.bel)
      refine (H2.out _).mono ?_
      rintro e w2 ⟨rfl, hb2⟩
      have F2 := Lib.hid (F1.out.ahead.below hb2)
      have G2 := Lib.hid (G.out.below hb2)
      clear f0 f1 f2 f3 hb2 H2 F1 G
      go_wp2_with fail
      have D := Blk5.new w2 v z1 s1 c1 o1 31
      have T : TellS w w.heap.size w1.heap.size w2.heap.size v z s c o z1 s1 c1 o1 (w2.alloc (Obj.cells #[.int .u64 v, .bool z1, .bool s1, .bool c1, .bool o1] 31)) := by
        have A := (F2.out.ahead (X := Obj.cells #[.int .u64 v, .bool z1, .bool s1, .bool c1, .bool o1] 31))
        have G := (G2.out.ahead (X := Obj.cells #[.int .u64 v, .bool z1, .bool s1, .bool c1, .bool o1] 31))
        exact ⟨A.blk.c0, A.blk.c1, A.blk.c2, A.blk.c3, G.blk.c0, G.blk.c1, G.blk.c2, G.blk.c3, D.c0, D.c1, D.c2, D.c3, D.c4, A, G.lt, by simp⟩
      clear F2 G2 D
      generalize w1.heap.size = B1 at *
      generalize w2.heap.size = B2 at *
      generalize w2.alloc (Obj.cells #[.int .u64 v, .bool z1, .bool s1, .bool c1, .bool o1] 31) = V at *
      have H := Lib.hid T
      obtain ⟨h0, h1, h2, h3, h4, h5, h6, h7, h8, h9, h10, h11, h12, hF, hG, hD⟩ := T
      go_region_held3 (fun W => W.cell? ⟨w.heap.size, 0, none⟩ = some (.bool z) ∧ W.cell? ⟨w.heap.size, 1, none⟩ = some (.bool s) ∧ W.cell? ⟨w.heap.size, 2, none⟩ = some (.bool c) ∧ W.cell? ⟨w.heap.size, 3, none⟩ = some (.bool o) ∧
          W.cell? ⟨B1, 0, none⟩ = some (.bool z1) ∧ W.cell? ⟨B1, 1, none⟩ = some (.bool s1) ∧ W.cell? ⟨B1, 2, none⟩ = some (.bool c1) ∧ W.cell? ⟨B1, 3, none⟩ = some (.bool o1) ∧
          W.cell? ⟨B2, 0, none⟩ = some (.int .u64 v) ∧ W.cell? ⟨B2, 1, none⟩ = some (.bool z1) ∧ W.cell? ⟨B2, 2, none⟩ = some (.bool s1) ∧ W.cell? ⟨B2, 3, none⟩ = some (.bool c1) ∧ W.cell? ⟨B2, 4, none⟩ = some (.bool o1) ∧
          Fits w w.heap.size z s c o W ∧ B1 < W.heap.size ∧ B2 < W.heap.size)
        (first | exact H.out | exact TellS.drew (by assumption) | exact TellS.below (by assumption) (by assumption))
        (first | (go_at_call 11; refine (K1.out _).mono ?_; rintro e w3 ⟨rfl, hb3⟩) | (go_at_call 12; refine (K2.out _).mono ?_; rintro e w4 ⟨rfl, hb4⟩))
      rename_i hT
      have T4 : TellS w w.heap.size B1 B2 v z s c o z1 s1 c1 o1 w4 := hT
      obtain ⟨_, _, _, _, _, _, _, _, _, _, _, _, _, hF4, _, _⟩ := T4
      have F4 := Lib.hid hF4
      clear hF hF4 h0 h1 h2 h3 h4 h5 h6 h7 h8 h9 h10 h11 h12 H hT K1 K2
      go_wp2_with fail
      exact ⟨⟨_, _, j + 1, by omega, rfl, rfl, by go_num, F4.out⟩, by simp [intOf]; omega⟩
    · obtain rfl : j = 2 := by omega
      clear hlt hj F
      go_wp2_with fail
      refine (awake_any _).mono ?_
      rintro e v ⟨rfl, hb⟩
      have hb9 := (hF.below hb).bel
      clear hF hb
      go_wp2
      go_ret
      exact ⟨rfl, by go_grown⟩
end Go.Proofs.Ytmchgcfgfaekaaa
