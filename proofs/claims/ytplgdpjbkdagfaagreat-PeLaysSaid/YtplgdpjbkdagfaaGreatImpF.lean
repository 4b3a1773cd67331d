import Derived.Test.YtplgdpjbkdagfaaGreatZImpC
namespace Go.Proofs.YtplgdpjbkdagfaaGreat
set_option maxRecDepth 100000
open Go.ChangeShapes Go.WideShapes Go.ChangeAt Go.RowKit
set_option linter.unusedVariables false
set_option linter.unusedSimpArgs false
set_option maxHeartbeats 2000000 in
theorem imParse_any (A : Option Addr) (cap : Nat) (bs : List Nat) (rva : Nat) (sz : Int) (w : World) (hl : bs.length ≤ cap) (hc : cap ≤ 9223372036854775807) (hlen : bs.length ≤ 1000000) (hb : Lb bs) (hs : SlB w A bs.length (lF bs)) (hrva : rva ≤ 1000000) :
    Calls Tryz.prog 80 #[.slice A bs.length cap, .agg #[.int .i64 rva, .int .i64 sz]] w fun e w' => ImpQ w w' (parseI bs rva 20 importD) e ∧ Below w.heap.size w w' := by
  obtain ⟨w1, hw1⟩ : ∃ w1, w.alloc (.cells #[.int .i64 rva, .int .i64 sz] 37) = w1 := ⟨_, rfl⟩
  have HE1 := Lib.hid hw1
  have hb1 : Below w.heap.size w w1 := by rw [← hw1]; exact (Below.refl _ _).alloc (Nat.le_refl _) _
  have HB1 := Lib.hid hb1
  have HX1 := Lib.hid (show w1.heap[w.heap.size]? = some (.cells #[.int .i64 rva, .int .i64 sz] 37 (0, 0)) from by rw [← hw1]; exact heap_alloc_new w _)
  have HP := Lib.hid (parseIm_any A cap bs rva sz w1 hl hc hlen hb (SlB.below hs hb1) hrva)
  obtain ⟨R, hR⟩ : ∃ R, parseI bs rva 20 importD = R := ⟨_, rfl⟩
  rw [hR] at HP ⊢
  clear hw1 hb1 hs hb hR
  have q0 : w1.cell? ⟨w.heap.size, 0, none⟩ = some (.int .i64 rva) := by rw [cell_of_row _ _ _ _ _ _ HX1.out]; rfl
  have q1 : w1.cell? ⟨w.heap.size, 1, none⟩ = some (.int .i64 sz) := by rw [cell_of_row _ _ _ _ _ _ HX1.out]; rfl
  go_enter Tryz.func80, Tryz.ntmps80
  go_upto_region 1 with (fail)
  refine (congrArg _ HE1.out).mpr ?_
  go_wp2_with fail
  refine HP.out.mono ?_
  rintro e w2 ⟨hq, hw2⟩
  have HB2 := Lib.hid (HB1.out.trans (hw2.mono HB1.out.size))
  clear hw2 q0 q1
  rcases R with _ | vs
  · have hq' : e = .returned (.tuple #[.slice none 0 0, .int .i64 10]) := hq
    subst hq'
    clear hq
    go_wp2_with fail
    go_ret2
    exact ⟨rfl, HB2.out⟩
  · obtain ⟨A', c', l, rfl, ⟨ho, hsl⟩, hv⟩ := hq
    have HQ := Lib.hid (show ImpRows w2 w.heap.size A' c' l ∧ l.map (·.v) = vs from ⟨⟨Joins.ownsRow_le ho HB1.out.size, fun y hy => ⟨(hsl y hy).1, fun b hb => Nat.le_trans HB1.out.size ((hsl y hy).2 b hb)⟩⟩, hv⟩)
    clear ho hsl hv
    go_wp2_with fail
    go_ret2
    exact ⟨⟨A', c', l, rfl, HQ.out.1, HQ.out.2⟩, HB2.out⟩
set_option maxHeartbeats 2000000 in
theorem imDelays_any (A : Option Addr) (cap : Nat) (bs : List Nat) (rva : Nat) (sz : Int) (w : World) (hl : bs.length ≤ cap) (hc : cap ≤ 9223372036854775807) (hlen : bs.length ≤ 1000000) (hb : Lb bs) (hs : SlB w A bs.length (lF bs)) (hrva : rva ≤ 1000000) :
    Calls Tryz.prog 84 #[.slice A bs.length cap, .agg #[.int .i64 rva, .int .i64 sz]] w fun e w' => ImpQ w w' (parseI bs rva 32 delayD) e ∧ Below w.heap.size w w' := by
  obtain ⟨w1, hw1⟩ : ∃ w1, w.alloc (.cells #[.int .i64 rva, .int .i64 sz] 37) = w1 := ⟨_, rfl⟩
  have HE1 := Lib.hid hw1
  have hb1 : Below w.heap.size w w1 := by rw [← hw1]; exact (Below.refl _ _).alloc (Nat.le_refl _) _
  have HB1 := Lib.hid hb1
  have HX1 := Lib.hid (show w1.heap[w.heap.size]? = some (.cells #[.int .i64 rva, .int .i64 sz] 37 (0, 0)) from by rw [← hw1]; exact heap_alloc_new w _)
  have HP := Lib.hid (parseDe_any A cap bs rva sz w1 hl hc hlen hb (SlB.below hs hb1) hrva)
  obtain ⟨R, hR⟩ : ∃ R, parseI bs rva 32 delayD = R := ⟨_, rfl⟩
  rw [hR] at HP ⊢
  clear hw1 hb1 hs hb hR
  have q0 : w1.cell? ⟨w.heap.size, 0, none⟩ = some (.int .i64 rva) := by rw [cell_of_row _ _ _ _ _ _ HX1.out]; rfl
  have q1 : w1.cell? ⟨w.heap.size, 1, none⟩ = some (.int .i64 sz) := by rw [cell_of_row _ _ _ _ _ _ HX1.out]; rfl
  go_enter Tryz.func84, Tryz.ntmps84
  go_upto_region 1 with (fail)
  refine (congrArg _ HE1.out).mpr ?_
  go_wp2_with fail
  refine HP.out.mono ?_
  rintro e w2 ⟨hq, hw2⟩
  have HB2 := Lib.hid (HB1.out.trans (hw2.mono HB1.out.size))
  clear hw2 q0 q1
  rcases R with _ | vs
  · have hq' : e = .returned (.tuple #[.slice none 0 0, .int .i64 10]) := hq
    subst hq'
    clear hq
    go_wp2_with fail
    go_ret2
    exact ⟨rfl, HB2.out⟩
  · obtain ⟨A', c', l, rfl, ⟨ho, hsl⟩, hv⟩ := hq
    have HQ := Lib.hid (show ImpRows w2 w.heap.size A' c' l ∧ l.map (·.v) = vs from ⟨⟨Joins.ownsRow_le ho HB1.out.size, fun y hy => ⟨(hsl y hy).1, fun b hb => Nat.le_trans HB1.out.size ((hsl y hy).2 b hb)⟩⟩, hv⟩)
    clear ho hsl hv
    go_wp2_with fail
    go_ret2
    exact ⟨⟨A', c', l, rfl, HQ.out.1, HQ.out.2⟩, HB2.out⟩
end Go.Proofs.YtplgdpjbkdagfaaGreat
