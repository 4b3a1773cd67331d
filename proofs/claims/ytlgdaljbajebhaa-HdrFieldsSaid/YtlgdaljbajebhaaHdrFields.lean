/- HdrFields: the walk. -/
import Derived.Test.YtlgdaljbajebhaaFieldsM
import Derived.Test.YtlgdaljbajebhaaMask
namespace Go.Proofs.Ytlgdaljbajebhaa
open Go.ChangeShapes Go.WideShapes Go.ChangeAt Go.RowKit
set_option linter.unusedVariables false

theorem HeadR.cells {w : World} {N : Nat} {f : Nat → Int} {v : Value} (h : HeadR w N f v) : ∃ cs, v = .tuple #[.agg cs, .int .i64 (headE N f)] ∧ cs.size = 39 ∧ cs.all (·.oneCell') = true := by
  obtain ⟨cs, hv, ⟨_, h⟩ | ⟨_, g, h, _⟩⟩ := h
  · exact ⟨cs, hv, h.size, h.one rfl⟩
  · exact ⟨cs, hv, h.size, h.one rfl⟩

set_option maxRecDepth 100000 in
set_option maxHeartbeats 4000000 in
theorem fields_walk (which : Int) (w : World) :
    Calls Try.prog 6 #[.int .i64 which] w fun e w' => e = .returned (.bool true) ∧ Below w.heap.size w w' := by
  have m1 := and_ff which
  obtain ⟨K, hK⟩ : ∃ K : Nat, which % 256 % 26 = K := ⟨(which % 256 % 26).toNat, by omega⟩
  have hK26 : K < 26 := by omega
  obtain ⟨o, n, good, bad, e, hrow, c0, c1, c2, c3, c4⟩ := rows_at K hK26
  have HR := Lib.hid hrow
  have HH := Lib.hid (heap_alloc_new w (.cells rowCells 48))
  have HB0 := Lib.hid ((Below.refl w.heap.size w).alloc (Nat.le_refl _) (.cells rowCells 48))
  have d0 := (cell_of_row _ _ (K * 5) _ _ _ HH.out).trans c0
  have d1 := (cell_of_row _ _ (K * 5 + 1) _ _ _ HH.out).trans c1
  have d2 := (cell_of_row _ _ (K * 5 + 2) _ _ _ HH.out).trans c2
  have d3 := (cell_of_row _ _ (K * 5 + 3) _ _ _ HH.out).trans c3
  have d4 := (cell_of_row _ _ (K * 5 + 4) _ _ _ HH.out).trans c4
  clear c0 c1 c2 c3 c4 hrow
  have hK' : (K : Int) < 26 := by omega
  go_enter Try.func6, Try.ntmps6
  go_wp2_with (rw [rows_lit]; generalize w.alloc (.cells rowCells 48) = w0 at *)
  have hx1 := heap_alloc_new w0 (.cells #[.int .i64 o, .int .i64 n, .int .u64 good, .int .u64 bad, .int .i64 e] 48)
  have HB1 := Lib.hid (HB0.out.alloc HB0.out.size (.cells #[.int .i64 o, .int .i64 n, .int .u64 good, .int .u64 bad, .int .i64 e] 48))
  clear d0 d1 d2 d3 d4 HH HB0
  generalize w0.alloc (.cells #[.int .i64 o, .int .i64 n, .int .u64 good, .int .u64 bad, .int .i64 e] 48) = w1 at *
  generalize w0.heap.size = gx at *
  have hgx1 : gx < w1.heap.size := (Array.getElem?_eq_some_iff.1 hx1).1
  refine (made_none none 0 L0 (fun _ => rfl) w1).mono ?_
  rintro e2 w2 ⟨g, c, F, rfl, ho, hm, hb⟩
  rw [at0] at ho ⊢
  have HO2 := Lib.hid ho
  have HM := Lib.hid hm
  have HB2 := Lib.hid (HB1.out.trans (hb.mono HB1.out.size))
  have hx2 := (hb.block gx hgx1).trans hx1
  have hgx2 : gx < w2.heap.size := (Array.getElem?_eq_some_iff.1 hx2).1
  clear ho hm hb hx1 hgx1 HB1
  have x0 := cell_of_row _ _ 0 _ _ _ hx2
  have x1 := cell_of_row _ _ 1 _ _ _ hx2
  have x2 := cell_of_row _ _ 2 _ _ _ hx2
  have x3 := cell_of_row _ _ 3 _ _ _ hx2
  have x4 := cell_of_row _ _ 4 _ _ _ hx2
  simp only [List.getElem?_toArray, List.getElem?_cons_zero, List.getElem?_cons_succ] at x0 x1 x2 x3 x4
  go_wp2_with fail
  have hn1 := HR.out.n1
  have hn8 := HR.out.n8
  have hle := HR.out.le
  have hg0 := HR.out.g0
  have hg1 := HR.out.g1
  have hb0 := HR.out.b0
  have hb1 := HR.out.b1
  refine (put_at w1.heap.size _ _ _ _ _ _ o n good _ HO2.out (by have := HO2.out.le; have := HO2.out.lt; omega) rfl rfl (by omega) (by omega) (by omega) (by omega) (by omega) (by omega)).mono ?_
  rintro e2 w3 ⟨g3, c3, rfl, ho, hb⟩
  have HO3 := Lib.hid ho
  have HB3 := Lib.hid (HB2.out.trans (hb.mono HB2.out.size))
  have hx3 := (hb.block gx hgx2).trans hx2
  have HO2' := Lib.hid (HO2.out.below hb)
  have hgx3 : gx < w3.heap.size := (Array.getElem?_eq_some_iff.1 hx3).1
  clear ho hb hx2 hgx2 HB2 HO2 x0 x1 x2 x3 x4
  go_wp2_with fail
  refine (hparse_any g3 0 _ c3 _ w3 HO3.out.rowB).mono ?_
  rintro e2 w4 ⟨⟨v, rfl, hr⟩, hb⟩
  obtain ⟨cs3, rfl, hcz3, hone3⟩ := HeadR.cells hr
  rw [HR.out.ok F HM.out]
  have HB4 := Lib.hid (HB3.out.trans (hb.mono HB3.out.size))
  have hx4 := (hb.block gx hgx3).trans hx3
  have HO4 := Lib.hid (HO2'.out.below hb)
  have hgx4 : gx < w4.heap.size := (Array.getElem?_eq_some_iff.1 hx4).1
  clear hr hb hx3 hgx3 HB3 HO2' HO3
  go_wp2_with (refine wpList_store_row rfl 32 _ _ rfl w4.heap.size cs3 rfl rfl 32 _ (heap_alloc_new _ _) (by rw [hcz3]; rfl) (by rw [hcz3]; rfl) hone3 ?_
               rw [zero_head]
               have hb : Below w4.heap.size w4 ((w4.alloc (.cells (headC 0 0 0 0 0 0) 32)).setRow w4.heap.size cs3) := below_setRow ((Below.refl _ w4).alloc (Nat.le_refl _) _) (Nat.le_refl _) _
               have HB5 := Lib.hid (HB4.out.trans (hb.mono HB4.out.size))
               have hx5 := (hb.block gx hgx4).trans hx4
               have HO5 := Lib.hid (HO4.out.below hb)
               clear hb hx4 hgx4 HB4 HO4
               generalize (w4.alloc (.cells (headC 0 0 0 0 0 0) 32)).setRow w4.heap.size cs3 = w5 at *
               have hgx5 : gx < w5.heap.size := (Array.getElem?_eq_some_iff.1 hx5).1
               have x0 := cell_of_row _ _ 0 _ _ _ hx5
               have x1 := cell_of_row _ _ 1 _ _ _ hx5
               have x3 := cell_of_row _ _ 3 _ _ _ hx5
               simp only [List.getElem?_toArray, List.getElem?_cons_zero, List.getElem?_cons_succ] at x0 x1 x3)
  refine (put_at w1.heap.size _ _ _ _ _ _ o n bad _ HO5.out (by have := HO5.out.le; have := HO5.out.lt; omega) rfl rfl (by omega) (by omega) (by omega) (by omega) (by omega) (by omega)).mono ?_
  rintro e2 w6 ⟨g6, c6, rfl, ho, hb⟩
  have HO6 := Lib.hid ho
  have HB6 := Lib.hid (HB5.out.trans (hb.mono HB5.out.size))
  have hx6 := (hb.block gx hgx5).trans hx5
  have hgx6 : gx < w6.heap.size := (Array.getElem?_eq_some_iff.1 hx6).1
  clear ho hb hx5 hgx5 HB5 HO5 x0 x1 x3
  go_wp2_with fail
  refine (hparse_any g6 0 _ c6 _ w6 HO6.out.rowB).mono ?_
  rintro e2 w7 ⟨⟨v, rfl, hr⟩, hb⟩
  obtain ⟨cs4, hv4, hdis⟩ := hr
  have hE := HR.out.no F HM.out
  have hne := HR.out.ne
  rw [hE] at hv4 hdis
  have hv : HeadV cs4 noHead (.slice none 0 0) := by
    rcases hdis with h | h
    · exact h.2
    · exact (hne h.1).elim
  subst hv4
  have hcz4 := hv.size
  have hone4 := hv.one rfl
  have q4 := hv.c4
  have q38 := hv.c38
  simp only [noHead] at q4
  have HB7 := Lib.hid (HB6.out.trans (hb.mono HB6.out.size))
  have hx7 := (hb.block gx hgx6).trans hx6
  have hgx7 : gx < w7.heap.size := (Array.getElem?_eq_some_iff.1 hx7).1
  have HA := Lib.hid awake5_any
  clear hb hx6 hgx6 HB6 HO6 hdis hE hv
  go_wp2_with (first
    | (refine wpList_store_row rfl 32 _ _ rfl w7.heap.size cs4 rfl rfl 32 _ (heap_alloc_new _ _) (by rw [hcz4]; rfl) (by rw [hcz4]; rfl) hone4 ?_
       rw [zero_head]
       have hg := setRow_heap (w7.alloc (.cells (headC 0 0 0 0 0 0) 32)) w7.heap.size _ cs4 _ _ (heap_alloc_new _ _)
       have hb : Below w7.heap.size w7 ((w7.alloc (.cells (headC 0 0 0 0 0 0) 32)).setRow w7.heap.size cs4) := below_setRow ((Below.refl _ w7).alloc (Nat.le_refl _) _) (Nat.le_refl _) _
       have HB8 := Lib.hid (HB7.out.trans (hb.mono HB7.out.size))
       have hx8 := (hb.block gx hgx7).trans hx7
       clear hb hx7 hgx7 HB7
       generalize (w7.alloc (.cells (headC 0 0 0 0 0 0) 32)).setRow w7.heap.size cs4 = w8 at *
       have x4 := cell_of_row _ _ 4 _ _ _ hx8
       simp only [List.getElem?_toArray, List.getElem?_cons_zero, List.getElem?_cons_succ] at x4
       have k4 := (cell_of_row _ _ 4 _ _ _ hg).trans q4
       have k38 := (cell_of_row _ _ 38 _ _ _ hg).trans q38
       clear hg q4 q38 hx8)
    | (go_fit (HA.out _); rintro e2 w' ⟨rfl, hb⟩))
  go_ret
  exact ⟨rfl, HB8.out.trans (hb.mono HB8.out.size)⟩
end Go.Proofs.Ytlgdaljbajebhaa
