/- law 5: awake. -/
import Derived.Test.YtlgdaljbajebhaaMade0
import Derived.Test.YtlgdaljbajebhaaMadeH
import Derived.Test.YtlgdaljbajebhaaHdrN
namespace Go.Proofs.Ytlgdaljbajebhaa
open Go.ChangeShapes Go.WideShapes Go.ChangeAt Go.RowKit
set_option linter.unusedVariables false

theorem HeadR.ok {w : World} {N : Nat} {f : Nat → Int} {v : Value} (h : HeadR w N f v) {L : Nat → Trip} {n : Nat} (x : MadeP L n f) (hN : atS L n ≤ N) (h1 : 1 ≤ n) (h6 : n ≤ 6) :
    ∃ cs g, v = .tuple #[.agg cs, .int .i64 0] ∧ HeadV cs (readS f 64) (.slice (some ⟨g, 0, none⟩) n n) ∧ SlT SectN.cells 6 w (some ⟨g, 0, none⟩) (sectsS f 328 n) ∧ g < w.heap.size := by
  have ha := atS_bd L n
  have h0 := x.ok N hN h1 h6
  obtain ⟨cs, hv, h | ⟨_, g, h2, h3, h4⟩⟩ := h
  · exact (h.1 h0).elim
  · rw [h0] at hv
    rw [x.headP N (by omega), x.headK N (by omega)] at h2 h3
    exact ⟨cs, g, hv, h2, h3, h4⟩

set_option maxRecDepth 100000 in
theorem awake5_any (w : World) : Calls Try.prog 11 #[] w fun e w' => e = .returned (.bool true) ∧ Below w.heap.size w w' := by
  have HR1 := Lib.hid (fun W => round_any 1 4096 W (by omega) (by omega) (by omega) (by omega))
  have HR0 := Lib.hid (fun W => round_any 0 4096 W (by omega) (by omega) (by omega) (by omega))
  rw [show roundS 1 4096 = 4096 by rfl] at HR1
  rw [show roundS 0 4096 = 0 by rfl] at HR0
  go_enter Try.func11, Try.ntmps11
  go_wp2_with fail
  refine (hparse_nil w).mono ?_
  rintro e w1 ⟨⟨cs, rfl, hv⟩, hb1⟩
  have HB1 := Lib.hid hb1
  have hone := hv.one rfl
  have hcz := hv.size
  clear hb1 hv
  go_wp2_with (refine wpList_store_row rfl 32 _ _ rfl w1.heap.size cs rfl rfl 32 _ (heap_alloc_new _ _) (by rw [hcz]; rfl) (by rw [hcz]; rfl) hone ?_)
  rw [zero_head]
  have HB2 := Lib.hid (below_setRow (HB1.out.alloc HB1.out.size (.cells (headC 0 0 0 0 0 0) 32)) HB1.out.size cs)
  generalize (w1.alloc (.cells (headC 0 0 0 0 0 0) 32)).setRow w1.heap.size cs = w2 at *
  clear hone hcz HB1
  refine (made_none none 0 (fun _ => (16, 512, 3)) (fun _ => rfl) w2).mono ?_
  rintro e w3 ⟨g, c, F, rfl, ho, hm, hb⟩
  have HB3 := Lib.hid (HB2.out.trans (hb.mono HB2.out.size))
  have HO := Lib.hid ho
  clear hb ho HB2
  go_wp2_with fail
  refine (hparse_any g 0 _ c F w3 HO.out.rowB).mono ?_
  rintro e w4 ⟨⟨v, rfl, hr⟩, hb⟩
  obtain ⟨cs2, g2, rfl, hv, _, _⟩ := hr.ok hm (Nat.le_refl _) (by omega) (by omega)
  have HB4 := Lib.hid (HB3.out.trans (hb.mono HB3.out.size))
  have hone := hv.one rfl
  have hcz := hv.size
  have q0 := hv.c0
  have q4 := hv.c4
  have q38 := hv.c38
  simp only [readS] at q0 q4
  rw [hm.all.hd.base] at q0
  rw [hm.size, show rvaS (fun _ => (16, 512, 3)) 1 = 8192 by rfl] at q4
  clear hb hr HB3 HO
  go_wp2_with (first
    | (refine wpList_store_row rfl 32 _ _ rfl w4.heap.size cs2 rfl rfl 32 _ (heap_alloc_new _ _) (by rw [hcz]; rfl) (by rw [hcz]; rfl) hone ?_
       rw [zero_head]
       have hg := setRow_heap (w4.alloc (.cells (headC 0 0 0 0 0 0) 32)) w4.heap.size _ cs2 _ _ (heap_alloc_new _ _)
       have HB5 := Lib.hid (below_setRow (HB4.out.alloc HB4.out.size (.cells (headC 0 0 0 0 0 0) 32)) HB4.out.size cs2)
       generalize (w4.alloc (.cells (headC 0 0 0 0 0 0) 32)).setRow w4.heap.size cs2 = w5 at *
       have k0 := (cell_of_row _ _ 0 _ _ _ hg).trans q0
       have k4 := (cell_of_row _ _ 4 _ _ _ hg).trans q4
       have k38 := (cell_of_row _ _ 38 _ _ _ hg).trans q38
       clear hg q0 q4 q38)
    | (go_fit (HR1.out _); rintro e w' ⟨rfl, rfl⟩)
    | (go_fit (HR0.out _); rintro e w' ⟨rfl, rfl⟩))
  go_ret
  exact ⟨rfl, HB5.out⟩
end Go.Proofs.Ytlgdaljbajebhaa
