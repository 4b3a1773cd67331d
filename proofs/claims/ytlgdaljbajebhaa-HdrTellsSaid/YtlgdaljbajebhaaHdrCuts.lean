/- HdrCuts. -/
import Derived.Test.YtlgdaljbajebhaaTrips
import Derived.Test.YtlgdaljbajebhaaMadeC
import Derived.Test.YtlgdaljbajebhaaMask
import Derived.Deep.RegionHeld3
namespace Go.Proofs.Ytlgdaljbajebhaa
open Go.ChangeShapes Go.WideShapes Go.ChangeAt Go.RowKit
set_option linter.unusedVariables false

/-- Behind a head that was stored into a cell of its own: what lies there. -/
theorem headCell {w4 : World} {cs2 : Array Value} {h : HeadN} {sv : Value} (hv : HeadV cs2 h sv) :
    ((w4.alloc (.cells (headC 0 0 0 0 0 0) 32)).setRow w4.heap.size cs2).heap[w4.heap.size]? = some (.cells cs2 32 (0, 0)) ∧
    Below w4.heap.size w4 ((w4.alloc (.cells (headC 0 0 0 0 0 0) 32)).setRow w4.heap.size cs2) :=
  ⟨setRow_heap _ _ _ _ _ _ (heap_alloc_new _ _), below_setRow ((Below.refl _ w4).alloc (Nat.le_refl _) _) (Nat.le_refl _) _⟩

theorem OwnC.empty (w : World) : OwnC (w.alloc (.cells #[] 5)) w.heap.size w.heap.size 0 0 (fun _ => 0) :=
  ⟨Nat.le_refl _, by simp, fun i hi => by omega, fun _ => by omega, Nat.le_refl _, by omega, fun j hj => by omega⟩

theorem RowB.take {w : World} {b off n cap k : Nat} {f : Nat → Int} (h : RowB w b off n cap f) (hk : k ≤ n) : RowB w b off k cap f := ⟨fun i hi => h.row i (by omega), h.by255, h.lt, Nat.le_trans hk h.len, h.most⟩

theorem HeadR.any {w : World} {N : Nat} {f : Nat → Int} {v : Value} (h : HeadR w N f v) : ∃ cs, v = .tuple #[.agg cs, .int .i64 (headE N f)] ∧ cs.size = 39 ∧ cs.all (·.oneCell') = true := by
  obtain ⟨cs, hv, ⟨_, h⟩ | ⟨_, g, h, _⟩⟩ := h
  · exact ⟨cs, hv, h.size, h.one rfl⟩
  · exact ⟨cs, hv, h.size, h.one rfl⟩

set_option maxRecDepth 100000 in
set_option maxHeartbeats 4000000 in
theorem cuts_walk (AS : Option Addr) (l : List Trip) (cs : Nat) (cut : Int) (AM : Option Addr) (m mc : Nat) (M : Nat → Int) (w : World) (hS : SlT tripC 3 w AS l) (hM : SlB w AM m M) (hM255 : Bytes255 M) (hmc : m ≤ mc) :
    Calls Try.prog 3 #[.slice AS l.length cs, .int .i64 cut, .slice AM m mc] w fun e w' => e = .returned (.bool true) ∧ Below w.heap.size w w' := by
  by_cases hm300 : 300 < m
  · have h3 : (300 : Int) < m := by omega
    have HA := Lib.hid (awake5_any w)
    go_enter Try.func3, Try.ntmps3
    go_wp2_with (go_fit HA.out; rintro e w' ⟨rfl, hb⟩)
    go_ret
    exact ⟨rfl, hb⟩
  have h3 : decide (300 < (m : Int)) = false := decide_eq_false (by omega)
  have hm301 : m ≤ 300 := by omega
  clear hm300
  go_enter Try.func3, Try.ntmps3
  go_wp2_with fail
  refine (made_ex AS l cs w hS).mono ?_
  rintro e w3 ⟨L, n, g, c, F, hn1, hn6, rfl, ho, hm, hb⟩
  have HB3 := Lib.hid hb
  have HO := Lib.hid ho
  have HMP := Lib.hid hm
  have HMM := Lib.hid (hM.below hb)
  clear hb ho hS hm hM
  go_wp2_with fail
  refine (hparse_any g 0 _ c F w3 HO.out.rowB).mono ?_
  rintro e w4 ⟨⟨v, rfl, hr⟩, hb⟩
  obtain ⟨cs2, g2, rfl, hv, hsl, hg2⟩ := hr.ok HMP.out (Nat.le_refl _) (by omega) (by omega)
  have HB4 := Lib.hid (HB3.out.trans (hb.mono HB3.out.size))
  have HO4 := Lib.hid (HO.out.below hb)
  have HMM4 := Lib.hid (HMM.out.below hb)
  have hone := hv.one rfl
  have hcz := hv.size
  have q5 := hv.c5
  have q4 := hv.c4
  have q38 := hv.c38
  simp only [readS] at q5 q4
  rw [HMP.out.all.hd.hdrs] at q5
  rw [HMP.out.size] at q4
  have HSL := Lib.hid hsl
  have hat := atS_bd L n
  clear hb hr HB3 HO HMM hsl
  go_wp2_with (first
    | (refine wpList_store_row rfl 32 _ _ rfl w4.heap.size cs2 rfl rfl 32 _ (heap_alloc_new _ _) (by rw [hcz]; rfl) (by rw [hcz]; rfl) hone ?_
       rw [zero_head]
       have hg := (headCell (w4 := w4) hv).1
       have hb45 := (headCell (w4 := w4) hv).2
       have HB5 := Lib.hid (HB4.out.trans (hb45.mono HB4.out.size))
       have HSL5 := Lib.hid (HSL.out.below hb45)
       have HO5 := Lib.hid (HO4.out.below hb45)
       have HMM5 := Lib.hid (HMM4.out.below hb45)
       have hg25 := Nat.lt_of_lt_of_le hg2 hb45.size
       clear hb45
       generalize (w4.alloc (.cells (headC 0 0 0 0 0 0) 32)).setRow w4.heap.size cs2 = w5 at *
       generalize w4.heap.size = gh at *
       have HG5 := Lib.hid hg
       clear hg)
    | (at_builtin; refine wpList_appC rfl _ _ rfl (OwnC.empty w5) (.inr ⟨g, 0, rfl, Nat.lt_of_lt_of_le HO5.out.lt (by simp), (HO5.out.below ((Below.refl _ w5).alloc (Nat.le_refl _) _)).row⟩) HO5.out.by255 (by omega) (by simp) rfl rfl ?_
       intro gx cx w6 ho hb
       rw [Nat.zero_add, catF_zero] at ho
       have hb56 : Below w5.heap.size w5 w6 := ((Below.refl _ w5).alloc (Nat.le_refl _) _).trans hb
       have HX6 := Lib.hid ho
       have HMM6 := Lib.hid (HMM5.out.below hb56)
       have HB56 := Lib.hid hb56
       clear ho hb hb56 HMM5)
    | (at_builtin; refine wpList_appC rfl _ _ rfl HX6.out HMM6.out hM255 (by omega) HB56.out.size rfl rfl ?_
       intro gy cy w7 ho hb
       have HX7 := Lib.hid ho
       have HB57 := Lib.hid (HB56.out.trans hb)
       clear ho hb HX6 HB56 HMM6))
  have hg7 := (HB57.out.block gh (by have := (Array.getElem?_eq_some_iff.1 HG5.out).1; exact this)).trans HG5.out
  have HO7 := Lib.hid (HO5.out.below HB57.out)
  have HSL7 := Lib.hid (HSL5.out.below HB57.out)
  have HB7 := Lib.hid (HB5.out.trans (HB57.out.mono HB5.out.size))
  have hgl7 : gh < w7.heap.size := (Array.getElem?_eq_some_iff.1 hg7).1
  clear HB57 HO5 HSL5 HG5 HB5 hg25 HB4 HO4 HMM4 HSL
  refine (hparse_any gy 0 _ cy _ w7 HX7.out.rowB).mono ?_
  rintro e w8 ⟨⟨v, rfl, hr⟩, hb⟩
  obtain ⟨cs3, g3, rfl, hv3, _, _⟩ := hr.ok (HMP.out.cat M hn6) (Nat.le_add_right _ _) (by omega) (by omega)
  have hg8 := (hb.block gh hgl7).trans hg7
  have HO8 := Lib.hid (HO7.out.below hb)
  have HSL8 := Lib.hid (HSL7.out.below hb)
  have HB8 := Lib.hid (HB7.out.trans (hb.mono HB7.out.size))
  have hgl8 : gh < w8.heap.size := (Array.getElem?_eq_some_iff.1 hg8).1
  have hone3 := hv3.one rfl
  have hcz3 := hv3.size
  have r4 := hv3.c4
  have r38 := hv3.c38
  simp only [readS] at r4
  rw [rd_cat_lt (by omega), HMP.out.size] at r4
  clear hb hr hg7 HO7 HSL7 HB7 HX7 hgl7
  have mk := and_ffff cut
  obtain ⟨K, hK⟩ : ∃ K : Nat, cut % 65536 % (atS L n : Int) = K := ⟨(cut % 65536 % (atS L n : Int)).toNat, by have := Int.emod_nonneg (cut % 65536) (show (atS L n : Int) ≠ 0 by omega); omega⟩
  have hKN : K < atS L n := by have := Int.emod_lt_of_pos (cut % 65536) (show (0 : Int) < atS L n by omega); omega
  have hKc : K ≤ c := by have := HO8.out.len; omega
  have hNc : atS L n ≤ c := HO8.out.len
  go_wp2_with (refine wpList_store_row rfl 32 _ _ rfl w8.heap.size cs3 rfl rfl 32 _ (heap_alloc_new _ _) (by rw [hcz3]; rfl) (by rw [hcz3]; rfl) hone3 ?_
               rw [zero_head]
               have hg := (headCell (w4 := w8) hv3).1
               have hb89 := (headCell (w4 := w8) hv3).2
               have hg9 := (hb89.block gh hgl8).trans hg8
               have HB9 := Lib.hid (HB8.out.trans (hb89.mono HB8.out.size))
               have HSL9 := Lib.hid (HSL8.out.below hb89)
               have HO9 := Lib.hid (HO8.out.below hb89)
               clear hb89 hg8 HB8 HSL8 HO8
               generalize (w8.alloc (.cells (headC 0 0 0 0 0 0) 32)).setRow w8.heap.size cs3 = w9 at *
               generalize w8.heap.size = gi at *
               have j4 := (cell_of_row _ _ 4 _ _ _ hg).trans r4
               have j38 := (cell_of_row _ _ 38 _ _ _ hg).trans r38
               have k4 := (cell_of_row _ _ 4 _ _ _ hg9).trans q4
               have k38 := (cell_of_row _ _ 38 _ _ _ hg9).trans q38
               have hgl9 : gh < w9.heap.size := (Array.getElem?_eq_some_iff.1 hg9).1
               have HG9 := Lib.hid hg9
               clear hg hg9 r4 r38)
  refine (hparse_any g 0 K c F w9 (HO9.out.rowB.take (by omega))).mono ?_
  rintro e w10 ⟨⟨v, rfl, hr⟩, hb⟩
  obtain ⟨cs4, rfl, hcz4, hone4⟩ := hr.any
  have hg10 := (hb.block gh hgl9).trans HG9.out
  have HSL10 := Lib.hid (HSL9.out.below hb)
  have HB10 := Lib.hid (HB9.out.trans (hb.mono HB9.out.size))
  have hgl10 : gh < w10.heap.size := (Array.getElem?_eq_some_iff.1 hg10).1
  have hE : headE K F = 0 ↔ atS L n ≤ K := ⟨fun h => by
      rcases Nat.lt_or_ge K (atS L n) with h2 | h2
      · exact absurd h (HMP.out.cut K h2 hn1 hn6)
      · exact h2, fun h => HMP.out.ok K h hn1 hn6⟩
  have HE := Lib.hid hE
  have HK := Lib.hid hK
  clear hE hb hr HG9 HSL9 HB9 HO9 j4 j38 k4 k38 hgl9 hgl8 hv3 hone3 hcz3 mk hK
  generalize headE K F = E at *
  go_wp2_with (refine wpList_store_row rfl 32 _ _ rfl w10.heap.size cs4 rfl rfl 32 _ (heap_alloc_new _ _) (by rw [hcz4]; rfl) (by rw [hcz4]; rfl) hone4 ?_
               rw [zero_head]
               have hb : Below w10.heap.size w10 ((w10.alloc (.cells (headC 0 0 0 0 0 0) 32)).setRow w10.heap.size cs4) := below_setRow ((Below.refl _ w10).alloc (Nat.le_refl _) _) (Nat.le_refl _) _
               have hg11 := (hb.block gh hgl10).trans hg10
               have HB11 := Lib.hid (HB10.out.trans (hb.mono HB10.out.size))
               have HSL11 := Lib.hid (HSL10.out.below hb)
               clear hb hg10 HB10 HSL10
               generalize (w10.alloc (.cells (headC 0 0 0 0 0 0) 32)).setRow w10.heap.size cs4 = w11 at *
               have k5 := (cell_of_row _ _ 5 _ _ _ hg11).trans q5
               have k38 := (cell_of_row _ _ 38 _ _ _ hg11).trans q38
               clear hg11)
  clear hone hcz hone4 hcz4 q5 q4 q38 hKc hNc hm301 hmc h3
  have hg11 : gh < w11.heap.size := World.block_lt_of_cell? w11 _ k38
  go_loopw [15, 16] (fun o15 o16 wr => ∃ i : Nat, i ≤ n ∧ o16 = .int .i64 i ∧ o15 = .int .i64 (atS L i) ∧ Below w11.heap.size w11 wr) (fun _ o16 _ => n - (intOf o16).toNat)
  case atStart => exact ⟨0, by omega, rfl, rfl, Below.refl _ _⟩
  case round =>
    obtain ⟨i, hi, rfl, rfl, hbr⟩ := hrel
    have hai := atS_bd L i
    have k38' : wr.cell? ⟨gh, 38, none⟩ = _ := (hbr.cell (p := ⟨gh, 38, none⟩) hg11).trans k38
    have HBR := Lib.hid hbr
    by_cases hlt : i < n
    · have hlt' : (i : Int) < n := by omega
      obtain ⟨_, _, _, d3, d4, _⟩ := (HSL11.out.below hbr).at6 i (by simp [sectsS]; omega)
      have hs := HMP.out.all.sect hlt
      simp only [sectsS, List.getElem_map, List.getElem_range, hs] at d3 d4
      have hra := rawS_bd (L i)
      have hsum : atS L (i + 1) = atS L i + (rawS (L i)).toNat := rfl
      have HSUM := Lib.hid hsum
      clear hs hsum hbr k38 k5
      generalize rawS (L i) = R at *
      by_cases h0 : 0 < R
      · have hmax : max (atS L i : Int) ((atS L i : Int) + R) = atS L i + R := by omega
        go_wp2_with fail
        go_region
        go_wp2_with fail
        go_roundw
        case rel => exact ⟨i + 1, by omega, by go_num, by rw [HSUM.out]; congr 1; omega, by first | exact HBR.out | exact HBR.out.drew⟩
        case measure => simp [intOf]; omega
      · have h0' : decide (0 < R) = false := decide_eq_false h0
        go_wp2_with fail
        go_roundw
        case rel => exact ⟨i + 1, by omega, by go_num, by rw [HSUM.out]; congr 1; omega, HBR.out⟩
        case measure => simp [intOf]; omega
    · obtain rfl : i = n := by omega
      have HA := Lib.hid (awake5_any wr)
      have heq : (E == 0) = decide ((atS L i : Int) ≤ cut % 65536 % (atS L i : Int)) := by
        rw [Bool.eq_iff_iff, beq_iff_eq, decide_eq_true_eq, HE.out, HK.out]
        omega
      go_wp2_with (go_fit HA.out; rintro e w' ⟨rfl, hb⟩)
      go_ret
      exact ⟨rfl, (HB11.out.trans (HBR.out.mono HB11.out.size)).trans (hb.mono (HB11.out.trans (HBR.out.mono HB11.out.size)).size)⟩
end Go.Proofs.Ytlgdaljbajebhaa
