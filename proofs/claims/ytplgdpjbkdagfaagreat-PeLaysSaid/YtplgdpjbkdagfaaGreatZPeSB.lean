import Derived.Test.YtplgdpjbkdagfaaGreatZSameHead
import Derived.Test.YtplgdpjbkdagfaaGreatZPeG
import Derived.Test.YtplgdpjbkdagfaaGreatShelf
import Derived.Deep.Cut
import Derived.Test.YtplgdpjbkdagfaaGreatZPeSN
import Derived.Test.YtplgdpjbkdagfaaGreatZPeV
import Derived.Test.YtplgdpjbkdagfaaGreatRows
import Derived.Lib.SmallJoins
import Derived.Test.YtplgdpjbkdagfaaGreatTlsA
namespace Go.Proofs.YtplgdpjbkdagfaaGreat
open Go.ChangeShapes Go.WideShapes Go.ChangeAt Go.RowKit
set_option linter.unusedVariables false
set_option linter.unusedSimpArgs false
set_option maxRecDepth 100000
set_option maxHeartbeats 4000000 in
theorem sameHead_self (cs cs' : Array Value) (h : HeadN) (sv sv' : Value) (l : List SectN) (w : World) (x : HeadV cs h sv) (y : HeadV cs' h sv') (hs : SectSl w sv l) (hs' : SectSl w sv' l) (hdb : DirBd h) :
    Calls Tryz.prog 52 #[.agg cs, .agg cs'] w fun e u => e = .returned (.bool true) ∧ Below w.heap.size w u := by
  obtain ⟨A, c, rfl, hsl, hl16⟩ := hs
  obtain ⟨A', c', rfl, hsl', _⟩ := hs'
  have HX := Lib.hid x
  have HY := Lib.hid y
  have HSL := Lib.hid hsl
  have HSL' := Lib.hid hsl'
  have HL16 := Lib.hid hl16
  have a0 := x.c0
  have a1 := x.c1
  have a2 := x.c2
  have a3 := x.c3
  have a4 := x.c4
  have a5 := x.c5
  have b0 := y.c0
  have b1 := y.c1
  have b2 := y.c2
  have b3 := y.c3
  have b4 := y.c4
  have b5 := y.c5
  have HB1 := Lib.hid (((Below.refl w.heap.size w).alloc (Nat.le_refl _) (.cells cs 41)).alloc (by simp) (.cells cs' 41))
  have HE := Lib.hid (fun W (hW : Below w.heap.size w W) => equal_Sect SectN.cells SectN.name SectN.vsize SectN.rva SectN.raw SectN.spot SectN.chars (fun _ => rfl) A A' l l c c' W (HSL.out.below hW) (HSL'.out.below hW) (by have := HL16.out; omega) (by have := HL16.out; omega) true ⟨fun _ => rfl, fun _ => rfl⟩)
  clear hsl hsl' x y hl16
  go_enter Tryz.func52, Tryz.ntmps52
  have heq := eq_dirs h hdb
  have HG0 := Lib.hid (heap_alloc2_old w (.cells cs 41) (.cells cs' 41))
  have HG1 := Lib.hid (heap_alloc2_new w (.cells cs 41) (.cells cs' 41))
  have k38 := (cell_of_row _ _ 38 _ _ _ HG0.out).trans HX.out.c38
  have k38' := (cell_of_row _ _ 38 _ _ _ HG1.out).trans HY.out.c38
  go_wp2_with (first
    | (refine wpList_load_mid_g (by rfl) 38 _ rfl w.heap.size 6 rfl (dirL h) _ (HX.out.dirRow HG0.out) rfl rfl rfl ?_)
    | (refine wpList_load_mid_g (by rfl) 38 _ rfl (w.heap.size + 1) 6 rfl (dirL h) _ (HY.out.dirRow HG1.out) rfl rfl rfl ?_)
    | fail)
  refine (HE.out _ HB1.out).mono ?_
  rintro e u ⟨rfl, hb⟩
  have HB2 := Lib.hid (HB1.out.trans (hb.mono HB1.out.size))
  clear hb
  go_wp2_with fail
  go_ret
  exact ⟨rfl, HB2.out⟩
theorem equalFunc_nil (v : Value) (w : World) : Calls Tryz.prog 56 #[.slice none 0 0, .slice none 0 0, v] w fun e u => e = .returned (.bool true) ∧ Below w.heap.size w u := by
  go_enter Tryz.func56, Tryz.ntmps56
  go_wp2_with fail
  go_loopw [17] (fun v17 wr => v17 = .int .i64 0 ∧ wr = w) (fun _ _ => 0)
  case atStart => exact ⟨rfl, rfl⟩
  case round =>
    obtain ⟨rfl, rfl⟩ := hrel
    go_wp2_with fail
    go_ret
    exact ⟨rfl, Below.refl _ _⟩
structure Bare (y : PeV) : Prop where
  e0 : y.e0 = .int .i64 0
  e1 : y.e1 = .slice none 0 0
  e2 : y.e2 = .slice none 0 0
  im : y.im = .slice none 0 0
  de : y.de = .slice none 0 0
  bo : y.bo = .slice none 0 0
  re : y.re = .slice none 0 0
  t0 : y.t0 = .bool false
  t1 : y.t1 = .int .i64 0
  t2 : y.t2 = .slice none 0 0
set_option maxHeartbeats 4000000 in
theorem pesame_bare (y : PeV) (hy : Bare y) (h : HeadN) (sv : Value) (l : List SectN) (w : World) (x : HeadV ((List.range 39).map y.hd).toArray h sv) (hs : SectSl w sv l) (hdb : DirBd h) (g N cap : Nat) (f : Nat → Int) (hi : y.img = .slice (some ⟨g, 0, none⟩) N cap) (hr : RowB w g 0 N cap f) :
    Calls Tryz.prog 22 #[.agg (peC y), .agg (peC y)] w fun e u => e = .returned (.bool true) ∧ Below w.heap.size w u := by
  have hb0 : Below w.heap.size w ((w.alloc (.cells (peC y) 50)).alloc (.cells (peC y) 50)) := ((Below.refl w.heap.size w).alloc (Nat.le_refl _) _).alloc (by simp) _
  have hg0 := heap_alloc2_old w (.cells (peC y) 50) (.cells (peC y) 50)
  have hg1 := heap_alloc2_new w (.cells (peC y) 50) (.cells (peC y) 50)
  obtain ⟨w2, hw2⟩ : ∃ q, (w.alloc (.cells (peC y) 50)).alloc (.cells (peC y) 50) = q := ⟨_, rfl⟩
  rw [hw2] at hb0 hg0 hg1
  have HB0 := Lib.hid hb0
  have HW2 := Lib.hid hw2
  have HCF := Lib.hid (show ∀ W, Below w2.heap.size w2 W → ∀ j v, j < 50 → peF y j = v → W.cell? ⟨w.heap.size, j, none⟩ = some v ∧ W.cell? ⟨w.heap.size + 1, j, none⟩ = some v from fun W hW j v hj hv => by
    subst hv
    exact ⟨(hW.cell (p := ⟨w.heap.size, j, none⟩) (lt_of_row' hg0)).trans ((cell_of_row' hg0).trans (peC_cell y hj)), (hW.cell (p := ⟨w.heap.size + 1, j, none⟩) (lt_of_row' hg1)).trans ((cell_of_row' hg1).trans (peC_cell y hj))⟩)
  have hrg : ∀ P, (∀ j, j < 50 → w2.cell? ⟨P, j, none⟩ = some (peF y j)) → w2.rangeAt P 0 ((List.range 39).map y.hd) := fun P hP j v hv => by
    have hj : j < 39 := by
      rcases Nat.lt_or_ge j 39 with hj | hj
      · exact hj
      · simp [hj] at hv
    simp [hj] at hv
    subst hv
    rw [Nat.zero_add, hP j (by omega), peF_hd y hj]
  have HR0 := Lib.hid (hrg w.heap.size (fun j hj => (HCF.out w2 (Below.refl _ _) j _ hj rfl).1))
  have HR1 := Lib.hid (hrg (w.heap.size + 1) (fun j hj => (HCF.out w2 (Below.refl _ _) j _ hj rfl).2))
  have HHD := Lib.hid (fun W (hW : Below w2.heap.size w2 W) => sameHead_self _ _ h sv sv l W x x (by
    obtain ⟨A, c, k1, k2, k3⟩ := hs
    exact ⟨A, c, k1, k2.below (HB0.out.trans (hW.mono HB0.out.size)), k3⟩) (by
    obtain ⟨A, c, k1, k2, k3⟩ := hs
    exact ⟨A, c, k1, k2.below (HB0.out.trans (hW.mono HB0.out.size)), k3⟩) hdb)
  have HBE := Lib.hid (fun W (hW : Below w2.heap.size w2 W) => Tryz.bytes_Equal_strs (.slice (some ⟨g, 0, none⟩) N cap) (.slice (some ⟨g, 0, none⟩) N cap) (strF f 0 N) (strF f 0 N) W (run_str (cap := cap) (hr.below (HB0.out.trans (hW.mono HB0.out.size))).row) (run_str (cap := cap) (hr.below (HB0.out.trans (hW.mono HB0.out.size))).row))
  have HY := Lib.hid hy
  have HI := Lib.hid hi
  clear hrg hb0 hg0 hg1 hw2 hs hr hy hi
  go_enter Tryz.func22, Tryz.ntmps22
  go_upto_region 1 with (fail)
  refine (congrArg _ HW2.out).mpr ?_
  have HZ := Lib.hid (Below.refl w2.heap.size w2)
  simp only [List.append_eq, List.cons_append, List.nil_append]
  go_wp2_with (first
    | (refine wpList_load_mid rfl 41 (.tmp 5) rfl w.heap.size 0 rfl ((List.range 39).map y.hd) _ HR0.out Tryz.underlying41 rfl (by rw [List.length_map, List.length_range]; kernel_rfl) ?_)
    | (refine wpList_load_mid rfl 41 (.tmp 7) rfl (w.heap.size + 1) 0 rfl ((List.range 39).map y.hd) _ HR1.out Tryz.underlying41 rfl (by rw [List.length_map, List.length_range]; kernel_rfl) ?_)
    | fail)
  refine (HHD.out _ HZ.out).mono ?_
  rintro e w3 ⟨rfl, hb⟩
  replace HZ := Lib.hid (HZ.out.trans (hb.mono HZ.out.size))
  clear hb
  have a39 := (HCF.out _ HZ.out 39 _ (by omega) HI.out).1
  have b39 := (HCF.out _ HZ.out 39 _ (by omega) HI.out).2
  go_wp2_with fail
  refine (HBE.out _ HZ.out).mono ?_
  rintro e w4 ⟨rfl, rfl⟩
  rw [show ((strF f 0 N).toList == (strF f 0 N).toList) = true from by simp]
  clear a39 b39
  have a40 := (HCF.out _ HZ.out 40 _ (by omega) HY.out.e0).1
  have b40 := (HCF.out _ HZ.out 40 _ (by omega) HY.out.e0).2
  have a41 := (HCF.out _ HZ.out 41 _ (by omega) HY.out.e1).1
  have b41 := (HCF.out _ HZ.out 41 _ (by omega) HY.out.e1).2
  go_wp2_with fail
  refine (eqn_Func _).mono ?_
  rintro e w5 ⟨rfl, hb⟩
  replace HZ := Lib.hid (HZ.out.trans (hb.mono HZ.out.size))
  clear hb
  clear a40 b40 a41 b41
  have a42 := (HCF.out _ HZ.out 42 _ (by omega) HY.out.e2).1
  have b42 := (HCF.out _ HZ.out 42 _ (by omega) HY.out.e2).2
  go_wp2_with fail
  refine (eqn_Named _).mono ?_
  rintro e w6 ⟨rfl, hb⟩
  replace HZ := Lib.hid (HZ.out.trans (hb.mono HZ.out.size))
  clear hb
  clear a42 b42
  have a43 := (HCF.out _ HZ.out 43 _ (by omega) HY.out.im).1
  have b43 := (HCF.out _ HZ.out 43 _ (by omega) HY.out.im).2
  go_wp2_with fail
  refine (equalFunc_nil _ _).mono ?_
  rintro e w7 ⟨rfl, hb⟩
  replace HZ := Lib.hid (HZ.out.trans (hb.mono HZ.out.size))
  clear hb
  clear a43 b43
  have a44 := (HCF.out _ HZ.out 44 _ (by omega) HY.out.de).1
  have b44 := (HCF.out _ HZ.out 44 _ (by omega) HY.out.de).2
  go_wp2_with fail
  refine (equalFunc_nil _ _).mono ?_
  rintro e w8 ⟨rfl, hb⟩
  replace HZ := Lib.hid (HZ.out.trans (hb.mono HZ.out.size))
  clear hb
  clear a44 b44
  have a45 := (HCF.out _ HZ.out 45 _ (by omega) HY.out.bo).1
  have b45 := (HCF.out _ HZ.out 45 _ (by omega) HY.out.bo).2
  go_wp2_with fail
  refine (eqn_Bound _).mono ?_
  rintro e w9 ⟨rfl, hb⟩
  replace HZ := Lib.hid (HZ.out.trans (hb.mono HZ.out.size))
  clear hb
  clear a45 b45
  have a46 := (HCF.out _ HZ.out 46 _ (by omega) HY.out.re).1
  have b46 := (HCF.out _ HZ.out 46 _ (by omega) HY.out.re).2
  go_wp2_with fail
  refine (eqn_Rel _).mono ?_
  rintro e w10 ⟨rfl, hb⟩
  replace HZ := Lib.hid (HZ.out.trans (hb.mono HZ.out.size))
  clear hb
  clear a46 b46
  have a47 := (HCF.out _ HZ.out 47 _ (by omega) HY.out.t0).1
  have b47 := (HCF.out _ HZ.out 47 _ (by omega) HY.out.t0).2
  have a48 := (HCF.out _ HZ.out 48 _ (by omega) HY.out.t1).1
  have b48 := (HCF.out _ HZ.out 48 _ (by omega) HY.out.t1).2
  have a49 := (HCF.out _ HZ.out 49 _ (by omega) HY.out.t2).1
  have b49 := (HCF.out _ HZ.out 49 _ (by omega) HY.out.t2).2
  go_wp2_with fail
  refine (Tryz.slices_Equal_int_empty none none 0 0 0 _ (by omega)).mono ?_
  rintro e w11 ⟨rfl, rfl⟩
  go_wp2_with fail
  go_ret
  exact ⟨rfl, HB0.out.trans (HZ.out.mono HB0.out.size)⟩
set_option maxHeartbeats 2000000 in
theorem needs_bare (y : PeV) (hy : Bare y) (w : World) : Calls Tryz.prog 17 #[.agg (peC y)] w fun e u => (∃ A c, e = .returned (.slice A 0 c)) ∧ Below w.heap.size w u := by
  have hb0 : Below w.heap.size w (w.alloc (.cells (peC y) 50)) := (Below.refl w.heap.size w).alloc (Nat.le_refl _) _
  have hg0 := heap_alloc_new w (.cells (peC y) 50)
  obtain ⟨w2, hw2⟩ : ∃ q, w.alloc (.cells (peC y) 50) = q := ⟨_, rfl⟩
  rw [hw2] at hb0 hg0
  have HB0 := Lib.hid hb0
  have HW2 := Lib.hid hw2
  have HCF := Lib.hid (show ∀ W, Below w2.heap.size w2 W → ∀ j v, j < 50 → peF y j = v → W.cell? ⟨w.heap.size, j, none⟩ = some v from fun W hW j v hj hv => by
    subst hv
    exact (hW.cell (p := ⟨w.heap.size, j, none⟩) (lt_of_row' hg0)).trans ((cell_of_row' hg0).trans (peC_cell y hj)))
  have HY := Lib.hid hy
  clear hb0 hg0 hw2 hy
  go_enter Tryz.func17, Tryz.ntmps17
  go_upto_region 1 with (fail)
  refine (congrArg _ HW2.out).mpr ?_
  have HZ := Lib.hid (Below.refl w2.heap.size w2)
  go_upto_region 2 with (fail)
  generalize hW3 : w2.alloc _ = w3
  replace HZ := Lib.hid (show Below w2.heap.size w2 w3 from by rw [← hW3]; exact (Below.refl _ _).alloc (Nat.le_refl _) _)
  clear hW3
  have a43 := HCF.out _ HZ.out 43 _ (by omega) HY.out.im
  have a41 := HCF.out _ HZ.out 41 _ (by omega) HY.out.e1
  go_wp2_with fail
  go_loopw [3, 15] (fun v3 v15 wr => v15 = .int .i64 0 ∧ v3 = .slice (some ⟨w2.heap.size, 0, none⟩) 0 0 ∧ wr = w3) (fun _ _ _ => 0)
  case atStart => exact ⟨rfl, rfl, rfl⟩
  case round =>
    obtain ⟨rfl, rfl, rfl⟩ := hrel
    go_wp2_with fail
    go_loopw [3, 28] (fun v3 v28 wx => v28 = .int .i64 0 ∧ v3 = .slice (some ⟨w2.heap.size, 0, none⟩) 0 0 ∧ wx = wr) (fun _ _ _ => 0)
    case atStart => exact ⟨rfl, rfl, rfl⟩
    case round =>
      obtain ⟨rfl, rfl, rfl⟩ := hrel
      go_wp2_with fail
      go_ret
      exact ⟨⟨_, _, rfl⟩, HB0.out.trans (HZ.out.mono HB0.out.size)⟩
end Go.Proofs.YtplgdpjbkdagfaaGreat
namespace Go.Proofs.YtplgdpjbkdagfaaGreat
set_option maxRecDepth 100000
open Go Go.Joins Go.WideElems Go.Maps Go.ChangeShapes Go.WideShapes Go.ChangeAt Go.RowKit Go.Deep
set_option linter.unusedVariables false
section
variable {H : Type} {enc : TypeId × Value → H} {P : Program} {w : World} {base : Nat} {spare : Nat → Bool} {held : Bool}
theorem array_of9 {α : Type} {cs : Array α} (h : cs.size = 9) : ∃ c0 c1 c2 c3 c4 c5 c6 c7 c8, cs = #[c0, c1, c2, c3, c4, c5, c6, c7, c8] := by
  obtain ⟨l⟩ := cs
  match l, h with
  | [c0, c1, c2, c3, c4, c5, c6, c7, c8], _ => exact ⟨c0, c1, c2, c3, c4, c5, c6, c7, c8, rfl⟩
theorem struct_opened9 {t : TypeId} {f0 f1 f2 f3 f4 f5 f6 f7 f8 : Field} {fuel : Nat} {cs : List Value} {x : DataW H × List MemPlace} (ht : P.underlying t = some (.struct #[f0, f1, f2, f3, f4, f5, f6, f7, f8])) (h : DataW.trod enc P w base spare held fuel t cs = some x) :
    ∃ y0 y1 y2 y3 y4 y5 y6 y7 y8 n, x = (.agg [y0.1, y1.1, y2.1, y3.1, y4.1, y5.1, y6.1, y7.1, y8.1], y0.2 ++ (y1.2 ++ (y2.2 ++ (y3.2 ++ (y4.2 ++ (y5.2 ++ (y6.2 ++ (y7.2 ++ (y8.2))))))))) ∧ cs.length = P.cellsOf t ∧ DataW.trod enc P w base spare held n f0.type ((cs.drop f0.offset).take (P.cellsOf f0.type)) = some y0 ∧ DataW.trod enc P w base spare held n f1.type ((cs.drop f1.offset).take (P.cellsOf f1.type)) = some y1 ∧ DataW.trod enc P w base spare held n f2.type ((cs.drop f2.offset).take (P.cellsOf f2.type)) = some y2 ∧ DataW.trod enc P w base spare held n f3.type ((cs.drop f3.offset).take (P.cellsOf f3.type)) = some y3 ∧ DataW.trod enc P w base spare held n f4.type ((cs.drop f4.offset).take (P.cellsOf f4.type)) = some y4 ∧ DataW.trod enc P w base spare held n f5.type ((cs.drop f5.offset).take (P.cellsOf f5.type)) = some y5 ∧ DataW.trod enc P w base spare held n f6.type ((cs.drop f6.offset).take (P.cellsOf f6.type)) = some y6 ∧ DataW.trod enc P w base spare held n f7.type ((cs.drop f7.offset).take (P.cellsOf f7.type)) = some y7 ∧ DataW.trod enc P w base spare held n f8.type ((cs.drop f8.offset).take (P.cellsOf f8.type)) = some y8 := by
  obtain ⟨xs, n, _, rfl, hl, hlen, hf⟩ := DataW.trod_struct ht h
  match xs, hlen with
  | [y0, y1, y2, y3, y4, y5, y6, y7, y8], _ => exact ⟨y0, y1, y2, y3, y4, y5, y6, y7, y8, n, by simp, hl, by simpa using hf 0 f0 rfl, by simpa using hf 1 f1 rfl, by simpa using hf 2 f2 rfl, by simpa using hf 3 f3 rfl, by simpa using hf 4 f4 rfl, by simpa using hf 5 f5 rfl, by simpa using hf 6 f6 rfl, by simpa using hf 7 f7 rfl, by simpa using hf 8 f8 rfl⟩
theorem open_agg9 {r : Reach} {b0 : Nat} {t : TypeId} {f0 f1 f2 f3 f4 f5 f6 f7 f8 : Field} {v : Value} {d : DataW H} {p : List MemPlace} (hs : P.underlying t = some (.struct #[f0, f1, f2, f3, f4, f5, f6, f7, f8])) (hone : oneCellFields P #[f0, f1, f2, f3, f4, f5, f6, f7, f8] = true) (hC : P.cellsOf t = 9)
    (hv : Value.okWide P w r b0 t v) (h : DataW.Trod enc P w base spare held t v d p) :
    ∃ (v0 v1 v2 v3 v4 v5 v6 v7 v8 : Value) (y0 y1 y2 y3 y4 y5 y6 y7 y8 : DataW H × List MemPlace) (n : Nat), v = .agg #[v0, v1, v2, v3, v4, v5, v6, v7, v8] ∧ d = .agg [y0.1, y1.1, y2.1, y3.1, y4.1, y5.1, y6.1, y7.1, y8.1] ∧ p = y0.2 ++ (y1.2 ++ (y2.2 ++ (y3.2 ++ (y4.2 ++ (y5.2 ++ (y6.2 ++ (y7.2 ++ (y8.2)))))))) ∧ DataW.trod enc P w base spare held n f0.type [v0] = some y0 ∧ DataW.trod enc P w base spare held n f1.type [v1] = some y1 ∧ DataW.trod enc P w base spare held n f2.type [v2] = some y2 ∧ DataW.trod enc P w base spare held n f3.type [v3] = some y3 ∧ DataW.trod enc P w base spare held n f4.type [v4] = some y4 ∧ DataW.trod enc P w base spare held n f5.type [v5] = some y5 ∧ DataW.trod enc P w base spare held n f6.type [v6] = some y6 ∧ DataW.trod enc P w base spare held n f7.type [v7] = some y7 ∧ DataW.trod enc P w base spare held n f8.type [v8] = some y8 := by
  obtain ⟨cs, rfl, hsz⟩ := okWide_struct hs hv
  obtain ⟨c0, c1, c2, c3, c4, c5, c6, c7, c8, rfl⟩ := array_of9 (hsz.trans hC)
  obtain ⟨fuel, hf⟩ := h
  obtain ⟨y0, y1, y2, y3, y4, y5, y6, y7, y8, n, hx, _, h0, h1, h2, h3, h4, h5, h6, h7, h8⟩ := struct_opened9 hs hf
  obtain ⟨o0, k0⟩ := hone_of hone 0 f0 rfl
  obtain ⟨o1, k1⟩ := hone_of hone 1 f1 rfl
  obtain ⟨o2, k2⟩ := hone_of hone 2 f2 rfl
  obtain ⟨o3, k3⟩ := hone_of hone 3 f3 rfl
  obtain ⟨o4, k4⟩ := hone_of hone 4 f4 rfl
  obtain ⟨o5, k5⟩ := hone_of hone 5 f5 rfl
  obtain ⟨o6, k6⟩ := hone_of hone 6 f6 rfl
  obtain ⟨o7, k7⟩ := hone_of hone 7 f7 rfl
  obtain ⟨o8, k8⟩ := hone_of hone 8 f8 rfl
  simp only [Prod.mk.injEq] at hx
  exact ⟨c0, c1, c2, c3, c4, c5, c6, c7, c8, y0, y1, y2, y3, y4, y5, y6, y7, y8, n, rfl, hx.1, hx.2, by simpa [Value.cells, o0, k0] using h0, by simpa [Value.cells, o1, k1] using h1, by simpa [Value.cells, o2, k2] using h2, by simpa [Value.cells, o3, k3] using h3, by simpa [Value.cells, o4, k4] using h4, by simpa [Value.cells, o5, k5] using h5, by simpa [Value.cells, o6, k6] using h6, by simpa [Value.cells, o7, k7] using h7, by simpa [Value.cells, o8, k8] using h8⟩
end
end Go.Proofs.YtplgdpjbkdagfaaGreat
namespace Go.Proofs.YtplgdpjbkdagfaaGreat
set_option maxRecDepth 100000
open Go.ChangeShapes Go.WideShapes Go.ChangeAt Go.RowKit
set_option linter.unusedVariables false
set_option linter.unusedSimpArgs false
theorem slT_ints {w : World} {a : Option Addr} {len cap : Nat} {zs : List Int}
    (h : (a = none ∧ len = 0 ∧ cap = 0 ∧ zs = []) ∨ ∃ x, a = some x ∧ len ≤ cap ∧ cap ≤ maxLen ∧ zs.length = cap ∧ (∀ i, i < zs.length → w.cell? (x.add i) = some (.int .i64 (zs.getD i 0))) ∧ ∀ n ∈ zs, (Lit.int .i64 n).wf = true) :
    (zs.take len).length = len ∧ len ≤ 9223372036854775807 ∧ SlT intC 1 w a (zs.take len) := by
  rcases h with ⟨rfl, rfl, rfl, rfl⟩ | ⟨x, rfl, hl, hm, hz, hc, _⟩
  · exact ⟨rfl, by omega, .inl rfl⟩
  · have hlen : (zs.take len).length = len := by rw [List.length_take]; omega
    refine ⟨hlen, by unfold maxLen at hm; omega, ?_⟩
    rcases Nat.eq_zero_or_pos len with h0 | h0
    · left; rw [h0]; rfl
    · obtain ⟨b, off, spot⟩ := x
      have hspot : spot = none := by simpa [Addr.add] using World.cell?_spot (hc 0 (by omega))
      subst hspot
      have hadd : ∀ i, (⟨b, off, none⟩ : Addr).add i = ⟨b, off + i, none⟩ := fun i => by unfold Addr.add; split <;> simp_all
      refine .inr ⟨b, off, rfl, ?_, fun i hi j v hv => ?_⟩
      · have h1 := hc 0 (by omega)
        rw [hadd] at h1
        rcases Nat.lt_or_ge b w.heap.size with hlt | hge
        · exact hlt
        · simp [World.cell?, Array.getElem?_eq_none hge] at h1
      · have hi' : i < zs.length := by rw [List.length_take] at hi; omega
        have c0 := hc i hi'
        rw [hadd, List.getD_eq_getElem?_getD, List.getElem?_eq_getElem hi'] at c0
        simp only [List.getElem_take] at hv
        rcases j with _ | j
        · simp [intC] at hv; subst hv; simpa using c0
        · simp [intC] at hv
end Go.Proofs.YtplgdpjbkdagfaaGreat
