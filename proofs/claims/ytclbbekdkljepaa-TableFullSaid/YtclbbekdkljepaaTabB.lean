/- package table: a copy of an image that is all nought: clone (written by wip/mktab.py). -/
import Derived.Test.YtclbbekdkljepaaTabA
import Derived.Laws.Tables
import Derived.Laws.CopyOwn
namespace Go.Proofs.Ytclbbekdkljepaa
open Go.ChangeShapes Go.WideShapes Go.ChangeAt Go.RowKit
set_option linter.unusedVariables false

theorem set_noop {w : World} {b i : Nat} {cs : Array Value} {t : TypeId} {v : Value} (h : w.heap[b]? = some (.cells cs t (0, 0))) (hv : cs[i]? = some v) : w.setCell ⟨b, i, none⟩ v = w := by
  have e : (w.setCell ⟨b, i, none⟩ v).heap = w.heap := by
    apply Array.ext
    · simp [World.setCell]
    · intro k h1 h2
      have hk : (w.setCell ⟨b, i, none⟩ v).heap[k]? = w.heap[k]? := by
        by_cases c : k = b
        · subst c
          rw [heap_setCell_same w k i cs t v h, h]
          have : cs.setIfInBounds i v = cs := by
            apply Array.ext
            · simp
            · intro j j1 j2
              rw [Array.getElem_setIfInBounds (hj := j2)]
              split
              · rename_i e; subst e
                rw [Array.getElem?_eq_getElem j2] at hv
                exact (Option.some.inj hv).symm
              · rfl
          rw [this]
        · exact heap_setCell_other w _ k v c
      rw [Array.getElem?_eq_getElem h1, Array.getElem?_eq_getElem h2] at hk
      exact Option.some.inj hk
  have d : w.setCell ⟨b, i, none⟩ v = { w with heap := (w.setCell ⟨b, i, none⟩ v).heap } := rfl
  rw [d, e]

set_option maxRecDepth 100000
theorem peZ_size : peZ.size = 50 := rfl
theorem peZ_one : peZ.all (·.oneCell') = true := by simp [peZ, Value.oneCell']
theorem peZ_info : (Try.prog.info? 46).map (·.size) = some peZ.size := by rw [peZ_size]; rfl

set_option maxRecDepth 100000 in
set_option maxHeartbeats 4000000 in
theorem clone_zero (w : World) : Calls Try.prog 20 #[.agg peZ] w fun e w' => e = .returned (.agg peZ) ∧ Below w.heap.size w w' := by
  have f38 : peZ[38]? = some (.slice none 0 0) := rfl
  have f39 : peZ[39]? = some (.slice none 0 0) := rfl
  have f41 : peZ[41]? = some (.slice none 0 0) := rfl
  have f42 : peZ[42]? = some (.slice none 0 0) := rfl
  have f43 : peZ[43]? = some (.slice none 0 0) := rfl
  have f44 : peZ[44]? = some (.slice none 0 0) := rfl
  have f45 : peZ[45]? = some (.slice none 0 0) := rfl
  have f46 : peZ[46]? = some (.slice none 0 0) := rfl
  have f49 : peZ[49]? = some (.slice none 0 0) := rfl
  have hone := peZ_one
  have hinf := peZ_info
  obtain ⟨p, hp⟩ : ∃ p, peZ = p := ⟨_, rfl⟩
  have HP := Lib.hid (show (#[Value.int .u64 0, Value.int .i64 0, Value.int .i64 0, Value.int .i64 0, Value.int .i64 0, Value.int .i64 0, Value.int .i64 0, Value.int .i64 0, Value.int .i64 0, Value.int .i64 0, Value.int .i64 0, Value.int .i64 0, Value.int .i64 0, Value.int .i64 0, Value.int .i64 0, Value.int .i64 0, Value.int .i64 0, Value.int .i64 0, Value.int .i64 0, Value.int .i64 0, Value.int .i64 0, Value.int .i64 0, Value.int .i64 0, Value.int .i64 0, Value.int .i64 0, Value.int .i64 0, Value.int .i64 0, Value.int .i64 0, Value.int .i64 0, Value.int .i64 0, Value.int .i64 0, Value.int .i64 0, Value.int .i64 0, Value.int .i64 0, Value.int .i64 0, Value.int .i64 0, Value.int .i64 0, Value.int .i64 0, Value.slice none 0 0, Value.slice none 0 0, Value.int .i64 0, Value.slice none 0 0, Value.slice none 0 0, Value.slice none 0 0, Value.slice none 0 0, Value.slice none 0 0, Value.slice none 0 0, Value.bool false, Value.int .i64 0, Value.slice none 0 0] : Array Value) = p from hp)
  rw [hp] at hone hinf f38 f39 f41 f42 f43 f44 f45 f46 f49 ⊢
  have HONE := Lib.hid hone
  have HINF := Lib.hid hinf
  have F38 := Lib.hid f38
  have F39 := Lib.hid f39
  have F41 := Lib.hid f41
  have F42 := Lib.hid f42
  have F43 := Lib.hid f43
  have F44 := Lib.hid f44
  have F45 := Lib.hid f45
  have F46 := Lib.hid f46
  have F49 := Lib.hid f49
  clear hp hone hinf f38 f39 f41 f42 f43 f44 f45 f46 f49
  go_enter Try.func20, Try.ntmps20
  go_upto_region 1 with fail
  rw [HP.out]
  have hk0 : ((w.alloc (.cells p 46)).alloc (.cells p 46)).heap[w.heap.size]? = some (.cells p 46 (0, 0)) := ((Below.refl (w.alloc (.cells p 46)).heap.size (w.alloc (.cells p 46))).alloc (Nat.le_refl _) (.cells p 46)).block w.heap.size (by simp) |>.trans (heap_alloc_new _ _)
  have hk1 : ((w.alloc (.cells p 46)).alloc (.cells p 46)).heap[w.heap.size + 1]? = some (.cells p 46 (0, 0)) := by
    have := heap_alloc_new (w.alloc (.cells p 46)) (.cells p 46)
    simpa using this
  have hb := ((Below.refl w.heap.size w).alloc (Nat.le_refl _) (.cells p 46)).alloc (by simp) (.cells p 46)
  have HK0 := Lib.hid hk0
  have HK1 := Lib.hid hk1
  have HB := Lib.hid hb
  clear hk0 hk1 hb
  generalize (w.alloc (.cells p 46)).alloc (.cells p 46) = W at *
  have HG := Lib.hid (show w.heap.size ≤ w.heap.size from Nat.le_refl _)
  obtain ⟨B, hB⟩ : ∃ B, w.heap.size = B := ⟨_, rfl⟩
  rw [hB] at HK0 HK1 ⊢
  have HBB := Lib.hid hB
  clear hB HG
  have c38 : W.cell? ⟨B, 38, none⟩ = some (.slice none 0 0) := (cell_of_row _ _ _ _ _ _ HK0.out).trans F38.out
  have z38 : W.frozen? ⟨B, 38, none⟩ = false := frozen_of_row _ _ _ _ _ HK0.out
  go_upto_region 2 with (go_fit (clone_nil1 _); rintro e u ⟨rfl, rfl⟩)
  rw [set_noop HK0.out F38.out]
  clear c38 z38
  have c39 : W.cell? ⟨B, 39, none⟩ = some (.slice none 0 0) := (cell_of_row _ _ _ _ _ _ HK0.out).trans F39.out
  have z39 : W.frozen? ⟨B, 39, none⟩ = false := frozen_of_row _ _ _ _ _ HK0.out
  go_upto_region 3 with (go_fit (clone_nil2 _); rintro e u ⟨rfl, rfl⟩)
  rw [set_noop HK0.out F39.out]
  clear c39 z39
  have c41 : W.cell? ⟨B, 41, none⟩ = some (.slice none 0 0) := (cell_of_row _ _ _ _ _ _ HK0.out).trans F41.out
  have z41 : W.frozen? ⟨B, 41, none⟩ = false := frozen_of_row _ _ _ _ _ HK0.out
  go_upto_region 4 with (go_fit (clone_nil3 _); rintro e u ⟨rfl, rfl⟩)
  rw [set_noop HK0.out F41.out]
  clear c41 z41
  have c42 : W.cell? ⟨B, 42, none⟩ = some (.slice none 0 0) := (cell_of_row _ _ _ _ _ _ HK0.out).trans F42.out
  have z42 : W.frozen? ⟨B, 42, none⟩ = false := frozen_of_row _ _ _ _ _ HK0.out
  go_upto_region 5 with (go_fit (clone_nil4 _); rintro e u ⟨rfl, rfl⟩)
  rw [set_noop HK0.out F42.out]
  clear c42 z42
  have c43 : W.cell? ⟨B, 43, none⟩ = some (.slice none 0 0) := (cell_of_row _ _ _ _ _ _ HK0.out).trans F43.out
  have z43 : W.frozen? ⟨B, 43, none⟩ = false := frozen_of_row _ _ _ _ _ HK0.out
  go_upto_region 6 with (go_fit (cloneImps_nil _); rintro e u ⟨rfl, rfl⟩)
  rw [set_noop HK0.out F43.out]
  clear c43 z43
  have c44 : W.cell? ⟨B, 44, none⟩ = some (.slice none 0 0) := (cell_of_row _ _ _ _ _ _ HK0.out).trans F44.out
  have z44 : W.frozen? ⟨B, 44, none⟩ = false := frozen_of_row _ _ _ _ _ HK0.out
  go_upto_region 7 with (go_fit (cloneImps_nil _); rintro e u ⟨rfl, rfl⟩)
  rw [set_noop HK0.out F44.out]
  clear c44 z44
  have c45 : W.cell? ⟨B, 45, none⟩ = some (.slice none 0 0) := (cell_of_row _ _ _ _ _ _ HK0.out).trans F45.out
  have z45 : W.frozen? ⟨B, 45, none⟩ = false := frozen_of_row _ _ _ _ _ HK0.out
  go_upto_region 8 with (go_fit (clone_nil5 _); rintro e u ⟨rfl, rfl⟩)
  rw [set_noop HK0.out F45.out]
  clear c45 z45
  have c46 : W.cell? ⟨B, 46, none⟩ = some (.slice none 0 0) := (cell_of_row _ _ _ _ _ _ HK0.out).trans F46.out
  have z46 : W.frozen? ⟨B, 46, none⟩ = false := frozen_of_row _ _ _ _ _ HK0.out
  go_upto_region 9 with (go_fit (clone_nil6 _); rintro e u ⟨rfl, rfl⟩)
  rw [set_noop HK0.out F46.out]
  clear c46 z46
  have c49 : W.cell? ⟨B, 49, none⟩ = some (.slice none 0 0) := (cell_of_row _ _ _ _ _ _ HK0.out).trans F49.out
  have z49 : W.frozen? ⟨B, 49, none⟩ = false := frozen_of_row _ _ _ _ _ HK0.out
  go_upto_region 10 with (go_fit (clone_nil7 _); rintro e u ⟨rfl, rfl⟩)
  rw [set_noop HK0.out F49.out]
  clear c49 z49
  have HW := Lib.hid (setRow_heap W (B + 1) p p 46 (0, 0) HK1.out)
  have HBW := Lib.hid (below_setRow HB.out (show w.heap.size ≤ B + 1 by have := HBB.out; omega) p)
  go_wp2_with (first
    | (refine wpList_load_row rfl 46 _ rfl B rfl 46 p (0, 0) _ HK0.out rfl rfl HINF.out ?_)
    | (refine wpList_store_row rfl 46 _ _ rfl (B + 1) p rfl rfl 46 _ HK1.out HINF.out rfl HONE.out ?_))
  refine bodyPost_ret (v := .agg p) (results_cell_row rfl _ _ (B + 1) 46 p (0, 0) _ rfl HW.out rfl rfl HINF.out) rfl ⟨rfl, ?_⟩
  exact HBW.out
end Go.Proofs.Ytclbbekdkljepaa
