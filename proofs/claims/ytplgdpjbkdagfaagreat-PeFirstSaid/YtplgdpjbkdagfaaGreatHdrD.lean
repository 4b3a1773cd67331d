/- package hdr: read. -/
import Derived.Test.YtplgdpjbkdagfaaGreatHdrC
import Derived.Deep.MidRow
import Derived.Laws.CopyOwn
namespace Go.Proofs.YtplgdpjbkdagfaaGreat
set_option maxRecDepth 100000
open Go.ChangeShapes Go.WideShapes Go.ChangeAt Go.RowKit
set_option linter.unusedVariables false
set_option linter.unusedSimpArgs false

/-- What stands at fixed places of a head that begins at p. -/
def readS (f : Nat → Int) (p : Nat) : HeadN :=
  { base := rdF f (p + 48) 8, stamp := rdF f (p + 8) 4, chars := rdF f (p + 22) 2, entry := rdF f (p + 40) 4, size := rdF f (p + 80) 4, headers := rdF f (p + 84) 4,
    dirs := fun i => (rdF f (p + 136 + 8 * i) 4, rdF f (p + 136 + 8 * i + 4) 4) }

/-- A head's cells, as they are written down: five numbers, the rest noughts. -/
def headC (b s c e z h : Int) : Array Value := #[.int .u64 b, .int .i64 s, .int .i64 c, .int .i64 e, .int .i64 z, .int .i64 h,
  .int .i64 0, .int .i64 0, .int .i64 0, .int .i64 0, .int .i64 0, .int .i64 0, .int .i64 0, .int .i64 0,
  .int .i64 0, .int .i64 0, .int .i64 0, .int .i64 0, .int .i64 0, .int .i64 0, .int .i64 0, .int .i64 0,
  .int .i64 0, .int .i64 0, .int .i64 0, .int .i64 0, .int .i64 0, .int .i64 0, .int .i64 0, .int .i64 0,
  .int .i64 0, .int .i64 0, .int .i64 0, .int .i64 0, .int .i64 0, .int .i64 0, .int .i64 0, .int .i64 0,
  .slice none 0 0]

theorem built_head (s c e z h : Int) : Tryz.prog.built 41 [(1, .int .i64 s), (2, .int .i64 c), (3, .int .i64 e), (4, .int .i64 z), (5, .int .i64 h)] = some (headC 0 s c e z h) := by
  kernel_rfl

theorem zero_head : (#[.int .u64 0, .int .i64 0, .int .i64 0, .int .i64 0, .int .i64 0, .int .i64 0,
  .int .i64 0, .int .i64 0, .int .i64 0, .int .i64 0, .int .i64 0, .int .i64 0, .int .i64 0, .int .i64 0,
  .int .i64 0, .int .i64 0, .int .i64 0, .int .i64 0, .int .i64 0, .int .i64 0, .int .i64 0, .int .i64 0,
  .int .i64 0, .int .i64 0, .int .i64 0, .int .i64 0, .int .i64 0, .int .i64 0, .int .i64 0, .int .i64 0,
  .int .i64 0, .int .i64 0, .int .i64 0, .int .i64 0, .int .i64 0, .int .i64 0, .int .i64 0, .int .i64 0,
  .slice none 0 0] : Array Value) = headC 0 0 0 0 0 0 := rfl

theorem headC_one (b s c e z h : Int) : (headC b s c e z h).all (·.oneCell') = true := by simp [headC, Value.oneCell']

theorem wpList_build_to {P : Program} {ops : Array Oper} {rest : List Oper} {o : Oper} {a : Act} {w : World} {Q : Exit → Act → World → Prop} (hg : o.guard = none) (t : TypeId) (parts : Array (Nat × Operand)) (ho : o.op = .build t parts)
    (vs : List (Nat × Value)) (cs : Array Value) (hv : (parts.map fun (i, x) => (i, a.eval x)).toList = vs) (hb : P.built t vs = some cs) (h : wpList P ops Q rest (a.put o.dst (.agg cs)) w) : wpList P ops Q (o :: rest) a w :=
  wpList_build hg t parts ho (by rw [hv, hb]; rfl) (by rw [hv, hb]; exact h)

/-- The cells of a head of which i directories are read. -/
structure HeadPart (cs : Array Value) (h : HeadN) (i : Nat) : Prop where
  size : cs.size = 39
  c0 : cs[0]? = some (.int .u64 h.base)
  c1 : cs[1]? = some (.int .i64 h.stamp)
  c2 : cs[2]? = some (.int .i64 h.chars)
  c3 : cs[3]? = some (.int .i64 h.entry)
  c4 : cs[4]? = some (.int .i64 h.size)
  c5 : cs[5]? = some (.int .i64 h.headers)
  dir0 : ∀ j, j < i → cs[6 + 2 * j]? = some (.int .i64 (h.dirs j).1)
  dir1 : ∀ j, j < i → cs[6 + 2 * j + 1]? = some (.int .i64 (h.dirs j).2)
  c38 : cs[38]? = some (.slice none 0 0)
  one : ∀ v ∈ cs, v.oneCell' = true

theorem HeadPart.start (h : HeadN) : HeadPart ((headC 0 h.stamp h.chars h.entry h.size h.headers).setIfInBounds 0 (.int .u64 h.base)) h 0 :=
  ⟨rfl, rfl, rfl, rfl, rfl, rfl, rfl, fun j hj => by omega, fun j hj => by omega, rfl, by simp [headC, Value.oneCell']⟩

theorem HeadPart.next {cs : Array Value} {h : HeadN} {i : Nat} (x : HeadPart cs h i) (hi : i < 16) : HeadPart ((cs.setIfInBounds (6 + 2 * i) (.int .i64 (h.dirs i).1)).setIfInBounds (6 + 2 * i + 1) (.int .i64 (h.dirs i).2)) h (i + 1) := by
  have hs := x.size
  have k : ∀ j v, j ≠ 6 + 2 * i → j ≠ 6 + 2 * i + 1 → cs[j]? = some v → ((cs.setIfInBounds (6 + 2 * i) (.int .i64 (h.dirs i).1)).setIfInBounds (6 + 2 * i + 1) (.int .i64 (h.dirs i).2))[j]? = some v := fun j v h1 h2 h3 => by
    rw [Array.getElem?_setIfInBounds_ne (by omega), Array.getElem?_setIfInBounds_ne (by omega)]; exact h3
  refine ⟨by simp [hs], k _ _ (by omega) (by omega) x.c0, k _ _ (by omega) (by omega) x.c1, k _ _ (by omega) (by omega) x.c2, k _ _ (by omega) (by omega) x.c3, k _ _ (by omega) (by omega) x.c4, k _ _ (by omega) (by omega) x.c5, fun j hj => ?_, fun j hj => ?_, k _ _ (by omega) (by omega) x.c38, fun v hv => ?_⟩
  · by_cases e : j = i
    · subst e
      rw [Array.getElem?_setIfInBounds_ne (by omega), Array.getElem?_setIfInBounds_self_of_lt (by omega)]
    · exact k _ _ (by omega) (by omega) (x.dir0 j (by omega))
  · by_cases e : j = i
    · subst e
      rw [Array.getElem?_setIfInBounds_self_of_lt (by simp; omega)]
    · exact k _ _ (by omega) (by omega) (x.dir1 j (by omega))
  · rcases Array.mem_or_eq_of_mem_setIfInBounds hv with hv | rfl
    · rcases Array.mem_or_eq_of_mem_setIfInBounds hv with hv | rfl
      · exact x.one v hv
      · rfl
    · rfl

theorem HeadPart.all {cs : Array Value} {h : HeadN} (x : HeadPart cs h 16) : HeadV cs h (.slice none 0 0) := ⟨x.size, x.c0, x.c1, x.c2, x.c3, x.c4, x.c5, x.dir0, x.dir1, x.c38⟩

/-- The world while a head is read: where the result will lie, and the head of which i directories are read. -/
structure HeadAt (w u : World) (h : HeadN) (i : Nat) : Prop where
  bel : Below w.heap.size w u
  res : ∃ Z : Array Value, u.heap[w.heap.size]? = some (.cells Z 41 (0, 0)) ∧ Z.size = 39
  cs : ∃ cs, u.heap[w.heap.size + 1]? = some (.cells cs 41 (0, 0)) ∧ HeadPart cs h i

theorem HeadAt.next {w u : World} {h : HeadN} {i : Nat} (x : HeadAt w u h i) (hi : i < 16) (v1 v2 : Int) (e1 : v1 = (h.dirs i).1) (e2 : v2 = (h.dirs i).2) :
    HeadAt w ((u.setCell ⟨w.heap.size + 1, 6 + i * 2, none⟩ (.int .i64 v1)).setCell ⟨w.heap.size + 1, 6 + i * 2 + 1, none⟩ (.int .i64 v2)) h (i + 1) := by
  subst e1 e2
  rw [Nat.mul_comm i 2]
  obtain ⟨Z, hz, hzs⟩ := x.res
  obtain ⟨cs, hc, hp⟩ := x.cs
  refine ⟨(x.bel.setCell (by simp) _).setCell (by simp) _, ⟨Z, ?_, hzs⟩, ⟨_, heap_setCell_same _ _ _ _ _ _ (heap_setCell_same _ _ _ _ _ _ hc), hp.next hi⟩⟩
  rw [heap_setCell_other _ _ _ _ (by simp), heap_setCell_other _ _ _ _ (by simp)]
  exact hz

theorem HeadAt.start (w : World) (h : HeadN) : HeadAt w ((((w.alloc (.cells (headC 0 0 0 0 0 0) 41)).alloc (.cells (headC 0 0 0 0 0 0) 41)).setRow (w.heap.size + 1) (headC 0 h.stamp h.chars h.entry h.size h.headers)).setCell ⟨w.heap.size + 1, 0, none⟩ (.int .u64 h.base)) h 0 := by
  refine ⟨(below_setRow (((Below.refl _ w).alloc (Nat.le_refl _) _).alloc (by simp) _) (by simp) _).setCell (by simp) _, ⟨headC 0 0 0 0 0 0, ?_, rfl⟩, ⟨_, heap_setCell_same _ _ _ _ _ _ (setRow_heap _ _ _ _ _ _ (heap_alloc2_new _ _ _)), HeadPart.start h⟩⟩
  rw [heap_setCell_other _ _ _ _ (by simp), setRow_other _ _ _ _ (by simp)]
  exact heap_alloc2_old _ _ _

set_option maxRecDepth 100000 in
theorem read_any (b off n cap : Nat) (f : Nat → Int) (p : Nat) (w : World) (h : RowB w b off n cap f) (hp : p + 264 ≤ n) (hp2 : p ≤ 4294967296) :
    Calls Tryz.prog 63 #[.slice (some ⟨b, off, none⟩) n cap, .int .i64 p] w fun e w' => (∃ cs, e = .returned (.agg cs) ∧ HeadV cs (readS f p) (.slice none 0 0)) ∧ Below w.heap.size w w' := by
  have h8 : ∀ w', Below w.heap.size w w' → _ := fun w' hb => hu32 b off n cap f (p + 8) w' (h.below hb) (by omega)
  have h22 : ∀ w', Below w.heap.size w w' → _ := fun w' hb => hu16 b off n cap f (p + 22) w' (h.below hb) (by omega)
  have h40 : ∀ w', Below w.heap.size w w' → _ := fun w' hb => hu32 b off n cap f (p + 40) w' (h.below hb) (by omega)
  have h80 : ∀ w', Below w.heap.size w w' → _ := fun w' hb => hu32 b off n cap f (p + 80) w' (h.below hb) (by omega)
  have h84 : ∀ w', Below w.heap.size w w' → _ := fun w' hb => hu32 b off n cap f (p + 84) w' (h.below hb) (by omega)
  have h48 : ∀ w', Below w.heap.size w w' → _ := fun w' hb => u64_yes b off n cap f (p + 48) w' (by have := h.len; have := h.most; omega) (by omega) h.by255 (h.below hb).row
  rw [show ((p + 8 : Nat) : Int) = (p : Int) + 8 by omega] at h8
  rw [show ((p + 22 : Nat) : Int) = (p : Int) + 22 by omega] at h22
  rw [show ((p + 40 : Nat) : Int) = (p : Int) + 40 by omega] at h40
  rw [show ((p + 80 : Nat) : Int) = (p : Int) + 80 by omega] at h80
  rw [show ((p + 84 : Nat) : Int) = (p : Int) + 84 by omega] at h84
  rw [show ((p + 48 : Nat) : Int) = (p : Int) + 48 by omega] at h48
  have HR := Lib.hid h
  have H8 := Lib.hid h8
  have H22 := Lib.hid h22
  have H40 := Lib.hid h40
  have H80 := Lib.hid h80
  have H84 := Lib.hid h84
  have H48 := Lib.hid h48
  clear h8 h22 h40 h80 h84 h48 h
  go_enter Tryz.func63, Tryz.ntmps63
  go_wp2_with fail
  refine (H8.out _ ((Below.refl _ w).alloc (Nat.le_refl _) _)).mono ?_
  rintro e w' ⟨rfl, rfl⟩
  go_wp2_with fail
  refine (H22.out _ ((Below.refl _ w).alloc (Nat.le_refl _) _)).mono ?_
  rintro e w' ⟨rfl, rfl⟩
  go_wp2_with fail
  refine (H40.out _ ((Below.refl _ w).alloc (Nat.le_refl _) _)).mono ?_
  rintro e w' ⟨rfl, rfl⟩
  go_wp2_with fail
  refine (H80.out _ ((Below.refl _ w).alloc (Nat.le_refl _) _)).mono ?_
  rintro e w' ⟨rfl, rfl⟩
  go_wp2_with fail
  refine (H84.out _ ((Below.refl _ w).alloc (Nat.le_refl _) _)).mono ?_
  rintro e w' ⟨rfl, rfl⟩
  rw [zero_head]
  rename_i hK
  refine hK _ _ ?_
  refine wpList_build_to rfl 41 _ rfl [(1, .int .i64 (rdF f (p + 8) 4)), (2, .int .i64 (rdF f (p + 22) 2)), (3, .int .i64 (rdF f (p + 40) 4)), (4, .int .i64 (rdF f (p + 80) 4)), (5, .int .i64 (rdF f (p + 84) 4))] (headC 0 (rdF f (p + 8) 4) (rdF f (p + 22) 2) (rdF f (p + 40) 4) (rdF f (p + 80) 4) (rdF f (p + 84) 4)) ?hv ?hb ?_
  case hv => simp [go_sem]
  case hb => exact built_head _ _ _ _ _
  have hCs : (headC 0 (rdF f (p + 8) 4) (rdF f (p + 22) 2) (rdF f (p + 40) 4) (rdF f (p + 80) 4) (rdF f (p + 84) 4)).size = 39 := rfl
  have hC1 : (headC 0 (rdF f (p + 8) 4) (rdF f (p + 22) 2) (rdF f (p + 40) 4) (rdF f (p + 80) 4) (rdF f (p + 84) 4)).all (·.oneCell') = true := headC_one _ _ _ _ _ _
  have hC := Lib.hid (rfl : headC 0 (rdF f (p + 8) 4) (rdF f (p + 22) 2) (rdF f (p + 40) 4) (rdF f (p + 80) 4) (rdF f (p + 84) 4) = headC 0 (rdF f (p + 8) 4) (rdF f (p + 22) 2) (rdF f (p + 40) 4) (rdF f (p + 80) 4) (rdF f (p + 84) 4))
  have hC0 : (headC 0 (rdF f (p + 8) 4) (rdF f (p + 22) 2) (rdF f (p + 40) 4) (rdF f (p + 80) 4) (rdF f (p + 84) 4))[0]? = some (.int .u64 0) := rfl
  have HA0 := Lib.hid (HeadAt.start w (readS f p))
  simp only [readS] at HA0
  generalize headC 0 (rdF f (p + 8) 4) (rdF f (p + 22) 2) (rdF f (p + 40) 4) (rdF f (p + 80) 4) (rdF f (p + 84) 4) = C1 at hCs hC1 hC0 HA0 ⊢
  go_wp2_with (refine wpList_store_row rfl 41 _ _ rfl (w.heap.size + 1) C1 ?hx ?hy 41 _ (heap_alloc2_new _ _ _) (by rw [hCs]; rfl) ?hold hC1 ?_)
  rw [zero_head]
  have hg1 := setRow_heap ((w.alloc (.cells (headC 0 0 0 0 0 0) 41)).alloc (.cells (headC 0 0 0 0 0 0) 41)) (w.heap.size + 1) _ C1 _ _ (heap_alloc2_new _ _ _)
  have HB1 := Lib.hid (below_setRow (((Below.refl w.heap.size w).alloc (Nat.le_refl _) (.cells (headC 0 0 0 0 0 0) 41)).alloc (by simp) (.cells (headC 0 0 0 0 0 0) 41)) (show w.heap.size ≤ w.heap.size + 1 by omega) C1)
  generalize ((w.alloc (.cells (headC 0 0 0 0 0 0) 41)).alloc (.cells (headC 0 0 0 0 0 0) 41)).setRow (w.heap.size + 1) C1 = W1 at hg1 HB1 HA0 ⊢
  have hz0 := frozen_of_row W1 (w.heap.size + 1) 0 _ _ hg1
  have hc0 : W1.cell? ⟨w.heap.size + 1, 0, none⟩ = some (.int .u64 0) := by rw [cell_of_row W1 _ 0 _ _ _ hg1]; exact hC0
  clear hg1 hC0 hCs hC1 
  refine (H48.out _ HB1.out).mono ?_
  rintro e w' ⟨rfl, rfl⟩
  clear H8 H22 H40 H80 H84 H48
  go_wp2_with fail
  clear hc0 hz0 
  generalize W1.setCell ⟨w.heap.size + 1, 0, none⟩ (.int .u64 (rdF f (p + 48) 8)) = W2 at HA0 ⊢
  clear hC
  have HAr := HA0
  clear HB1 HA0
  go_loopw [6, 7, 37] (fun o6 o7 o37 wr => ∃ i : Nat, i ≤ 16 ∧ o37 = .int .i64 i ∧ HeadAt w wr (readS f p) i) (fun _ _ o37 _ => 16 - (intOf o37).toNat)
  case atStart => exact ⟨0, by omega, rfl, HAr.out⟩
  case round =>
    obtain ⟨i, hi, rfl, ha⟩ := hrel
    have HA := Lib.hid ha
    clear ha HAr
    by_cases hlt : i < 16
    · obtain ⟨cs, hg, hp⟩ := HA.out.cs
      have h1 := hu32 b off n cap f (p + 136 + 8 * i) _ (HR.out.below HA.out.bel) (by omega)
      have h2 := hu32 b off n cap f (p + 136 + 8 * i + 4) _ (HR.out.below HA.out.bel) (by omega)
      rw [show ((p + 136 + 8 * i : Nat) : Int) = (p : Int) + 136 + 8 * (i : Int) by omega] at h1
      rw [show ((p + 136 + 8 * i + 4 : Nat) : Int) = (p : Int) + 136 + 8 * (i : Int) + 4 by omega] at h2
      have H1 := Lib.hid h1
      have H2 := Lib.hid h2
      clear h1 h2
      have hlt' : (i : Int) < 16 := by omega
      have hsz := hp.size
      have z0 := frozen_of_row _ _ (6 + i * 2) _ _ hg
      have z1 := frozen_of_row _ _ (6 + i * 2 + 1) _ _ hg
      have c0 := cell_of_row _ _ (6 + i * 2) _ _ _ hg
      have c1 := cell_of_row _ _ (6 + i * 2 + 1) _ _ _ hg
      rw [Array.getElem?_eq_getElem (by omega)] at c0 c1
      generalize cs[6 + i * 2] = q0 at c0
      generalize cs[6 + i * 2 + 1] = q1 at c1
      clear hg hp hsz
      go_wp2_with fail
      refine H1.out.mono ?_
      rintro e w' ⟨rfl, rfl⟩
      go_wp2_with fail
      refine H2.out.mono ?_
      rintro e w' ⟨rfl, rfl⟩
      go_wp2_with fail
      go_roundw
      case rel => exact ⟨i + 1, by omega, by go_num, HA.out.next hlt _ _ rfl rfl⟩
      case measure => simp [intOf]; omega
    · obtain rfl : i = 16 := by omega
      obtain ⟨Z, hz, hzs⟩ := HA.out.res
      obtain ⟨cs, hg, hp⟩ := HA.out.cs
      have hsz := hp.size
      have hone : cs.all (·.oneCell') = true := Array.all_eq_true_iff_forall_mem.2 hp.one
      have HV := Lib.hid hp.all
      clear hp
      go_wp2_with (first
        | refine wpList_load_row rfl 41 _ rfl (w.heap.size + 1) rfl 41 cs (0, 0) _ hg rfl rfl (by rw [hsz]; rfl) ?_
        | refine wpList_store_row rfl 41 _ _ rfl w.heap.size cs rfl rfl 41 Z hz (by rw [hsz]; rfl) (by omega) hone ?_)
      refine bodyPost_ret (v := .agg cs) (results_cell_row rfl _ _ w.heap.size 41 cs (0, 0) _ ?hp (setRow_heap _ _ _ _ _ _ hz) rfl rfl (by rw [hsz]; rfl)) rfl ⟨⟨cs, rfl, HV.out⟩, below_setRow HA.out.bel (Nat.le_refl _) cs⟩
      rfl
end Go.Proofs.YtplgdpjbkdagfaaGreat
