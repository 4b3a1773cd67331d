import Derived.Test.YtplgdpjbkdagfaaGreatZPeG
import Derived.Test.YtplgdpjbkdagfaaGreatZMd
import Derived.Test.YtplgdpjbkdagfaaGreatRHeadB
import Derived.Test.YtplgdpjbkdagfaaGreatZRegK
import Derived.Deep.Cut
import Derived.Test.YtplgdpjbkdagfaaGreatZAwake1
import Derived.Test.YtplgdpjbkdagfaaGreatZPeSB
import Derived.Test.YtplgdpjbkdagfaaGreatAwake6
namespace Go.Proofs.YtplgdpjbkdagfaaGreat
open Go.ChangeShapes Go.WideShapes Go.ChangeAt Go.RowKit
set_option linter.unusedVariables false
set_option linter.unusedSimpArgs false
set_option maxRecDepth 100000
def noParts : Value := .agg #[.int .i64 0, .slice none 0 0, .slice none 0 0, .slice none 0 0, .slice none 0 0, .slice none 0 0, .slice none 0 0, .int .i64 0, .slice none 0 0]
theorem head12 {w : World} {n : Nat} {f F : Nat → Int} {v : Value} (h : HeadQ w n f v) (x : MadeP L12 1 F) (hs : SameH 1 F f) (hn : 8704 ≤ n) :
    ∃ cs b off c, v = .tuple #[.agg cs, .int .i64 0] ∧ cs.size = 39 ∧ cs.all (·.oneCell') = true ∧ cs[38]? = some (.slice (some ⟨b, off, none⟩) 1 c) ∧ b < w.heap.size ∧ w.cell? ⟨b, off + 4, none⟩ = some (.int .i64 1024) := by
  have h0 := hs.ok x n (by rw [at12]; exact hn) (by omega) (by omega)
  have hp := hs.headP x n (by omega)
  have hk := hs.headK x n (by omega)
  obtain ⟨cs, hv, ⟨k, _⟩ | ⟨_, sv, h1, A, c, rfl, h3, _⟩⟩ := h
  · exact absurd h0 k
  rw [h0] at hv
  rw [hp, hk] at h1 h3
  rw [show 64 + 264 = 328 by rfl, hs.sects] at h1 h3
  have hl : (sectsS F 328 1) = [sectS F 328] := rfl
  have hse := x.all.sect (i := 0) (by omega)
  rw [show 328 + 40 * 0 = 328 by rfl] at hse
  rw [hl] at h1 h3
  rcases h3 with h3 | ⟨b, off, rfl, hlt, hc⟩
  · simp at h3
  have hq := hc 0 (by simp) 4 (.int .i64 1024) (by
    show (sectS F 328).cells[4]? = _
    rw [hse]; rfl)
  exact ⟨cs, b, off, c, hv, h1.size, h1.one rfl, h1.c38, hlt, by rw [show off + 4 = off + (0 * 6 + 4) by omega]; exact hq⟩
set_option maxHeartbeats 4000000 in
theorem made12_any (w : World) : Calls Tryz.prog 8 #[noParts, .int .i64 15] w fun e u =>
    ∃ g c F, e = .returned (.slice (some ⟨g, 0, none⟩) 8704 c) ∧ OwnC u w.heap.size g 8704 c (overF F 1024 64 (fun _ => 0)) ∧ MadeP L12 1 F ∧ Below w.heap.size w u := by
  unfold noParts
  go_enter Tryz.func8, Tryz.ntmps8
  go_wp2_with fail
  have hb0 : Below w.heap.size w ((w.alloc (.cells #[.int .i64 0, .slice none 0 0, .slice none 0 0, .slice none 0 0, .slice none 0 0, .slice none 0 0, .slice none 0 0, .int .i64 0, .slice none 0 0] 32)).alloc (.cells #[.int .i64 12287, .int .i64 8191, .int .i64 7] 88)) := ((Below.refl w.heap.size w).alloc (Nat.le_refl _) _).alloc (by simp) _
  have hs0 : SlT tripC 3 ((w.alloc (.cells #[.int .i64 0, .slice none 0 0, .slice none 0 0, .slice none 0 0, .slice none 0 0, .slice none 0 0, .slice none 0 0, .int .i64 0, .slice none 0 0] 32)).alloc (.cells #[.int .i64 12287, .int .i64 8191, .int .i64 7] 88)) (some ⟨w.heap.size + 1, 0, none⟩) [(12287, 8191, 7)] := by
    refine .inr ⟨w.heap.size + 1, 0, rfl, by simp, fun i hi j v hv => ?_⟩
    obtain rfl : i = 0 := by simp at hi; exact hi
    have hz := heap_alloc_new (w.alloc (.cells #[.int .i64 0, .slice none 0 0, .slice none 0 0, .slice none 0 0, .slice none 0 0, .slice none 0 0, .slice none 0 0, .int .i64 0, .slice none 0 0] 32)) (.cells #[.int .i64 12287, .int .i64 8191, .int .i64 7] 88)
    rw [show (w.alloc (.cells #[.int .i64 0, .slice none 0 0, .slice none 0 0, .slice none 0 0, .slice none 0 0, .slice none 0 0, .slice none 0 0, .int .i64 0, .slice none 0 0] 32)).heap.size = w.heap.size + 1 by simp] at hz
    rw [cell_of_row' hz]
    rw [show 0 + (0 * 3 + j) = j by omega]
    simpa [tripC] using hv
  have HP0 := Lib.hid (show ((w.alloc (.cells #[.int .i64 0, .slice none 0 0, .slice none 0 0, .slice none 0 0, .slice none 0 0, .slice none 0 0, .slice none 0 0, .int .i64 0, .slice none 0 0] 32)).alloc (.cells #[.int .i64 12287, .int .i64 8191, .int .i64 7] 88)).cell? ⟨w.heap.size, 0, none⟩ = some (.int .i64 0) from by
    rw [cell_of_row' ((((Below.refl _ _).alloc (Nat.le_refl _) _).block w.heap.size (by simp)).trans (heap_alloc_new w _))]; rfl)
  have hw1 : w.heap.size < ((w.alloc (.cells #[.int .i64 0, .slice none 0 0, .slice none 0 0, .slice none 0 0, .slice none 0 0, .slice none 0 0, .slice none 0 0, .int .i64 0, .slice none 0 0] 32)).alloc (.cells #[.int .i64 12287, .int .i64 8191, .int .i64 7] 88)).heap.size := by simp; omega
  generalize ((w.alloc (.cells #[.int .i64 0, .slice none 0 0, .slice none 0 0, .slice none 0 0, .slice none 0 0, .slice none 0 0, .slice none 0 0, .int .i64 0, .slice none 0 0] 32)).alloc (.cells #[.int .i64 12287, .int .i64 8191, .int .i64 7] 88)) = w1 at *
  have HB0 := Lib.hid hb0
  refine (made_any (some ⟨w.heap.size + 1, 0, none⟩) [(12287, 8191, 7)] 1 L12 (fun i => by rcases i with _ | i; exact .inl rfl; exact .inr (by simp)) w1 (by simp) hs0).mono ?_
  rintro e w2 ⟨g, c, F, rfl, ho, hm, hb⟩
  rw [show min [((12287, 8191, 7) : Trip)].length 6 = 1 by rfl] at ho hm ⊢
  rw [at12] at ho ⊢
  have HO2 := Lib.hid (ho.weaken (base' := w.heap.size) hb0.size)
  have HM := Lib.hid hm
  have HB2 := Lib.hid (HB0.out.trans (hb.mono HB0.out.size))
  have HP2 := Lib.hid ((hb.cell (p := ⟨w.heap.size, 0, none⟩) hw1).trans HP0.out)
  have HL2 := Lib.hid (show w.heap.size < w2.heap.size by have := hb.size; omega)
  have hcv := run_str (cap := c) ho.row
  have HSM := Lib.hid (show SameH 1 F (PlainAid.bt (strF F 0 8704)) from fun q h1 h2 => by rw [bt_strF ho.by255 (by omega), Nat.zero_add])
  have HSZ := Lib.hid (strF_size F 0 8704)
  generalize strF F 0 8704 = S at hcv HSM HSZ
  clear hs0 hb0 HP0 hb ho hm HB0 hw1
  go_wp2_with fail
  refine (rhead_any S w2 (by rw [HSZ.out]; omega)).mono ?_
  rintro e w3 ⟨⟨v, rfl, hq⟩, hb⟩
  obtain ⟨cs, bs, off, c3, rfl, hz, hone, h38, hlt, hat⟩ := head12 hq HM.out HSM.out (Nat.le_of_eq HSZ.out.symm)
  have HO3 := Lib.hid (HO2.out.below hb)
  have HB3 := Lib.hid (HB2.out.trans (hb.mono HB2.out.size))
  have HP3 := Lib.hid ((hb.cell (p := ⟨w.heap.size, 0, none⟩) HL2.out).trans HP2.out)
  have HL3 := Lib.hid (show w.heap.size < w3.heap.size by have := hb.size; have := HL2.out; omega)
  have HAT := Lib.hid (And.intro hlt hat)
  have H38 := Lib.hid h38
  clear hq hb HO2 HB2 HP2 HSM HSZ hcv h38 hlt hat HL2
  go_upto_region 3 with (refine wpList_store_row rfl 41 _ _ rfl w3.heap.size cs rfl rfl 41 _ (heap_alloc_new _ _) (by rw [hz]; rfl) (by rw [hz]; rfl) hone ?_)
  rw [zero_head]
  have hg4 := setRow_heap (w3.alloc (.cells (headC 0 0 0 0 0 0) 41)) w3.heap.size _ cs _ _ (heap_alloc_new _ _)
  have hb34 : Below w3.heap.size w3 ((w3.alloc (.cells (headC 0 0 0 0 0 0) 41)).setRow w3.heap.size cs) := below_setRow ((Below.refl _ w3).alloc (Nat.le_refl _) _) (Nat.le_refl _) _
  have HO4 := Lib.hid (HO3.out.below hb34)
  have HB4 := Lib.hid (HB3.out.trans (hb34.mono HB3.out.size))
  have HP4 := Lib.hid ((hb34.cell (p := ⟨w.heap.size, 0, none⟩) HL3.out).trans HP3.out)
  have HAT4 := Lib.hid ((hb34.cell (p := ⟨bs, off + 4, none⟩) HAT.out.1).trans HAT.out.2)
  have HL4 := Lib.hid (show bs < w3.heap.size ∧ w3.heap.size < ((w3.alloc (.cells (headC 0 0 0 0 0 0) 41)).setRow w3.heap.size cs).heap.size from ⟨HAT.out.1, lt_of_row' hg4⟩)
  have k38 := (cell_of_row _ _ 38 _ _ _ hg4).trans H38.out
  clear hb34 HO3 HB3 HP3 HAT H38 hz hone hg4
  generalize (w3.alloc (.cells (headC 0 0 0 0 0 0) 41)).setRow w3.heap.size cs = w4 at *
  generalize w3.heap.size = G at *
  go_wp2_with (at_make; refine wpList_makeC rfl _ _ rfl w4.heap.size .i64 .i64 4160 rfl rfl (by omega) (Nat.le_refl _) ?_; intro w5 ho hb hs; have HA5 := Lib.hid ho; have HB45 := Lib.hid hb; clear ho hb hs)
  have HO5 := Lib.hid (HO4.out.below HB45.out)
  have HB5 := Lib.hid (HB4.out.trans (HB45.out.mono HB4.out.size))
  have p5 := (HB45.out.cell (p := ⟨w.heap.size, 0, none⟩) (by have := HL3.out; have := HL4.out; show w.heap.size < w4.heap.size; omega)).trans HP4.out
  have K38 := Lib.hid ((HB45.out.cell (p := ⟨G, 38, none⟩) HL4.out.2).trans k38)
  have KAT := Lib.hid ((HB45.out.cell (p := ⟨bs, off + 4, none⟩) (by have := HL4.out; show bs < w4.heap.size; omega)).trans HAT4.out)
  have KL := Lib.hid (show bs < w5.heap.size ∧ G < w5.heap.size from by have := HL4.out; have := HB45.out.size; omega)
  clear k38 HO4 HB4 HP4 HAT4 HL4 HL3
  obtain ⟨GA, hGA⟩ : ∃ q, w4.heap.size = q := ⟨_, rfl⟩
  rw [hGA] at HA5 ⊢
  go_loopw [5, 8, 9] (fun v5 v8 v9 wr => ∃ i : Nat, i ≤ 6 ∧ v9 = .int .i64 i ∧ v5 = .slice (some ⟨g, 0, none⟩) 8704 c ∧ v8 = .slice (some ⟨GA, 0, none⟩) 4160 4160 ∧ wr = w5) (fun _ _ v9 _ => 6 - (intOf v9).toNat)
  case atStart => exact ⟨0, by omega, rfl, rfl, rfl, rfl⟩
  case round =>
    obtain ⟨i, hi, rfl, rfl, rfl, rfl⟩ := hrel
    rcases (by omega : i = 6 ∨ i = 0 ∨ i = 1 ∨ i = 2 ∨ i = 3 ∨ i = 4 ∨ i = 5) with rfl | rfl | rfl | rfl | rfl | rfl | rfl
    · --M6
      go_upto_region 31 with fail
      have HRA := Lib.hid (show RowB wr GA 4096 64 64 (fun _ => 0) from ⟨fun j hj => by have := HA5.out.row (4096 + j) (by omega); rw [Nat.zero_add] at this; exact this, fun _ => by omega, HA5.out.lt, by omega, by omega⟩)
      have HOV := Lib.hid (fun W (hW : Below wr.heap.size wr W) => over_any g 0 8704 c F 1024 GA 4096 64 64 (fun _ => 0) W (HO5.out.below hW).rowB (HRA.out.below hW) (by omega) (by omega) (by omega))
      have HS := Lib.hid (show Below wr.heap.size wr wr.drew from (Below.refl _ _).drew)
      refine wp_region_noPanic ?_
      refine wp_region_K (fun W => Below wr.heap.size wr W) (fun _ => True) 99 (by kernel_rfl) ?_
      refine wpAnyK_take (i := 0) (oi := ?_) (v := ?_) ?_ (by kernel_rfl) (by kernel_rfl) (by kernel_rfl) (fun _ _ _ h => h) (by decide) ?_ HS.out (fun _ => trivial) ?_
      rotate_left 2
      · (simp only [List.getElem?_toArray, List.getElem?_cons_succ, List.getElem?_cons_zero]; rfl)
      · (first | exact Or.inr ⟨by rfl, rfl⟩ | (refine Or.inl ⟨by rfl, ?_⟩; intro W hSw; clear hSw; go_simp; try with_reducible rfl))
      try simp only [Act.put, List.setIfInBounds_toArray, List.set_cons_zero, List.set_cons_succ]
      refine wpAnyK_take (i := 1) (oi := ?_) (v := ?_) ?_ (by kernel_rfl) (by kernel_rfl) (by kernel_rfl) (fun _ _ _ h => h) (by decide) ?_ HS.out (fun _ => trivial) ?_
      rotate_left 2
      · (simp only [List.getElem?_toArray, List.getElem?_cons_succ, List.getElem?_cons_zero]; rfl)
      · (first | exact Or.inr ⟨by rfl, rfl⟩ | (refine Or.inl ⟨by rfl, ?_⟩; intro W hSw; clear hSw; go_simp; try with_reducible rfl))
      try simp only [Act.put, List.setIfInBounds_toArray, List.set_cons_zero, List.set_cons_succ]
      refine wpAnyK_take (i := 2) (oi := ?_) (v := ?_) ?_ (by kernel_rfl) (by kernel_rfl) (by kernel_rfl) (fun _ _ _ h => h) (by decide) ?_ HS.out (fun _ => trivial) ?_
      rotate_left 2
      · (simp only [List.getElem?_toArray, List.getElem?_cons_succ, List.getElem?_cons_zero]; rfl)
      · (first | exact Or.inr ⟨by rfl, rfl⟩ | (refine Or.inl ⟨by rfl, ?_⟩; intro W hSw; have hk := (hSw.cell (p := ⟨G, 38, none⟩) KL.out.2).trans K38.out; clear hSw; go_simp; try with_reducible rfl))
      try simp only [Act.put, List.setIfInBounds_toArray, List.set_cons_zero, List.set_cons_succ]
      refine wpAnyK_take (i := 3) (oi := ?_) (v := ?_) ?_ (by kernel_rfl) (by kernel_rfl) (by kernel_rfl) (fun _ _ _ h => h) (by decide) ?_ HS.out (fun _ => trivial) ?_
      rotate_left 2
      · (simp only [List.getElem?_toArray, List.getElem?_cons_succ, List.getElem?_cons_zero]; rfl)
      · (first | exact Or.inr ⟨by rfl, rfl⟩ | (refine Or.inl ⟨by rfl, ?_⟩; intro W hSw; clear hSw; go_simp; try with_reducible rfl))
      try simp only [Act.put, List.setIfInBounds_toArray, List.set_cons_zero, List.set_cons_succ]
      refine wpAnyK_take (i := 4) (oi := ?_) (v := ?_) ?_ (by kernel_rfl) (by kernel_rfl) (by kernel_rfl) (fun _ _ _ h => h) (by decide) ?_ HS.out (fun _ => trivial) ?_
      rotate_left 2
      · (simp only [List.getElem?_toArray, List.getElem?_cons_succ, List.getElem?_cons_zero]; rfl)
      · (first | exact Or.inr ⟨by rfl, rfl⟩ | (refine Or.inl ⟨by rfl, ?_⟩; intro W hSw; clear hSw; go_simp; try with_reducible rfl))
      try simp only [Act.put, List.setIfInBounds_toArray, List.set_cons_zero, List.set_cons_succ]
      refine wpAnyK_take (i := 5) (oi := ?_) (v := ?_) ?_ (by kernel_rfl) (by kernel_rfl) (by kernel_rfl) (fun _ _ _ h => h) (by decide) ?_ HS.out (fun _ => trivial) ?_
      rotate_left 2
      · (simp only [List.getElem?_toArray, List.getElem?_cons_succ, List.getElem?_cons_zero]; rfl)
      · (first | exact Or.inr ⟨by rfl, rfl⟩ | (refine Or.inl ⟨by rfl, ?_⟩; intro W hSw; have hk := (hSw.cell (p := ⟨bs, off + 4, none⟩) KL.out.1).trans KAT.out; clear hSw; go_simp; try with_reducible rfl))
      try simp only [Act.put, List.setIfInBounds_toArray, List.set_cons_zero, List.set_cons_succ]
      refine wpAnyK_take (i := 6) (oi := ?_) (v := ?_) ?_ (by kernel_rfl) (by kernel_rfl) (by kernel_rfl) (fun _ _ _ h => h) (by decide) ?_ HS.out (fun _ => trivial) ?_
      rotate_left 2
      · (simp only [List.getElem?_toArray, List.getElem?_cons_succ, List.getElem?_cons_zero]; rfl)
      · (first | exact Or.inr ⟨by rfl, rfl⟩ | (refine Or.inl ⟨by rfl, ?_⟩; intro W hSw; clear hSw; go_simp; try with_reducible rfl))
      try simp only [Act.put, List.setIfInBounds_toArray, List.set_cons_zero, List.set_cons_succ]
      refine wpAnyK_take (i := 7) (oi := ?_) (v := ?_) ?_ (by kernel_rfl) (by kernel_rfl) (by kernel_rfl) (fun _ _ _ h => h) (by decide) ?_ HS.out (fun _ => trivial) ?_
      rotate_left 2
      · (simp only [List.getElem?_toArray, List.getElem?_cons_succ, List.getElem?_cons_zero]; rfl)
      · (first | exact Or.inr ⟨by rfl, rfl⟩ | (refine Or.inl ⟨by rfl, ?_⟩; intro W hSw; clear hSw; go_simp; try with_reducible rfl))
      try simp only [Act.put, List.setIfInBounds_toArray, List.set_cons_zero, List.set_cons_succ]
      refine wpAnyK_one (i := 8) (o := ?_) (by kernel_rfl) ?_ (fun K hK => ?_)
      rotate_left 1
      · (simp only [List.getElem?_toArray, List.getElem?_cons_succ, List.getElem?_cons_zero]; rfl)
      go_simp
      go_at_call 9
      refine (HOV.out _ HS.out).mono ?_
      rintro e w6 ⟨g6, c6, rfl, ho, hb⟩
      have HS2 := Lib.hid (HS.out.trans (hb.mono HS.out.size))
      have HO6 := Lib.hid ho
      refine hK.out _ _ HS2.out (fun _ => trivial) ?_
      clear hK K
      try simp only [Act.put, List.setIfInBounds_toArray, List.set_cons_zero, List.set_cons_succ]
      refine wpAnyK_take (i := 9) (oi := ?_) (v := ?_) ?_ (by kernel_rfl) (by kernel_rfl) (by kernel_rfl) (fun _ _ _ h => h) (by decide) ?_ HS2.out (fun _ => trivial) ?_
      rotate_left 2
      · (simp only [List.getElem?_toArray, List.getElem?_cons_succ, List.getElem?_cons_zero]; rfl)
      · (first | exact Or.inr ⟨by rfl, rfl⟩ | (refine Or.inl ⟨by rfl, ?_⟩; intro W hSw; clear hSw; go_simp; try with_reducible rfl))
      try simp only [Act.put, List.setIfInBounds_toArray, List.set_cons_zero, List.set_cons_succ]
      refine wpAnyK_done (by kernel_rfl) ?_ _
      refine NoPanic.normal ?_
      go_wp2_with fail
      go_ret
      exact ⟨g6, c6, F, rfl, HO6.out.weaken (by have := HB5.out.size; have := HS.out.size; omega), HM.out, HB5.out.trans (HS2.out.mono HB5.out.size)⟩
    all_goals
      go_wp2_with fail
      go_roundw
      case rel => exact ⟨_, by decide, rfl, rfl, rfl, by first | trivial | rfl⟩
      case measure => simp [intOf]
theorem sect_stay {wb u : World} {z : Nat} {cs : Array Value} {hd : HeadN} {g c : Nat} {l : List SectN} (x : HeadL wb cs hd g c l) (hz : wb.heap[z]? = some (.cells (peC peZ) 50 (0, 0))) (hk : Kept (fun k => k < wb.heap.size ∧ k ≠ z) wb u) :
    SectSl u (.slice (some ⟨g, 0, none⟩) l.length c) l := by
  refine ⟨_, _, rfl, ?_, x.len⟩
  rcases x.sl with h | ⟨b, off, hb, hlt, hc⟩
  · exact .inl h
  by_cases hl : l = []
  · exact .inl hl
  injection hb with hb
  injection hb with h1 h2
  subst h1 h2
  have h0 : 0 < l.length := List.length_pos_iff.2 hl
  have hne : g ≠ z := by
    intro e
    subst e
    have k1 := hc 0 h0 0 (.string l[0].name) rfl
    rw [cell_of_row' hz, Nat.zero_add, Nat.zero_mul, peC_cell peZ (by omega)] at k1
    have k2 : peF peZ 0 = .int .u64 0 := rfl
    rw [k2] at k1
    injection k1 with k1
    cases k1
  have hbk := hk.block g ⟨x.lt, hne⟩
  refine .inr ⟨g, 0, rfl, lt_of_row' (hbk.trans (Array.getElem?_eq_getElem x.lt)), fun i hi j v hv => ?_⟩
  rw [World.cell?_of_block (a := ⟨g, _, none⟩) hbk]
  exact hc i hi j v hv
set_option maxHeartbeats 4000000 in
theorem awake12_any (w : World) : Calls Tryz.prog 12 #[] w fun e w' => e = .returned (.bool true) ∧ Below w.heap.size w w' := by
  go_enter Tryz.func12, Tryz.ntmps12
  go_wp2_with fail
  refine (made12_any w).mono ?_
  rintro e w1 ⟨g, c, F, rfl, ho, hm, hb⟩
  have hsm : SameH 1 F (overF F 1024 64 (fun _ => 0)) := SameH.over F 1024 64 _ (.inr (by omega))
  have hp := hsm.headP hm 8704 (by omega)
  have hK := hsm.headK hm 8704 (by omega)
  have hE := hsm.ok hm 8704 (by rw [at12]; exact Nat.le_refl _) (by omega) (by omega)
  have hpf := peparse_few g 0 8704 c (overF F 1024 64 (fun _ => 0)) w1 ho.rowB hE 16384 1024 (by rw [hp, hsm.size hm, rva12]; rfl) (by rw [hp, hsm.hdrs hm]; rfl) (fun _ => false) (fun i hi _ => by rw [hp]; exact (dirs_behind F _ 1024 64 i (by omega) hi).trans (hm.dirs0 i hi))
  rw [show firstE (erB false 11) (erB false 10) (erB false 9) (erB false 12) (erB false 8) (erB false 10) = 0 by rfl] at hpf
  have HBA := Lib.hid (show (readS (overF F 1024 64 (fun _ => 0)) (headP 8704 (overF F 1024 64 (fun _ => 0)))).base = 65536 by rw [hp]; exact hsm.base hm)
  have H255 := Lib.hid (over255 ho.by255 ho.by255 0 0)
  have HFF := Lib.hid (ho.by255)
  have HB1 := Lib.hid hb
  have HPF := Lib.hid hpf
  generalize overF F 1024 64 (fun _ => 0) = f at *
  clear hsm hp hK hE hpf hb ho hm H255
  go_wp2_with fail
  refine HPF.out.mono ?_
  rintro e w2 ⟨hb, hq⟩
  cases hq with
  | bad h => exact absurd rfl h
  | good h0 y cs gi W0 hk hh hi ho hW lE lI lR lT lB lD =>
    obtain ⟨wb, ⟨gh, hl⟩, hz, hkk⟩ := hk
    have hbare : Bare y := by
      obtain ⟨a, b, d⟩ := lE.now
      obtain ⟨p, q, r⟩ := lT.now
      exact ⟨a, b, d, lI.now, lD.now, lB.now, lR.now, p, q, r⟩
    have hcs : ((List.range 39).map y.hd).toArray = cs := by
      apply Array.ext
      · simp [hl.hv.size]
      · intro i h1 h2
        have h3 := hh i (by simpa using h1)
        rw [Array.getElem?_eq_getElem h2] at h3
        simpa using (Option.some.inj h3).symm
    have hsl := sect_stay hl hz hkk
    have hv := hl.hv
    have hd0 : y.hd 0 = .int .u64 65536 := by
      have h1 := hv.c0
      rw [hh 0 (by omega), HBA.out] at h1
      exact Option.some.inj h1
    rw [← hcs] at hv
    have hdb : DirBd (readS f (headP 8704 f)) := fun i hi => ⟨(rdF_bd f HFF.out 4 _).1, (rdF_bd f HFF.out 4 _).2, (rdF_bd f HFF.out 4 _).1, (rdF_bd f HFF.out 4 _).2⟩
    have hone : (peC y).all (·.oneCell') = true := by
      refine peC_one y (fun j hj => ?_) (by rw [hi]; rfl) ⟨⟨by rw [hbare.e0]; rfl, by rw [hbare.e1]; rfl, by rw [hbare.e2]; rfl⟩, by rw [hbare.im]; rfl, by rw [hbare.re]; rfl, ⟨by rw [hbare.t0]; rfl, by rw [hbare.t1]; rfl, by rw [hbare.t2]; rfl⟩, by rw [hbare.bo]; rfl, by rw [hbare.de]; rfl⟩
      have h1 := hl.hv.one rfl
      have h2 := Array.all_eq_true_iff_forall_mem.1 h1 (y.hd j) (Array.mem_of_getElem? (hh j hj))
      exact h2
    have HON := Lib.hid hone
    have HB2 := Lib.hid (HB1.out.trans (hb.mono HB1.out.size))
    have HO2 := Lib.hid ho
    have HSL := Lib.hid hsl
    have HV := Lib.hid hv
    have HDB := Lib.hid hdb
    have HBR := Lib.hid hbare
    have HI := Lib.hid hi
    have HD0 := Lib.hid hd0
    clear hl hz hkk lE lI lR lT lB lD hW hh hcs hsl hv hdb hone hbare hi hd0 ho hb h0 HB1 HPF HBA
    simp only []
    go_upto_region 2 with (refine wpList_store_row rfl 50 _ _ rfl w2.heap.size (peC y) rfl rfl 50 _ (heap_alloc_new _ _) (by rw [peC_size]; kernel_rfl) (by rw [peC_size]; rfl) HON.out ?_)
    rw [zero_pe]
    have hz3 := setRow_heap (w2.alloc (.cells (peC peZ) 50)) w2.heap.size _ (peC y) _ _ (heap_alloc_new _ _)
    have hb3 : Below w2.heap.size w2 ((w2.alloc (.cells (peC peZ) 50)).setRow w2.heap.size (peC y)) := below_setRow ((Below.refl _ w2).alloc (Nat.le_refl _) _) (Nat.le_refl _) _
    generalize (w2.alloc (.cells (peC peZ) 50)).setRow w2.heap.size (peC y) = w3 at *
    obtain ⟨P1, hP1⟩ : ∃ q, w2.heap.size = q := ⟨_, rfl⟩
    rw [hP1] at hz3 ⊢
    have HZ3 := Lib.hid hz3
    have HB23 := Lib.hid hb3
    clear hz3 hb3
    go_wp2_with fail
    refine (peparse_err (.slice none 0 0) 2 (by decide) w3 (fun W _ => hparse_nil W)).mono ?_
    rintro e w4 ⟨rfl, hb4⟩
    have HZ4 := Lib.hid ((hb4.block P1 (lt_of_row' HZ3.out)).trans HZ3.out)
    have HB24 := Lib.hid (HB23.out.trans (hb4.mono HB23.out.size))
    clear hb4 HZ3 HB23
    go_upto_region 3 with (refine wpList_store_row rfl 50 _ _ rfl w4.heap.size (peC peZ) rfl rfl 50 _ (heap_alloc_new _ _) (by rw [peC_size]; kernel_rfl) (by rw [peC_size]; rfl) peZ_one ?_)
    rw [zero_pe]
    have hb5 : Below w4.heap.size w4 ((w4.alloc (.cells (peC peZ) 50)).setRow w4.heap.size (peC peZ)) := below_setRow ((Below.refl _ w4).alloc (Nat.le_refl _) _) (Nat.le_refl _) _
    generalize (w4.alloc (.cells (peC peZ) 50)).setRow w4.heap.size (peC peZ) = w5 at *
    have HZ5 := Lib.hid ((hb5.block P1 (lt_of_row' HZ4.out)).trans HZ4.out)
    have HB25 := Lib.hid (HB24.out.trans (hb5.mono HB24.out.size))
    clear hb5 HZ4 HB24
    generalize w4.heap.size = P2 at *
    have k0 : w5.cell? ⟨P1, 0, none⟩ = some (.int .u64 65536) := by rw [cell_of_row' HZ5.out, peC_cell y (by omega), peF_hd y (by omega), HD0.out]
    have k39 : w5.cell? ⟨P1, 39, none⟩ = some (.slice (some ⟨gi, 0, none⟩) 16384 16384) := by rw [cell_of_row' HZ5.out, peC_cell y (by omega)]; exact congrArg some HI.out
    have k43 : w5.cell? ⟨P1, 43, none⟩ = some (.slice none 0 0) := by rw [cell_of_row' HZ5.out, peC_cell y (by omega)]; exact congrArg some HBR.out.im
    have HSA := Lib.hid (pesame_bare y HBR.out _ _ _ w5 HV.out (by
      obtain ⟨A, c, k1, k2, k3⟩ := HSL.out
      exact ⟨A, c, k1, k2.below HB25.out, k3⟩) HDB.out gi 16384 16384 _ HI.out (HO2.out.below HB25.out).rowB)
    go_wp2_with (first
      | (refine wpList_load_row_g (by rfl) 50 _ rfl P1 rfl 50 (peC y) (0, 0) _ HZ5.out Tryz.underlying50 rfl (by rw [peC_size]; kernel_rfl) ?_)
      | fail)
    refine HSA.out.mono ?_
    rintro e w6 ⟨rfl, hb6⟩
    have HZ6 := Lib.hid ((hb6.block P1 (lt_of_row' HZ5.out)).trans HZ5.out)
    have HB26 := Lib.hid (HB25.out.trans (hb6.mono HB25.out.size))
    clear hb6 HSA k0 k39 k43
    go_wp2_with (first
      | (refine wpList_load_row_g (by rfl) 50 _ rfl P1 rfl 50 (peC y) (0, 0) _ HZ6.out Tryz.underlying50 rfl (by rw [peC_size]; kernel_rfl) ?_)
      | fail)
    refine (needs_bare y HBR.out w6).mono ?_
    rintro e w7 ⟨⟨A, c', rfl⟩, hb7⟩
    go_wp2_with fail
    go_ret
    exact ⟨rfl, HB2.out.trans ((HB26.out.trans (hb7.mono HB26.out.size)).mono HB2.out.size)⟩
end Go.Proofs.YtplgdpjbkdagfaaGreat
