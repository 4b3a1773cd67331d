/- law 12: Made, of no parts. · PeFirst: the walk. · slices.Equal at rows of small structs (written by wip/mkeq.py). · package pe: Same of an image and itself; what small rows are. · package pe: Same of an image of no directories and itself; Needs of it. · law 12: awake; PeFirst. -/
import Derived.Test.YtplgdpjbkdagfaaGreatMgG
import Derived.Test.YtplgdpjbkdagfaaGreatMade
import Derived.Test.YtplgdpjbkdagfaaGreatMgH
import Derived.Test.YtplgdpjbkdagfaaGreatRegK
import Derived.Deep.Cut
import Derived.Test.YtplgdpjbkdagfaaGreatMask
import Derived.Test.YtplgdpjbkdagfaaGreatOwnT
import Derived.Deep.DeepFit
import Derived.Test.YtplgdpjbkdagfaaGreatShelf
import Derived.Test.YtplgdpjbkdagfaaGreatMgF
namespace Go.Proofs.YtplgdpjbkdagfaaGreat
open Go.ChangeShapes Go.WideShapes Go.ChangeAt Go.RowKit
set_option linter.unusedVariables false
set_option linter.unusedSimpArgs false
set_option maxRecDepth 100000

/-- Parts that are none. -/
def noParts : Value := .agg #[.int .i64 0, .slice none 0 0, .slice none 0 0, .slice none 0 0, .slice none 0 0, .slice none 0 0, .slice none 0 0, .int .i64 0, .slice none 0 0]

theorem head12 {w : World} {n : Nat} {f F : Nat → Int} {v : Value} (h : HeadQ w n f v) (x : MadeP L12 1 F) (hs : SameH 1 F f) (hn : 8704 ≤ n) :
    ∃ cs b off c, v = .tuple #[.agg cs, .int .i64 0] ∧ cs.size = 39 ∧ cs.all (·.oneCell') = true ∧ cs[38]? = some (.slice (some ⟨b, off, none⟩) 1 c) ∧ b < w.heap.size ∧ w.cell? ⟨b, off + 4, none⟩ = some (.int .i64 1024) := by
  have h0 := hs.ok x n (by rw [at12]; exact hn) (by omega) (by omega)
  have hp := hs.headP x n (by omega)
  have hk := hs.headK x n (by omega)
  obtain ⟨cs, hv, ⟨k, _⟩ | ⟨_, sv, h1, A, c, rfl, h3, _⟩⟩ := h
  · exact absurd h0 k
  rw [h0] at hv
  rw [hp, hk] at h1 h3
  rw [show 64 + 264 = 328 by rfl, hs.sects] at h1 h3
  have hl : (sectsS F 328 1) = [sectS F 328] := rfl
  have hse := x.all.sect (i := 0) (by omega)
  rw [show 328 + 40 * 0 = 328 by rfl] at hse
  rw [hl] at h1 h3
  rcases h3 with h3 | ⟨b, off, rfl, hlt, hc⟩
  · simp at h3
  have hq := hc 0 (by simp) 4 (.int .i64 1024) (by
    show (sectS F 328).cells[4]? = _
    rw [hse]; rfl)
  exact ⟨cs, b, off, c, hv, h1.size, h1.one rfl, h1.c38, hlt, by rw [show off + 4 = off + (0 * 6 + 4) by omega]; exact hq⟩

set_option maxHeartbeats 4000000 in
theorem made12_any (w : World) : Calls Tryz.prog 8 #[noParts, .int .i64 15] w fun e u =>
    ∃ g c F, e = .returned (.slice (some ⟨g, 0, none⟩) 8704 c) ∧ OwnC u w.heap.size g 8704 c (overF F 1024 64 (fun _ => 0)) ∧ MadeP L12 1 F ∧ Below w.heap.size w u := by
  unfold noParts
  go_enter Tryz.func8, Tryz.ntmps8
  go_wp2_with fail
  --M1
  have hb0 : Below w.heap.size w ((w.alloc (.cells #[.int .i64 0, .slice none 0 0, .slice none 0 0, .slice none 0 0, .slice none 0 0, .slice none 0 0, .slice none 0 0, .int .i64 0, .slice none 0 0] 32)).alloc (.cells #[.int .i64 12287, .int .i64 8191, .int .i64 7] 88)) := ((Below.refl w.heap.size w).alloc (Nat.le_refl _) _).alloc (by simp) _
  have hs0 : SlT tripC 3 ((w.alloc (.cells #[.int .i64 0, .slice none 0 0, .slice none 0 0, .slice none 0 0, .slice none 0 0, .slice none 0 0, .slice none 0 0, .int .i64 0, .slice none 0 0] 32)).alloc (.cells #[.int .i64 12287, .int .i64 8191, .int .i64 7] 88)) (some ⟨w.heap.size + 1, 0, none⟩) [(12287, 8191, 7)] := by
    refine .inr ⟨w.heap.size + 1, 0, rfl, by simp, fun i hi j v hv => ?_⟩
    obtain rfl : i = 0 := by simp at hi; exact hi
    have hz := heap_alloc_new (w.alloc (.cells #[.int .i64 0, .slice none 0 0, .slice none 0 0, .slice none 0 0, .slice none 0 0, .slice none 0 0, .slice none 0 0, .int .i64 0, .slice none 0 0] 32)) (.cells #[.int .i64 12287, .int .i64 8191, .int .i64 7] 88)
    rw [show (w.alloc (.cells #[.int .i64 0, .slice none 0 0, .slice none 0 0, .slice none 0 0, .slice none 0 0, .slice none 0 0, .slice none 0 0, .int .i64 0, .slice none 0 0] 32)).heap.size = w.heap.size + 1 by simp] at hz
    rw [cell_of_row' hz]
    rw [show 0 + (0 * 3 + j) = j by omega]
    simpa [tripC] using hv
  have HP0 := Lib.hid (show ((w.alloc (.cells #[.int .i64 0, .slice none 0 0, .slice none 0 0, .slice none 0 0, .slice none 0 0, .slice none 0 0, .slice none 0 0, .int .i64 0, .slice none 0 0] 32)).alloc (.cells #[.int .i64 12287, .int .i64 8191, .int .i64 7] 88)).cell? ⟨w.heap.size, 0, none⟩ = some (.int .i64 0) from by
    rw [cell_of_row' ((((Below.refl _ _).alloc (Nat.le_refl _) _).block w.heap.size (by simp)).trans (heap_alloc_new w _))]; rfl)
  have hw1 : w.heap.size < ((w.alloc (.cells #[.int .i64 0, .slice none 0 0, .slice none 0 0, .slice none 0 0, .slice none 0 0, .slice none 0 0, .slice none 0 0, .int .i64 0, .slice none 0 0] 32)).alloc (.cells #[.int .i64 12287, .int .i64 8191, .int .i64 7] 88)).heap.size := by simp; omega
  generalize ((w.alloc (.cells #[.int .i64 0, .slice none 0 0, .slice none 0 0, .slice none 0 0, .slice none 0 0, .slice none 0 0, .slice none 0 0, .int .i64 0, .slice none 0 0] 32)).alloc (.cells #[.int .i64 12287, .int .i64 8191, .int .i64 7] 88)) = w1 at *
  have HB0 := Lib.hid hb0
  refine (made_any (some ⟨w.heap.size + 1, 0, none⟩) [(12287, 8191, 7)] 1 L12 (fun i => by rcases i with _ | i; exact .inl rfl; exact .inr (by simp)) w1 (by simp) hs0).mono ?_
  rintro e w2 ⟨g, c, F, rfl, ho, hm, hb⟩
  rw [show min [((12287, 8191, 7) : Trip)].length 6 = 1 by rfl] at ho hm ⊢
  rw [at12] at ho ⊢
  have HO2 := Lib.hid (ho.weaken (base' := w.heap.size) hb0.size)
  have HM := Lib.hid hm
  have HB2 := Lib.hid (HB0.out.trans (hb.mono HB0.out.size))
  have HP2 := Lib.hid ((hb.cell (p := ⟨w.heap.size, 0, none⟩) hw1).trans HP0.out)
  have HL2 := Lib.hid (show w.heap.size < w2.heap.size by have := hb.size; omega)
  have hcv := run_str (cap := c) ho.row
  have HSM := Lib.hid (show SameH 1 F (PlainAid.bt (strF F 0 8704)) from fun q h1 h2 => by rw [bt_strF ho.by255 (by omega), Nat.zero_add])
  have HSZ := Lib.hid (strF_size F 0 8704)
  generalize strF F 0 8704 = S at hcv HSM HSZ
  clear hs0 hb0 HP0 hb ho hm HB0 hw1
  --M2
  go_wp2_with fail
  refine (rhead_any S w2 (by rw [HSZ.out]; omega)).mono ?_
  rintro e w3 ⟨⟨v, rfl, hq⟩, hb⟩
  obtain ⟨cs, bs, off, c3, rfl, hz, hone, h38, hlt, hat⟩ := head12 hq HM.out HSM.out (Nat.le_of_eq HSZ.out.symm)
  have HO3 := Lib.hid (HO2.out.below hb)
  have HB3 := Lib.hid (HB2.out.trans (hb.mono HB2.out.size))
  have HP3 := Lib.hid ((hb.cell (p := ⟨w.heap.size, 0, none⟩) HL2.out).trans HP2.out)
  have HL3 := Lib.hid (show w.heap.size < w3.heap.size by have := hb.size; have := HL2.out; omega)
  have HAT := Lib.hid (And.intro hlt hat)
  have H38 := Lib.hid h38
  clear hq hb HO2 HB2 HP2 HSM HSZ hcv h38 hlt hat HL2
  --M3
  go_upto_region 3 with (refine wpList_store_row rfl 41 _ _ rfl w3.heap.size cs rfl rfl 41 _ (heap_alloc_new _ _) (by rw [hz]; rfl) (by rw [hz]; rfl) hone ?_)
  rw [zero_head]
  have hg4 := setRow_heap (w3.alloc (.cells (headC 0 0 0 0 0 0) 41)) w3.heap.size _ cs _ _ (heap_alloc_new _ _)
  have hb34 : Below w3.heap.size w3 ((w3.alloc (.cells (headC 0 0 0 0 0 0) 41)).setRow w3.heap.size cs) := below_setRow ((Below.refl _ w3).alloc (Nat.le_refl _) _) (Nat.le_refl _) _
  have HO4 := Lib.hid (HO3.out.below hb34)
  have HB4 := Lib.hid (HB3.out.trans (hb34.mono HB3.out.size))
  have HP4 := Lib.hid ((hb34.cell (p := ⟨w.heap.size, 0, none⟩) HL3.out).trans HP3.out)
  have HAT4 := Lib.hid ((hb34.cell (p := ⟨bs, off + 4, none⟩) HAT.out.1).trans HAT.out.2)
  have HL4 := Lib.hid (show bs < w3.heap.size ∧ w3.heap.size < ((w3.alloc (.cells (headC 0 0 0 0 0 0) 41)).setRow w3.heap.size cs).heap.size from ⟨HAT.out.1, lt_of_row' hg4⟩)
  have k38 := (cell_of_row _ _ 38 _ _ _ hg4).trans H38.out
  clear hb34 HO3 HB3 HP3 HAT H38 hz hone hg4
  generalize (w3.alloc (.cells (headC 0 0 0 0 0 0) 41)).setRow w3.heap.size cs = w4 at *
  generalize w3.heap.size = G at *
  --M4
  go_wp2_with (at_make; refine wpList_makeC rfl _ _ rfl w4.heap.size .i64 .i64 4160 rfl rfl (by omega) (Nat.le_refl _) ?_; intro w5 ho hb hs; have HA5 := Lib.hid ho; have HB45 := Lib.hid hb; clear ho hb hs)
  have HO5 := Lib.hid (HO4.out.below HB45.out)
  have HB5 := Lib.hid (HB4.out.trans (HB45.out.mono HB4.out.size))
  have p5 := (HB45.out.cell (p := ⟨w.heap.size, 0, none⟩) (by have := HL3.out; have := HL4.out; show w.heap.size < w4.heap.size; omega)).trans HP4.out
  have K38 := Lib.hid ((HB45.out.cell (p := ⟨G, 38, none⟩) HL4.out.2).trans k38)
  have KAT := Lib.hid ((HB45.out.cell (p := ⟨bs, off + 4, none⟩) (by have := HL4.out; show bs < w4.heap.size; omega)).trans HAT4.out)
  have KL := Lib.hid (show bs < w5.heap.size ∧ G < w5.heap.size from by have := HL4.out; have := HB45.out.size; omega)
  clear k38 HO4 HB4 HP4 HAT4 HL4 HL3
  --M5
  obtain ⟨GA, hGA⟩ : ∃ q, w4.heap.size = q := ⟨_, rfl⟩
  rw [hGA] at HA5 ⊢
  go_loopw [5, 8, 9] (fun v5 v8 v9 wr => ∃ i : Nat, i ≤ 6 ∧ v9 = .int .i64 i ∧ v5 = .slice (some ⟨g, 0, none⟩) 8704 c ∧ v8 = .slice (some ⟨GA, 0, none⟩) 4160 4160 ∧ wr = w5) (fun _ _ v9 _ => 6 - (intOf v9).toNat)
  case atStart => exact ⟨0, by omega, rfl, rfl, rfl, rfl⟩
  case round =>
    obtain ⟨i, hi, rfl, rfl, rfl, rfl⟩ := hrel
    rcases (by omega : i = 6 ∨ i = 0 ∨ i = 1 ∨ i = 2 ∨ i = 3 ∨ i = 4 ∨ i = 5) with rfl | rfl | rfl | rfl | rfl | rfl | rfl
    · --M6
      go_upto_region 31 with fail
      have HRA := Lib.hid (show RowB wr GA 4096 64 64 (fun _ => 0) from ⟨fun j hj => by have := HA5.out.row (4096 + j) (by omega); rw [Nat.zero_add] at this; exact this, fun _ => by omega, HA5.out.lt, by omega, by omega⟩)
      have HOV := Lib.hid (fun W (hW : Below wr.heap.size wr W) => over_any g 0 8704 c F 1024 GA 4096 64 64 (fun _ => 0) W (HO5.out.below hW).rowB (HRA.out.below hW) (by omega) (by omega) (by omega))
      have HS := Lib.hid (show Below wr.heap.size wr wr.drew from (Below.refl _ _).drew)
      refine wp_region_noPanic ?_
      refine wp_region_K (fun W => Below wr.heap.size wr W) (fun _ => True) 99 (by kernel_rfl) ?_
      refine wpAnyK_take (i := 0) (oi := ?_) (v := ?_) ?_ (by kernel_rfl) (by kernel_rfl) (by kernel_rfl) (fun _ _ _ h => h) (by decide) ?_ HS.out (fun _ => trivial) ?_
      rotate_left 2
      · (simp only [List.getElem?_toArray, List.getElem?_cons_succ, List.getElem?_cons_zero]; rfl)
      · (first | exact Or.inr ⟨by rfl, rfl⟩ | (refine Or.inl ⟨by rfl, ?_⟩; intro W hSw; clear hSw; go_simp; try with_reducible rfl))
      try simp only [Act.put, List.setIfInBounds_toArray, List.set_cons_zero, List.set_cons_succ]
      refine wpAnyK_take (i := 1) (oi := ?_) (v := ?_) ?_ (by kernel_rfl) (by kernel_rfl) (by kernel_rfl) (fun _ _ _ h => h) (by decide) ?_ HS.out (fun _ => trivial) ?_
      rotate_left 2
      · (simp only [List.getElem?_toArray, List.getElem?_cons_succ, List.getElem?_cons_zero]; rfl)
      · (first | exact Or.inr ⟨by rfl, rfl⟩ | (refine Or.inl ⟨by rfl, ?_⟩; intro W hSw; clear hSw; go_simp; try with_reducible rfl))
      try simp only [Act.put, List.setIfInBounds_toArray, List.set_cons_zero, List.set_cons_succ]
      refine wpAnyK_take (i := 2) (oi := ?_) (v := ?_) ?_ (by kernel_rfl) (by kernel_rfl) (by kernel_rfl) (fun _ _ _ h => h) (by decide) ?_ HS.out (fun _ => trivial) ?_
      rotate_left 2
      · (simp only [List.getElem?_toArray, List.getElem?_cons_succ, List.getElem?_cons_zero]; rfl)
      · (first | exact Or.inr ⟨by rfl, rfl⟩ | (refine Or.inl ⟨by rfl, ?_⟩; intro W hSw; have hk := (hSw.cell (p := ⟨G, 38, none⟩) KL.out.2).trans K38.out; clear hSw; go_simp; try with_reducible rfl))
      try simp only [Act.put, List.setIfInBounds_toArray, List.set_cons_zero, List.set_cons_succ]
      refine wpAnyK_take (i := 3) (oi := ?_) (v := ?_) ?_ (by kernel_rfl) (by kernel_rfl) (by kernel_rfl) (fun _ _ _ h => h) (by decide) ?_ HS.out (fun _ => trivial) ?_
      rotate_left 2
      · (simp only [List.getElem?_toArray, List.getElem?_cons_succ, List.getElem?_cons_zero]; rfl)
      · (first | exact Or.inr ⟨by rfl, rfl⟩ | (refine Or.inl ⟨by rfl, ?_⟩; intro W hSw; clear hSw; go_simp; try with_reducible rfl))
      try simp only [Act.put, List.setIfInBounds_toArray, List.set_cons_zero, List.set_cons_succ]
      refine wpAnyK_take (i := 4) (oi := ?_) (v := ?_) ?_ (by kernel_rfl) (by kernel_rfl) (by kernel_rfl) (fun _ _ _ h => h) (by decide) ?_ HS.out (fun _ => trivial) ?_
      rotate_left 2
      · (simp only [List.getElem?_toArray, List.getElem?_cons_succ, List.getElem?_cons_zero]; rfl)
      · (first | exact Or.inr ⟨by rfl, rfl⟩ | (refine Or.inl ⟨by rfl, ?_⟩; intro W hSw; clear hSw; go_simp; try with_reducible rfl))
      try simp only [Act.put, List.setIfInBounds_toArray, List.set_cons_zero, List.set_cons_succ]
      refine wpAnyK_take (i := 5) (oi := ?_) (v := ?_) ?_ (by kernel_rfl) (by kernel_rfl) (by kernel_rfl) (fun _ _ _ h => h) (by decide) ?_ HS.out (fun _ => trivial) ?_
      rotate_left 2
      · (simp only [List.getElem?_toArray, List.getElem?_cons_succ, List.getElem?_cons_zero]; rfl)
      · (first | exact Or.inr ⟨by rfl, rfl⟩ | (refine Or.inl ⟨by rfl, ?_⟩; intro W hSw; have hk := (hSw.cell (p := ⟨bs, off + 4, none⟩) KL.out.1).trans KAT.out; clear hSw; go_simp; try with_reducible rfl))
      try simp only [Act.put, List.setIfInBounds_toArray, List.set_cons_zero, List.set_cons_succ]
      refine wpAnyK_take (i := 6) (oi := ?_) (v := ?_) ?_ (by kernel_rfl) (by kernel_rfl) (by kernel_rfl) (fun _ _ _ h => h) (by decide) ?_ HS.out (fun _ => trivial) ?_
      rotate_left 2
      · (simp only [List.getElem?_toArray, List.getElem?_cons_succ, List.getElem?_cons_zero]; rfl)
      · (first | exact Or.inr ⟨by rfl, rfl⟩ | (refine Or.inl ⟨by rfl, ?_⟩; intro W hSw; clear hSw; go_simp; try with_reducible rfl))
      try simp only [Act.put, List.setIfInBounds_toArray, List.set_cons_zero, List.set_cons_succ]
      refine wpAnyK_take (i := 7) (oi := ?_) (v := ?_) ?_ (by kernel_rfl) (by kernel_rfl) (by kernel_rfl) (fun _ _ _ h => h) (by decide) ?_ HS.out (fun _ => trivial) ?_
      rotate_left 2
      · (simp only [List.getElem?_toArray, List.getElem?_cons_succ, List.getElem?_cons_zero]; rfl)
      · (first | exact Or.inr ⟨by rfl, rfl⟩ | (refine Or.inl ⟨by rfl, ?_⟩; intro W hSw; clear hSw; go_simp; try with_reducible rfl))
      try simp only [Act.put, List.setIfInBounds_toArray, List.set_cons_zero, List.set_cons_succ]
      refine wpAnyK_one (i := 8) (o := ?_) (by kernel_rfl) ?_ (fun K hK => ?_)
      rotate_left 1
      · (simp only [List.getElem?_toArray, List.getElem?_cons_succ, List.getElem?_cons_zero]; rfl)
      go_simp
      go_at_call 9
      refine (HOV.out _ HS.out).mono ?_
      rintro e w6 ⟨g6, c6, rfl, ho, hb⟩
      have HS2 := Lib.hid (HS.out.trans (hb.mono HS.out.size))
      have HO6 := Lib.hid ho
      refine hK.out _ _ HS2.out (fun _ => trivial) ?_
      clear hK K
      try simp only [Act.put, List.setIfInBounds_toArray, List.set_cons_zero, List.set_cons_succ]
      refine wpAnyK_take (i := 9) (oi := ?_) (v := ?_) ?_ (by kernel_rfl) (by kernel_rfl) (by kernel_rfl) (fun _ _ _ h => h) (by decide) ?_ HS2.out (fun _ => trivial) ?_
      rotate_left 2
      · (simp only [List.getElem?_toArray, List.getElem?_cons_succ, List.getElem?_cons_zero]; rfl)
      · (first | exact Or.inr ⟨by rfl, rfl⟩ | (refine Or.inl ⟨by rfl, ?_⟩; intro W hSw; clear hSw; go_simp; try with_reducible rfl))
      try simp only [Act.put, List.setIfInBounds_toArray, List.set_cons_zero, List.set_cons_succ]
      refine wpAnyK_done (by kernel_rfl) ?_ _
      refine NoPanic.normal ?_
      go_wp2_with fail
      go_ret
      exact ⟨g6, c6, F, rfl, HO6.out.weaken (by have := HB5.out.size; have := HS.out.size; omega), HM.out, HB5.out.trans (HS2.out.mono HB5.out.size)⟩
    all_goals
      --M7
      go_wp2_with fail
      go_roundw
      case rel => exact ⟨_, by decide, rfl, rfl, rfl, by first | trivial | rfl⟩
      case measure => simp [intOf]
end Go.Proofs.YtplgdpjbkdagfaaGreat
namespace Go.Proofs.YtplgdpjbkdagfaaGreat
open Go.ChangeShapes Go.WideShapes Go.ChangeAt Go.RowKit
set_option linter.unusedVariables false
set_option linter.unusedSimpArgs false
set_option maxRecDepth 100000

theorem ord_row (w : World) (t : TypeId) (k : Nat) (hk : k < 6) : (w.alloc (.cells #[.int .i64 0, .int .i64 1, .int .i64 5, .int .i64 9, .int .i64 11, .int .i64 13] t)).cell? ⟨w.heap.size, k, none⟩ = some (.int .i64 (ordN k)) := by
  rw [cell_of_row _ _ _ _ _ _ (heap_alloc_new w _)]
  rcases (by omega : k = 0 ∨ k = 1 ∨ k = 2 ∨ k = 3 ∨ k = 4 ∨ k = 5) with rfl | rfl | rfl | rfl | rfl | rfl <;> rfl
theorem err_row (w : World) (t : TypeId) (k : Nat) (hk : k < 6) : (w.alloc (.cells #[.int .i64 11, .int .i64 10, .int .i64 9, .int .i64 12, .int .i64 8, .int .i64 10] t)).cell? ⟨w.heap.size, k, none⟩ = some (.int .i64 (errN k)) := by
  rw [cell_of_row _ _ _ _ _ _ (heap_alloc_new w _)]
  rcases (by omega : k = 0 ∨ k = 1 ∨ k = 2 ∨ k = 3 ∨ k = 4 ∨ k = 5) with rfl | rfl | rfl | rfl | rfl | rfl <;> rfl

set_option maxHeartbeats 4000000 in
theorem first_core (hA : ∀ w, Calls Tryz.prog 12 #[] w fun e w' => e = .returned (.bool true) ∧ Below w.heap.size w w') (a b : Int) (w : World) :
    Calls Tryz.prog 3 #[.int .i64 a, .int .i64 b] w fun e w' => e = .returned (.bool true) ∧ Below w.heap.size w w' := by
  have HAW := Lib.hid hA
  clear hA
  have ma : bits .and .i64 a 255 = a % 256 := i64_mask a 8 (by omega)
  have mb : bits .and .i64 b 255 = b % 256 := i64_mask b 8 (by omega)
  obtain ⟨A, hAe⟩ : ∃ A : Nat, (a % 256) % 6 = A := ⟨((a % 256) % 6).toNat, by omega⟩
  obtain ⟨B, hBe⟩ : ∃ B : Nat, (b % 256) % 6 = B := ⟨((b % 256) % 6).toNat, by omega⟩
  have ta : (a % 256).tmod 6 = A := by rw [Int.tmod_eq_emod_of_nonneg (by omega)]; exact hAe
  have tb : (b % 256).tmod 6 = B := by rw [Int.tmod_eq_emod_of_nonneg (by omega)]; exact hBe
  have HAB := Lib.hid (show A < 6 ∧ B < 6 by omega)
  clear hAe hBe
  go_enter Tryz.func3, Tryz.ntmps3
  go_wp2_with fail
  have hb0 : Below w.heap.size w ((w.alloc (.cells #[.int .i64 0, .int .i64 1, .int .i64 5, .int .i64 9, .int .i64 11, .int .i64 13] 3)).alloc (.cells #[.int .i64 11, .int .i64 10, .int .i64 9, .int .i64 12, .int .i64 8, .int .i64 10] 23)) := ((Below.refl w.heap.size w).alloc (Nat.le_refl _) _).alloc (by simp) _
  have hs0 : (w.alloc (.cells #[.int .i64 0, .int .i64 1, .int .i64 5, .int .i64 9, .int .i64 11, .int .i64 13] 3)).heap.size = w.heap.size + 1 := by simp
  have ORD0 := Lib.hid (fun (k : Nat) (hk : k < 6) => ((((Below.refl (w.alloc (.cells #[.int .i64 0, .int .i64 1, .int .i64 5, .int .i64 9, .int .i64 11, .int .i64 13] 3)).heap.size (w.alloc (.cells #[.int .i64 0, .int .i64 1, .int .i64 5, .int .i64 9, .int .i64 11, .int .i64 13] 3))).alloc (Nat.le_refl _) (.cells #[.int .i64 11, .int .i64 10, .int .i64 9, .int .i64 12, .int .i64 8, .int .i64 10] 23)).cell (p := ⟨w.heap.size, k, none⟩) (by rw [hs0]; show w.heap.size < w.heap.size + 1; omega)).trans (ord_row w 3 k hk)))
  have ERR0 := Lib.hid (fun (k : Nat) (hk : k < 6) => err_row (w.alloc (.cells #[.int .i64 0, .int .i64 1, .int .i64 5, .int .i64 9, .int .i64 11, .int .i64 13] 3)) 23 k hk)
  rw [hs0] at ERR0
  have hl0 : w.heap.size + 1 < ((w.alloc (.cells #[.int .i64 0, .int .i64 1, .int .i64 5, .int .i64 9, .int .i64 11, .int .i64 13] 3)).alloc (.cells #[.int .i64 11, .int .i64 10, .int .i64 9, .int .i64 12, .int .i64 8, .int .i64 10] 23)).heap.size := by simp
  generalize ((w.alloc (.cells #[.int .i64 0, .int .i64 1, .int .i64 5, .int .i64 9, .int .i64 11, .int .i64 13] 3)).alloc (.cells #[.int .i64 11, .int .i64 10, .int .i64 9, .int .i64 12, .int .i64 8, .int .i64 10] 23)) = w0 at *
  have HB0 := Lib.hid hb0
  have HL0 := Lib.hid hl0
  clear hb0 hl0 hs0
  refine (made12_any w0).mono ?_
  rintro e w1 ⟨g, c, F, rfl, ho, hm, hb⟩
  have HSM := Lib.hid (show SameH 1 F (overF F 1024 64 (fun _ => 0)) from SameH.over F 1024 64 _ (.inr (by omega)))
  have HD0 := Lib.hid (show ∀ i, i < 16 → (readS (overF F 1024 64 (fun _ => 0)) 64).dirs i = (0, 0) from fun i hi => (dirs_behind F _ 1024 64 i (by omega) hi).trans (hm.dirs0 i hi))
  have HM := Lib.hid hm
  have HO1 := Lib.hid (ho.weaken (base' := w.heap.size) HB0.out.size)
  have HB1 := Lib.hid (HB0.out.trans (hb.mono HB0.out.size))
  have ORD := Lib.hid (fun (k : Nat) (hk : k < 6) => (hb.cell (p := ⟨w.heap.size, k, none⟩) (by have := HL0.out; show w.heap.size < w0.heap.size; omega)).trans (ORD0.out k hk))
  have ERR := Lib.hid (fun (k : Nat) (hk : k < 6) => (hb.cell (p := ⟨w.heap.size + 1, k, none⟩) HL0.out).trans (ERR0.out k hk))
  have HL1 := Lib.hid (show w.heap.size + 1 < w1.heap.size by have := HL0.out; have := hb.size; omega)
  generalize overF F 1024 64 (fun _ => 0) = F0 at *
  clear hm ho hb ORD0 ERR0 HL0 HB0
  --M1
  go_wp2_with fail
  go_loopw [7, 8] (fun v7 v8 wr => ∃ (i g' c' : Nat), i ≤ 2 ∧ v8 = .int .i64 i ∧ v7 = .slice (some ⟨g', 0, none⟩) 8704 c' ∧ OwnC wr w.heap.size g' 8704 c' (twoF F0 A B i) ∧ Below w1.heap.size w1 wr) (fun _ v8 _ => 2 - (intOf v8).toNat)
  case atStart => exact ⟨0, g, c, by omega, rfl, rfl, HO1.out, Below.refl _ _⟩
  case round =>
    obtain ⟨i, g', c', hi, rfl, rfl, ho, hb⟩ := hrel
    have HO := Lib.hid ho
    have HB := Lib.hid hb
    clear ho hb HO1
    by_cases hlt : i < 2
    · obtain ⟨kn, hK⟩ : ∃ kn, kn = (if i = 0 then A else B) := ⟨_, rfl⟩
      have hK6 : kn < 6 := by have := HAB.out; rw [hK]; split <;> omega
      have HNX := Lib.hid (twoF_succ F0 A B i kn hlt hK)
      have hOB := ordN_lt kn hK6
      have HOK := Lib.hid (ORD.out kn hK6)
      obtain ⟨oK, hoK⟩ : ∃ q, ordN kn = q := ⟨_, rfl⟩
      rw [hoK] at HNX hOB HOK
      have HK6 := Lib.hid hK6
      have q1 : IntKind.i64.wrap (8 * (oK : Int)) = 8 * (oK : Int) := by rw [IntKind.wrap_i64]; omega
      have q2 : IntKind.i64.wrap (200 + 8 * (oK : Int)) = 200 + 8 * (oK : Int) := by rw [IntKind.wrap_i64]; omega
      have hKI : (kn : Int) < 6 := by omega
      have HOB := Lib.hid hOB
      clear hoK hOB
      rcases (by omega : i = 0 ∨ i = 1) with rfl | rfl
      · simp only [if_pos, if_neg (show ¬ (1 : Nat) = 0 by omega)] at hK
        subst hK
        clear hK6
        go_upto_region 9 with fail
        generalize hW2 : wr.alloc _ = w2
        have hb2 : Below wr.heap.size wr w2 := by rw [← hW2]; exact (Below.refl _ _).alloc (Nat.le_refl _) _
        clear hW2
        have HO2 := Lib.hid (HO.out.below hb2)
        have HB2 := Lib.hid (HB.out.trans (hb2.mono HB.out.size))
        have HOK2 := Lib.hid ((HB2.out.cell (p := ⟨w.heap.size, kn, none⟩) (by have := HL1.out; show w.heap.size < w1.heap.size; omega)).trans HOK.out)
        have HL2 := Lib.hid (show w.heap.size < w2.heap.size by have := HL1.out; have := HB2.out.size; omega)
        clear hb2
        --M2
        obtain ⟨Z, HZZ0⟩ : ∃ q, w2.heap.size = q := ⟨_, rfl⟩
        have HS := Lib.hid (show Below Z w2 w2.drew from by rw [← HZZ0]; exact (Below.refl _ _).drew)
        have HZZ := Lib.hid HZZ0
        clear HZZ0
        refine wp_region_noPanic ?_
        refine wp_region_K (fun W => Below Z w2 W) (fun _ => True) 99 (by kernel_rfl) ?_
        have HLZ := Lib.hid (show w.heap.size < Z by rw [← HZZ.out]; exact HL2.out)
        have HZL := Lib.hid (fun W (h : Below Z w2 W) => (show Z ≤ W.heap.size by have := h.size; rw [HZZ.out] at this; exact this))
        have HZB := Lib.hid (fun W (h : Below Z w2 W) => (show Below w2.heap.size w2 W by rw [HZZ.out]; exact h))
        refine wpAnyK_take (i := 0) (oi := ?_) (v := ?_) ?_ (by kernel_rfl) (by kernel_rfl) (by kernel_rfl) (fun _ _ _ h => h) (by decide) ?_ HS.out (fun _ => trivial) ?_
        rotate_left 2
        · (simp only [List.getElem?_toArray, List.getElem?_cons_succ, List.getElem?_cons_zero]; rfl)
        · (first | exact Or.inr ⟨by rfl, rfl⟩ | (refine Or.inl ⟨by rfl, ?_⟩; intro W hSw; clear hSw; go_simp; try with_reducible rfl))
        try simp only [Act.put, List.setIfInBounds_toArray, List.set_cons_zero, List.set_cons_succ]
        refine wpAnyK_take (i := 1) (oi := ?_) (v := ?_) ?_ (by kernel_rfl) (by kernel_rfl) (by kernel_rfl) (fun _ _ _ h => h) (by decide) ?_ HS.out (fun _ => trivial) ?_
        rotate_left 2
        · (simp only [List.getElem?_toArray, List.getElem?_cons_succ, List.getElem?_cons_zero]; rfl)
        · (first | exact Or.inr ⟨by rfl, rfl⟩ | (refine Or.inl ⟨by rfl, ?_⟩; intro W hSw; clear hSw; go_simp; try with_reducible rfl))
        try simp only [Act.put, List.setIfInBounds_toArray, List.set_cons_zero, List.set_cons_succ]
        refine wpAnyK_take (i := 2) (oi := ?_) (v := ?_) ?_ (by kernel_rfl) (by kernel_rfl) (by kernel_rfl) (fun _ _ _ h => h) (by decide) ?_ HS.out (fun _ => trivial) ?_
        rotate_left 2
        · (simp only [List.getElem?_toArray, List.getElem?_cons_succ, List.getElem?_cons_zero]; rfl)
        · (first | exact Or.inr ⟨by rfl, rfl⟩ | (refine Or.inl ⟨by rfl, ?_⟩; intro W hSw; clear hSw; go_simp; try with_reducible rfl))
        try simp only [Act.put, List.setIfInBounds_toArray, List.set_cons_zero, List.set_cons_succ]
        refine wpAnyK_take (i := 3) (oi := ?_) (v := ?_) ?_ (by kernel_rfl) (by kernel_rfl) (by kernel_rfl) (fun _ _ _ h => h) (by decide) ?_ HS.out (fun _ => trivial) ?_
        rotate_left 2
        · (simp only [List.getElem?_toArray, List.getElem?_cons_succ, List.getElem?_cons_zero]; rfl)
        · (first | exact Or.inr ⟨by rfl, rfl⟩ | (refine Or.inl ⟨by rfl, ?_⟩; intro W hSw; clear hSw; go_simp; try with_reducible rfl))
        try simp only [Act.put, List.setIfInBounds_toArray, List.set_cons_zero, List.set_cons_succ]
        refine wpAnyK_take (i := 4) (oi := ?_) (v := ?_) ?_ (by kernel_rfl) (by kernel_rfl) (by kernel_rfl) (fun _ _ _ h => h) (by decide) ?_ HS.out (fun _ => trivial) ?_
        rotate_left 2
        · (simp only [List.getElem?_toArray, List.getElem?_cons_succ, List.getElem?_cons_zero]; rfl)
        · (first | exact Or.inr ⟨by rfl, rfl⟩ | (refine Or.inl ⟨by rfl, ?_⟩; intro W hSw; have hk := (hSw.cell (p := ⟨w.heap.size, kn, none⟩) HLZ.out).trans HOK2.out; clear hSw; go_simp; try with_reducible rfl))
        try simp only [Act.put, List.setIfInBounds_toArray, List.set_cons_zero, List.set_cons_succ]
        refine wpAnyK_take (i := 5) (oi := ?_) (v := ?_) ?_ (by kernel_rfl) (by kernel_rfl) (by kernel_rfl) (fun _ _ _ h => h) (by decide) ?_ HS.out (fun _ => trivial) ?_
        rotate_left 2
        · (simp only [List.getElem?_toArray, List.getElem?_cons_succ, List.getElem?_cons_zero]; rfl)
        · (first | exact Or.inr ⟨by rfl, rfl⟩ | (refine Or.inl ⟨by rfl, ?_⟩; intro W hSw; clear hSw; go_simp; try with_reducible rfl))
        try simp only [Act.put, List.setIfInBounds_toArray, List.set_cons_zero, List.set_cons_succ]
        refine wpAnyK_take (i := 6) (oi := ?_) (v := ?_) ?_ (by kernel_rfl) (by kernel_rfl) (by kernel_rfl) (fun _ _ _ h => h) (by decide) ?_ HS.out (fun _ => trivial) ?_
        rotate_left 2
        · (simp only [List.getElem?_toArray, List.getElem?_cons_succ, List.getElem?_cons_zero]; rfl)
        · (first | exact Or.inr ⟨by rfl, rfl⟩ | (refine Or.inl ⟨by rfl, ?_⟩; intro W hSw; clear hSw; go_simp; try with_reducible rfl))
        try simp only [Act.put, List.setIfInBounds_toArray, List.set_cons_zero, List.set_cons_succ]
        refine wpAnyK_one (i := 7) (o := ?_) (by kernel_rfl) ?_ (fun K hK => ?_)
        rotate_left 1
        · (simp only [List.getElem?_toArray, List.getElem?_cons_succ, List.getElem?_cons_zero]; rfl)
        go_simp
        go_at_call 10
        refine (far_1 _).mono ?_
        rintro e w3 ⟨rfl, hw3⟩
        have HS2 := Lib.hid (HS.out.trans (hw3.mono (HZL.out _ HS.out)))
        clear hw3
        refine hK.out _ _ HS2.out (fun _ => trivial) ?_
        clear hK K
        try simp only [Act.put, List.setIfInBounds_toArray, List.set_cons_zero, List.set_cons_succ]
        refine wpAnyK_one (i := 8) (o := ?_) (by kernel_rfl) ?_ (fun K hK => ?_)
        rotate_left 1
        · (simp only [List.getElem?_toArray, List.getElem?_cons_succ, List.getElem?_cons_zero]; rfl)
        go_simp
        go_at_call 10
        refine (far_2 _).mono ?_
        rintro e w4 ⟨rfl, hw4⟩
        have HS3 := Lib.hid (HS2.out.trans (hw4.mono (HZL.out _ HS2.out)))
        clear hw4
        refine hK.out _ _ HS3.out (fun _ => trivial) ?_
        clear hK K
        try simp only [Act.put, List.setIfInBounds_toArray, List.set_cons_zero, List.set_cons_succ]
        refine wpAnyK_take (i := 9) (oi := ?_) (v := ?_) ?_ (by kernel_rfl) (by kernel_rfl) (by kernel_rfl) (fun _ _ _ h => h) (by decide) ?_ HS3.out (fun _ => trivial) ?_
        rotate_left 2
        · (simp only [List.getElem?_toArray, List.getElem?_cons_succ, List.getElem?_cons_zero]; rfl)
        · (first | exact Or.inr ⟨by rfl, rfl⟩ | (refine Or.inl ⟨by rfl, ?_⟩; intro W hSw; clear hSw; go_simp; try with_reducible rfl))
        try simp only [Act.put, List.setIfInBounds_toArray, List.set_cons_zero, List.set_cons_succ]
        obtain ⟨C9, w10, hcv, ho9, hw10⟩ := conv_own w4 ((⟨#[0, 0, 16, 0]⟩ : ByteArray) ++ ⟨#[64, 0, 0, 0]⟩) (by decide)
        rw [show ((⟨#[0, 0, 16, 0]⟩ : ByteArray) ++ ⟨#[64, 0, 0, 0]⟩).size = 8 from rfl] at hcv ho9
        rw [show ((⟨#[0, 0, 16, 0]⟩ : ByteArray) ++ ⟨#[64, 0, 0, 0]⟩) = far8 by decide +kernel] at ho9
        refine wpAnyK_one (i := 10) (o := ?_) (by kernel_rfl) ?_ (fun K hK => ?_)
        rotate_left 1
        · (simp only [List.getElem?_toArray, List.getElem?_cons_succ, List.getElem?_cons_zero]; rfl)
        go_simp
        have HS4 := Lib.hid (HS3.out.trans (hw10.mono (HZL.out _ HS3.out)))
        have HO9 := Lib.hid ho9
        clear hw10 hcv ho9
        refine hK.out _ _ HS4.out (fun _ => trivial) ?_
        clear hK K
        try simp only [Act.put, List.setIfInBounds_toArray, List.set_cons_zero, List.set_cons_succ]
        refine wpAnyK_one (i := 11) (o := ?_) (by kernel_rfl) ?_ (fun K hK => ?_)
        rotate_left 1
        · (simp only [List.getElem?_toArray, List.getElem?_cons_succ, List.getElem?_cons_zero]; rfl)
        go_simp
        go_at_call 9
        have hov := over_any g' 0 8704 c' (twoF F0 kn B 0) (200 + 8 * oK) w4.heap.size 0 8 C9 (PlainAid.bt far8) w10 (HO2.out.below (HZB.out _ HS4.out)).rowB HO9.out.rowB (by omega) (by omega) (by have := HOB.out; omega)
        rw [show ((200 + 8 * oK : Nat) : Int) = 200 + 8 * (oK : Int) by omega, HNX.out] at hov
        refine hov.mono ?_
        rintro e w11 ⟨g11, c11, rfl, ho11, hw11⟩
        have HS5 := Lib.hid (HS4.out.trans (hw11.mono (HZL.out _ HS4.out)))
        have HO11 := Lib.hid (ho11.weaken (base' := w.heap.size) (by have := HZL.out _ HS4.out; have := HLZ.out; omega))
        have HB11 := Lib.hid (HB2.out.trans (((HZB.out _ HS5.out)).mono HB2.out.size))
        clear ho11 hw11 hov
        refine hK.out _ _ HS5.out (fun _ => trivial) ?_
        clear hK K
        try simp only [Act.put, List.setIfInBounds_toArray, List.set_cons_zero, List.set_cons_succ]
        refine wpAnyK_take (i := 12) (oi := ?_) (v := ?_) ?_ (by kernel_rfl) (by kernel_rfl) (by kernel_rfl) (fun _ _ _ h => h) (by decide) ?_ HS5.out (fun _ => trivial) ?_
        rotate_left 2
        · (simp only [List.getElem?_toArray, List.getElem?_cons_succ, List.getElem?_cons_zero]; rfl)
        · (first | exact Or.inr ⟨by rfl, rfl⟩ | (refine Or.inl ⟨by rfl, ?_⟩; intro W hSw; clear hSw; go_simp; try with_reducible rfl))
        try simp only [Act.put, List.setIfInBounds_toArray, List.set_cons_zero, List.set_cons_succ]
        refine wpAnyK_done (by kernel_rfl) ?_ _
        refine NoPanic.normal ?_
        go_wp2_with fail
        go_roundw
        case rel => exact ⟨1, g11, c11, by decide, rfl, rfl, HO11.out, HB11.out⟩
        case measure => simp [intOf]
      · simp only [if_pos, if_neg (show ¬ (1 : Nat) = 0 by omega)] at hK
        subst hK
        clear hK6
        go_upto_region 9 with fail
        generalize hW2 : wr.alloc _ = w2
        have hb2 : Below wr.heap.size wr w2 := by rw [← hW2]; exact (Below.refl _ _).alloc (Nat.le_refl _) _
        clear hW2
        have HO2 := Lib.hid (HO.out.below hb2)
        have HB2 := Lib.hid (HB.out.trans (hb2.mono HB.out.size))
        have HOK2 := Lib.hid ((HB2.out.cell (p := ⟨w.heap.size, kn, none⟩) (by have := HL1.out; show w.heap.size < w1.heap.size; omega)).trans HOK.out)
        have HL2 := Lib.hid (show w.heap.size < w2.heap.size by have := HL1.out; have := HB2.out.size; omega)
        clear hb2
        --M2
        obtain ⟨Z, HZZ0⟩ : ∃ q, w2.heap.size = q := ⟨_, rfl⟩
        have HS := Lib.hid (show Below Z w2 w2.drew from by rw [← HZZ0]; exact (Below.refl _ _).drew)
        have HZZ := Lib.hid HZZ0
        clear HZZ0
        refine wp_region_noPanic ?_
        refine wp_region_K (fun W => Below Z w2 W) (fun _ => True) 99 (by kernel_rfl) ?_
        have HLZ := Lib.hid (show w.heap.size < Z by rw [← HZZ.out]; exact HL2.out)
        have HZL := Lib.hid (fun W (h : Below Z w2 W) => (show Z ≤ W.heap.size by have := h.size; rw [HZZ.out] at this; exact this))
        have HZB := Lib.hid (fun W (h : Below Z w2 W) => (show Below w2.heap.size w2 W by rw [HZZ.out]; exact h))
        refine wpAnyK_take (i := 0) (oi := ?_) (v := ?_) ?_ (by kernel_rfl) (by kernel_rfl) (by kernel_rfl) (fun _ _ _ h => h) (by decide) ?_ HS.out (fun _ => trivial) ?_
        rotate_left 2
        · (simp only [List.getElem?_toArray, List.getElem?_cons_succ, List.getElem?_cons_zero]; rfl)
        · (first | exact Or.inr ⟨by rfl, rfl⟩ | (refine Or.inl ⟨by rfl, ?_⟩; intro W hSw; clear hSw; go_simp; try with_reducible rfl))
        try simp only [Act.put, List.setIfInBounds_toArray, List.set_cons_zero, List.set_cons_succ]
        refine wpAnyK_take (i := 1) (oi := ?_) (v := ?_) ?_ (by kernel_rfl) (by kernel_rfl) (by kernel_rfl) (fun _ _ _ h => h) (by decide) ?_ HS.out (fun _ => trivial) ?_
        rotate_left 2
        · (simp only [List.getElem?_toArray, List.getElem?_cons_succ, List.getElem?_cons_zero]; rfl)
        · (first | exact Or.inr ⟨by rfl, rfl⟩ | (refine Or.inl ⟨by rfl, ?_⟩; intro W hSw; clear hSw; go_simp; try with_reducible rfl))
        try simp only [Act.put, List.setIfInBounds_toArray, List.set_cons_zero, List.set_cons_succ]
        refine wpAnyK_take (i := 2) (oi := ?_) (v := ?_) ?_ (by kernel_rfl) (by kernel_rfl) (by kernel_rfl) (fun _ _ _ h => h) (by decide) ?_ HS.out (fun _ => trivial) ?_
        rotate_left 2
        · (simp only [List.getElem?_toArray, List.getElem?_cons_succ, List.getElem?_cons_zero]; rfl)
        · (first | exact Or.inr ⟨by rfl, rfl⟩ | (refine Or.inl ⟨by rfl, ?_⟩; intro W hSw; clear hSw; go_simp; try with_reducible rfl))
        try simp only [Act.put, List.setIfInBounds_toArray, List.set_cons_zero, List.set_cons_succ]
        refine wpAnyK_take (i := 3) (oi := ?_) (v := ?_) ?_ (by kernel_rfl) (by kernel_rfl) (by kernel_rfl) (fun _ _ _ h => h) (by decide) ?_ HS.out (fun _ => trivial) ?_
        rotate_left 2
        · (simp only [List.getElem?_toArray, List.getElem?_cons_succ, List.getElem?_cons_zero]; rfl)
        · (first | exact Or.inr ⟨by rfl, rfl⟩ | (refine Or.inl ⟨by rfl, ?_⟩; intro W hSw; clear hSw; go_simp; try with_reducible rfl))
        try simp only [Act.put, List.setIfInBounds_toArray, List.set_cons_zero, List.set_cons_succ]
        refine wpAnyK_take (i := 4) (oi := ?_) (v := ?_) ?_ (by kernel_rfl) (by kernel_rfl) (by kernel_rfl) (fun _ _ _ h => h) (by decide) ?_ HS.out (fun _ => trivial) ?_
        rotate_left 2
        · (simp only [List.getElem?_toArray, List.getElem?_cons_succ, List.getElem?_cons_zero]; rfl)
        · (first | exact Or.inr ⟨by rfl, rfl⟩ | (refine Or.inl ⟨by rfl, ?_⟩; intro W hSw; have hk := (hSw.cell (p := ⟨w.heap.size, kn, none⟩) HLZ.out).trans HOK2.out; clear hSw; go_simp; try with_reducible rfl))
        try simp only [Act.put, List.setIfInBounds_toArray, List.set_cons_zero, List.set_cons_succ]
        refine wpAnyK_take (i := 5) (oi := ?_) (v := ?_) ?_ (by kernel_rfl) (by kernel_rfl) (by kernel_rfl) (fun _ _ _ h => h) (by decide) ?_ HS.out (fun _ => trivial) ?_
        rotate_left 2
        · (simp only [List.getElem?_toArray, List.getElem?_cons_succ, List.getElem?_cons_zero]; rfl)
        · (first | exact Or.inr ⟨by rfl, rfl⟩ | (refine Or.inl ⟨by rfl, ?_⟩; intro W hSw; clear hSw; go_simp; try with_reducible rfl))
        try simp only [Act.put, List.setIfInBounds_toArray, List.set_cons_zero, List.set_cons_succ]
        refine wpAnyK_take (i := 6) (oi := ?_) (v := ?_) ?_ (by kernel_rfl) (by kernel_rfl) (by kernel_rfl) (fun _ _ _ h => h) (by decide) ?_ HS.out (fun _ => trivial) ?_
        rotate_left 2
        · (simp only [List.getElem?_toArray, List.getElem?_cons_succ, List.getElem?_cons_zero]; rfl)
        · (first | exact Or.inr ⟨by rfl, rfl⟩ | (refine Or.inl ⟨by rfl, ?_⟩; intro W hSw; clear hSw; go_simp; try with_reducible rfl))
        try simp only [Act.put, List.setIfInBounds_toArray, List.set_cons_zero, List.set_cons_succ]
        refine wpAnyK_one (i := 7) (o := ?_) (by kernel_rfl) ?_ (fun K hK => ?_)
        rotate_left 1
        · (simp only [List.getElem?_toArray, List.getElem?_cons_succ, List.getElem?_cons_zero]; rfl)
        go_simp
        go_at_call 10
        refine (far_1 _).mono ?_
        rintro e w3 ⟨rfl, hw3⟩
        have HS2 := Lib.hid (HS.out.trans (hw3.mono (HZL.out _ HS.out)))
        clear hw3
        refine hK.out _ _ HS2.out (fun _ => trivial) ?_
        clear hK K
        try simp only [Act.put, List.setIfInBounds_toArray, List.set_cons_zero, List.set_cons_succ]
        refine wpAnyK_one (i := 8) (o := ?_) (by kernel_rfl) ?_ (fun K hK => ?_)
        rotate_left 1
        · (simp only [List.getElem?_toArray, List.getElem?_cons_succ, List.getElem?_cons_zero]; rfl)
        go_simp
        go_at_call 10
        refine (far_2 _).mono ?_
        rintro e w4 ⟨rfl, hw4⟩
        have HS3 := Lib.hid (HS2.out.trans (hw4.mono (HZL.out _ HS2.out)))
        clear hw4
        refine hK.out _ _ HS3.out (fun _ => trivial) ?_
        clear hK K
        try simp only [Act.put, List.setIfInBounds_toArray, List.set_cons_zero, List.set_cons_succ]
        refine wpAnyK_take (i := 9) (oi := ?_) (v := ?_) ?_ (by kernel_rfl) (by kernel_rfl) (by kernel_rfl) (fun _ _ _ h => h) (by decide) ?_ HS3.out (fun _ => trivial) ?_
        rotate_left 2
        · (simp only [List.getElem?_toArray, List.getElem?_cons_succ, List.getElem?_cons_zero]; rfl)
        · (first | exact Or.inr ⟨by rfl, rfl⟩ | (refine Or.inl ⟨by rfl, ?_⟩; intro W hSw; clear hSw; go_simp; try with_reducible rfl))
        try simp only [Act.put, List.setIfInBounds_toArray, List.set_cons_zero, List.set_cons_succ]
        obtain ⟨C9, w10, hcv, ho9, hw10⟩ := conv_own w4 ((⟨#[0, 0, 16, 0]⟩ : ByteArray) ++ ⟨#[64, 0, 0, 0]⟩) (by decide)
        rw [show ((⟨#[0, 0, 16, 0]⟩ : ByteArray) ++ ⟨#[64, 0, 0, 0]⟩).size = 8 from rfl] at hcv ho9
        rw [show ((⟨#[0, 0, 16, 0]⟩ : ByteArray) ++ ⟨#[64, 0, 0, 0]⟩) = far8 by decide +kernel] at ho9
        refine wpAnyK_one (i := 10) (o := ?_) (by kernel_rfl) ?_ (fun K hK => ?_)
        rotate_left 1
        · (simp only [List.getElem?_toArray, List.getElem?_cons_succ, List.getElem?_cons_zero]; rfl)
        go_simp
        have HS4 := Lib.hid (HS3.out.trans (hw10.mono (HZL.out _ HS3.out)))
        have HO9 := Lib.hid ho9
        clear hw10 hcv ho9
        refine hK.out _ _ HS4.out (fun _ => trivial) ?_
        clear hK K
        try simp only [Act.put, List.setIfInBounds_toArray, List.set_cons_zero, List.set_cons_succ]
        refine wpAnyK_one (i := 11) (o := ?_) (by kernel_rfl) ?_ (fun K hK => ?_)
        rotate_left 1
        · (simp only [List.getElem?_toArray, List.getElem?_cons_succ, List.getElem?_cons_zero]; rfl)
        go_simp
        go_at_call 9
        have hov := over_any g' 0 8704 c' (twoF F0 A kn 1) (200 + 8 * oK) w4.heap.size 0 8 C9 (PlainAid.bt far8) w10 (HO2.out.below (HZB.out _ HS4.out)).rowB HO9.out.rowB (by omega) (by omega) (by have := HOB.out; omega)
        rw [show ((200 + 8 * oK : Nat) : Int) = 200 + 8 * (oK : Int) by omega, HNX.out] at hov
        refine hov.mono ?_
        rintro e w11 ⟨g11, c11, rfl, ho11, hw11⟩
        have HS5 := Lib.hid (HS4.out.trans (hw11.mono (HZL.out _ HS4.out)))
        have HO11 := Lib.hid (ho11.weaken (base' := w.heap.size) (by have := HZL.out _ HS4.out; have := HLZ.out; omega))
        have HB11 := Lib.hid (HB2.out.trans (((HZB.out _ HS5.out)).mono HB2.out.size))
        clear ho11 hw11 hov
        refine hK.out _ _ HS5.out (fun _ => trivial) ?_
        clear hK K
        try simp only [Act.put, List.setIfInBounds_toArray, List.set_cons_zero, List.set_cons_succ]
        refine wpAnyK_take (i := 12) (oi := ?_) (v := ?_) ?_ (by kernel_rfl) (by kernel_rfl) (by kernel_rfl) (fun _ _ _ h => h) (by decide) ?_ HS5.out (fun _ => trivial) ?_
        rotate_left 2
        · (simp only [List.getElem?_toArray, List.getElem?_cons_succ, List.getElem?_cons_zero]; rfl)
        · (first | exact Or.inr ⟨by rfl, rfl⟩ | (refine Or.inl ⟨by rfl, ?_⟩; intro W hSw; clear hSw; go_simp; try with_reducible rfl))
        try simp only [Act.put, List.setIfInBounds_toArray, List.set_cons_zero, List.set_cons_succ]
        refine wpAnyK_done (by kernel_rfl) ?_ _
        refine NoPanic.normal ?_
        go_wp2_with fail
        go_roundw
        case rel => exact ⟨2, g11, c11, by decide, rfl, rfl, HO11.out, HB11.out⟩
        case measure => simp [intOf]
    · obtain rfl : i = 2 := by omega
      have hS2 := twoF_same (F := F) A B HAB.out.1 HAB.out.2 HSM.out
      have hp := hS2.headP HM.out 8704 (by omega)
      have hpf := peparse_few g' 0 8704 c' (twoF F0 A B 2) wr HO.out.rowB (hS2.ok HM.out 8704 (by rw [at12]; exact Nat.le_refl _) (by omega) (by omega)) 16384 1024 (by rw [hp, hS2.size HM.out, rva12]; rfl) (by rw [hp, hS2.hdrs HM.out]; rfl) (setN A B) (fun i hi _ => by rw [hp]; exact twoF_dirs A B HD0.out i hi)
      rw [first_ab A HAB.out.1 B HAB.out.2] at hpf
      have HPF := Lib.hid hpf
      have hmn : min A B < 6 := Nat.lt_of_le_of_lt (Nat.min_le_left A B) HAB.out.1
      have HER := Lib.hid ((HB.out.cell (p := ⟨w.heap.size + 1, min A B, none⟩) HL1.out).trans (ERR.out _ hmn))
      have HNE := Lib.hid (errN_ne (min A B) hmn)
      have HL3 := Lib.hid (show w.heap.size + 1 < wr.heap.size by have := HL1.out; have := HB.out.size; omega)
      have HB3 := Lib.hid (HB1.out.trans (HB.out.mono HB1.out.size))
      have hmi : (min A B : Int) = min (A : Int) (B : Int) := by omega
      obtain ⟨E, hE⟩ : ∃ E, errN (min A B) = E := ⟨_, rfl⟩
      rw [hE] at HPF HER HNE
      have hmx : (A : Int) < 6 ∧ (B : Int) < 6 := by have := HAB.out; omega
      clear hS2 hp hpf hE ORD HO HB HB1 HSM HM HD0 HL1 ERR
      go_wp2_with fail
      refine HPF.out.mono ?_
      rintro e w20 ⟨hb, hq⟩
      cases hq with
      | good h => exact absurd h HNE.out
      | bad h =>
        clear h HPF
        have HER2 := Lib.hid ((hb.cell (p := ⟨w.heap.size + 1, min A B, none⟩) HL3.out).trans HER.out)
        have HL4 := Lib.hid (show w.heap.size + 1 < w20.heap.size by have := HL3.out; have := hb.size; omega)
        have HB4 := Lib.hid (HB3.out.trans (hb.mono HB3.out.size))
        clear hb HER HL3 HB3
        --M7
        go_upto_region 11 with (refine wpList_store_row rfl 50 _ _ rfl w20.heap.size (peC peZ) rfl rfl 50 _ (heap_alloc_new _ _) (by rw [peC_size]; kernel_rfl) (by rw [peC_size]; rfl) peZ_one ?_)
        rw [zero_pe]
        have hz := setRow_heap (w20.alloc (.cells (peC peZ) 50)) w20.heap.size _ (peC peZ) _ _ (heap_alloc_new _ _)
        have hb5 : Below w20.heap.size w20 ((w20.alloc (.cells (peC peZ) 50)).setRow w20.heap.size (peC peZ)) := below_setRow ((Below.refl _ w20).alloc (Nat.le_refl _) _) (Nat.le_refl _) _
        generalize (w20.alloc (.cells (peC peZ) 50)).setRow w20.heap.size (peC peZ) = w21 at *
        have k39 : w21.cell? ⟨w20.heap.size, 39, none⟩ = some (.slice none 0 0) := (cell_of_row _ _ 39 _ _ _ hz).trans (peC_cell peZ (by omega))
        have k4 : w21.cell? ⟨w20.heap.size, 4, none⟩ = some (.int .i64 0) := (cell_of_row _ _ 4 _ _ _ hz).trans (peC_cell peZ (by omega))
        have HER5 := Lib.hid ((hb5.cell (p := ⟨w.heap.size + 1, min A B, none⟩) HL4.out).trans HER2.out)
        have HB5 := Lib.hid (HB4.out.trans (hb5.mono HB4.out.size))
        clear hz hb5 HER2 HB4
        generalize w20.heap.size = G at *
        --M8
        have HA5 := Lib.hid (HAW.out w21)
        by_cases hab : A ≤ B
        · have he := HER5.out
          rw [Nat.min_eq_left hab] at he
          have hab' : (A : Int) ≤ B := by omega
          have hm2 : min (A : Int) (B : Int) = A := by omega
          go_wp2_with fail
          refine HA5.out.mono ?_
          rintro e w22 ⟨rfl, hb⟩
          go_wp2_with fail
          go_ret
          exact ⟨rfl, HB5.out.trans (hb.mono HB5.out.size)⟩
        · have he := HER5.out
          rw [Nat.min_eq_right (by omega)] at he
          have hab' : ¬ (A : Int) ≤ B := by omega
          have hm2 : min (A : Int) (B : Int) = B := by omega
          go_wp2_with fail
          refine HA5.out.mono ?_
          rintro e w22 ⟨rfl, hb⟩
          go_wp2_with fail
          go_ret
          exact ⟨rfl, HB5.out.trans (hb.mono HB5.out.size)⟩
end Go.Proofs.YtplgdpjbkdagfaaGreat
namespace Go.Proofs.YtplgdpjbkdagfaaGreat
open Go.ChangeShapes Go.WideShapes Go.ChangeAt Go.RowKit
set_option linter.unusedVariables false
set_option linter.unusedSimpArgs false
set_option maxRecDepth 100000

theorem toList_inj' {S T : ByteArray} (h : S.toList = T.toList) : S = T := by
  rw [← strF_bt S, ← strF_bt T] at h ⊢
  unfold strF at h ⊢
  rw [Lib.strOfNums_toList, Lib.strOfNums_toList] at h
  apply ByteArray.ext
  apply Array.ext'
  exact h
theorem toList_eq {S T : ByteArray} : S.toList = T.toList ↔ S = T := ⟨toList_inj', fun h => by rw [h]⟩

theorem eqs_Func (x0 y0 : Int) (x1 y1 : ByteArray) : ∃ r : Bool, (∀ W, (Op.equalIn 10000 74 (.agg #[.int .i64 x0, .string x1]) (.agg #[.int .i64 y0, .string y1])).run Tryz.prog W = .ok r W) ∧ (r = true ↔ x0 = y0 ∧ x1 = y1) := by
  have hS : Tryz.prog.underlying 74 = some (.struct (Tryz.prog.fieldsOf 74)) := by kernel_rfl
  have hp : Tryz.prog.stoodInHeld 74 = false := by kernel_rfl
  have u3 := Tryz.underlying3
  have u9 := Tryz.underlying9
  have u4 := Tryz.underlying4
  refine ⟨(x0 == y0) && (x1.toList == y1.toList), fun W => ?_, ?_⟩
  · rw [show (10000 : Nat) = 9999 + 1 from rfl, run_equalIn_agg W 9999 74 _ _ hS hp]
    simp only [Program.fieldsOf, Tryz.underlying74]
    go_simp
    repeat' split
    all_goals simp_all
  · simp only [Bool.and_eq_true, beq_iff_eq, toList_eq, and_assoc]

set_option maxHeartbeats 2000000 in
theorem equal_Func {α : Type} (C : α → List Value) (f0 : α → Int) (f1 : α → ByteArray) (hC : ∀ x, C x = [.int .i64 (f0 x), .string (f1 x)]) (A A' : Option Addr) (l l2 : List α) (c c' : Nat) (w : World) (h : SlT C 2 w A l) (h' : SlT C 2 w A' l2) (hn : l.length ≤ 1000000) (hn' : l2.length ≤ 1000000) (b : Bool) (hb : b = true ↔ l.map C = l2.map C) :
    Calls Tryz.prog 54 #[.slice A l.length c, .slice A' l2.length c'] w fun e u => e = .returned (.bool b) ∧ Below w.heap.size w u := by
  have HS := Lib.hid h
  have HS' := Lib.hid h'
  have HC := Lib.hid hC
  have HN := Lib.hid (And.intro hn hn')
  have HBB := Lib.hid hb
  clear h h' hC hb
  by_cases hl : l.length = l2.length
  · have HL := Lib.hid hl
    have e0 : ((l.length : Int) != (l2.length : Int)) = false := by simp [hl]
    have HN1 := Lib.hid hn
    clear hn hn' hl
    go_enter Tryz.func54, Tryz.ntmps54
    go_wp2_with fail
    go_loopw [13] (fun v13 wr => ∃ i : Nat, i ≤ l.length ∧ v13 = .int .i64 i ∧ (∀ (j : Nat) (h1 : j < l.length) (h2 : j < l2.length), j < i → C l[j] = C l2[j]) ∧ Below w.heap.size w wr) (fun v13 _ => l.length - (intOf v13).toNat)
    case atStart => exact ⟨0, by omega, rfl, fun j _ _ h => by omega, Below.refl _ _⟩
    case round =>
      obtain ⟨i, hi, rfl, hall, hbw⟩ := hrel
      have HALL := Lib.hid hall
      have HB := Lib.hid hbw
      clear hall hbw
      by_cases hlt : i < l.length
      · have hlt' : (i : Int) < l.length := by omega
        have hlt2 : i < l2.length := by have := HL.out; omega
        have hlt2' : (i : Int) < l2.length := by omega
        obtain ⟨bb, o, rfl, _, hc⟩ : ∃ b o, A = some ⟨b, o, none⟩ ∧ b < wr.heap.size ∧ ∀ (i : Nat) (hi : i < l.length) (j : Nat) (v : Value), (C l[i])[j]? = some v → wr.cell? ⟨b, o + (i * 2 + j), none⟩ = some v := by
          rcases HS.out.below HB.out with h | h
          · rw [h] at hlt; simp at hlt
          · exact h
        obtain ⟨bb', o', rfl, _, hc'⟩ : ∃ b o, A' = some ⟨b, o, none⟩ ∧ b < wr.heap.size ∧ ∀ (i : Nat) (hi : i < l2.length) (j : Nat) (v : Value), (C l2[i])[j]? = some v → wr.cell? ⟨b, o + (i * 2 + j), none⟩ = some v := by
          rcases HS'.out.below HB.out with h | h
          · rw [h] at hlt2; simp at hlt2
          · exact h
        have hC := HC.out
        have d0 := hc i hlt 0 (.int .i64 (f0 l[i])) (by rw [hC]; rfl)
        have d1 := hc i hlt 1 (.string (f1 l[i])) (by rw [hC]; rfl)
        have e0 := hc' i hlt2 0 (.int .i64 (f0 l2[i])) (by rw [hC]; rfl)
        have e1 := hc' i hlt2 1 (.string (f1 l2[i])) (by rw [hC]; rfl)
        rw [show o + (i * 2 + 0) = o + i * 2 by omega] at d0
        rw [show o' + (i * 2 + 0) = o' + i * 2 by omega] at e0
        rw [show o + (i * 2 + 1) = o + i * 2 + 1 by omega] at d1
        rw [show o' + (i * 2 + 1) = o' + i * 2 + 1 by omega] at e1
        obtain ⟨r, hes, hr⟩ := eqs_Func (f0 l[i]) (f0 l2[i]) (f1 l[i]) (f1 l2[i])
        have hCC : C l[i] = C l2[i] ↔ r = true := by
          rw [hC, hC, hr]
          simp
        have HCC := Lib.hid hCC
        clear hc hc' hC hr hCC
        generalize f0 l[i] = p0 at *
        generalize f0 l2[i] = q0 at *
        generalize f1 l[i] = p1 at *
        generalize f1 l2[i] = q1 at *
        rcases r with _ | _
        · go_wp2_with fail
          go_region
          go_wp2_with fail
          go_ret
          refine ⟨?_, HB.out.drew⟩
          rcases b with _ | _
          · rfl
          · exfalso
            have h1 := HBB.out.1 rfl
            have h2 := congrArg (fun L => L[i]?) h1
            simp only [List.getElem?_map, List.getElem?_eq_getElem hlt, List.getElem?_eq_getElem hlt2, Option.map_some, Option.some.injEq] at h2
            have h3 := HCC.out.1 h2
            simp at h3
        · have HNX := Lib.hid (show ∀ (j : Nat) (h1 : j < l.length) (h2 : j < l2.length), j < i + 1 → C l[j] = C l2[j] from fun j h1 h2 h3 => (by
            rcases (by omega : j < i ∨ j = i) with h4 | h4
            · exact HALL.out j h1 h2 h4
            · subst h4; exact HCC.out.2 rfl))
          go_wp2_with fail
          go_region
          have hnn := HN.out.1
          go_wp2_with fail
          go_roundw
          case rel => exact ⟨i + 1, by omega, by go_num, HNX.out, HB.out.drew⟩
          case measure => simp [intOf]; omega
      · obtain rfl : i = l.length := by omega
        go_wp2_with fail
        go_ret
        refine ⟨?_, HB.out⟩
        rcases b with _ | _
        · exfalso
          have h1 : l.map C = l2.map C := by
            apply List.ext_getElem
            · simp [HL.out]
            · intro j h1 h2
              simp only [List.length_map] at h1 h2
              simp only [List.getElem_map]
              exact HALL.out j h1 h2 h1
          have h2 := HBB.out.2 h1
          simp at h2
        · rfl
  · have e0 : ((l.length : Int) != (l2.length : Int)) = true := by simp; omega
    have HL := Lib.hid hl
    clear hl
    go_enter Tryz.func54, Tryz.ntmps54
    go_wp2_with fail
    go_ret
    refine ⟨?_, Below.refl _ _⟩
    rcases b with _ | _
    · rfl
    · exfalso
      have h1 := congrArg List.length (HBB.out.1 rfl)
      simp only [List.length_map] at h1
      exact HL.out h1

theorem eqs_Named (x0 y0 : ByteArray) (x1 y1 : Int) : ∃ r : Bool, (∀ W, (Op.equalIn 10000 76 (.agg #[.string x0, .int .i64 x1]) (.agg #[.string y0, .int .i64 y1])).run Tryz.prog W = .ok r W) ∧ (r = true ↔ x0 = y0 ∧ x1 = y1) := by
  have hS : Tryz.prog.underlying 76 = some (.struct (Tryz.prog.fieldsOf 76)) := by kernel_rfl
  have hp : Tryz.prog.stoodInHeld 76 = false := by kernel_rfl
  have u3 := Tryz.underlying3
  have u9 := Tryz.underlying9
  have u4 := Tryz.underlying4
  refine ⟨(x0.toList == y0.toList) && (x1 == y1), fun W => ?_, ?_⟩
  · rw [show (10000 : Nat) = 9999 + 1 from rfl, run_equalIn_agg W 9999 76 _ _ hS hp]
    simp only [Program.fieldsOf, Tryz.underlying76]
    go_simp
    repeat' split
    all_goals simp_all
  · simp only [Bool.and_eq_true, beq_iff_eq, toList_eq, and_assoc]

set_option maxHeartbeats 2000000 in
theorem equal_Named {α : Type} (C : α → List Value) (f0 : α → ByteArray) (f1 : α → Int) (hC : ∀ x, C x = [.string (f0 x), .int .i64 (f1 x)]) (A A' : Option Addr) (l l2 : List α) (c c' : Nat) (w : World) (h : SlT C 2 w A l) (h' : SlT C 2 w A' l2) (hn : l.length ≤ 1000000) (hn' : l2.length ≤ 1000000) (b : Bool) (hb : b = true ↔ l.map C = l2.map C) :
    Calls Tryz.prog 55 #[.slice A l.length c, .slice A' l2.length c'] w fun e u => e = .returned (.bool b) ∧ Below w.heap.size w u := by
  have HS := Lib.hid h
  have HS' := Lib.hid h'
  have HC := Lib.hid hC
  have HN := Lib.hid (And.intro hn hn')
  have HBB := Lib.hid hb
  clear h h' hC hb
  by_cases hl : l.length = l2.length
  · have HL := Lib.hid hl
    have e0 : ((l.length : Int) != (l2.length : Int)) = false := by simp [hl]
    have HN1 := Lib.hid hn
    clear hn hn' hl
    go_enter Tryz.func55, Tryz.ntmps55
    go_wp2_with fail
    go_loopw [13] (fun v13 wr => ∃ i : Nat, i ≤ l.length ∧ v13 = .int .i64 i ∧ (∀ (j : Nat) (h1 : j < l.length) (h2 : j < l2.length), j < i → C l[j] = C l2[j]) ∧ Below w.heap.size w wr) (fun v13 _ => l.length - (intOf v13).toNat)
    case atStart => exact ⟨0, by omega, rfl, fun j _ _ h => by omega, Below.refl _ _⟩
    case round =>
      obtain ⟨i, hi, rfl, hall, hbw⟩ := hrel
      have HALL := Lib.hid hall
      have HB := Lib.hid hbw
      clear hall hbw
      by_cases hlt : i < l.length
      · have hlt' : (i : Int) < l.length := by omega
        have hlt2 : i < l2.length := by have := HL.out; omega
        have hlt2' : (i : Int) < l2.length := by omega
        obtain ⟨bb, o, rfl, _, hc⟩ : ∃ b o, A = some ⟨b, o, none⟩ ∧ b < wr.heap.size ∧ ∀ (i : Nat) (hi : i < l.length) (j : Nat) (v : Value), (C l[i])[j]? = some v → wr.cell? ⟨b, o + (i * 2 + j), none⟩ = some v := by
          rcases HS.out.below HB.out with h | h
          · rw [h] at hlt; simp at hlt
          · exact h
        obtain ⟨bb', o', rfl, _, hc'⟩ : ∃ b o, A' = some ⟨b, o, none⟩ ∧ b < wr.heap.size ∧ ∀ (i : Nat) (hi : i < l2.length) (j : Nat) (v : Value), (C l2[i])[j]? = some v → wr.cell? ⟨b, o + (i * 2 + j), none⟩ = some v := by
          rcases HS'.out.below HB.out with h | h
          · rw [h] at hlt2; simp at hlt2
          · exact h
        have hC := HC.out
        have d0 := hc i hlt 0 (.string (f0 l[i])) (by rw [hC]; rfl)
        have d1 := hc i hlt 1 (.int .i64 (f1 l[i])) (by rw [hC]; rfl)
        have e0 := hc' i hlt2 0 (.string (f0 l2[i])) (by rw [hC]; rfl)
        have e1 := hc' i hlt2 1 (.int .i64 (f1 l2[i])) (by rw [hC]; rfl)
        rw [show o + (i * 2 + 0) = o + i * 2 by omega] at d0
        rw [show o' + (i * 2 + 0) = o' + i * 2 by omega] at e0
        rw [show o + (i * 2 + 1) = o + i * 2 + 1 by omega] at d1
        rw [show o' + (i * 2 + 1) = o' + i * 2 + 1 by omega] at e1
        obtain ⟨r, hes, hr⟩ := eqs_Named (f0 l[i]) (f0 l2[i]) (f1 l[i]) (f1 l2[i])
        have hCC : C l[i] = C l2[i] ↔ r = true := by
          rw [hC, hC, hr]
          simp
        have HCC := Lib.hid hCC
        clear hc hc' hC hr hCC
        generalize f0 l[i] = p0 at *
        generalize f0 l2[i] = q0 at *
        generalize f1 l[i] = p1 at *
        generalize f1 l2[i] = q1 at *
        rcases r with _ | _
        · go_wp2_with fail
          go_region
          go_wp2_with fail
          go_ret
          refine ⟨?_, HB.out.drew⟩
          rcases b with _ | _
          · rfl
          · exfalso
            have h1 := HBB.out.1 rfl
            have h2 := congrArg (fun L => L[i]?) h1
            simp only [List.getElem?_map, List.getElem?_eq_getElem hlt, List.getElem?_eq_getElem hlt2, Option.map_some, Option.some.injEq] at h2
            have h3 := HCC.out.1 h2
            simp at h3
        · have HNX := Lib.hid (show ∀ (j : Nat) (h1 : j < l.length) (h2 : j < l2.length), j < i + 1 → C l[j] = C l2[j] from fun j h1 h2 h3 => (by
            rcases (by omega : j < i ∨ j = i) with h4 | h4
            · exact HALL.out j h1 h2 h4
            · subst h4; exact HCC.out.2 rfl))
          go_wp2_with fail
          go_region
          have hnn := HN.out.1
          go_wp2_with fail
          go_roundw
          case rel => exact ⟨i + 1, by omega, by go_num, HNX.out, HB.out.drew⟩
          case measure => simp [intOf]; omega
      · obtain rfl : i = l.length := by omega
        go_wp2_with fail
        go_ret
        refine ⟨?_, HB.out⟩
        rcases b with _ | _
        · exfalso
          have h1 : l.map C = l2.map C := by
            apply List.ext_getElem
            · simp [HL.out]
            · intro j h1 h2
              simp only [List.length_map] at h1 h2
              simp only [List.getElem_map]
              exact HALL.out j h1 h2 h1
          have h2 := HBB.out.2 h1
          simp at h2
        · rfl
  · have e0 : ((l.length : Int) != (l2.length : Int)) = true := by simp; omega
    have HL := Lib.hid hl
    clear hl
    go_enter Tryz.func55, Tryz.ntmps55
    go_wp2_with fail
    go_ret
    refine ⟨?_, Below.refl _ _⟩
    rcases b with _ | _
    · rfl
    · exfalso
      have h1 := congrArg List.length (HBB.out.1 rfl)
      simp only [List.length_map] at h1
      exact HL.out h1

theorem eqs_Bound (x0 y0 : ByteArray) (x1 y1 : Int) : ∃ r : Bool, (∀ W, (Op.equalIn 10000 80 (.agg #[.string x0, .int .i64 x1]) (.agg #[.string y0, .int .i64 y1])).run Tryz.prog W = .ok r W) ∧ (r = true ↔ x0 = y0 ∧ x1 = y1) := by
  have hS : Tryz.prog.underlying 80 = some (.struct (Tryz.prog.fieldsOf 80)) := by kernel_rfl
  have hp : Tryz.prog.stoodInHeld 80 = false := by kernel_rfl
  have u3 := Tryz.underlying3
  have u9 := Tryz.underlying9
  have u4 := Tryz.underlying4
  refine ⟨(x0.toList == y0.toList) && (x1 == y1), fun W => ?_, ?_⟩
  · rw [show (10000 : Nat) = 9999 + 1 from rfl, run_equalIn_agg W 9999 80 _ _ hS hp]
    simp only [Program.fieldsOf, Tryz.underlying80]
    go_simp
    repeat' split
    all_goals simp_all
  · simp only [Bool.and_eq_true, beq_iff_eq, toList_eq, and_assoc]

set_option maxHeartbeats 2000000 in
theorem equal_Bound {α : Type} (C : α → List Value) (f0 : α → ByteArray) (f1 : α → Int) (hC : ∀ x, C x = [.string (f0 x), .int .i64 (f1 x)]) (A A' : Option Addr) (l l2 : List α) (c c' : Nat) (w : World) (h : SlT C 2 w A l) (h' : SlT C 2 w A' l2) (hn : l.length ≤ 1000000) (hn' : l2.length ≤ 1000000) (b : Bool) (hb : b = true ↔ l.map C = l2.map C) :
    Calls Tryz.prog 58 #[.slice A l.length c, .slice A' l2.length c'] w fun e u => e = .returned (.bool b) ∧ Below w.heap.size w u := by
  have HS := Lib.hid h
  have HS' := Lib.hid h'
  have HC := Lib.hid hC
  have HN := Lib.hid (And.intro hn hn')
  have HBB := Lib.hid hb
  clear h h' hC hb
  by_cases hl : l.length = l2.length
  · have HL := Lib.hid hl
    have e0 : ((l.length : Int) != (l2.length : Int)) = false := by simp [hl]
    have HN1 := Lib.hid hn
    clear hn hn' hl
    go_enter Tryz.func58, Tryz.ntmps58
    go_wp2_with fail
    go_loopw [13] (fun v13 wr => ∃ i : Nat, i ≤ l.length ∧ v13 = .int .i64 i ∧ (∀ (j : Nat) (h1 : j < l.length) (h2 : j < l2.length), j < i → C l[j] = C l2[j]) ∧ Below w.heap.size w wr) (fun v13 _ => l.length - (intOf v13).toNat)
    case atStart => exact ⟨0, by omega, rfl, fun j _ _ h => by omega, Below.refl _ _⟩
    case round =>
      obtain ⟨i, hi, rfl, hall, hbw⟩ := hrel
      have HALL := Lib.hid hall
      have HB := Lib.hid hbw
      clear hall hbw
      by_cases hlt : i < l.length
      · have hlt' : (i : Int) < l.length := by omega
        have hlt2 : i < l2.length := by have := HL.out; omega
        have hlt2' : (i : Int) < l2.length := by omega
        obtain ⟨bb, o, rfl, _, hc⟩ : ∃ b o, A = some ⟨b, o, none⟩ ∧ b < wr.heap.size ∧ ∀ (i : Nat) (hi : i < l.length) (j : Nat) (v : Value), (C l[i])[j]? = some v → wr.cell? ⟨b, o + (i * 2 + j), none⟩ = some v := by
          rcases HS.out.below HB.out with h | h
          · rw [h] at hlt; simp at hlt
          · exact h
        obtain ⟨bb', o', rfl, _, hc'⟩ : ∃ b o, A' = some ⟨b, o, none⟩ ∧ b < wr.heap.size ∧ ∀ (i : Nat) (hi : i < l2.length) (j : Nat) (v : Value), (C l2[i])[j]? = some v → wr.cell? ⟨b, o + (i * 2 + j), none⟩ = some v := by
          rcases HS'.out.below HB.out with h | h
          · rw [h] at hlt2; simp at hlt2
          · exact h
        have hC := HC.out
        have d0 := hc i hlt 0 (.string (f0 l[i])) (by rw [hC]; rfl)
        have d1 := hc i hlt 1 (.int .i64 (f1 l[i])) (by rw [hC]; rfl)
        have e0 := hc' i hlt2 0 (.string (f0 l2[i])) (by rw [hC]; rfl)
        have e1 := hc' i hlt2 1 (.int .i64 (f1 l2[i])) (by rw [hC]; rfl)
        rw [show o + (i * 2 + 0) = o + i * 2 by omega] at d0
        rw [show o' + (i * 2 + 0) = o' + i * 2 by omega] at e0
        rw [show o + (i * 2 + 1) = o + i * 2 + 1 by omega] at d1
        rw [show o' + (i * 2 + 1) = o' + i * 2 + 1 by omega] at e1
        obtain ⟨r, hes, hr⟩ := eqs_Bound (f0 l[i]) (f0 l2[i]) (f1 l[i]) (f1 l2[i])
        have hCC : C l[i] = C l2[i] ↔ r = true := by
          rw [hC, hC, hr]
          simp
        have HCC := Lib.hid hCC
        clear hc hc' hC hr hCC
        generalize f0 l[i] = p0 at *
        generalize f0 l2[i] = q0 at *
        generalize f1 l[i] = p1 at *
        generalize f1 l2[i] = q1 at *
        rcases r with _ | _
        · go_wp2_with fail
          go_region
          go_wp2_with fail
          go_ret
          refine ⟨?_, HB.out.drew⟩
          rcases b with _ | _
          · rfl
          · exfalso
            have h1 := HBB.out.1 rfl
            have h2 := congrArg (fun L => L[i]?) h1
            simp only [List.getElem?_map, List.getElem?_eq_getElem hlt, List.getElem?_eq_getElem hlt2, Option.map_some, Option.some.injEq] at h2
            have h3 := HCC.out.1 h2
            simp at h3
        · have HNX := Lib.hid (show ∀ (j : Nat) (h1 : j < l.length) (h2 : j < l2.length), j < i + 1 → C l[j] = C l2[j] from fun j h1 h2 h3 => (by
            rcases (by omega : j < i ∨ j = i) with h4 | h4
            · exact HALL.out j h1 h2 h4
            · subst h4; exact HCC.out.2 rfl))
          go_wp2_with fail
          go_region
          have hnn := HN.out.1
          go_wp2_with fail
          go_roundw
          case rel => exact ⟨i + 1, by omega, by go_num, HNX.out, HB.out.drew⟩
          case measure => simp [intOf]; omega
      · obtain rfl : i = l.length := by omega
        go_wp2_with fail
        go_ret
        refine ⟨?_, HB.out⟩
        rcases b with _ | _
        · exfalso
          have h1 : l.map C = l2.map C := by
            apply List.ext_getElem
            · simp [HL.out]
            · intro j h1 h2
              simp only [List.length_map] at h1 h2
              simp only [List.getElem_map]
              exact HALL.out j h1 h2 h1
          have h2 := HBB.out.2 h1
          simp at h2
        · rfl
  · have e0 : ((l.length : Int) != (l2.length : Int)) = true := by simp; omega
    have HL := Lib.hid hl
    clear hl
    go_enter Tryz.func58, Tryz.ntmps58
    go_wp2_with fail
    go_ret
    refine ⟨?_, Below.refl _ _⟩
    rcases b with _ | _
    · rfl
    · exfalso
      have h1 := congrArg List.length (HBB.out.1 rfl)
      simp only [List.length_map] at h1
      exact HL.out h1

theorem eqs_Rel (x0 y0 : Int) (x1 y1 : Int) : ∃ r : Bool, (∀ W, (Op.equalIn 10000 82 (.agg #[.int .i64 x0, .int .i64 x1]) (.agg #[.int .i64 y0, .int .i64 y1])).run Tryz.prog W = .ok r W) ∧ (r = true ↔ x0 = y0 ∧ x1 = y1) := by
  have hS : Tryz.prog.underlying 82 = some (.struct (Tryz.prog.fieldsOf 82)) := by kernel_rfl
  have hp : Tryz.prog.stoodInHeld 82 = false := by kernel_rfl
  have u3 := Tryz.underlying3
  have u9 := Tryz.underlying9
  have u4 := Tryz.underlying4
  refine ⟨(x0 == y0) && (x1 == y1), fun W => ?_, ?_⟩
  · rw [show (10000 : Nat) = 9999 + 1 from rfl, run_equalIn_agg W 9999 82 _ _ hS hp]
    simp only [Program.fieldsOf, Tryz.underlying82]
    go_simp
    repeat' split
    all_goals simp_all
  · simp only [Bool.and_eq_true, beq_iff_eq, toList_eq, and_assoc]

set_option maxHeartbeats 2000000 in
theorem equal_Rel {α : Type} (C : α → List Value) (f0 : α → Int) (f1 : α → Int) (hC : ∀ x, C x = [.int .i64 (f0 x), .int .i64 (f1 x)]) (A A' : Option Addr) (l l2 : List α) (c c' : Nat) (w : World) (h : SlT C 2 w A l) (h' : SlT C 2 w A' l2) (hn : l.length ≤ 1000000) (hn' : l2.length ≤ 1000000) (b : Bool) (hb : b = true ↔ l.map C = l2.map C) :
    Calls Tryz.prog 59 #[.slice A l.length c, .slice A' l2.length c'] w fun e u => e = .returned (.bool b) ∧ Below w.heap.size w u := by
  have HS := Lib.hid h
  have HS' := Lib.hid h'
  have HC := Lib.hid hC
  have HN := Lib.hid (And.intro hn hn')
  have HBB := Lib.hid hb
  clear h h' hC hb
  by_cases hl : l.length = l2.length
  · have HL := Lib.hid hl
    have e0 : ((l.length : Int) != (l2.length : Int)) = false := by simp [hl]
    have HN1 := Lib.hid hn
    clear hn hn' hl
    go_enter Tryz.func59, Tryz.ntmps59
    go_wp2_with fail
    go_loopw [13] (fun v13 wr => ∃ i : Nat, i ≤ l.length ∧ v13 = .int .i64 i ∧ (∀ (j : Nat) (h1 : j < l.length) (h2 : j < l2.length), j < i → C l[j] = C l2[j]) ∧ Below w.heap.size w wr) (fun v13 _ => l.length - (intOf v13).toNat)
    case atStart => exact ⟨0, by omega, rfl, fun j _ _ h => by omega, Below.refl _ _⟩
    case round =>
      obtain ⟨i, hi, rfl, hall, hbw⟩ := hrel
      have HALL := Lib.hid hall
      have HB := Lib.hid hbw
      clear hall hbw
      by_cases hlt : i < l.length
      · have hlt' : (i : Int) < l.length := by omega
        have hlt2 : i < l2.length := by have := HL.out; omega
        have hlt2' : (i : Int) < l2.length := by omega
        obtain ⟨bb, o, rfl, _, hc⟩ : ∃ b o, A = some ⟨b, o, none⟩ ∧ b < wr.heap.size ∧ ∀ (i : Nat) (hi : i < l.length) (j : Nat) (v : Value), (C l[i])[j]? = some v → wr.cell? ⟨b, o + (i * 2 + j), none⟩ = some v := by
          rcases HS.out.below HB.out with h | h
          · rw [h] at hlt; simp at hlt
          · exact h
        obtain ⟨bb', o', rfl, _, hc'⟩ : ∃ b o, A' = some ⟨b, o, none⟩ ∧ b < wr.heap.size ∧ ∀ (i : Nat) (hi : i < l2.length) (j : Nat) (v : Value), (C l2[i])[j]? = some v → wr.cell? ⟨b, o + (i * 2 + j), none⟩ = some v := by
          rcases HS'.out.below HB.out with h | h
          · rw [h] at hlt2; simp at hlt2
          · exact h
        have hC := HC.out
        have d0 := hc i hlt 0 (.int .i64 (f0 l[i])) (by rw [hC]; rfl)
        have d1 := hc i hlt 1 (.int .i64 (f1 l[i])) (by rw [hC]; rfl)
        have e0 := hc' i hlt2 0 (.int .i64 (f0 l2[i])) (by rw [hC]; rfl)
        have e1 := hc' i hlt2 1 (.int .i64 (f1 l2[i])) (by rw [hC]; rfl)
        rw [show o + (i * 2 + 0) = o + i * 2 by omega] at d0
        rw [show o' + (i * 2 + 0) = o' + i * 2 by omega] at e0
        rw [show o + (i * 2 + 1) = o + i * 2 + 1 by omega] at d1
        rw [show o' + (i * 2 + 1) = o' + i * 2 + 1 by omega] at e1
        obtain ⟨r, hes, hr⟩ := eqs_Rel (f0 l[i]) (f0 l2[i]) (f1 l[i]) (f1 l2[i])
        have hCC : C l[i] = C l2[i] ↔ r = true := by
          rw [hC, hC, hr]
          simp
        have HCC := Lib.hid hCC
        clear hc hc' hC hr hCC
        generalize f0 l[i] = p0 at *
        generalize f0 l2[i] = q0 at *
        generalize f1 l[i] = p1 at *
        generalize f1 l2[i] = q1 at *
        rcases r with _ | _
        · go_wp2_with fail
          go_region
          go_wp2_with fail
          go_ret
          refine ⟨?_, HB.out.drew⟩
          rcases b with _ | _
          · rfl
          · exfalso
            have h1 := HBB.out.1 rfl
            have h2 := congrArg (fun L => L[i]?) h1
            simp only [List.getElem?_map, List.getElem?_eq_getElem hlt, List.getElem?_eq_getElem hlt2, Option.map_some, Option.some.injEq] at h2
            have h3 := HCC.out.1 h2
            simp at h3
        · have HNX := Lib.hid (show ∀ (j : Nat) (h1 : j < l.length) (h2 : j < l2.length), j < i + 1 → C l[j] = C l2[j] from fun j h1 h2 h3 => (by
            rcases (by omega : j < i ∨ j = i) with h4 | h4
            · exact HALL.out j h1 h2 h4
            · subst h4; exact HCC.out.2 rfl))
          go_wp2_with fail
          go_region
          have hnn := HN.out.1
          go_wp2_with fail
          go_roundw
          case rel => exact ⟨i + 1, by omega, by go_num, HNX.out, HB.out.drew⟩
          case measure => simp [intOf]; omega
      · obtain rfl : i = l.length := by omega
        go_wp2_with fail
        go_ret
        refine ⟨?_, HB.out⟩
        rcases b with _ | _
        · exfalso
          have h1 : l.map C = l2.map C := by
            apply List.ext_getElem
            · simp [HL.out]
            · intro j h1 h2
              simp only [List.length_map] at h1 h2
              simp only [List.getElem_map]
              exact HALL.out j h1 h2 h1
          have h2 := HBB.out.2 h1
          simp at h2
        · rfl
  · have e0 : ((l.length : Int) != (l2.length : Int)) = true := by simp; omega
    have HL := Lib.hid hl
    clear hl
    go_enter Tryz.func59, Tryz.ntmps59
    go_wp2_with fail
    go_ret
    refine ⟨?_, Below.refl _ _⟩
    rcases b with _ | _
    · rfl
    · exfalso
      have h1 := congrArg List.length (HBB.out.1 rfl)
      simp only [List.length_map] at h1
      exact HL.out h1

theorem eqs_Sym (x0 y0 : ByteArray) (x1 y1 : Int) (x2 y2 : Bool) : ∃ r : Bool, (∀ W, (Op.equalIn 10000 58 (.agg #[.string x0, .int .i64 x1, .bool x2]) (.agg #[.string y0, .int .i64 y1, .bool y2])).run Tryz.prog W = .ok r W) ∧ (r = true ↔ x0 = y0 ∧ x1 = y1 ∧ x2 = y2) := by
  have hS : Tryz.prog.underlying 58 = some (.struct (Tryz.prog.fieldsOf 58)) := by kernel_rfl
  have hp : Tryz.prog.stoodInHeld 58 = false := by kernel_rfl
  have u3 := Tryz.underlying3
  have u9 := Tryz.underlying9
  have u4 := Tryz.underlying4
  refine ⟨(x0.toList == y0.toList) && (x1 == y1) && (x2 == y2), fun W => ?_, ?_⟩
  · rw [show (10000 : Nat) = 9999 + 1 from rfl, run_equalIn_agg W 9999 58 _ _ hS hp]
    simp only [Program.fieldsOf, Tryz.underlying58]
    go_simp
    repeat' split
    all_goals simp_all
  · simp only [Bool.and_eq_true, beq_iff_eq, toList_eq, and_assoc]

set_option maxHeartbeats 2000000 in
theorem equal_Sym {α : Type} (C : α → List Value) (f0 : α → ByteArray) (f1 : α → Int) (f2 : α → Bool) (hC : ∀ x, C x = [.string (f0 x), .int .i64 (f1 x), .bool (f2 x)]) (A A' : Option Addr) (l l2 : List α) (c c' : Nat) (w : World) (h : SlT C 3 w A l) (h' : SlT C 3 w A' l2) (hn : l.length ≤ 1000000) (hn' : l2.length ≤ 1000000) (b : Bool) (hb : b = true ↔ l.map C = l2.map C) :
    Calls Tryz.prog 100 #[.slice A l.length c, .slice A' l2.length c'] w fun e u => e = .returned (.bool b) ∧ Below w.heap.size w u := by
  have HS := Lib.hid h
  have HS' := Lib.hid h'
  have HC := Lib.hid hC
  have HN := Lib.hid (And.intro hn hn')
  have HBB := Lib.hid hb
  clear h h' hC hb
  by_cases hl : l.length = l2.length
  · have HL := Lib.hid hl
    have e0 : ((l.length : Int) != (l2.length : Int)) = false := by simp [hl]
    have HN1 := Lib.hid hn
    clear hn hn' hl
    go_enter Tryz.func100, Tryz.ntmps100
    go_wp2_with fail
    go_loopw [13] (fun v13 wr => ∃ i : Nat, i ≤ l.length ∧ v13 = .int .i64 i ∧ (∀ (j : Nat) (h1 : j < l.length) (h2 : j < l2.length), j < i → C l[j] = C l2[j]) ∧ Below w.heap.size w wr) (fun v13 _ => l.length - (intOf v13).toNat)
    case atStart => exact ⟨0, by omega, rfl, fun j _ _ h => by omega, Below.refl _ _⟩
    case round =>
      obtain ⟨i, hi, rfl, hall, hbw⟩ := hrel
      have HALL := Lib.hid hall
      have HB := Lib.hid hbw
      clear hall hbw
      by_cases hlt : i < l.length
      · have hlt' : (i : Int) < l.length := by omega
        have hlt2 : i < l2.length := by have := HL.out; omega
        have hlt2' : (i : Int) < l2.length := by omega
        obtain ⟨bb, o, rfl, _, hc⟩ : ∃ b o, A = some ⟨b, o, none⟩ ∧ b < wr.heap.size ∧ ∀ (i : Nat) (hi : i < l.length) (j : Nat) (v : Value), (C l[i])[j]? = some v → wr.cell? ⟨b, o + (i * 3 + j), none⟩ = some v := by
          rcases HS.out.below HB.out with h | h
          · rw [h] at hlt; simp at hlt
          · exact h
        obtain ⟨bb', o', rfl, _, hc'⟩ : ∃ b o, A' = some ⟨b, o, none⟩ ∧ b < wr.heap.size ∧ ∀ (i : Nat) (hi : i < l2.length) (j : Nat) (v : Value), (C l2[i])[j]? = some v → wr.cell? ⟨b, o + (i * 3 + j), none⟩ = some v := by
          rcases HS'.out.below HB.out with h | h
          · rw [h] at hlt2; simp at hlt2
          · exact h
        have hC := HC.out
        have d0 := hc i hlt 0 (.string (f0 l[i])) (by rw [hC]; rfl)
        have d1 := hc i hlt 1 (.int .i64 (f1 l[i])) (by rw [hC]; rfl)
        have d2 := hc i hlt 2 (.bool (f2 l[i])) (by rw [hC]; rfl)
        have e0 := hc' i hlt2 0 (.string (f0 l2[i])) (by rw [hC]; rfl)
        have e1 := hc' i hlt2 1 (.int .i64 (f1 l2[i])) (by rw [hC]; rfl)
        have e2 := hc' i hlt2 2 (.bool (f2 l2[i])) (by rw [hC]; rfl)
        rw [show o + (i * 3 + 0) = o + i * 3 by omega] at d0
        rw [show o' + (i * 3 + 0) = o' + i * 3 by omega] at e0
        rw [show o + (i * 3 + 1) = o + i * 3 + 1 by omega] at d1
        rw [show o' + (i * 3 + 1) = o' + i * 3 + 1 by omega] at e1
        rw [show o + (i * 3 + 2) = o + i * 3 + 2 by omega] at d2
        rw [show o' + (i * 3 + 2) = o' + i * 3 + 2 by omega] at e2
        obtain ⟨r, hes, hr⟩ := eqs_Sym (f0 l[i]) (f0 l2[i]) (f1 l[i]) (f1 l2[i]) (f2 l[i]) (f2 l2[i])
        have hCC : C l[i] = C l2[i] ↔ r = true := by
          rw [hC, hC, hr]
          simp
        have HCC := Lib.hid hCC
        clear hc hc' hC hr hCC
        generalize f0 l[i] = p0 at *
        generalize f0 l2[i] = q0 at *
        generalize f1 l[i] = p1 at *
        generalize f1 l2[i] = q1 at *
        generalize f2 l[i] = p2 at *
        generalize f2 l2[i] = q2 at *
        rcases r with _ | _
        · go_wp2_with fail
          go_region
          go_wp2_with fail
          go_ret
          refine ⟨?_, HB.out.drew⟩
          rcases b with _ | _
          · rfl
          · exfalso
            have h1 := HBB.out.1 rfl
            have h2 := congrArg (fun L => L[i]?) h1
            simp only [List.getElem?_map, List.getElem?_eq_getElem hlt, List.getElem?_eq_getElem hlt2, Option.map_some, Option.some.injEq] at h2
            have h3 := HCC.out.1 h2
            simp at h3
        · have HNX := Lib.hid (show ∀ (j : Nat) (h1 : j < l.length) (h2 : j < l2.length), j < i + 1 → C l[j] = C l2[j] from fun j h1 h2 h3 => (by
            rcases (by omega : j < i ∨ j = i) with h4 | h4
            · exact HALL.out j h1 h2 h4
            · subst h4; exact HCC.out.2 rfl))
          go_wp2_with fail
          go_region
          have hnn := HN.out.1
          go_wp2_with fail
          go_roundw
          case rel => exact ⟨i + 1, by omega, by go_num, HNX.out, HB.out.drew⟩
          case measure => simp [intOf]; omega
      · obtain rfl : i = l.length := by omega
        go_wp2_with fail
        go_ret
        refine ⟨?_, HB.out⟩
        rcases b with _ | _
        · exfalso
          have h1 : l.map C = l2.map C := by
            apply List.ext_getElem
            · simp [HL.out]
            · intro j h1 h2
              simp only [List.length_map] at h1 h2
              simp only [List.getElem_map]
              exact HALL.out j h1 h2 h1
          have h2 := HBB.out.2 h1
          simp at h2
        · rfl
  · have e0 : ((l.length : Int) != (l2.length : Int)) = true := by simp; omega
    have HL := Lib.hid hl
    clear hl
    go_enter Tryz.func100, Tryz.ntmps100
    go_wp2_with fail
    go_ret
    refine ⟨?_, Below.refl _ _⟩
    rcases b with _ | _
    · rfl
    · exfalso
      have h1 := congrArg List.length (HBB.out.1 rfl)
      simp only [List.length_map] at h1
      exact HL.out h1

theorem eqs_Sect (x0 y0 : ByteArray) (x1 y1 : Int) (x2 y2 : Int) (x3 y3 : Int) (x4 y4 : Int) (x5 y5 : Int) : ∃ r : Bool, (∀ W, (Op.equalIn 10000 72 (.agg #[.string x0, .int .i64 x1, .int .i64 x2, .int .i64 x3, .int .i64 x4, .int .i64 x5]) (.agg #[.string y0, .int .i64 y1, .int .i64 y2, .int .i64 y3, .int .i64 y4, .int .i64 y5])).run Tryz.prog W = .ok r W) ∧ (r = true ↔ x0 = y0 ∧ x1 = y1 ∧ x2 = y2 ∧ x3 = y3 ∧ x4 = y4 ∧ x5 = y5) := by
  have hS : Tryz.prog.underlying 72 = some (.struct (Tryz.prog.fieldsOf 72)) := by kernel_rfl
  have hp : Tryz.prog.stoodInHeld 72 = false := by kernel_rfl
  have u3 := Tryz.underlying3
  have u9 := Tryz.underlying9
  have u4 := Tryz.underlying4
  refine ⟨(x0.toList == y0.toList) && (x1 == y1) && (x2 == y2) && (x3 == y3) && (x4 == y4) && (x5 == y5), fun W => ?_, ?_⟩
  · rw [show (10000 : Nat) = 9999 + 1 from rfl, run_equalIn_agg W 9999 72 _ _ hS hp]
    simp only [Program.fieldsOf, Tryz.underlying72]
    go_simp
    repeat' split
    all_goals simp_all
  · simp only [Bool.and_eq_true, beq_iff_eq, toList_eq, and_assoc]

set_option maxHeartbeats 2000000 in
theorem equal_Sect {α : Type} (C : α → List Value) (f0 : α → ByteArray) (f1 : α → Int) (f2 : α → Int) (f3 : α → Int) (f4 : α → Int) (f5 : α → Int) (hC : ∀ x, C x = [.string (f0 x), .int .i64 (f1 x), .int .i64 (f2 x), .int .i64 (f3 x), .int .i64 (f4 x), .int .i64 (f5 x)]) (A A' : Option Addr) (l l2 : List α) (c c' : Nat) (w : World) (h : SlT C 6 w A l) (h' : SlT C 6 w A' l2) (hn : l.length ≤ 1000000) (hn' : l2.length ≤ 1000000) (b : Bool) (hb : b = true ↔ l.map C = l2.map C) :
    Calls Tryz.prog 99 #[.slice A l.length c, .slice A' l2.length c'] w fun e u => e = .returned (.bool b) ∧ Below w.heap.size w u := by
  have HS := Lib.hid h
  have HS' := Lib.hid h'
  have HC := Lib.hid hC
  have HN := Lib.hid (And.intro hn hn')
  have HBB := Lib.hid hb
  clear h h' hC hb
  by_cases hl : l.length = l2.length
  · have HL := Lib.hid hl
    have e0 : ((l.length : Int) != (l2.length : Int)) = false := by simp [hl]
    have HN1 := Lib.hid hn
    clear hn hn' hl
    go_enter Tryz.func99, Tryz.ntmps99
    go_wp2_with fail
    go_loopw [13] (fun v13 wr => ∃ i : Nat, i ≤ l.length ∧ v13 = .int .i64 i ∧ (∀ (j : Nat) (h1 : j < l.length) (h2 : j < l2.length), j < i → C l[j] = C l2[j]) ∧ Below w.heap.size w wr) (fun v13 _ => l.length - (intOf v13).toNat)
    case atStart => exact ⟨0, by omega, rfl, fun j _ _ h => by omega, Below.refl _ _⟩
    case round =>
      obtain ⟨i, hi, rfl, hall, hbw⟩ := hrel
      have HALL := Lib.hid hall
      have HB := Lib.hid hbw
      clear hall hbw
      by_cases hlt : i < l.length
      · have hlt' : (i : Int) < l.length := by omega
        have hlt2 : i < l2.length := by have := HL.out; omega
        have hlt2' : (i : Int) < l2.length := by omega
        obtain ⟨bb, o, rfl, _, hc⟩ : ∃ b o, A = some ⟨b, o, none⟩ ∧ b < wr.heap.size ∧ ∀ (i : Nat) (hi : i < l.length) (j : Nat) (v : Value), (C l[i])[j]? = some v → wr.cell? ⟨b, o + (i * 6 + j), none⟩ = some v := by
          rcases HS.out.below HB.out with h | h
          · rw [h] at hlt; simp at hlt
          · exact h
        obtain ⟨bb', o', rfl, _, hc'⟩ : ∃ b o, A' = some ⟨b, o, none⟩ ∧ b < wr.heap.size ∧ ∀ (i : Nat) (hi : i < l2.length) (j : Nat) (v : Value), (C l2[i])[j]? = some v → wr.cell? ⟨b, o + (i * 6 + j), none⟩ = some v := by
          rcases HS'.out.below HB.out with h | h
          · rw [h] at hlt2; simp at hlt2
          · exact h
        have hC := HC.out
        have d0 := hc i hlt 0 (.string (f0 l[i])) (by rw [hC]; rfl)
        have d1 := hc i hlt 1 (.int .i64 (f1 l[i])) (by rw [hC]; rfl)
        have d2 := hc i hlt 2 (.int .i64 (f2 l[i])) (by rw [hC]; rfl)
        have d3 := hc i hlt 3 (.int .i64 (f3 l[i])) (by rw [hC]; rfl)
        have d4 := hc i hlt 4 (.int .i64 (f4 l[i])) (by rw [hC]; rfl)
        have d5 := hc i hlt 5 (.int .i64 (f5 l[i])) (by rw [hC]; rfl)
        have e0 := hc' i hlt2 0 (.string (f0 l2[i])) (by rw [hC]; rfl)
        have e1 := hc' i hlt2 1 (.int .i64 (f1 l2[i])) (by rw [hC]; rfl)
        have e2 := hc' i hlt2 2 (.int .i64 (f2 l2[i])) (by rw [hC]; rfl)
        have e3 := hc' i hlt2 3 (.int .i64 (f3 l2[i])) (by rw [hC]; rfl)
        have e4 := hc' i hlt2 4 (.int .i64 (f4 l2[i])) (by rw [hC]; rfl)
        have e5 := hc' i hlt2 5 (.int .i64 (f5 l2[i])) (by rw [hC]; rfl)
        rw [show o + (i * 6 + 0) = o + i * 6 by omega] at d0
        rw [show o' + (i * 6 + 0) = o' + i * 6 by omega] at e0
        rw [show o + (i * 6 + 1) = o + i * 6 + 1 by omega] at d1
        rw [show o' + (i * 6 + 1) = o' + i * 6 + 1 by omega] at e1
        rw [show o + (i * 6 + 2) = o + i * 6 + 2 by omega] at d2
        rw [show o' + (i * 6 + 2) = o' + i * 6 + 2 by omega] at e2
        rw [show o + (i * 6 + 3) = o + i * 6 + 3 by omega] at d3
        rw [show o' + (i * 6 + 3) = o' + i * 6 + 3 by omega] at e3
        rw [show o + (i * 6 + 4) = o + i * 6 + 4 by omega] at d4
        rw [show o' + (i * 6 + 4) = o' + i * 6 + 4 by omega] at e4
        rw [show o + (i * 6 + 5) = o + i * 6 + 5 by omega] at d5
        rw [show o' + (i * 6 + 5) = o' + i * 6 + 5 by omega] at e5
        obtain ⟨r, hes, hr⟩ := eqs_Sect (f0 l[i]) (f0 l2[i]) (f1 l[i]) (f1 l2[i]) (f2 l[i]) (f2 l2[i]) (f3 l[i]) (f3 l2[i]) (f4 l[i]) (f4 l2[i]) (f5 l[i]) (f5 l2[i])
        have hCC : C l[i] = C l2[i] ↔ r = true := by
          rw [hC, hC, hr]
          simp
        have HCC := Lib.hid hCC
        clear hc hc' hC hr hCC
        generalize f0 l[i] = p0 at *
        generalize f0 l2[i] = q0 at *
        generalize f1 l[i] = p1 at *
        generalize f1 l2[i] = q1 at *
        generalize f2 l[i] = p2 at *
        generalize f2 l2[i] = q2 at *
        generalize f3 l[i] = p3 at *
        generalize f3 l2[i] = q3 at *
        generalize f4 l[i] = p4 at *
        generalize f4 l2[i] = q4 at *
        generalize f5 l[i] = p5 at *
        generalize f5 l2[i] = q5 at *
        rcases r with _ | _
        · go_wp2_with fail
          go_region
          go_wp2_with fail
          go_ret
          refine ⟨?_, HB.out.drew⟩
          rcases b with _ | _
          · rfl
          · exfalso
            have h1 := HBB.out.1 rfl
            have h2 := congrArg (fun L => L[i]?) h1
            simp only [List.getElem?_map, List.getElem?_eq_getElem hlt, List.getElem?_eq_getElem hlt2, Option.map_some, Option.some.injEq] at h2
            have h3 := HCC.out.1 h2
            simp at h3
        · have HNX := Lib.hid (show ∀ (j : Nat) (h1 : j < l.length) (h2 : j < l2.length), j < i + 1 → C l[j] = C l2[j] from fun j h1 h2 h3 => (by
            rcases (by omega : j < i ∨ j = i) with h4 | h4
            · exact HALL.out j h1 h2 h4
            · subst h4; exact HCC.out.2 rfl))
          go_wp2_with fail
          go_region
          have hnn := HN.out.1
          go_wp2_with fail
          go_roundw
          case rel => exact ⟨i + 1, by omega, by go_num, HNX.out, HB.out.drew⟩
          case measure => simp [intOf]; omega
      · obtain rfl : i = l.length := by omega
        go_wp2_with fail
        go_ret
        refine ⟨?_, HB.out⟩
        rcases b with _ | _
        · exfalso
          have h1 : l.map C = l2.map C := by
            apply List.ext_getElem
            · simp [HL.out]
            · intro j h1 h2
              simp only [List.length_map] at h1 h2
              simp only [List.getElem_map]
              exact HALL.out j h1 h2 h1
          have h2 := HBB.out.2 h1
          simp at h2
        · rfl
  · have e0 : ((l.length : Int) != (l2.length : Int)) = true := by simp; omega
    have HL := Lib.hid hl
    clear hl
    go_enter Tryz.func99, Tryz.ntmps99
    go_wp2_with fail
    go_ret
    refine ⟨?_, Below.refl _ _⟩
    rcases b with _ | _
    · rfl
    · exfalso
      have h1 := congrArg List.length (HBB.out.1 rfl)
      simp only [List.length_map] at h1
      exact HL.out h1

end Go.Proofs.YtplgdpjbkdagfaaGreat
namespace Go.Proofs.YtplgdpjbkdagfaaGreat
open Go.ChangeShapes Go.WideShapes Go.ChangeAt Go.RowKit
set_option linter.unusedVariables false
set_option linter.unusedSimpArgs false
set_option maxRecDepth 100000

set_option maxHeartbeats 4000000 in
theorem sameHead_self (cs cs' : Array Value) (h : HeadN) (sv sv' : Value) (l : List SectN) (w : World) (x : HeadV cs h sv) (y : HeadV cs' h sv') (hs : SectSl w sv l) (hs' : SectSl w sv' l) (hdb : DirBd h) :
    Calls Tryz.prog 52 #[.agg cs, .agg cs'] w fun e u => e = .returned (.bool true) ∧ Below w.heap.size w u := by
  obtain ⟨A, c, rfl, hsl, hl16⟩ := hs
  obtain ⟨A', c', rfl, hsl', _⟩ := hs'
  have HX := Lib.hid x
  have HY := Lib.hid y
  have HSL := Lib.hid hsl
  have HSL' := Lib.hid hsl'
  have HL16 := Lib.hid hl16
  have a0 := x.c0
  have a1 := x.c1
  have a2 := x.c2
  have a3 := x.c3
  have a4 := x.c4
  have a5 := x.c5
  have b0 := y.c0
  have b1 := y.c1
  have b2 := y.c2
  have b3 := y.c3
  have b4 := y.c4
  have b5 := y.c5
  have HB1 := Lib.hid (((Below.refl w.heap.size w).alloc (Nat.le_refl _) (.cells cs 41)).alloc (by simp) (.cells cs' 41))
  have HE := Lib.hid (fun W (hW : Below w.heap.size w W) => equal_Sect SectN.cells SectN.name SectN.vsize SectN.rva SectN.raw SectN.spot SectN.chars (fun _ => rfl) A A' l l c c' W (HSL.out.below hW) (HSL'.out.below hW) (by have := HL16.out; omega) (by have := HL16.out; omega) true ⟨fun _ => rfl, fun _ => rfl⟩)
  clear hsl hsl' x y hl16
  go_enter Tryz.func52, Tryz.ntmps52
  have heq := eq_dirs h hdb
  have HG0 := Lib.hid (heap_alloc2_old w (.cells cs 41) (.cells cs' 41))
  have HG1 := Lib.hid (heap_alloc2_new w (.cells cs 41) (.cells cs' 41))
  have k38 := (cell_of_row _ _ 38 _ _ _ HG0.out).trans HX.out.c38
  have k38' := (cell_of_row _ _ 38 _ _ _ HG1.out).trans HY.out.c38
  go_wp2_with (first
    | (refine wpList_load_mid_g (by rfl) 38 _ rfl w.heap.size 6 rfl (dirL h) _ (HX.out.dirRow HG0.out) rfl rfl rfl ?_)
    | (refine wpList_load_mid_g (by rfl) 38 _ rfl (w.heap.size + 1) 6 rfl (dirL h) _ (HY.out.dirRow HG1.out) rfl rfl rfl ?_)
    | fail)
  refine (HE.out _ HB1.out).mono ?_
  rintro e u ⟨rfl, hb⟩
  have HB2 := Lib.hid (HB1.out.trans (hb.mono HB1.out.size))
  clear hb
  go_wp2_with fail
  go_ret
  exact ⟨rfl, HB2.out⟩

theorem equalFunc_nil (v : Value) (w : World) : Calls Tryz.prog 56 #[.slice none 0 0, .slice none 0 0, v] w fun e u => e = .returned (.bool true) ∧ Below w.heap.size w u := by
  go_enter Tryz.func56, Tryz.ntmps56
  go_wp2_with fail
  go_loopw [17] (fun v17 wr => v17 = .int .i64 0 ∧ wr = w) (fun _ _ => 0)
  case atStart => exact ⟨rfl, rfl⟩
  case round =>
    obtain ⟨rfl, rfl⟩ := hrel
    go_wp2_with fail
    go_ret
    exact ⟨rfl, Below.refl _ _⟩
end Go.Proofs.YtplgdpjbkdagfaaGreat
namespace Go.Proofs.YtplgdpjbkdagfaaGreat
open Go.ChangeShapes Go.WideShapes Go.ChangeAt Go.RowKit
set_option linter.unusedVariables false
set_option linter.unusedSimpArgs false
set_option maxRecDepth 100000

/-- An image without directories. -/
structure Bare (y : PeV) : Prop where
  e0 : y.e0 = .int .i64 0
  e1 : y.e1 = .slice none 0 0
  e2 : y.e2 = .slice none 0 0
  im : y.im = .slice none 0 0
  de : y.de = .slice none 0 0
  bo : y.bo = .slice none 0 0
  re : y.re = .slice none 0 0
  t0 : y.t0 = .bool false
  t1 : y.t1 = .int .i64 0
  t2 : y.t2 = .slice none 0 0

set_option maxHeartbeats 4000000 in
theorem pesame_bare (y : PeV) (hy : Bare y) (h : HeadN) (sv : Value) (l : List SectN) (w : World) (x : HeadV ((List.range 39).map y.hd).toArray h sv) (hs : SectSl w sv l) (hdb : DirBd h) (g N cap : Nat) (f : Nat → Int) (hi : y.img = .slice (some ⟨g, 0, none⟩) N cap) (hr : RowB w g 0 N cap f) :
    Calls Tryz.prog 22 #[.agg (peC y), .agg (peC y)] w fun e u => e = .returned (.bool true) ∧ Below w.heap.size w u := by
  have hb0 : Below w.heap.size w ((w.alloc (.cells (peC y) 50)).alloc (.cells (peC y) 50)) := ((Below.refl w.heap.size w).alloc (Nat.le_refl _) _).alloc (by simp) _
  have hg0 := heap_alloc2_old w (.cells (peC y) 50) (.cells (peC y) 50)
  have hg1 := heap_alloc2_new w (.cells (peC y) 50) (.cells (peC y) 50)
  obtain ⟨w2, hw2⟩ : ∃ q, (w.alloc (.cells (peC y) 50)).alloc (.cells (peC y) 50) = q := ⟨_, rfl⟩
  rw [hw2] at hb0 hg0 hg1
  have HB0 := Lib.hid hb0
  have HW2 := Lib.hid hw2
  have HCF := Lib.hid (show ∀ W, Below w2.heap.size w2 W → ∀ j v, j < 50 → peF y j = v → W.cell? ⟨w.heap.size, j, none⟩ = some v ∧ W.cell? ⟨w.heap.size + 1, j, none⟩ = some v from fun W hW j v hj hv => by
    subst hv
    exact ⟨(hW.cell (p := ⟨w.heap.size, j, none⟩) (lt_of_row' hg0)).trans ((cell_of_row' hg0).trans (peC_cell y hj)), (hW.cell (p := ⟨w.heap.size + 1, j, none⟩) (lt_of_row' hg1)).trans ((cell_of_row' hg1).trans (peC_cell y hj))⟩)
  have hrg : ∀ P, (∀ j, j < 50 → w2.cell? ⟨P, j, none⟩ = some (peF y j)) → w2.rangeAt P 0 ((List.range 39).map y.hd) := fun P hP j v hv => by
    have hj : j < 39 := by
      rcases Nat.lt_or_ge j 39 with hj | hj
      · exact hj
      · simp [hj] at hv
    simp [hj] at hv
    subst hv
    rw [Nat.zero_add, hP j (by omega), peF_hd y hj]
  have HR0 := Lib.hid (hrg w.heap.size (fun j hj => (HCF.out w2 (Below.refl _ _) j _ hj rfl).1))
  have HR1 := Lib.hid (hrg (w.heap.size + 1) (fun j hj => (HCF.out w2 (Below.refl _ _) j _ hj rfl).2))
  have HHD := Lib.hid (fun W (hW : Below w2.heap.size w2 W) => sameHead_self _ _ h sv sv l W x x (by
    obtain ⟨A, c, k1, k2, k3⟩ := hs
    exact ⟨A, c, k1, k2.below (HB0.out.trans (hW.mono HB0.out.size)), k3⟩) (by
    obtain ⟨A, c, k1, k2, k3⟩ := hs
    exact ⟨A, c, k1, k2.below (HB0.out.trans (hW.mono HB0.out.size)), k3⟩) hdb)
  have HBE := Lib.hid (fun W (hW : Below w2.heap.size w2 W) => Tryz.bytes_Equal_strs (.slice (some ⟨g, 0, none⟩) N cap) (.slice (some ⟨g, 0, none⟩) N cap) (strF f 0 N) (strF f 0 N) W (run_str (cap := cap) (hr.below (HB0.out.trans (hW.mono HB0.out.size))).row) (run_str (cap := cap) (hr.below (HB0.out.trans (hW.mono HB0.out.size))).row))
  have HY := Lib.hid hy
  have HI := Lib.hid hi
  clear hrg hb0 hg0 hg1 hw2 hs hr hy hi
  go_enter Tryz.func22, Tryz.ntmps22
  go_upto_region 1 with (fail)
  refine (congrArg _ HW2.out).mpr ?_
  have HZ := Lib.hid (Below.refl w2.heap.size w2)
  simp only [List.append_eq, List.cons_append, List.nil_append]
  go_wp2_with (first
    | (refine wpList_load_mid rfl 41 (.tmp 5) rfl w.heap.size 0 rfl ((List.range 39).map y.hd) _ HR0.out Tryz.underlying41 rfl (by rw [List.length_map, List.length_range]; kernel_rfl) ?_)
    | (refine wpList_load_mid rfl 41 (.tmp 7) rfl (w.heap.size + 1) 0 rfl ((List.range 39).map y.hd) _ HR1.out Tryz.underlying41 rfl (by rw [List.length_map, List.length_range]; kernel_rfl) ?_)
    | fail)
  refine (HHD.out _ HZ.out).mono ?_
  rintro e w3 ⟨rfl, hb⟩
  replace HZ := Lib.hid (HZ.out.trans (hb.mono HZ.out.size))
  clear hb
  have a39 := (HCF.out _ HZ.out 39 _ (by omega) HI.out).1
  have b39 := (HCF.out _ HZ.out 39 _ (by omega) HI.out).2
  go_wp2_with fail
  refine (HBE.out _ HZ.out).mono ?_
  rintro e w4 ⟨rfl, rfl⟩
  rw [show ((strF f 0 N).toList == (strF f 0 N).toList) = true from by simp]
  clear a39 b39
  have a40 := (HCF.out _ HZ.out 40 _ (by omega) HY.out.e0).1
  have b40 := (HCF.out _ HZ.out 40 _ (by omega) HY.out.e0).2
  have a41 := (HCF.out _ HZ.out 41 _ (by omega) HY.out.e1).1
  have b41 := (HCF.out _ HZ.out 41 _ (by omega) HY.out.e1).2
  go_wp2_with fail
  refine (equal_Func (α := Unit) (fun _ => [.int .i64 0, .string ⟨#[]⟩]) (fun _ => 0) (fun _ => ⟨#[]⟩) (fun _ => rfl) none none [] [] 0 0 _ (.inl rfl) (.inl rfl) (by simp) (by simp) true ⟨fun _ => rfl, fun _ => rfl⟩).mono ?_
  rintro e w5 ⟨rfl, hb⟩
  replace HZ := Lib.hid (HZ.out.trans (hb.mono HZ.out.size))
  clear hb
  clear a40 b40 a41 b41
  have a42 := (HCF.out _ HZ.out 42 _ (by omega) HY.out.e2).1
  have b42 := (HCF.out _ HZ.out 42 _ (by omega) HY.out.e2).2
  go_wp2_with fail
  refine (equal_Named (α := Unit) (fun _ => [.string ⟨#[]⟩, .int .i64 0]) (fun _ => ⟨#[]⟩) (fun _ => 0) (fun _ => rfl) none none [] [] 0 0 _ (.inl rfl) (.inl rfl) (by simp) (by simp) true ⟨fun _ => rfl, fun _ => rfl⟩).mono ?_
  rintro e w6 ⟨rfl, hb⟩
  replace HZ := Lib.hid (HZ.out.trans (hb.mono HZ.out.size))
  clear hb
  clear a42 b42
  have a43 := (HCF.out _ HZ.out 43 _ (by omega) HY.out.im).1
  have b43 := (HCF.out _ HZ.out 43 _ (by omega) HY.out.im).2
  go_wp2_with fail
  refine (equalFunc_nil _ _).mono ?_
  rintro e w7 ⟨rfl, hb⟩
  replace HZ := Lib.hid (HZ.out.trans (hb.mono HZ.out.size))
  clear hb
  clear a43 b43
  have a44 := (HCF.out _ HZ.out 44 _ (by omega) HY.out.de).1
  have b44 := (HCF.out _ HZ.out 44 _ (by omega) HY.out.de).2
  go_wp2_with fail
  refine (equalFunc_nil _ _).mono ?_
  rintro e w8 ⟨rfl, hb⟩
  replace HZ := Lib.hid (HZ.out.trans (hb.mono HZ.out.size))
  clear hb
  clear a44 b44
  have a45 := (HCF.out _ HZ.out 45 _ (by omega) HY.out.bo).1
  have b45 := (HCF.out _ HZ.out 45 _ (by omega) HY.out.bo).2
  go_wp2_with fail
  refine (equal_Bound (α := Unit) (fun _ => [.string ⟨#[]⟩, .int .i64 0]) (fun _ => ⟨#[]⟩) (fun _ => 0) (fun _ => rfl) none none [] [] 0 0 _ (.inl rfl) (.inl rfl) (by simp) (by simp) true ⟨fun _ => rfl, fun _ => rfl⟩).mono ?_
  rintro e w9 ⟨rfl, hb⟩
  replace HZ := Lib.hid (HZ.out.trans (hb.mono HZ.out.size))
  clear hb
  clear a45 b45
  have a46 := (HCF.out _ HZ.out 46 _ (by omega) HY.out.re).1
  have b46 := (HCF.out _ HZ.out 46 _ (by omega) HY.out.re).2
  go_wp2_with fail
  refine (equal_Rel (α := Unit) (fun _ => [.int .i64 0, .int .i64 0]) (fun _ => 0) (fun _ => 0) (fun _ => rfl) none none [] [] 0 0 _ (.inl rfl) (.inl rfl) (by simp) (by simp) true ⟨fun _ => rfl, fun _ => rfl⟩).mono ?_
  rintro e w10 ⟨rfl, hb⟩
  replace HZ := Lib.hid (HZ.out.trans (hb.mono HZ.out.size))
  clear hb
  clear a46 b46
  have a47 := (HCF.out _ HZ.out 47 _ (by omega) HY.out.t0).1
  have b47 := (HCF.out _ HZ.out 47 _ (by omega) HY.out.t0).2
  have a48 := (HCF.out _ HZ.out 48 _ (by omega) HY.out.t1).1
  have b48 := (HCF.out _ HZ.out 48 _ (by omega) HY.out.t1).2
  have a49 := (HCF.out _ HZ.out 49 _ (by omega) HY.out.t2).1
  have b49 := (HCF.out _ HZ.out 49 _ (by omega) HY.out.t2).2
  go_wp2_with fail
  refine (Tryz.slices_Equal_int_empty none none 0 0 0 _ (by omega)).mono ?_
  rintro e w11 ⟨rfl, rfl⟩
  go_wp2_with fail
  go_ret
  exact ⟨rfl, HB0.out.trans (HZ.out.mono HB0.out.size)⟩

set_option maxHeartbeats 2000000 in
theorem needs_bare (y : PeV) (hy : Bare y) (w : World) : Calls Tryz.prog 17 #[.agg (peC y)] w fun e u => (∃ A c, e = .returned (.slice A 0 c)) ∧ Below w.heap.size w u := by
  have hb0 : Below w.heap.size w (w.alloc (.cells (peC y) 50)) := (Below.refl w.heap.size w).alloc (Nat.le_refl _) _
  have hg0 := heap_alloc_new w (.cells (peC y) 50)
  obtain ⟨w2, hw2⟩ : ∃ q, w.alloc (.cells (peC y) 50) = q := ⟨_, rfl⟩
  rw [hw2] at hb0 hg0
  have HB0 := Lib.hid hb0
  have HW2 := Lib.hid hw2
  have HCF := Lib.hid (show ∀ W, Below w2.heap.size w2 W → ∀ j v, j < 50 → peF y j = v → W.cell? ⟨w.heap.size, j, none⟩ = some v from fun W hW j v hj hv => by
    subst hv
    exact (hW.cell (p := ⟨w.heap.size, j, none⟩) (lt_of_row' hg0)).trans ((cell_of_row' hg0).trans (peC_cell y hj)))
  have HY := Lib.hid hy
  clear hb0 hg0 hw2 hy
  go_enter Tryz.func17, Tryz.ntmps17
  go_upto_region 1 with (fail)
  refine (congrArg _ HW2.out).mpr ?_
  have HZ := Lib.hid (Below.refl w2.heap.size w2)
  go_upto_region 2 with (fail)
  generalize hW3 : w2.alloc _ = w3
  replace HZ := Lib.hid (show Below w2.heap.size w2 w3 from by rw [← hW3]; exact (Below.refl _ _).alloc (Nat.le_refl _) _)
  clear hW3
  have a43 := HCF.out _ HZ.out 43 _ (by omega) HY.out.im
  have a41 := HCF.out _ HZ.out 41 _ (by omega) HY.out.e1
  go_wp2_with fail
  go_loopw [3, 15] (fun v3 v15 wr => v15 = .int .i64 0 ∧ v3 = .slice (some ⟨w2.heap.size, 0, none⟩) 0 0 ∧ wr = w3) (fun _ _ _ => 0)
  case atStart => exact ⟨rfl, rfl, rfl⟩
  case round =>
    obtain ⟨rfl, rfl, rfl⟩ := hrel
    go_wp2_with fail
    go_loopw [3, 28] (fun v3 v28 wx => v28 = .int .i64 0 ∧ v3 = .slice (some ⟨w2.heap.size, 0, none⟩) 0 0 ∧ wx = wr) (fun _ _ _ => 0)
    case atStart => exact ⟨rfl, rfl, rfl⟩
    case round =>
      obtain ⟨rfl, rfl, rfl⟩ := hrel
      go_wp2_with fail
      go_ret
      exact ⟨⟨_, _, rfl⟩, HB0.out.trans (HZ.out.mono HB0.out.size)⟩
end Go.Proofs.YtplgdpjbkdagfaaGreat
namespace Go.Proofs.YtplgdpjbkdagfaaGreat
open Go.ChangeShapes Go.WideShapes Go.ChangeAt Go.RowKit
set_option linter.unusedVariables false
set_option linter.unusedSimpArgs false
set_option maxRecDepth 100000

/-- The sections' row stays where it was laid. -/
theorem sect_stay {wb u : World} {z : Nat} {cs : Array Value} {hd : HeadN} {g c : Nat} {l : List SectN} (x : HeadL wb cs hd g c l) (hz : wb.heap[z]? = some (.cells (peC peZ) 50 (0, 0))) (hk : Kept (fun k => k < wb.heap.size ∧ k ≠ z) wb u) :
    SectSl u (.slice (some ⟨g, 0, none⟩) l.length c) l := by
  refine ⟨_, _, rfl, ?_, x.len⟩
  rcases x.sl with h | ⟨b, off, hb, hlt, hc⟩
  · exact .inl h
  by_cases hl : l = []
  · exact .inl hl
  injection hb with hb
  injection hb with h1 h2
  subst h1 h2
  have h0 : 0 < l.length := List.length_pos_iff.2 hl
  have hne : g ≠ z := by
    intro e
    subst e
    have k1 := hc 0 h0 0 (.string l[0].name) rfl
    rw [cell_of_row' hz, Nat.zero_add, Nat.zero_mul, peC_cell peZ (by omega)] at k1
    have k2 : peF peZ 0 = .int .u64 0 := rfl
    rw [k2] at k1
    injection k1 with k1
    cases k1
  have hbk := hk.block g ⟨x.lt, hne⟩
  refine .inr ⟨g, 0, rfl, lt_of_row' (hbk.trans (Array.getElem?_eq_getElem x.lt)), fun i hi j v hv => ?_⟩
  rw [World.cell?_of_block (a := ⟨g, _, none⟩) hbk]
  exact hc i hi j v hv

set_option maxHeartbeats 4000000 in
theorem awake12_any (w : World) : Calls Tryz.prog 12 #[] w fun e w' => e = .returned (.bool true) ∧ Below w.heap.size w w' := by
  go_enter Tryz.func12, Tryz.ntmps12
  go_wp2_with fail
  refine (made12_any w).mono ?_
  rintro e w1 ⟨g, c, F, rfl, ho, hm, hb⟩
  have hsm : SameH 1 F (overF F 1024 64 (fun _ => 0)) := SameH.over F 1024 64 _ (.inr (by omega))
  have hp := hsm.headP hm 8704 (by omega)
  have hK := hsm.headK hm 8704 (by omega)
  have hE := hsm.ok hm 8704 (by rw [at12]; exact Nat.le_refl _) (by omega) (by omega)
  have hpf := peparse_few g 0 8704 c (overF F 1024 64 (fun _ => 0)) w1 ho.rowB hE 16384 1024 (by rw [hp, hsm.size hm, rva12]; rfl) (by rw [hp, hsm.hdrs hm]; rfl) (fun _ => false) (fun i hi _ => by rw [hp]; exact (dirs_behind F _ 1024 64 i (by omega) hi).trans (hm.dirs0 i hi))
  rw [show firstE (erB false 11) (erB false 10) (erB false 9) (erB false 12) (erB false 8) (erB false 10) = 0 by rfl] at hpf
  have HBA := Lib.hid (show (readS (overF F 1024 64 (fun _ => 0)) (headP 8704 (overF F 1024 64 (fun _ => 0)))).base = 65536 by rw [hp]; exact hsm.base hm)
  have H255 := Lib.hid (over255 ho.by255 ho.by255 0 0)
  have HFF := Lib.hid (ho.by255)
  have HB1 := Lib.hid hb
  have HPF := Lib.hid hpf
  generalize overF F 1024 64 (fun _ => 0) = f at *
  clear hsm hp hK hE hpf hb ho hm H255
  go_wp2_with fail
  refine HPF.out.mono ?_
  rintro e w2 ⟨hb, hq⟩
  cases hq with
  | bad h => exact absurd rfl h
  | good h0 y cs gi W0 hk hh hi ho hW lE lI lR lT lB lD =>
    obtain ⟨wb, ⟨gh, hl⟩, hz, hkk⟩ := hk
    have hbare : Bare y := by
      obtain ⟨a, b, d⟩ := lE.now
      obtain ⟨p, q, r⟩ := lT.now
      exact ⟨a, b, d, lI.now, lD.now, lB.now, lR.now, p, q, r⟩
    have hcs : ((List.range 39).map y.hd).toArray = cs := by
      apply Array.ext
      · simp [hl.hv.size]
      · intro i h1 h2
        have h3 := hh i (by simpa using h1)
        rw [Array.getElem?_eq_getElem h2] at h3
        simpa using (Option.some.inj h3).symm
    have hsl := sect_stay hl hz hkk
    have hv := hl.hv
    have hd0 : y.hd 0 = .int .u64 65536 := by
      have h1 := hv.c0
      rw [hh 0 (by omega), HBA.out] at h1
      exact Option.some.inj h1
    rw [← hcs] at hv
    have hdb : DirBd (readS f (headP 8704 f)) := fun i hi => ⟨(rdF_bd f HFF.out 4 _).1, (rdF_bd f HFF.out 4 _).2, (rdF_bd f HFF.out 4 _).1, (rdF_bd f HFF.out 4 _).2⟩
    have hone : (peC y).all (·.oneCell') = true := by
      refine peC_one y (fun j hj => ?_) (by rw [hi]; rfl) ⟨⟨by rw [hbare.e0]; rfl, by rw [hbare.e1]; rfl, by rw [hbare.e2]; rfl⟩, by rw [hbare.im]; rfl, by rw [hbare.re]; rfl, ⟨by rw [hbare.t0]; rfl, by rw [hbare.t1]; rfl, by rw [hbare.t2]; rfl⟩, by rw [hbare.bo]; rfl, by rw [hbare.de]; rfl⟩
      have h1 := hl.hv.one rfl
      have h2 := Array.all_eq_true_iff_forall_mem.1 h1 (y.hd j) (Array.mem_of_getElem? (hh j hj))
      exact h2
    have HON := Lib.hid hone
    have HB2 := Lib.hid (HB1.out.trans (hb.mono HB1.out.size))
    have HO2 := Lib.hid ho
    have HSL := Lib.hid hsl
    have HV := Lib.hid hv
    have HDB := Lib.hid hdb
    have HBR := Lib.hid hbare
    have HI := Lib.hid hi
    have HD0 := Lib.hid hd0
    clear hl hz hkk lE lI lR lT lB lD hW hh hcs hsl hv hdb hone hbare hi hd0 ho hb h0 HB1 HPF HBA
    simp only []
    --J1
    go_upto_region 2 with (refine wpList_store_row rfl 50 _ _ rfl w2.heap.size (peC y) rfl rfl 50 _ (heap_alloc_new _ _) (by rw [peC_size]; kernel_rfl) (by rw [peC_size]; rfl) HON.out ?_)
    rw [zero_pe]
    have hz3 := setRow_heap (w2.alloc (.cells (peC peZ) 50)) w2.heap.size _ (peC y) _ _ (heap_alloc_new _ _)
    have hb3 : Below w2.heap.size w2 ((w2.alloc (.cells (peC peZ) 50)).setRow w2.heap.size (peC y)) := below_setRow ((Below.refl _ w2).alloc (Nat.le_refl _) _) (Nat.le_refl _) _
    generalize (w2.alloc (.cells (peC peZ) 50)).setRow w2.heap.size (peC y) = w3 at *
    obtain ⟨P1, hP1⟩ : ∃ q, w2.heap.size = q := ⟨_, rfl⟩
    rw [hP1] at hz3 ⊢
    have HZ3 := Lib.hid hz3
    have HB23 := Lib.hid hb3
    clear hz3 hb3
    --J2
    go_wp2_with fail
    refine (peparse_err (.slice none 0 0) 2 (by decide) w3 (fun W _ => hparse_nil W)).mono ?_
    rintro e w4 ⟨rfl, hb4⟩
    have HZ4 := Lib.hid ((hb4.block P1 (lt_of_row' HZ3.out)).trans HZ3.out)
    have HB24 := Lib.hid (HB23.out.trans (hb4.mono HB23.out.size))
    clear hb4 HZ3 HB23
    --J3
    go_upto_region 3 with (refine wpList_store_row rfl 50 _ _ rfl w4.heap.size (peC peZ) rfl rfl 50 _ (heap_alloc_new _ _) (by rw [peC_size]; kernel_rfl) (by rw [peC_size]; rfl) peZ_one ?_)
    rw [zero_pe]
    have hb5 : Below w4.heap.size w4 ((w4.alloc (.cells (peC peZ) 50)).setRow w4.heap.size (peC peZ)) := below_setRow ((Below.refl _ w4).alloc (Nat.le_refl _) _) (Nat.le_refl _) _
    generalize (w4.alloc (.cells (peC peZ) 50)).setRow w4.heap.size (peC peZ) = w5 at *
    have HZ5 := Lib.hid ((hb5.block P1 (lt_of_row' HZ4.out)).trans HZ4.out)
    have HB25 := Lib.hid (HB24.out.trans (hb5.mono HB24.out.size))
    clear hb5 HZ4 HB24
    generalize w4.heap.size = P2 at *
    --J4
    have k0 : w5.cell? ⟨P1, 0, none⟩ = some (.int .u64 65536) := by rw [cell_of_row' HZ5.out, peC_cell y (by omega), peF_hd y (by omega), HD0.out]
    have k39 : w5.cell? ⟨P1, 39, none⟩ = some (.slice (some ⟨gi, 0, none⟩) 16384 16384) := by rw [cell_of_row' HZ5.out, peC_cell y (by omega)]; exact congrArg some HI.out
    have k43 : w5.cell? ⟨P1, 43, none⟩ = some (.slice none 0 0) := by rw [cell_of_row' HZ5.out, peC_cell y (by omega)]; exact congrArg some HBR.out.im
    have HSA := Lib.hid (pesame_bare y HBR.out _ _ _ w5 HV.out (by
      obtain ⟨A, c, k1, k2, k3⟩ := HSL.out
      exact ⟨A, c, k1, k2.below HB25.out, k3⟩) HDB.out gi 16384 16384 _ HI.out (HO2.out.below HB25.out).rowB)
    go_wp2_with (first
      | (refine wpList_load_row_g (by rfl) 50 _ rfl P1 rfl 50 (peC y) (0, 0) _ HZ5.out Tryz.underlying50 rfl (by rw [peC_size]; kernel_rfl) ?_)
      | fail)
    trace_state
    refine HSA.out.mono ?_
    rintro e w6 ⟨rfl, hb6⟩
    have HZ6 := Lib.hid ((hb6.block P1 (lt_of_row' HZ5.out)).trans HZ5.out)
    have HB26 := Lib.hid (HB25.out.trans (hb6.mono HB25.out.size))
    clear hb6 HSA k0 k39 k43
    go_wp2_with (first
      | (refine wpList_load_row_g (by rfl) 50 _ rfl P1 rfl 50 (peC y) (0, 0) _ HZ6.out Tryz.underlying50 rfl (by rw [peC_size]; kernel_rfl) ?_)
      | fail)
    refine (needs_bare y HBR.out w6).mono ?_
    rintro e w7 ⟨⟨A, c', rfl⟩, hb7⟩
    go_wp2_with fail
    go_ret
    exact ⟨rfl, HB2.out.trans ((HB26.out.trans (hb7.mono HB26.out.size)).mono HB2.out.size)⟩

theorem PeFirst_any (a b : Int) (w : World) : Calls Tryz.prog 3 #[.int .i64 a, .int .i64 b] w fun e w' => e = .returned (.bool true) ∧ Below w.heap.size w w' := first_core awake12_any a b w
end Go.Proofs.YtplgdpjbkdagfaaGreat
