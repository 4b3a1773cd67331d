/- The document's answer on whether two offers are the same. · The document's answer on finding a function among what is offered; exps.Find. · The document's answer on finding a function: Find. · exps.Find. -/
import Derived.Test.YtbjabncefhgefaaMgB
import Derived.Test.YtbjabncefhgefaaExpG
namespace Go.Proofs.Ytbjabncefhgefaa
open Go.ChangeShapes Go.WideShapes Go.ChangeAt Go.RowKit
set_option linter.unusedVariables false
set_option linter.unusedSimpArgs false

set_option maxRecDepth 100000 in
set_option maxHeartbeats 4000000 in
theorem rsameE_any (b0 : Nat) (fs : List FnV) (ns : List NmV) (F N F' N' : Option Addr) (fc nc fc' nc' : Nat) (w : World) (hF : SlT gC 2 w F fs) (hN : SlT nC 2 w N ns) (hF' : SlT gC 2 w F' fs) (hN' : SlT nC 2 w N' ns) (hfl : fs.length ≤ 1000000) (hnl : ns.length ≤ 1000000) :
    Calls Try.prog 17 #[.agg #[.int .i64 b0, .slice F fs.length fc, .slice N ns.length nc], .agg #[.int .i64 b0, .slice F' fs.length fc', .slice N' ns.length nc']] w fun e w' => e = .returned (.bool true) ∧ Below w.heap.size w w' := by
  obtain ⟨w1, hw1⟩ : ∃ w1, (w.alloc (.cells #[.int .i64 b0, .slice F fs.length fc, .slice N ns.length nc] 32)).alloc (.cells #[.int .i64 b0, .slice F' fs.length fc', .slice N' ns.length nc'] 32) = w1 := ⟨_, rfl⟩
  have hs1 : (w.alloc (.cells #[.int .i64 b0, .slice F fs.length fc, .slice N ns.length nc] 32)).heap.size = w.heap.size + 1 := by simp
  have HB := Lib.hid (show Below w.heap.size w w1 from by rw [← hw1]; exact ((Below.refl w.heap.size w).alloc (Nat.le_refl _) _).alloc (by rw [hs1]; omega) _)
  have H0 := Lib.hid (show w1.heap[w.heap.size]? = some (.cells #[.int .i64 b0, .slice F fs.length fc, .slice N ns.length nc] 32 (0, 0)) from by
    rw [← hw1]
    exact (Below.heap_alloc _ _ w.heap.size (by rw [hs1]; omega)).trans (heap_alloc_new w _))
  have H1 := Lib.hid (show w1.heap[w.heap.size + 1]? = some (.cells #[.int .i64 b0, .slice F' fs.length fc', .slice N' ns.length nc'] 32 (0, 0)) from by
    rw [← hw1]
    have h := heap_alloc_new (w.alloc (.cells #[.int .i64 b0, .slice F fs.length fc, .slice N ns.length nc] 32)) (.cells #[.int .i64 b0, .slice F' fs.length fc', .slice N' ns.length nc'] 32)
    rwa [hs1] at h)
  have HE1 := Lib.hid hw1
  have HF := Lib.hid (fun W (hW : Below w.heap.size w W) => hF.below hW)
  have HN := Lib.hid (fun W (hW : Below w.heap.size w W) => hN.below hW)
  have HF' := Lib.hid (fun W (hW : Below w.heap.size w W) => hF'.below hW)
  have HN' := Lib.hid (fun W (hW : Below w.heap.size w W) => hN'.below hW)
  clear hw1 hs1 hF hN hF' hN'
  have p0 : w1.cell? ⟨w.heap.size, 0, none⟩ = some (.int .i64 b0) := by rw [cell_of_row _ _ _ _ _ _ H0.out]; rfl
  have p1 : w1.cell? ⟨w.heap.size, 1, none⟩ = some (.slice F fs.length fc) := by rw [cell_of_row _ _ _ _ _ _ H0.out]; rfl
  have p2 : w1.cell? ⟨w.heap.size, 2, none⟩ = some (.slice N ns.length nc) := by rw [cell_of_row _ _ _ _ _ _ H0.out]; rfl
  have q0 : w1.cell? ⟨w.heap.size + 1, 0, none⟩ = some (.int .i64 b0) := by rw [cell_of_row _ _ _ _ _ _ H1.out]; rfl
  have q1 : w1.cell? ⟨w.heap.size + 1, 1, none⟩ = some (.slice F' fs.length fc') := by rw [cell_of_row _ _ _ _ _ _ H1.out]; rfl
  have q2 : w1.cell? ⟨w.heap.size + 1, 2, none⟩ = some (.slice N' ns.length nc') := by rw [cell_of_row _ _ _ _ _ _ H1.out]; rfl
  go_enter Try.func17, Try.ntmps17
  go_upto_region 1 with (fail)
  refine (congrArg _ HE1.out).mpr ?_
  go_wp2_with fail
  go_loopw [5] (fun v5 wr => ∃ i : Nat, i ≤ fs.length ∧ v5 = .int .i64 i ∧ Below w.heap.size w wr ∧ wr.heap[w.heap.size]? = some (.cells #[.int .i64 b0, .slice F fs.length fc, .slice N ns.length nc] 32 (0, 0)) ∧ wr.heap[w.heap.size + 1]? = some (.cells #[.int .i64 b0, .slice F' fs.length fc', .slice N' ns.length nc'] 32 (0, 0))) (fun v5 _ => fs.length - (intOf v5).toNat)
  case atStart => exact ⟨0, Nat.zero_le _, rfl, HB.out, H0.out, H1.out⟩
  case round =>
    obtain ⟨i, hi, rfl, hbel, h0, h1⟩ := hrel
    replace HB := Lib.hid hbel
    replace H0 := Lib.hid h0
    replace H1 := Lib.hid h1
    clear hbel h0 h1 p0 p1 p2 q0 q1 q2
    have p0 : wr.cell? ⟨w.heap.size, 0, none⟩ = some (.int .i64 b0) := by rw [cell_of_row _ _ _ _ _ _ H0.out]; rfl
    have p1 : wr.cell? ⟨w.heap.size, 1, none⟩ = some (.slice F fs.length fc) := by rw [cell_of_row _ _ _ _ _ _ H0.out]; rfl
    have p2 : wr.cell? ⟨w.heap.size, 2, none⟩ = some (.slice N ns.length nc) := by rw [cell_of_row _ _ _ _ _ _ H0.out]; rfl
    have q0 : wr.cell? ⟨w.heap.size + 1, 0, none⟩ = some (.int .i64 b0) := by rw [cell_of_row _ _ _ _ _ _ H1.out]; rfl
    have q1 : wr.cell? ⟨w.heap.size + 1, 1, none⟩ = some (.slice F' fs.length fc') := by rw [cell_of_row _ _ _ _ _ _ H1.out]; rfl
    have q2 : wr.cell? ⟨w.heap.size + 1, 2, none⟩ = some (.slice N' ns.length nc') := by rw [cell_of_row _ _ _ _ _ _ H1.out]; rfl
    by_cases hlt : i < fs.length
    · obtain ⟨b, off, rfl, hbl, x0, x1⟩ := (HF.out wr HB.out).fn hlt
      obtain ⟨b', off', rfl, hbl', y0, y1⟩ := (HF'.out wr HB.out).fn hlt
      obtain ⟨xx, hxx⟩ : ∃ x, fs[i] = x := ⟨_, rfl⟩
      rw [hxx] at x0 x1 y0 y1
      have hltI : (i : Int) < (fs.length : Int) := by omega
      have HC := Lib.hid (fun W (hW : Below wr.heap.size wr W) => And.intro ((hW.cell (p := ⟨w.heap.size, 1, none⟩) (lt_of_row' H0.out)).trans p1) (And.intro ((hW.cell (p := ⟨w.heap.size + 1, 1, none⟩) (lt_of_row' H1.out)).trans q1) (And.intro ((hW.cell (p := ⟨b, off + i * 2, none⟩) hbl).trans x0) (And.intro ((hW.cell (p := ⟨b, off + i * 2 + 1, none⟩) hbl).trans x1) (And.intro ((hW.cell (p := ⟨b', off' + i * 2, none⟩) hbl').trans y0) ((hW.cell (p := ⟨b', off' + i * 2 + 1, none⟩) hbl').trans y1))))))
      clear x0 x1 y0 y1 hxx hbl hbl'
      go_upto_region 6 with (fail)
      clear p0 p1 p2 q0 q1 q2
      have HS := Lib.hid (show Below wr.heap.size wr wr.drew from (Below.refl _ _).drew)
      refine wp_region_noPanic ?_
      refine wp_region_K (fun W => Below wr.heap.size wr W) (fun _ => True) 99 (by kernel_rfl) ?_
      refine wpAnyK_take (i := 0) (oi := ?_) (v := ?_) ?_ (by kernel_rfl) (by kernel_rfl) (by kernel_rfl) (fun _ _ _ h => h) (by decide) ?_ HS.out (fun _ => trivial) ?_
      rotate_left 2
      · (simp only [List.getElem?_toArray, List.getElem?_cons_succ, List.getElem?_cons_zero]; rfl)
      · (first | exact Or.inr ⟨by rfl, rfl⟩ | (refine Or.inl ⟨by rfl, ?_⟩; intro W hSw; clear hSw; go_simp; try with_reducible rfl))
      try simp only [Act.put, List.setIfInBounds_toArray, List.set_cons_zero, List.set_cons_succ]
      refine wpAnyK_take (i := 1) (oi := ?_) (v := ?_) ?_ (by kernel_rfl) (by kernel_rfl) (by kernel_rfl) (fun _ _ _ h => h) (by decide) ?_ HS.out (fun _ => trivial) ?_
      rotate_left 2
      · (simp only [List.getElem?_toArray, List.getElem?_cons_succ, List.getElem?_cons_zero]; rfl)
      · (first | exact Or.inr ⟨by rfl, rfl⟩ | (refine Or.inl ⟨by rfl, ?_⟩; intro W hSw; obtain ⟨z0, z1, z2, z3, z4, z5⟩ := HC.out W hSw; clear hSw; go_simp; try with_reducible rfl))
      try simp only [Act.put, List.setIfInBounds_toArray, List.set_cons_zero, List.set_cons_succ]
      refine wpAnyK_take (i := 2) (oi := ?_) (v := ?_) ?_ (by kernel_rfl) (by kernel_rfl) (by kernel_rfl) (fun _ _ _ h => h) (by decide) ?_ HS.out (fun _ => trivial) ?_
      rotate_left 2
      · (simp only [List.getElem?_toArray, List.getElem?_cons_succ, List.getElem?_cons_zero]; rfl)
      · (first | exact Or.inr ⟨by rfl, rfl⟩ | (refine Or.inl ⟨by rfl, ?_⟩; intro W hSw; clear hSw; go_simp; try with_reducible rfl))
      try simp only [Act.put, List.setIfInBounds_toArray, List.set_cons_zero, List.set_cons_succ]
      refine wpAnyK_take (i := 3) (oi := ?_) (v := ?_) ?_ (by kernel_rfl) (by kernel_rfl) (by kernel_rfl) (fun _ _ _ h => h) (by decide) ?_ HS.out (fun _ => trivial) ?_
      rotate_left 2
      · (simp only [List.getElem?_toArray, List.getElem?_cons_succ, List.getElem?_cons_zero]; rfl)
      · (first | exact Or.inr ⟨by rfl, rfl⟩ | (refine Or.inl ⟨by rfl, ?_⟩; intro W hSw; clear hSw; go_simp; try with_reducible rfl))
      try simp only [Act.put, List.setIfInBounds_toArray, List.set_cons_zero, List.set_cons_succ]
      refine wpAnyK_take (i := 4) (oi := ?_) (v := ?_) ?_ (by kernel_rfl) (by kernel_rfl) (by kernel_rfl) (fun _ _ _ h => h) (by decide) ?_ HS.out (fun _ => trivial) ?_
      rotate_left 2
      · (simp only [List.getElem?_toArray, List.getElem?_cons_succ, List.getElem?_cons_zero]; rfl)
      · (first | exact Or.inr ⟨by rfl, rfl⟩ | (refine Or.inl ⟨by rfl, ?_⟩; intro W hSw; obtain ⟨z0, z1, z2, z3, z4, z5⟩ := HC.out W hSw; clear hSw; go_simp; try with_reducible rfl))
      try simp only [Act.put, List.setIfInBounds_toArray, List.set_cons_zero, List.set_cons_succ]
      refine wpAnyK_take (i := 5) (oi := ?_) (v := ?_) ?_ (by kernel_rfl) (by kernel_rfl) (by kernel_rfl) (fun _ _ _ h => h) (by decide) ?_ HS.out (fun _ => trivial) ?_
      rotate_left 2
      · (simp only [List.getElem?_toArray, List.getElem?_cons_succ, List.getElem?_cons_zero]; rfl)
      · (first | exact Or.inr ⟨by rfl, rfl⟩ | (refine Or.inl ⟨by rfl, ?_⟩; intro W hSw; clear hSw; go_simp; try with_reducible rfl))
      try simp only [Act.put, List.setIfInBounds_toArray, List.set_cons_zero, List.set_cons_succ]
      refine wpAnyK_take (i := 6) (oi := ?_) (v := ?_) ?_ (by kernel_rfl) (by kernel_rfl) (by kernel_rfl) (fun _ _ _ h => h) (by decide) ?_ HS.out (fun _ => trivial) ?_
      rotate_left 2
      · (simp only [List.getElem?_toArray, List.getElem?_cons_succ, List.getElem?_cons_zero]; rfl)
      · (first | exact Or.inr ⟨by rfl, rfl⟩ | (refine Or.inl ⟨by rfl, ?_⟩; intro W hSw; obtain ⟨z0, z1, z2, z3, z4, z5⟩ := HC.out W hSw; clear hSw; go_simp; try with_reducible rfl))
      try simp only [Act.put, List.setIfInBounds_toArray, List.set_cons_zero, List.set_cons_succ]
      refine wpAnyK_take (i := 7) (oi := ?_) (v := ?_) ?_ (by kernel_rfl) (by kernel_rfl) (by kernel_rfl) (fun _ _ _ h => h) (by decide) ?_ HS.out (fun _ => trivial) ?_
      rotate_left 2
      · (simp only [List.getElem?_toArray, List.getElem?_cons_succ, List.getElem?_cons_zero]; rfl)
      · (first | exact Or.inr ⟨by rfl, rfl⟩ | (refine Or.inl ⟨by rfl, ?_⟩; intro W hSw; clear hSw; go_simp; try with_reducible rfl))
      try simp only [Act.put, List.setIfInBounds_toArray, List.set_cons_zero, List.set_cons_succ]
      refine wpAnyK_take (i := 8) (oi := ?_) (v := ?_) ?_ (by kernel_rfl) (by kernel_rfl) (by kernel_rfl) (fun _ _ _ h => h) (by decide) ?_ HS.out (fun _ => trivial) ?_
      rotate_left 2
      · (simp only [List.getElem?_toArray, List.getElem?_cons_succ, List.getElem?_cons_zero]; rfl)
      · (first | exact Or.inr ⟨by rfl, rfl⟩ | (refine Or.inl ⟨by rfl, ?_⟩; intro W hSw; clear hSw; go_simp; try with_reducible rfl))
      try simp only [Act.put, List.setIfInBounds_toArray, List.set_cons_zero, List.set_cons_succ]
      refine wpAnyK_take (i := 9) (oi := ?_) (v := ?_) ?_ (by kernel_rfl) (by kernel_rfl) (by kernel_rfl) (fun _ _ _ h => h) (by decide) ?_ HS.out (fun _ => trivial) ?_
      rotate_left 2
      · (simp only [List.getElem?_toArray, List.getElem?_cons_succ, List.getElem?_cons_zero]; rfl)
      · (first | exact Or.inr ⟨by rfl, rfl⟩ | (refine Or.inl ⟨by rfl, ?_⟩; intro W hSw; obtain ⟨z0, z1, z2, z3, z4, z5⟩ := HC.out W hSw; clear hSw; go_simp; try with_reducible rfl))
      try simp only [Act.put, List.setIfInBounds_toArray, List.set_cons_zero, List.set_cons_succ]
      refine wpAnyK_take (i := 10) (oi := ?_) (v := ?_) ?_ (by kernel_rfl) (by kernel_rfl) (by kernel_rfl) (fun _ _ _ h => h) (by decide) ?_ HS.out (fun _ => trivial) ?_
      rotate_left 2
      · (simp only [List.getElem?_toArray, List.getElem?_cons_succ, List.getElem?_cons_zero]; rfl)
      · (first | exact Or.inr ⟨by rfl, rfl⟩ | (refine Or.inl ⟨by rfl, ?_⟩; intro W hSw; clear hSw; go_simp; try with_reducible rfl))
      try simp only [Act.put, List.setIfInBounds_toArray, List.set_cons_zero, List.set_cons_succ]
      refine wpAnyK_done (by kernel_rfl) ?_ _
      refine NoPanic.normal ?_
      clear HC HS
      go_wp2_with fail
      go_roundw
      case rel => exact ⟨i + 1, by omega, by go_num, HB.out.drew, H0.out, H1.out⟩
      case measure => simp [intOf]; omega
    · obtain rfl : i = fs.length := by omega
      go_wp2_with fail
      go_loopw [6] (fun v6 wr => ∃ i : Nat, i ≤ ns.length ∧ v6 = .int .i64 i ∧ Below w.heap.size w wr ∧ wr.heap[w.heap.size]? = some (.cells #[.int .i64 b0, .slice F fs.length fc, .slice N ns.length nc] 32 (0, 0)) ∧ wr.heap[w.heap.size + 1]? = some (.cells #[.int .i64 b0, .slice F' fs.length fc', .slice N' ns.length nc'] 32 (0, 0))) (fun v6 _ => ns.length - (intOf v6).toNat)
      case atStart => exact ⟨0, Nat.zero_le _, rfl, HB.out, H0.out, H1.out⟩
      case round =>
        obtain ⟨i, hi, rfl, hbel, h0, h1⟩ := hrel
        replace HB := Lib.hid hbel
        replace H0 := Lib.hid h0
        replace H1 := Lib.hid h1
        clear hbel h0 h1 p0 p1 p2 q0 q1 q2
        have p0 : wr.cell? ⟨w.heap.size, 0, none⟩ = some (.int .i64 b0) := by rw [cell_of_row _ _ _ _ _ _ H0.out]; rfl
        have p1 : wr.cell? ⟨w.heap.size, 1, none⟩ = some (.slice F fs.length fc) := by rw [cell_of_row _ _ _ _ _ _ H0.out]; rfl
        have p2 : wr.cell? ⟨w.heap.size, 2, none⟩ = some (.slice N ns.length nc) := by rw [cell_of_row _ _ _ _ _ _ H0.out]; rfl
        have q0 : wr.cell? ⟨w.heap.size + 1, 0, none⟩ = some (.int .i64 b0) := by rw [cell_of_row _ _ _ _ _ _ H1.out]; rfl
        have q1 : wr.cell? ⟨w.heap.size + 1, 1, none⟩ = some (.slice F' fs.length fc') := by rw [cell_of_row _ _ _ _ _ _ H1.out]; rfl
        have q2 : wr.cell? ⟨w.heap.size + 1, 2, none⟩ = some (.slice N' ns.length nc') := by rw [cell_of_row _ _ _ _ _ _ H1.out]; rfl
        by_cases hlt : i < ns.length
        · obtain ⟨b, off, rfl, hbl, x0, x1⟩ := (HN.out wr HB.out).nm hlt
          obtain ⟨b', off', rfl, hbl', y0, y1⟩ := (HN'.out wr HB.out).nm hlt
          obtain ⟨xx, hxx⟩ : ∃ x, ns[i] = x := ⟨_, rfl⟩
          rw [hxx] at x0 x1 y0 y1
          have hltI : (i : Int) < (ns.length : Int) := by omega
          have HC := Lib.hid (fun W (hW : Below wr.heap.size wr W) => And.intro ((hW.cell (p := ⟨w.heap.size, 2, none⟩) (lt_of_row' H0.out)).trans p2) (And.intro ((hW.cell (p := ⟨w.heap.size + 1, 2, none⟩) (lt_of_row' H1.out)).trans q2) (And.intro ((hW.cell (p := ⟨b, off + i * 2, none⟩) hbl).trans x0) (And.intro ((hW.cell (p := ⟨b, off + i * 2 + 1, none⟩) hbl).trans x1) (And.intro ((hW.cell (p := ⟨b', off' + i * 2, none⟩) hbl').trans y0) ((hW.cell (p := ⟨b', off' + i * 2 + 1, none⟩) hbl').trans y1))))))
          clear x0 x1 y0 y1 hxx hbl hbl'
          go_upto_region 11 with (fail)
          clear p0 p1 p2 q0 q1 q2
          have HS := Lib.hid (show Below wr.heap.size wr wr.drew from (Below.refl _ _).drew)
          refine wp_region_noPanic ?_
          refine wp_region_K (fun W => Below wr.heap.size wr W) (fun _ => True) 99 (by kernel_rfl) ?_
          refine wpAnyK_take (i := 0) (oi := ?_) (v := ?_) ?_ (by kernel_rfl) (by kernel_rfl) (by kernel_rfl) (fun _ _ _ h => h) (by decide) ?_ HS.out (fun _ => trivial) ?_
          rotate_left 2
          · (simp only [List.getElem?_toArray, List.getElem?_cons_succ, List.getElem?_cons_zero]; rfl)
          · (first | exact Or.inr ⟨by rfl, rfl⟩ | (refine Or.inl ⟨by rfl, ?_⟩; intro W hSw; clear hSw; go_simp; try with_reducible rfl))
          try simp only [Act.put, List.setIfInBounds_toArray, List.set_cons_zero, List.set_cons_succ]
          refine wpAnyK_take (i := 1) (oi := ?_) (v := ?_) ?_ (by kernel_rfl) (by kernel_rfl) (by kernel_rfl) (fun _ _ _ h => h) (by decide) ?_ HS.out (fun _ => trivial) ?_
          rotate_left 2
          · (simp only [List.getElem?_toArray, List.getElem?_cons_succ, List.getElem?_cons_zero]; rfl)
          · (first | exact Or.inr ⟨by rfl, rfl⟩ | (refine Or.inl ⟨by rfl, ?_⟩; intro W hSw; obtain ⟨z0, z1, z2, z3, z4, z5⟩ := HC.out W hSw; clear hSw; go_simp; try with_reducible rfl))
          try simp only [Act.put, List.setIfInBounds_toArray, List.set_cons_zero, List.set_cons_succ]
          refine wpAnyK_take (i := 2) (oi := ?_) (v := ?_) ?_ (by kernel_rfl) (by kernel_rfl) (by kernel_rfl) (fun _ _ _ h => h) (by decide) ?_ HS.out (fun _ => trivial) ?_
          rotate_left 2
          · (simp only [List.getElem?_toArray, List.getElem?_cons_succ, List.getElem?_cons_zero]; rfl)
          · (first | exact Or.inr ⟨by rfl, rfl⟩ | (refine Or.inl ⟨by rfl, ?_⟩; intro W hSw; clear hSw; go_simp; try with_reducible rfl))
          try simp only [Act.put, List.setIfInBounds_toArray, List.set_cons_zero, List.set_cons_succ]
          refine wpAnyK_take (i := 3) (oi := ?_) (v := ?_) ?_ (by kernel_rfl) (by kernel_rfl) (by kernel_rfl) (fun _ _ _ h => h) (by decide) ?_ HS.out (fun _ => trivial) ?_
          rotate_left 2
          · (simp only [List.getElem?_toArray, List.getElem?_cons_succ, List.getElem?_cons_zero]; rfl)
          · (first | exact Or.inr ⟨by rfl, rfl⟩ | (refine Or.inl ⟨by rfl, ?_⟩; intro W hSw; clear hSw; go_simp; try with_reducible rfl))
          try simp only [Act.put, List.setIfInBounds_toArray, List.set_cons_zero, List.set_cons_succ]
          refine wpAnyK_take (i := 4) (oi := ?_) (v := ?_) ?_ (by kernel_rfl) (by kernel_rfl) (by kernel_rfl) (fun _ _ _ h => h) (by decide) ?_ HS.out (fun _ => trivial) ?_
          rotate_left 2
          · (simp only [List.getElem?_toArray, List.getElem?_cons_succ, List.getElem?_cons_zero]; rfl)
          · (first | exact Or.inr ⟨by rfl, rfl⟩ | (refine Or.inl ⟨by rfl, ?_⟩; intro W hSw; obtain ⟨z0, z1, z2, z3, z4, z5⟩ := HC.out W hSw; clear hSw; go_simp; try with_reducible rfl))
          try simp only [Act.put, List.setIfInBounds_toArray, List.set_cons_zero, List.set_cons_succ]
          refine wpAnyK_take (i := 5) (oi := ?_) (v := ?_) ?_ (by kernel_rfl) (by kernel_rfl) (by kernel_rfl) (fun _ _ _ h => h) (by decide) ?_ HS.out (fun _ => trivial) ?_
          rotate_left 2
          · (simp only [List.getElem?_toArray, List.getElem?_cons_succ, List.getElem?_cons_zero]; rfl)
          · (first | exact Or.inr ⟨by rfl, rfl⟩ | (refine Or.inl ⟨by rfl, ?_⟩; intro W hSw; clear hSw; go_simp; try with_reducible rfl))
          try simp only [Act.put, List.setIfInBounds_toArray, List.set_cons_zero, List.set_cons_succ]
          refine wpAnyK_take (i := 6) (oi := ?_) (v := ?_) ?_ (by kernel_rfl) (by kernel_rfl) (by kernel_rfl) (fun _ _ _ h => h) (by decide) ?_ HS.out (fun _ => trivial) ?_
          rotate_left 2
          · (simp only [List.getElem?_toArray, List.getElem?_cons_succ, List.getElem?_cons_zero]; rfl)
          · (first | exact Or.inr ⟨by rfl, rfl⟩ | (refine Or.inl ⟨by rfl, ?_⟩; intro W hSw; obtain ⟨z0, z1, z2, z3, z4, z5⟩ := HC.out W hSw; clear hSw; go_simp; try with_reducible rfl))
          try simp only [Act.put, List.setIfInBounds_toArray, List.set_cons_zero, List.set_cons_succ]
          refine wpAnyK_take (i := 7) (oi := ?_) (v := ?_) ?_ (by kernel_rfl) (by kernel_rfl) (by kernel_rfl) (fun _ _ _ h => h) (by decide) ?_ HS.out (fun _ => trivial) ?_
          rotate_left 2
          · (simp only [List.getElem?_toArray, List.getElem?_cons_succ, List.getElem?_cons_zero]; rfl)
          · (first | exact Or.inr ⟨by rfl, rfl⟩ | (refine Or.inl ⟨by rfl, ?_⟩; intro W hSw; clear hSw; go_simp; try with_reducible rfl))
          try simp only [Act.put, List.setIfInBounds_toArray, List.set_cons_zero, List.set_cons_succ]
          refine wpAnyK_take (i := 8) (oi := ?_) (v := ?_) ?_ (by kernel_rfl) (by kernel_rfl) (by kernel_rfl) (fun _ _ _ h => h) (by decide) ?_ HS.out (fun _ => trivial) ?_
          rotate_left 2
          · (simp only [List.getElem?_toArray, List.getElem?_cons_succ, List.getElem?_cons_zero]; rfl)
          · (first | exact Or.inr ⟨by rfl, rfl⟩ | (refine Or.inl ⟨by rfl, ?_⟩; intro W hSw; clear hSw; go_simp; try with_reducible rfl))
          try simp only [Act.put, List.setIfInBounds_toArray, List.set_cons_zero, List.set_cons_succ]
          refine wpAnyK_take (i := 9) (oi := ?_) (v := ?_) ?_ (by kernel_rfl) (by kernel_rfl) (by kernel_rfl) (fun _ _ _ h => h) (by decide) ?_ HS.out (fun _ => trivial) ?_
          rotate_left 2
          · (simp only [List.getElem?_toArray, List.getElem?_cons_succ, List.getElem?_cons_zero]; rfl)
          · (first | exact Or.inr ⟨by rfl, rfl⟩ | (refine Or.inl ⟨by rfl, ?_⟩; intro W hSw; obtain ⟨z0, z1, z2, z3, z4, z5⟩ := HC.out W hSw; clear hSw; go_simp; try with_reducible rfl))
          try simp only [Act.put, List.setIfInBounds_toArray, List.set_cons_zero, List.set_cons_succ]
          refine wpAnyK_take (i := 10) (oi := ?_) (v := ?_) ?_ (by kernel_rfl) (by kernel_rfl) (by kernel_rfl) (fun _ _ _ h => h) (by decide) ?_ HS.out (fun _ => trivial) ?_
          rotate_left 2
          · (simp only [List.getElem?_toArray, List.getElem?_cons_succ, List.getElem?_cons_zero]; rfl)
          · (first | exact Or.inr ⟨by rfl, rfl⟩ | (refine Or.inl ⟨by rfl, ?_⟩; intro W hSw; clear hSw; go_simp; try with_reducible rfl))
          try simp only [Act.put, List.setIfInBounds_toArray, List.set_cons_zero, List.set_cons_succ]
          refine wpAnyK_done (by kernel_rfl) ?_ _
          refine NoPanic.normal ?_
          clear HC HS
          go_wp2_with fail
          go_roundw
          case rel => exact ⟨i + 1, by omega, by go_num, HB.out.drew, H0.out, H1.out⟩
          case measure => simp [intOf]; omega
        · obtain rfl : i = ns.length := by omega
          go_wp2_with fail
          go_ret
          exact ⟨rfl, HB.out⟩
end Go.Proofs.Ytbjabncefhgefaa
namespace Go.Proofs.Ytbjabncefhgefaa
open Go.ChangeShapes Go.WideShapes Go.ChangeAt Go.RowKit
set_option linter.unusedVariables false
set_option linter.unusedSimpArgs false

theorem foOne {n m : Int} {S : ByteArray} : (#[.int .i64 n, .string S, .int .i64 m] : Array Value).all (·.oneCell') = true := by simp [Value.oneCell']
theorem foInfo {x y z : Value} : (Try.prog.info? 58).map (·.size) = some (#[x, y, z] : Array Value).size := by kernel_rfl
/-- What the document's at and Find tell. -/
def RAtQ (r : Option FnV) (e : Ending) : Prop := ∃ ix : Int, match r with
  | none => e = .returned (.tuple #[.agg #[.int .i64 0, .string ⟨#[]⟩, .int .i64 ix], .bool false])
  | some f => e = .returned (.tuple #[.agg #[.int .i64 f.1, .string (txt f.2), .int .i64 ix], .bool true])
def IsFound (r : Option FnV) (X : Nat) (T : ByteArray) (B : Bool) : Prop := match r with
  | none => X = 0 ∧ T = ⟨#[]⟩ ∧ B = false
  | some f => X = f.1 ∧ T = txt f.2 ∧ B = true
theorem RAtQ.form {r : Option FnV} {e : Ending} (h : RAtQ r e) : ∃ (X : Nat) (T : ByteArray) (ix : Int) (B : Bool), e = .returned (.tuple #[.agg #[.int .i64 X, .string T, .int .i64 ix], .bool B]) ∧ IsFound r X T B := by
  obtain ⟨ix, h⟩ := h
  cases r with
  | none => exact ⟨0, _, ix, _, h, rfl, rfl, rfl⟩
  | some f => exact ⟨_, _, ix, _, h, rfl, rfl, rfl⟩
theorem RAtQ.back {r : Option FnV} {X : Nat} {T : ByteArray} {ix : Int} {B : Bool} (h : IsFound r X T B) : RAtQ r (.returned (.tuple #[.agg #[.int .i64 X, .string T, .int .i64 ix], .bool B])) := by
  cases r with
  | none => obtain ⟨rfl, rfl, rfl⟩ := h; exact ⟨ix, rfl⟩
  | some f => obtain ⟨rfl, rfl, rfl⟩ := h; exact ⟨ix, rfl⟩

set_option maxRecDepth 100000 in
set_option maxHeartbeats 2000000 in
theorem rat_any (fs : List FnV) (F : Option Addr) (cap : Nat) (N : Option Addr) (nn nc : Nat) (base ix : Int) (w : World) (hs : SlT gC 2 w F fs) (hb : ∀ f ∈ fs, FnOk f) (hl : fs.length ≤ 1000000) :
    Calls Try.prog 38 #[.agg #[.int .i64 base, .slice F fs.length cap, .slice N nn nc], .int .i64 ix] w fun e w' => RAtQ (atM fs ix) e ∧ Below w.heap.size w w' := by
  obtain ⟨R, hR⟩ : ∃ R, atM fs ix = R := ⟨_, rfl⟩
  rw [hR]
  unfold atM at hR
  obtain ⟨w1, hw1⟩ : ∃ w1, (w.alloc (.cells #[.int .i64 base, .slice F fs.length cap, .slice N nn nc] 32)).alloc (.cells #[.int .i64 0, .string ⟨#[]⟩, .int .i64 0] 58) = w1 := ⟨_, rfl⟩
  have hs1 : (w.alloc (.cells #[.int .i64 base, .slice F fs.length cap, .slice N nn nc] 32)).heap.size = w.heap.size + 1 := by simp
  have HB := Lib.hid (show Below w.heap.size w w1 from by rw [← hw1]; exact ((Below.refl w.heap.size w).alloc (Nat.le_refl _) _).alloc (by rw [hs1]; omega) _)
  have H0 := Lib.hid (show w1.heap[w.heap.size]? = some (.cells #[.int .i64 base, .slice F fs.length cap, .slice N nn nc] 32 (0, 0)) from by
    rw [← hw1]
    exact (Below.heap_alloc _ _ w.heap.size (by rw [hs1]; omega)).trans (heap_alloc_new w _))
  have H1 := Lib.hid (show w1.heap[w.heap.size + 1]? = some (.cells #[.int .i64 0, .string ⟨#[]⟩, .int .i64 0] 58 (0, 0)) from by
    rw [← hw1]
    have h := heap_alloc_new (w.alloc (.cells #[.int .i64 base, .slice F fs.length cap, .slice N nn nc] 32)) (.cells #[.int .i64 0, .string ⟨#[]⟩, .int .i64 0] 58)
    rwa [hs1] at h)
  have HE1 := Lib.hid hw1
  clear hw1 hs1
  have p1 : w1.cell? ⟨w.heap.size, 1, none⟩ = some (.slice F fs.length cap) := by rw [cell_of_row _ _ _ _ _ _ H0.out]; rfl
  by_cases h0 : ix < 0
  · rw [if_neg (by omega)] at hR
    subst hR
    clear hs hb
    go_enter Try.func38, Try.ntmps38
    go_upto_region 1 with (fail)
    refine (congrArg _ HE1.out).mpr ?_
    obtain ⟨w9, hw9⟩ : ∃ w9, w1.setRow (w.heap.size + 1) #[.int .i64 0, .string ⟨#[]⟩, .int .i64 0] = w9 := ⟨_, rfl⟩
    have HE9 := Lib.hid hw9
    have HR9 := Lib.hid (show w9.heap[w.heap.size + 1]? = some (.cells #[.int .i64 0, .string ⟨#[]⟩, .int .i64 0] 58 (0, 0)) from by rw [← hw9]; exact setRow_heap _ _ _ _ _ _ H1.out)
    have HB9 := Lib.hid (show Below w.heap.size w w9 from by rw [← hw9]; exact below_setRow HB.out (by omega) _)
    have k0 : w9.cell? ⟨w.heap.size + 1, 0, none⟩ = some (.int .i64 0) := by rw [cell_of_row _ _ _ _ _ _ HR9.out]; rfl
    have k1 : w9.cell? ⟨w.heap.size + 1, 1, none⟩ = some (.string ⟨#[]⟩) := by rw [cell_of_row _ _ _ _ _ _ HR9.out]; rfl
    have k2 : w9.cell? ⟨w.heap.size + 1, 2, none⟩ = some (.int .i64 0) := by rw [cell_of_row _ _ _ _ _ _ HR9.out]; rfl
    clear hw9
    go_upto_region 2 with (fail)
    go_wp2_with (first | (refine wpList_store_row rfl 58 _ _ rfl (w.heap.size + 1) #[.int .i64 0, .string ⟨#[]⟩, .int .i64 0] rfl rfl 58 #[.int .i64 0, .string ⟨#[]⟩, .int .i64 0] H1.out foInfo rfl foOne ?_; refine (congrArg _ HE9.out).mpr ?_) | fail)
    refine bodyPost_ret (v := .tuple #[.agg #[.int .i64 0, .string ⟨#[]⟩, .int .i64 0], .bool false]) (by simp [results, Try.results38, go_sem, k0, k1, k2]) rfl ⟨?_, HB9.out⟩
    exact ⟨_, rfl⟩
  · by_cases h1 : ix < fs.length
    · rw [if_pos (by omega)] at hR
      obtain ⟨k, rfl⟩ : ∃ k : Nat, ix = (k : Int) := ⟨ix.toNat, by omega⟩
      have hk : k < fs.length := by omega
      rw [Int.toNat_natCast, List.getD_eq_getElem?_getD, List.getElem?_eq_getElem hk, Option.getD_some] at hR
      obtain ⟨b, off, rfl, hbl, q0, q1⟩ := hs.fn hk
      have hlb := hb fs[k] (List.getElem_mem hk)
      obtain ⟨⟨x, t⟩, hx⟩ : ∃ x, fs[k] = x := ⟨_, rfl⟩
      rw [hx] at hR hlb q0 q1
      simp only at hR q0 q1
      have hnil := txt_nil hlb
      replace q0 := (HB.out.cell (p := ⟨b, off + k * 2, none⟩) hbl).trans q0
      replace q1 := (HB.out.cell (p := ⟨b, off + k * 2 + 1, none⟩) hbl).trans q1
      have d0 : ¬ (k : Int) < 0 := by omega
      have d1 : (k : Int) < (fs.length : Int) := by omega
      have d2 : ¬ (fs.length : Int) ≤ (k : Int) := by omega
      have HR := Lib.hid hR
      have HNIL := Lib.hid hnil
      clear hs hb hx hlb h0 h1 hk hR hnil hbl
      by_cases hx : x = 0
      · subst hx
        by_cases ht : t = []
        · subst ht
          have hre := HR.out
          rw [if_pos ⟨rfl, rfl⟩] at hre
          subst hre
          have e1 : txt [] = ByteArray.empty := rfl
          rw [e1] at q1
          go_enter Try.func38, Try.ntmps38
          go_upto_region 1 with (fail)
          refine (congrArg _ HE1.out).mpr ?_
          obtain ⟨w9, hw9⟩ : ∃ w9, w1.setRow (w.heap.size + 1) #[.int .i64 0, .string ⟨#[]⟩, .int .i64 0] = w9 := ⟨_, rfl⟩
          have HE9 := Lib.hid hw9
          have HR9 := Lib.hid (show w9.heap[w.heap.size + 1]? = some (.cells #[.int .i64 0, .string ⟨#[]⟩, .int .i64 0] 58 (0, 0)) from by rw [← hw9]; exact setRow_heap _ _ _ _ _ _ H1.out)
          have HB9 := Lib.hid (show Below w.heap.size w w9 from by rw [← hw9]; exact below_setRow HB.out (by omega) _)
          have k0 : w9.cell? ⟨w.heap.size + 1, 0, none⟩ = some (.int .i64 0) := by rw [cell_of_row _ _ _ _ _ _ HR9.out]; rfl
          have k1 : w9.cell? ⟨w.heap.size + 1, 1, none⟩ = some (.string ⟨#[]⟩) := by rw [cell_of_row _ _ _ _ _ _ HR9.out]; rfl
          have k2 : w9.cell? ⟨w.heap.size + 1, 2, none⟩ = some (.int .i64 0) := by rw [cell_of_row _ _ _ _ _ _ HR9.out]; rfl
          clear hw9
          go_upto_region 2 with (fail)
          go_wp2_with (first | (refine wpList_store_row rfl 58 _ _ rfl (w.heap.size + 1) #[.int .i64 0, .string ⟨#[]⟩, .int .i64 0] rfl rfl 58 #[.int .i64 0, .string ⟨#[]⟩, .int .i64 0] H1.out foInfo rfl foOne ?_; refine (congrArg _ HE9.out).mpr ?_) | fail)
          refine bodyPost_ret (v := .tuple #[.agg #[.int .i64 0, .string ⟨#[]⟩, .int .i64 0], .bool false]) (by simp [results, Try.results38, go_sem, k0, k1, k2]) rfl ⟨?_, HB9.out⟩
          exact ⟨_, rfl⟩
        · have hre := HR.out
          rw [if_neg (fun h => ht h.2)] at hre
          subst hre
          have hnil := HNIL.out
          rw [decide_eq_false ht] at hnil
          clear ht
          go_enter Try.func38, Try.ntmps38
          go_upto_region 1 with (fail)
          refine (congrArg _ HE1.out).mpr ?_
          obtain ⟨w9, hw9⟩ : ∃ w9, w1.setRow (w.heap.size + 1) #[.int .i64 0, .string (txt t), .int .i64 k] = w9 := ⟨_, rfl⟩
          have HE9 := Lib.hid hw9
          have HR9 := Lib.hid (show w9.heap[w.heap.size + 1]? = some (.cells #[.int .i64 0, .string (txt t), .int .i64 k] 58 (0, 0)) from by rw [← hw9]; exact setRow_heap _ _ _ _ _ _ H1.out)
          have HB9 := Lib.hid (show Below w.heap.size w w9 from by rw [← hw9]; exact below_setRow HB.out (by omega) _)
          have k0 : w9.cell? ⟨w.heap.size + 1, 0, none⟩ = some (.int .i64 0) := by rw [cell_of_row _ _ _ _ _ _ HR9.out]; rfl
          have k1 : w9.cell? ⟨w.heap.size + 1, 1, none⟩ = some (.string (txt t)) := by rw [cell_of_row _ _ _ _ _ _ HR9.out]; rfl
          have k2 : w9.cell? ⟨w.heap.size + 1, 2, none⟩ = some (.int .i64 k) := by rw [cell_of_row _ _ _ _ _ _ HR9.out]; rfl
          clear hw9
          go_upto_region 3 with (fail)
          go_wp2_with (first | (refine wpList_store_row rfl 58 _ _ rfl (w.heap.size + 1) #[.int .i64 0, .string (txt t), .int .i64 k] rfl rfl 58 #[.int .i64 0, .string ⟨#[]⟩, .int .i64 0] H1.out foInfo rfl foOne ?_; refine (congrArg _ HE9.out).mpr ?_) | fail)
          refine bodyPost_ret (v := .tuple #[.agg #[.int .i64 0, .string (txt t), .int .i64 k], .bool true]) (by simp [results, Try.results38, go_sem, k0, k1, k2]) rfl ⟨?_, HB9.out⟩
          exact ⟨_, rfl⟩
      · have hre := HR.out
        rw [if_neg (fun h => hx h.1)] at hre
        subst hre
        have dx : ((x : Int) == 0) = false := beq_eq_false_iff_ne.mpr (by omega)
        clear hx
        go_enter Try.func38, Try.ntmps38
        go_upto_region 1 with (fail)
        refine (congrArg _ HE1.out).mpr ?_
        obtain ⟨w9, hw9⟩ : ∃ w9, w1.setRow (w.heap.size + 1) #[.int .i64 x, .string (txt t), .int .i64 k] = w9 := ⟨_, rfl⟩
        have HE9 := Lib.hid hw9
        have HR9 := Lib.hid (show w9.heap[w.heap.size + 1]? = some (.cells #[.int .i64 x, .string (txt t), .int .i64 k] 58 (0, 0)) from by rw [← hw9]; exact setRow_heap _ _ _ _ _ _ H1.out)
        have HB9 := Lib.hid (show Below w.heap.size w w9 from by rw [← hw9]; exact below_setRow HB.out (by omega) _)
        have k0 : w9.cell? ⟨w.heap.size + 1, 0, none⟩ = some (.int .i64 x) := by rw [cell_of_row _ _ _ _ _ _ HR9.out]; rfl
        have k1 : w9.cell? ⟨w.heap.size + 1, 1, none⟩ = some (.string (txt t)) := by rw [cell_of_row _ _ _ _ _ _ HR9.out]; rfl
        have k2 : w9.cell? ⟨w.heap.size + 1, 2, none⟩ = some (.int .i64 k) := by rw [cell_of_row _ _ _ _ _ _ HR9.out]; rfl
        clear hw9
        go_upto_region 3 with (fail)
        go_wp2_with (first | (refine wpList_store_row rfl 58 _ _ rfl (w.heap.size + 1) #[.int .i64 x, .string (txt t), .int .i64 k] rfl rfl 58 #[.int .i64 0, .string ⟨#[]⟩, .int .i64 0] H1.out foInfo rfl foOne ?_; refine (congrArg _ HE9.out).mpr ?_) | fail)
        refine bodyPost_ret (v := .tuple #[.agg #[.int .i64 x, .string (txt t), .int .i64 k], .bool true]) (by simp [results, Try.results38, go_sem, k0, k1, k2]) rfl ⟨?_, HB9.out⟩
        exact ⟨_, rfl⟩
    · rw [if_neg (by omega)] at hR
      subst hR
      have d0 : ¬ ix < 0 := h0
      have d2 : (fs.length : Int) ≤ ix := by omega
      clear hs hb h1
      go_enter Try.func38, Try.ntmps38
      go_upto_region 1 with (fail)
      refine (congrArg _ HE1.out).mpr ?_
      obtain ⟨w9, hw9⟩ : ∃ w9, w1.setRow (w.heap.size + 1) #[.int .i64 0, .string ⟨#[]⟩, .int .i64 0] = w9 := ⟨_, rfl⟩
      have HE9 := Lib.hid hw9
      have HR9 := Lib.hid (show w9.heap[w.heap.size + 1]? = some (.cells #[.int .i64 0, .string ⟨#[]⟩, .int .i64 0] 58 (0, 0)) from by rw [← hw9]; exact setRow_heap _ _ _ _ _ _ H1.out)
      have HB9 := Lib.hid (show Below w.heap.size w w9 from by rw [← hw9]; exact below_setRow HB.out (by omega) _)
      have k0 : w9.cell? ⟨w.heap.size + 1, 0, none⟩ = some (.int .i64 0) := by rw [cell_of_row _ _ _ _ _ _ HR9.out]; rfl
      have k1 : w9.cell? ⟨w.heap.size + 1, 1, none⟩ = some (.string ⟨#[]⟩) := by rw [cell_of_row _ _ _ _ _ _ HR9.out]; rfl
      have k2 : w9.cell? ⟨w.heap.size + 1, 2, none⟩ = some (.int .i64 0) := by rw [cell_of_row _ _ _ _ _ _ HR9.out]; rfl
      clear hw9
      go_upto_region 2 with (fail)
      go_wp2_with (first | (refine wpList_store_row rfl 58 _ _ rfl (w.heap.size + 1) #[.int .i64 0, .string ⟨#[]⟩, .int .i64 0] rfl rfl 58 #[.int .i64 0, .string ⟨#[]⟩, .int .i64 0] H1.out foInfo rfl foOne ?_; refine (congrArg _ HE9.out).mpr ?_) | fail)
      refine bodyPost_ret (v := .tuple #[.agg #[.int .i64 0, .string ⟨#[]⟩, .int .i64 0], .bool false]) (by simp [results, Try.results38, go_sem, k0, k1, k2]) rfl ⟨?_, HB9.out⟩
      exact ⟨_, rfl⟩
end Go.Proofs.Ytbjabncefhgefaa
namespace Go.Proofs.Ytbjabncefhgefaa
open Go.ChangeShapes Go.WideShapes Go.ChangeAt Go.RowKit
set_option linter.unusedVariables false
set_option linter.unusedSimpArgs false

/-- What is found by a symbol. -/
def findM (fs : List FnV) (ns : List NmV) (base : Int) (S : ByteArray) (ord : Int) (B : Bool) : Option FnV := if B then byOrdM fs base ord else byNameM fs S.toList ns

set_option maxRecDepth 100000 in
set_option maxHeartbeats 4000000 in
theorem rfind_any (fs : List FnV) (ns : List NmV) (F N : Option Addr) (fc nc : Nat) (base ord : Int) (S : ByteArray) (B : Bool) (w : World) (hs : SlT gC 2 w F fs) (hn : SlT nC 2 w N ns) (hb : ∀ f ∈ fs, FnOk f) (hl : fs.length ≤ 1000000) (hnl : ns.length ≤ 1000000) (h1 : 0 ≤ base) (h2 : base ≤ 1000000) (h3 : -9223372036854775808 ≤ ord) (h4 : ord ≤ 9223372036854775807) :
    Calls Try.prog 19 #[.agg #[.int .i64 base, .slice F fs.length fc, .slice N ns.length nc], .agg #[.string S, .int .i64 ord, .bool B]] w fun e w' => RAtQ (findM fs ns base S ord B) e ∧ Below w.heap.size w w' := by
  have HAT := Lib.hid (fun ix W (hW : Below w.heap.size w W) => rat_any fs F fc N ns.length nc base ix W (hs.below hW) hb hl)
  have HN := Lib.hid (fun W (hW : Below w.heap.size w W) => hn.below hW)
  obtain ⟨w1, hw1⟩ : ∃ w1, ((w.alloc (.cells #[.int .i64 base, .slice F fs.length fc, .slice N ns.length nc] 32)).alloc (.cells #[.string S, .int .i64 ord, .bool B] 50)).alloc (.cells #[.int .i64 0, .string ⟨#[]⟩, .int .i64 0] 58) = w1 := ⟨_, rfl⟩
  have hs1 : (w.alloc (.cells #[.int .i64 base, .slice F fs.length fc, .slice N ns.length nc] 32)).heap.size = w.heap.size + 1 := by simp
  have hs2 : ((w.alloc (.cells #[.int .i64 base, .slice F fs.length fc, .slice N ns.length nc] 32)).alloc (.cells #[.string S, .int .i64 ord, .bool B] 50)).heap.size = w.heap.size + 2 := by simp
  have HB := Lib.hid (show Below w.heap.size w w1 from by rw [← hw1]; exact (((Below.refl w.heap.size w).alloc (Nat.le_refl _) _).alloc (by rw [hs1]; omega) _).alloc (by rw [hs2]; omega) _)
  have H0 := Lib.hid (show w1.heap[w.heap.size]? = some (.cells #[.int .i64 base, .slice F fs.length fc, .slice N ns.length nc] 32 (0, 0)) from by
    rw [← hw1]
    exact (Below.heap_alloc _ _ w.heap.size (by rw [hs2]; omega)).trans ((Below.heap_alloc _ _ w.heap.size (by rw [hs1]; omega)).trans (heap_alloc_new w _)))
  have H1 := Lib.hid (show w1.heap[w.heap.size + 1]? = some (.cells #[.string S, .int .i64 ord, .bool B] 50 (0, 0)) from by
    rw [← hw1]
    refine (Below.heap_alloc _ _ (w.heap.size + 1) (by rw [hs2]; omega)).trans ?_
    have h := heap_alloc_new (w.alloc (.cells #[.int .i64 base, .slice F fs.length fc, .slice N ns.length nc] 32)) (.cells #[.string S, .int .i64 ord, .bool B] 50)
    rwa [hs1] at h)
  have H2 := Lib.hid (show w1.heap[w.heap.size + 2]? = some (.cells #[.int .i64 0, .string ⟨#[]⟩, .int .i64 0] 58 (0, 0)) from by
    rw [← hw1]
    have h := heap_alloc_new ((w.alloc (.cells #[.int .i64 base, .slice F fs.length fc, .slice N ns.length nc] 32)).alloc (.cells #[.string S, .int .i64 ord, .bool B] 50)) (.cells #[.int .i64 0, .string ⟨#[]⟩, .int .i64 0] 58)
    rwa [hs2] at h)
  have HE1 := Lib.hid hw1
  clear hw1 hs1 hs2
  have p0 : w1.cell? ⟨w.heap.size, 0, none⟩ = some (.int .i64 base) := by rw [cell_of_row _ _ _ _ _ _ H0.out]; rfl
  have p1 : w1.cell? ⟨w.heap.size, 1, none⟩ = some (.slice F fs.length fc) := by rw [cell_of_row _ _ _ _ _ _ H0.out]; rfl
  have p2 : w1.cell? ⟨w.heap.size, 2, none⟩ = some (.slice N ns.length nc) := by rw [cell_of_row _ _ _ _ _ _ H0.out]; rfl
  have q0 : w1.cell? ⟨w.heap.size + 1, 0, none⟩ = some (.string S) := by rw [cell_of_row _ _ _ _ _ _ H1.out]; rfl
  have q1 : w1.cell? ⟨w.heap.size + 1, 1, none⟩ = some (.int .i64 ord) := by rw [cell_of_row _ _ _ _ _ _ H1.out]; rfl
  have q2 : w1.cell? ⟨w.heap.size + 1, 2, none⟩ = some (.bool B) := by rw [cell_of_row _ _ _ _ _ _ H1.out]; rfl
  obtain ⟨R, hR⟩ : ∃ R, findM fs ns base S ord B = R := ⟨_, rfl⟩
  rw [hR]
  unfold findM at hR
  clear hs hn hb
  rcases B with _ | _
  · rw [if_neg (by simp)] at hR
    have HR := Lib.hid hR
    clear hR h3 h4
    go_enter Try.func19, Try.ntmps19
    go_upto_region 1 with (fail)
    refine (congrArg _ HE1.out).mpr ?_
    go_wp2_with fail
    go_loopw [6] (fun v6 wr => ∃ i : Nat, i ≤ ns.length ∧ v6 = .int .i64 i ∧ byNameM fs S.toList (ns.drop i) = R ∧ Below w.heap.size w wr ∧ wr.heap[w.heap.size]? = some (.cells #[.int .i64 base, .slice F fs.length fc, .slice N ns.length nc] 32 (0, 0)) ∧ wr.heap[w.heap.size + 1]? = some (.cells #[.string S, .int .i64 ord, .bool false] 50 (0, 0)) ∧ wr.heap[w.heap.size + 2]? = some (.cells #[.int .i64 0, .string ⟨#[]⟩, .int .i64 0] 58 (0, 0))) (fun v6 _ => ns.length - (intOf v6).toNat)
    case atStart => exact ⟨0, Nat.zero_le _, rfl, HR.out, HB.out, H0.out, H1.out, H2.out⟩
    case round =>
      obtain ⟨i, hi, rfl, hre, hbel, hh0, hh1, hh2⟩ := hrel
      replace HR := Lib.hid hre
      replace HB := Lib.hid hbel
      replace H0 := Lib.hid hh0
      replace H1 := Lib.hid hh1
      replace H2 := Lib.hid hh2
      clear hre hbel hh0 hh1 hh2 p0 p1 p2 q0 q1 q2
      have p0 : wr.cell? ⟨w.heap.size, 0, none⟩ = some (.int .i64 base) := by rw [cell_of_row _ _ _ _ _ _ H0.out]; rfl
      have p1 : wr.cell? ⟨w.heap.size, 1, none⟩ = some (.slice F fs.length fc) := by rw [cell_of_row _ _ _ _ _ _ H0.out]; rfl
      have p2 : wr.cell? ⟨w.heap.size, 2, none⟩ = some (.slice N ns.length nc) := by rw [cell_of_row _ _ _ _ _ _ H0.out]; rfl
      have q0 : wr.cell? ⟨w.heap.size + 1, 0, none⟩ = some (.string S) := by rw [cell_of_row _ _ _ _ _ _ H1.out]; rfl
      have q1 : wr.cell? ⟨w.heap.size + 1, 1, none⟩ = some (.int .i64 ord) := by rw [cell_of_row _ _ _ _ _ _ H1.out]; rfl
      have q2 : wr.cell? ⟨w.heap.size + 1, 2, none⟩ = some (.bool false) := by rw [cell_of_row _ _ _ _ _ _ H1.out]; rfl
      by_cases hlt : i < ns.length
      · obtain ⟨b, off, rfl, hbl0, y0, y1⟩ := (HN.out w (Below.refl _ _)).nm hlt
        have hbl : b < wr.heap.size := Nat.lt_of_lt_of_le hbl0 HB.out.size
        have x0 := (HB.out.cell (p := ⟨b, off + i * 2, none⟩) hbl0).trans y0
        have x1 := (HB.out.cell (p := ⟨b, off + i * 2 + 1, none⟩) hbl0).trans y1
        have HBL := Lib.hid hbl0
        clear y0 hbl0
        have hre := HR.out
        rw [List.drop_eq_getElem_cons hlt] at hre
        simp only [byNameM] at hre
        obtain ⟨⟨t, x⟩, hx⟩ : ∃ x, ns[i] = x := ⟨_, rfl⟩
        rw [hx] at hre x0 x1 y1
        simp only at hre x0 x1 y1
        have HXW := Lib.hid y1
        clear y1
        have hltI : (i : Int) < (ns.length : Int) := by omega
        have HC := Lib.hid (fun W (hW : Below wr.heap.size wr W) => And.intro ((hW.cell (p := ⟨w.heap.size, 0, none⟩) (lt_of_row' H0.out)).trans p0) (And.intro ((hW.cell (p := ⟨w.heap.size, 1, none⟩) (lt_of_row' H0.out)).trans p1) (And.intro ((hW.cell (p := ⟨w.heap.size, 2, none⟩) (lt_of_row' H0.out)).trans p2) (And.intro ((hW.cell (p := ⟨w.heap.size + 1, 0, none⟩) (lt_of_row' H1.out)).trans q0) (And.intro ((hW.cell (p := ⟨b, off + i * 2, none⟩) hbl).trans x0) ((hW.cell (p := ⟨b, off + i * 2 + 1, none⟩) hbl).trans x1))))))
        have HRE2 := Lib.hid hre
        clear x0 x1 hx hbl hre
        obtain ⟨T, hT⟩ : ∃ T, txt t = T := ⟨_, rfl⟩
        rw [hT] at HC HRE2
        clear hT
        obtain ⟨Q, hQ⟩ : ∃ Q, (T.toList == S.toList) = Q := ⟨_, rfl⟩
        go_upto_region 8 with (fail)
        clear p0 p1 p2 q0 q1 q2
        have HS := Lib.hid (show Below wr.heap.size wr wr.drew from (Below.refl _ _).drew)
        refine wp_region_noPanic ?_
        refine wp_region_K (fun W => Below wr.heap.size wr W) (fun _ => True) 99 (by kernel_rfl) ?_
        refine wpAnyK_take (i := 0) (oi := ?_) (v := ?_) ?_ (by kernel_rfl) (by kernel_rfl) (by kernel_rfl) (fun _ _ _ h => h) (by decide) ?_ HS.out (fun _ => trivial) ?_
        rotate_left 2
        · (simp only [List.getElem?_toArray, List.getElem?_cons_succ, List.getElem?_cons_zero]; rfl)
        · (first | exact Or.inr ⟨by rfl, rfl⟩ | (refine Or.inl ⟨by rfl, ?_⟩; intro W hSw; clear hSw; go_simp; try with_reducible rfl))
        try simp only [Act.put, List.setIfInBounds_toArray, List.set_cons_zero, List.set_cons_succ]
        refine wpAnyK_take (i := 1) (oi := ?_) (v := ?_) ?_ (by kernel_rfl) (by kernel_rfl) (by kernel_rfl) (fun _ _ _ h => h) (by decide) ?_ HS.out (fun _ => trivial) ?_
        rotate_left 2
        · (simp only [List.getElem?_toArray, List.getElem?_cons_succ, List.getElem?_cons_zero]; rfl)
        · (first | exact Or.inr ⟨by rfl, rfl⟩ | (refine Or.inl ⟨by rfl, ?_⟩; intro W hSw; obtain ⟨z0, z1, z2, z3, z4, z5⟩ := HC.out W hSw; clear hSw; go_simp; try with_reducible rfl))
        try simp only [Act.put, List.setIfInBounds_toArray, List.set_cons_zero, List.set_cons_succ]
        refine wpAnyK_take (i := 2) (oi := ?_) (v := ?_) ?_ (by kernel_rfl) (by kernel_rfl) (by kernel_rfl) (fun _ _ _ h => h) (by decide) ?_ HS.out (fun _ => trivial) ?_
        rotate_left 2
        · (simp only [List.getElem?_toArray, List.getElem?_cons_succ, List.getElem?_cons_zero]; rfl)
        · (first | exact Or.inr ⟨by rfl, rfl⟩ | (refine Or.inl ⟨by rfl, ?_⟩; intro W hSw; clear hSw; go_simp; try with_reducible rfl))
        try simp only [Act.put, List.setIfInBounds_toArray, List.set_cons_zero, List.set_cons_succ]
        refine wpAnyK_take (i := 3) (oi := ?_) (v := ?_) ?_ (by kernel_rfl) (by kernel_rfl) (by kernel_rfl) (fun _ _ _ h => h) (by decide) ?_ HS.out (fun _ => trivial) ?_
        rotate_left 2
        · (simp only [List.getElem?_toArray, List.getElem?_cons_succ, List.getElem?_cons_zero]; rfl)
        · (first | exact Or.inr ⟨by rfl, rfl⟩ | (refine Or.inl ⟨by rfl, ?_⟩; intro W hSw; clear hSw; go_simp; try with_reducible rfl))
        try simp only [Act.put, List.setIfInBounds_toArray, List.set_cons_zero, List.set_cons_succ]
        refine wpAnyK_take (i := 4) (oi := ?_) (v := ?_) ?_ (by kernel_rfl) (by kernel_rfl) (by kernel_rfl) (fun _ _ _ h => h) (by decide) ?_ HS.out (fun _ => trivial) ?_
        rotate_left 2
        · (simp only [List.getElem?_toArray, List.getElem?_cons_succ, List.getElem?_cons_zero]; rfl)
        · (first | exact Or.inr ⟨by rfl, rfl⟩ | (refine Or.inl ⟨by rfl, ?_⟩; intro W hSw; clear hSw; go_simp; try with_reducible rfl))
        try simp only [Act.put, List.setIfInBounds_toArray, List.set_cons_zero, List.set_cons_succ]
        refine wpAnyK_take (i := 5) (oi := ?_) (v := ?_) ?_ (by kernel_rfl) (by kernel_rfl) (by kernel_rfl) (fun _ _ _ h => h) (by decide) ?_ HS.out (fun _ => trivial) ?_
        rotate_left 2
        · (simp only [List.getElem?_toArray, List.getElem?_cons_succ, List.getElem?_cons_zero]; rfl)
        · (first | exact Or.inr ⟨by rfl, rfl⟩ | (refine Or.inl ⟨by rfl, ?_⟩; intro W hSw; obtain ⟨z0, z1, z2, z3, z4, z5⟩ := HC.out W hSw; clear hSw; go_simp; try with_reducible rfl))
        try simp only [Act.put, List.setIfInBounds_toArray, List.set_cons_zero, List.set_cons_succ]
        refine wpAnyK_take (i := 6) (oi := ?_) (v := ?_) ?_ (by kernel_rfl) (by kernel_rfl) (by kernel_rfl) (fun _ _ _ h => h) (by decide) ?_ HS.out (fun _ => trivial) ?_
        rotate_left 2
        · (simp only [List.getElem?_toArray, List.getElem?_cons_succ, List.getElem?_cons_zero]; rfl)
        · (first | exact Or.inr ⟨by rfl, rfl⟩ | (refine Or.inl ⟨by rfl, ?_⟩; intro W hSw; clear hSw; go_simp; try with_reducible rfl))
        try simp only [Act.put, List.setIfInBounds_toArray, List.set_cons_zero, List.set_cons_succ]
        refine wpAnyK_take (i := 7) (oi := ?_) (v := ?_) ?_ (by kernel_rfl) (by kernel_rfl) (by kernel_rfl) (fun _ _ _ h => h) (by decide) ?_ HS.out (fun _ => trivial) ?_
        rotate_left 2
        · (simp only [List.getElem?_toArray, List.getElem?_cons_succ, List.getElem?_cons_zero]; rfl)
        · (first | exact Or.inr ⟨by rfl, rfl⟩ | (refine Or.inl ⟨by rfl, ?_⟩; intro W hSw; obtain ⟨z0, z1, z2, z3, z4, z5⟩ := HC.out W hSw; clear hSw; go_simp; try with_reducible rfl))
        try simp only [Act.put, List.setIfInBounds_toArray, List.set_cons_zero, List.set_cons_succ]
        refine wpAnyK_take (i := 8) (oi := ?_) (v := ?_) ?_ (by kernel_rfl) (by kernel_rfl) (by kernel_rfl) (fun _ _ _ h => h) (by decide) ?_ HS.out (fun _ => trivial) ?_
        rotate_left 2
        · (simp only [List.getElem?_toArray, List.getElem?_cons_succ, List.getElem?_cons_zero]; rfl)
        · (first | exact Or.inr ⟨by rfl, rfl⟩ | (refine Or.inl ⟨by rfl, ?_⟩; intro W hSw; clear hSw; go_simp; try with_reducible rfl))
        try simp only [Act.put, List.setIfInBounds_toArray, List.set_cons_zero, List.set_cons_succ]
        refine wpAnyK_done (by kernel_rfl) ?_ _
        refine NoPanic.normal ?_
        clear HS
        rw [hQ] at HRE2
        obtain ⟨w2, hw2⟩ : ∃ w2, wr.drew = w2 := ⟨_, rfl⟩
        have HE2 := Lib.hid hw2
        have hA : Below wr.heap.size wr w2 := by rw [← hw2]; exact (Below.refl _ _).drew
        replace HC := Lib.hid (fun W (hW : Below w2.heap.size w2 W) => HC.out W (hA.trans (hW.mono hA.size)))
        replace HB := Lib.hid (show Below w.heap.size w w2 from HB.out.trans (hA.mono HB.out.size))
        replace H0 := Lib.hid (show w2.heap[w.heap.size]? = _ from (hA.block _ (lt_of_row' H0.out)).trans H0.out)
        replace H1 := Lib.hid (show w2.heap[w.heap.size + 1]? = _ from (hA.block _ (lt_of_row' H1.out)).trans H1.out)
        replace H2 := Lib.hid (show w2.heap[w.heap.size + 2]? = _ from (hA.block _ (lt_of_row' H2.out)).trans H2.out)
        refine (congrArg _ HE2.out).mpr ?_
        clear hw2 hA
        rcases Q with _ | _
        · have hre := HRE2.out
          rw [if_neg (by simp)] at hre
          have HRE3 := Lib.hid hre
          clear hre HRE2
          go_wp2_with fail
          go_roundw
          case rel => exact ⟨i + 1, by omega, by go_num, HRE3.out, HB.out, H0.out, H1.out, H2.out⟩
          case measure => simp [intOf]; omega
        · have hre := HRE2.out
          rw [if_pos rfl] at hre
          have HRE3 := Lib.hid hre
          clear hre HRE2
          go_upto_region 9 with (fail)
          have HSW := Lib.hid (fun W (hW : Below w.heap.size w W ∧ W.heap[w.heap.size]? = some (.cells #[.int .i64 base, .slice F fs.length fc, .slice (some ⟨b, off, none⟩) ns.length nc] 32 (0, 0)) ∧ W.heap[w.heap.size + 1]? = some (.cells #[.string S, .int .i64 ord, .bool false] 50 (0, 0))) => show W.cell? ⟨w.heap.size, 0, none⟩ = some (.int .i64 base) ∧ W.cell? ⟨w.heap.size, 1, none⟩ = some (.slice F fs.length fc) ∧ W.cell? ⟨w.heap.size, 2, none⟩ = some (.slice (some ⟨b, off, none⟩) ns.length nc) ∧ W.cell? ⟨b, off + i * 2 + 1, none⟩ = some (.int .i64 x) from by
            refine ⟨?_, ?_, ?_, (hW.1.cell (p := ⟨b, off + i * 2 + 1, none⟩) HBL.out).trans HXW.out⟩
            · rw [cell_of_row _ _ _ _ _ _ hW.2.1]; rfl
            · rw [cell_of_row _ _ _ _ _ _ hW.2.1]; rfl
            · rw [cell_of_row _ _ _ _ _ _ hW.2.1]; rfl)
          have HS := Lib.hid (show Below w.heap.size w w2.drew ∧ w2.drew.heap[w.heap.size]? = some (.cells #[.int .i64 base, .slice F fs.length fc, .slice (some ⟨b, off, none⟩) ns.length nc] 32 (0, 0)) ∧ w2.drew.heap[w.heap.size + 1]? = some (.cells #[.string S, .int .i64 ord, .bool false] 50 (0, 0)) from ⟨HB.out.drew, H0.out, H1.out⟩)
          have HH2 := Lib.hid (show w2.drew.heap[w.heap.size + 2]? = some (.cells #[.int .i64 0, .string ⟨#[]⟩, .int .i64 0] 58 (0, 0)) from H2.out)
          clear HC
          refine wp_region_noPanic ?_
          refine wp_region_K (fun W => Below w.heap.size w W ∧ W.heap[w.heap.size]? = some (.cells #[.int .i64 base, .slice F fs.length fc, .slice (some ⟨b, off, none⟩) ns.length nc] 32 (0, 0)) ∧ W.heap[w.heap.size + 1]? = some (.cells #[.string S, .int .i64 ord, .bool false] 50 (0, 0))) (fun _ => True) 99 (by kernel_rfl) ?_
          refine wpAnyK_take (i := 0) (oi := ?_) (v := ?_) ?_ (by kernel_rfl) (by kernel_rfl) (by kernel_rfl) (fun _ _ _ h => h) (by decide) ?_ HS.out (fun _ => trivial) ?_
          rotate_left 2
          · (simp only [List.getElem?_toArray, List.getElem?_cons_succ, List.getElem?_cons_zero]; rfl)
          · (first | exact Or.inr ⟨by rfl, rfl⟩ | (refine Or.inl ⟨by rfl, ?_⟩; intro W hSw; obtain ⟨z0, z1, z2, z3⟩ := HSW.out W hSw; clear hSw; go_simp; try with_reducible rfl))
          try simp only [Act.put, List.setIfInBounds_toArray, List.set_cons_zero, List.set_cons_succ]
          refine wpAnyK_take (i := 1) (oi := ?_) (v := ?_) ?_ (by kernel_rfl) (by kernel_rfl) (by kernel_rfl) (fun _ _ _ h => h) (by decide) ?_ HS.out (fun _ => trivial) ?_
          rotate_left 2
          · (simp only [List.getElem?_toArray, List.getElem?_cons_succ, List.getElem?_cons_zero]; rfl)
          · (first | exact Or.inr ⟨by rfl, rfl⟩ | (refine Or.inl ⟨by rfl, ?_⟩; intro W hSw; clear hSw; go_simp; try with_reducible rfl))
          try simp only [Act.put, List.setIfInBounds_toArray, List.set_cons_zero, List.set_cons_succ]
          refine wpAnyK_take (i := 2) (oi := ?_) (v := ?_) ?_ (by kernel_rfl) (by kernel_rfl) (by kernel_rfl) (fun _ _ _ h => h) (by decide) ?_ HS.out (fun _ => trivial) ?_
          rotate_left 2
          · (simp only [List.getElem?_toArray, List.getElem?_cons_succ, List.getElem?_cons_zero]; rfl)
          · (first | exact Or.inr ⟨by rfl, rfl⟩ | (refine Or.inl ⟨by rfl, ?_⟩; intro W hSw; obtain ⟨z0, z1, z2, z3⟩ := HSW.out W hSw; clear hSw; go_simp; try with_reducible rfl))
          try simp only [Act.put, List.setIfInBounds_toArray, List.set_cons_zero, List.set_cons_succ]
          refine wpAnyK_take (i := 3) (oi := ?_) (v := ?_) ?_ (by kernel_rfl) (by kernel_rfl) (by kernel_rfl) (fun _ _ _ h => h) (by decide) ?_ HS.out (fun _ => trivial) ?_
          rotate_left 2
          · (simp only [List.getElem?_toArray, List.getElem?_cons_succ, List.getElem?_cons_zero]; rfl)
          · (first | exact Or.inr ⟨by rfl, rfl⟩ | (refine Or.inl ⟨by rfl, ?_⟩; intro W hSw; clear hSw; go_simp; try with_reducible rfl))
          try simp only [Act.put, List.setIfInBounds_toArray, List.set_cons_zero, List.set_cons_succ]
          refine wpAnyK_take (i := 4) (oi := ?_) (v := ?_) ?_ (by kernel_rfl) (by kernel_rfl) (by kernel_rfl) (fun _ _ _ h => h) (by decide) ?_ HS.out (fun _ => trivial) ?_
          rotate_left 2
          · (simp only [List.getElem?_toArray, List.getElem?_cons_succ, List.getElem?_cons_zero]; rfl)
          · (first | exact Or.inr ⟨by rfl, rfl⟩ | (refine Or.inl ⟨by rfl, ?_⟩; intro W hSw; clear hSw; go_simp; try with_reducible rfl))
          try simp only [Act.put, List.setIfInBounds_toArray, List.set_cons_zero, List.set_cons_succ]
          refine wpAnyK_take (i := 5) (oi := ?_) (v := ?_) ?_ (by kernel_rfl) (by kernel_rfl) (by kernel_rfl) (fun _ _ _ h => h) (by decide) ?_ HS.out (fun _ => trivial) ?_
          rotate_left 2
          · (simp only [List.getElem?_toArray, List.getElem?_cons_succ, List.getElem?_cons_zero]; rfl)
          · (first | exact Or.inr ⟨by rfl, rfl⟩ | (refine Or.inl ⟨by rfl, ?_⟩; intro W hSw; clear hSw; go_simp; try with_reducible rfl))
          try simp only [Act.put, List.setIfInBounds_toArray, List.set_cons_zero, List.set_cons_succ]
          refine wpAnyK_take (i := 6) (oi := ?_) (v := ?_) ?_ (by kernel_rfl) (by kernel_rfl) (by kernel_rfl) (fun _ _ _ h => h) (by decide) ?_ HS.out (fun _ => trivial) ?_
          rotate_left 2
          · (simp only [List.getElem?_toArray, List.getElem?_cons_succ, List.getElem?_cons_zero]; rfl)
          · (first | exact Or.inr ⟨by rfl, rfl⟩ | (refine Or.inl ⟨by rfl, ?_⟩; intro W hSw; obtain ⟨z0, z1, z2, z3⟩ := HSW.out W hSw; clear hSw; go_simp; try with_reducible rfl))
          try simp only [Act.put, List.setIfInBounds_toArray, List.set_cons_zero, List.set_cons_succ]
          refine wpAnyK_one (i := 7) (o := ?_) (by kernel_rfl) ?_ (fun K hK => ?_)
          rotate_left 1
          · (simp only [List.getElem?_toArray, List.getElem?_cons_succ, List.getElem?_cons_zero]; rfl)
          go_simp
          go_at_call 38
          refine (HAT.out x _ HS.out.1).mono ?_
          rintro e w3 ⟨hq, hw3⟩
          have HS3 := Lib.hid (show Below w.heap.size w w3 ∧ w3.heap[w.heap.size]? = some (.cells #[.int .i64 base, .slice F fs.length fc, .slice (some ⟨b, off, none⟩) ns.length nc] 32 (0, 0)) ∧ w3.heap[w.heap.size + 1]? = some (.cells #[.string S, .int .i64 ord, .bool false] 50 (0, 0)) from ⟨HS.out.1.trans (hw3.mono HS.out.1.size), (hw3.block _ (lt_of_row' HS.out.2.1)).trans HS.out.2.1, (hw3.block _ (lt_of_row' HS.out.2.2)).trans HS.out.2.2⟩)
          have HX3 := Lib.hid ((hw3.block _ (lt_of_row' HH2.out)).trans HH2.out)
          obtain ⟨X, TT, ix, BB, rfl, hq2⟩ := hq.form
          rw [HRE3.out] at hq2
          have HQ2 := Lib.hid hq2
          clear hw3 hq2 hq
          refine hK.out _ _ HS3.out (fun _ => trivial) ?_
          clear hK K
          try simp only [Act.put, List.setIfInBounds_toArray, List.set_cons_zero, List.set_cons_succ]
          refine wpAnyK_take (i := 8) (oi := ?_) (v := ?_) ?_ (by kernel_rfl) (by kernel_rfl) (by kernel_rfl) (fun _ _ _ h => h) (by decide) ?_ HS3.out (fun _ => trivial) ?_
          rotate_left 2
          · (simp only [List.getElem?_toArray, List.getElem?_cons_succ, List.getElem?_cons_zero]; rfl)
          · (first | exact Or.inr ⟨by rfl, rfl⟩ | (refine Or.inl ⟨by rfl, ?_⟩; intro W hSw; clear hSw; go_simp; try with_reducible rfl))
          try simp only [Act.put, List.setIfInBounds_toArray, List.set_cons_zero, List.set_cons_succ]
          refine wpAnyK_take (i := 9) (oi := ?_) (v := ?_) ?_ (by kernel_rfl) (by kernel_rfl) (by kernel_rfl) (fun _ _ _ h => h) (by decide) ?_ HS3.out (fun _ => trivial) ?_
          rotate_left 2
          · (simp only [List.getElem?_toArray, List.getElem?_cons_succ, List.getElem?_cons_zero]; rfl)
          · (first | exact Or.inr ⟨by rfl, rfl⟩ | (refine Or.inl ⟨by rfl, ?_⟩; intro W hSw; clear hSw; go_simp; try with_reducible rfl))
          try simp only [Act.put, List.setIfInBounds_toArray, List.set_cons_zero, List.set_cons_succ]
          refine wpAnyK_one (i := 10) (o := ?_) (by kernel_rfl) ?_ (fun K hK => ?_)
          rotate_left 1
          · (simp only [List.getElem?_toArray, List.getElem?_cons_succ, List.getElem?_cons_zero]; rfl)
          refine step_store_row' rfl 58 _ _ rfl (w.heap.size + 2) #[.int .i64 X, .string TT, .int .i64 ix] ?_ ?_ 58 #[.int .i64 0, .string ⟨#[]⟩, .int .i64 0] HX3.out (by kernel_rfl) rfl (by simp [Value.oneCell']) ?_
          · first | rfl | simp [Act.eval]
          · first | rfl | simp [Act.eval]
          have HS4 := Lib.hid (show Below w.heap.size w (w3.setRow (w.heap.size + 2) #[.int .i64 X, .string TT, .int .i64 ix]) ∧ (w3.setRow (w.heap.size + 2) #[.int .i64 X, .string TT, .int .i64 ix]).heap[w.heap.size]? = some (.cells #[.int .i64 base, .slice F fs.length fc, .slice (some ⟨b, off, none⟩) ns.length nc] 32 (0, 0)) ∧ (w3.setRow (w.heap.size + 2) #[.int .i64 X, .string TT, .int .i64 ix]).heap[w.heap.size + 1]? = some (.cells #[.string S, .int .i64 ord, .bool false] 50 (0, 0)) from
            ⟨below_setRow HS3.out.1 (by omega) _, (setRow_other w3 _ _ _ (by omega)).trans HS3.out.2.1, (setRow_other w3 _ _ _ (by omega)).trans HS3.out.2.2⟩)
          have HR9 := Lib.hid (setRow_heap w3 (w.heap.size + 2) _ #[.int .i64 X, .string TT, .int .i64 ix] _ _ HX3.out)
          refine hK.out _ _ HS4.out (fun _ => trivial) ?_
          clear hK K
          try simp only [Act.put, List.setIfInBounds_toArray, List.set_cons_zero, List.set_cons_succ]
          refine wpAnyK_take (i := 11) (oi := ?_) (v := ?_) ?_ (by kernel_rfl) (by kernel_rfl) (by kernel_rfl) (fun _ _ _ h => h) (by decide) ?_ HS4.out (fun _ => trivial) ?_
          rotate_left 2
          · (simp only [List.getElem?_toArray, List.getElem?_cons_succ, List.getElem?_cons_zero]; rfl)
          · (first | exact Or.inr ⟨by rfl, rfl⟩ | (refine Or.inl ⟨by rfl, ?_⟩; intro W hSw; clear hSw; go_simp; try with_reducible rfl))
          try simp only [Act.put, List.setIfInBounds_toArray, List.set_cons_zero, List.set_cons_succ]
          refine wpAnyK_done (by kernel_rfl) ?_ _
          refine NoPanic.normal ?_
          generalize w3.setRow (w.heap.size + 2) #[.int .i64 X, .string TT, .int .i64 ix] = w4 at *
          have k0 : w4.cell? ⟨w.heap.size + 2, 0, none⟩ = some (.int .i64 X) := by rw [cell_of_row _ _ _ _ _ _ HR9.out]; rfl
          have k1 : w4.cell? ⟨w.heap.size + 2, 1, none⟩ = some (.string TT) := by rw [cell_of_row _ _ _ _ _ _ HR9.out]; rfl
          have k2 : w4.cell? ⟨w.heap.size + 2, 2, none⟩ = some (.int .i64 ix) := by rw [cell_of_row _ _ _ _ _ _ HR9.out]; rfl
          go_wp2_with fail
          refine bodyPost_ret (v := .tuple #[.agg #[.int .i64 X, .string TT, .int .i64 ix], .bool BB]) (by simp [results, Try.results19, go_sem, k0, k1, k2]) rfl ⟨?_, HS4.out.1⟩
          exact RAtQ.back HQ2.out
      · obtain rfl : i = ns.length := by omega
        have hre := HR.out
        rw [List.drop_length] at hre
        have hre' : none = R := hre
        subst hre'
        clear hre
        obtain ⟨w9, hw9⟩ : ∃ w9, wr.setRow (w.heap.size + 2) #[.int .i64 0, .string ⟨#[]⟩, .int .i64 0] = w9 := ⟨_, rfl⟩
        have HE9 := Lib.hid hw9
        have HR9 := Lib.hid (show w9.heap[w.heap.size + 2]? = some (.cells #[.int .i64 0, .string ⟨#[]⟩, .int .i64 0] 58 (0, 0)) from by rw [← hw9]; exact setRow_heap _ _ _ _ _ _ H2.out)
        have HB9 := Lib.hid (show Below w.heap.size w w9 from by rw [← hw9]; exact below_setRow HB.out (by omega) _)
        have k0 : w9.cell? ⟨w.heap.size + 2, 0, none⟩ = some (.int .i64 0) := by rw [cell_of_row _ _ _ _ _ _ HR9.out]; rfl
        have k1 : w9.cell? ⟨w.heap.size + 2, 1, none⟩ = some (.string ⟨#[]⟩) := by rw [cell_of_row _ _ _ _ _ _ HR9.out]; rfl
        have k2 : w9.cell? ⟨w.heap.size + 2, 2, none⟩ = some (.int .i64 0) := by rw [cell_of_row _ _ _ _ _ _ HR9.out]; rfl
        clear hw9
        go_upto_region 10 with (fail)
        go_wp2_with (first | (refine wpList_store_row rfl 58 _ _ rfl (w.heap.size + 2) #[.int .i64 0, .string ⟨#[]⟩, .int .i64 0] rfl rfl 58 #[.int .i64 0, .string ⟨#[]⟩, .int .i64 0] H2.out foInfo rfl foOne ?_; refine (congrArg _ HE9.out).mpr ?_) | fail)
        refine bodyPost_ret (v := .tuple #[.agg #[.int .i64 0, .string ⟨#[]⟩, .int .i64 0], .bool false]) (by simp [results, Try.results19, go_sem, k0, k1, k2]) rfl ⟨?_, HB9.out⟩
        exact ⟨_, rfl⟩
  · rw [if_pos rfl] at hR
    unfold byOrdM at hR
    clear HN
    by_cases c : ord < base
    · rw [if_pos c] at hR
      subst hR
      clear h3 h4
      go_enter Try.func19, Try.ntmps19
      go_upto_region 1 with (fail)
      refine (congrArg _ HE1.out).mpr ?_
      obtain ⟨w9, hw9⟩ : ∃ w9, w1.setRow (w.heap.size + 2) #[.int .i64 0, .string ⟨#[]⟩, .int .i64 0] = w9 := ⟨_, rfl⟩
      have HE9 := Lib.hid hw9
      have HR9 := Lib.hid (show w9.heap[w.heap.size + 2]? = some (.cells #[.int .i64 0, .string ⟨#[]⟩, .int .i64 0] 58 (0, 0)) from by rw [← hw9]; exact setRow_heap _ _ _ _ _ _ H2.out)
      have HB9 := Lib.hid (show Below w.heap.size w w9 from by rw [← hw9]; exact below_setRow HB.out (by omega) _)
      have k0 : w9.cell? ⟨w.heap.size + 2, 0, none⟩ = some (.int .i64 0) := by rw [cell_of_row _ _ _ _ _ _ HR9.out]; rfl
      have k1 : w9.cell? ⟨w.heap.size + 2, 1, none⟩ = some (.string ⟨#[]⟩) := by rw [cell_of_row _ _ _ _ _ _ HR9.out]; rfl
      have k2 : w9.cell? ⟨w.heap.size + 2, 2, none⟩ = some (.int .i64 0) := by rw [cell_of_row _ _ _ _ _ _ HR9.out]; rfl
      clear hw9
      go_upto_region 3 with (fail)
      go_wp2_with (first | (refine wpList_store_row rfl 58 _ _ rfl (w.heap.size + 2) #[.int .i64 0, .string ⟨#[]⟩, .int .i64 0] rfl rfl 58 #[.int .i64 0, .string ⟨#[]⟩, .int .i64 0] H2.out foInfo rfl foOne ?_; refine (congrArg _ HE9.out).mpr ?_) | fail)
      refine bodyPost_ret (v := .tuple #[.agg #[.int .i64 0, .string ⟨#[]⟩, .int .i64 0], .bool false]) (by simp [results, Try.results19, go_sem, k0, k1, k2]) rfl ⟨?_, HB9.out⟩
      exact ⟨_, rfl⟩
    · rw [if_neg c] at hR
      by_cases c2 : 1073741824 < ord
      · have hnone : atM fs (ord - base) = none := by
          unfold atM
          rw [if_neg (by omega)]
        rw [hnone] at hR
        subst hR
        clear h3 h4
        go_enter Try.func19, Try.ntmps19
        go_upto_region 1 with (fail)
        refine (congrArg _ HE1.out).mpr ?_
        obtain ⟨w9, hw9⟩ : ∃ w9, w1.setRow (w.heap.size + 2) #[.int .i64 0, .string ⟨#[]⟩, .int .i64 0] = w9 := ⟨_, rfl⟩
        have HE9 := Lib.hid hw9
        have HR9 := Lib.hid (show w9.heap[w.heap.size + 2]? = some (.cells #[.int .i64 0, .string ⟨#[]⟩, .int .i64 0] 58 (0, 0)) from by rw [← hw9]; exact setRow_heap _ _ _ _ _ _ H2.out)
        have HB9 := Lib.hid (show Below w.heap.size w w9 from by rw [← hw9]; exact below_setRow HB.out (by omega) _)
        have k0 : w9.cell? ⟨w.heap.size + 2, 0, none⟩ = some (.int .i64 0) := by rw [cell_of_row _ _ _ _ _ _ HR9.out]; rfl
        have k1 : w9.cell? ⟨w.heap.size + 2, 1, none⟩ = some (.string ⟨#[]⟩) := by rw [cell_of_row _ _ _ _ _ _ HR9.out]; rfl
        have k2 : w9.cell? ⟨w.heap.size + 2, 2, none⟩ = some (.int .i64 0) := by rw [cell_of_row _ _ _ _ _ _ HR9.out]; rfl
        clear hw9
        go_upto_region 3 with (fail)
        go_wp2_with (first | (refine wpList_store_row rfl 58 _ _ rfl (w.heap.size + 2) #[.int .i64 0, .string ⟨#[]⟩, .int .i64 0] rfl rfl 58 #[.int .i64 0, .string ⟨#[]⟩, .int .i64 0] H2.out foInfo rfl foOne ?_; refine (congrArg _ HE9.out).mpr ?_) | fail)
        refine bodyPost_ret (v := .tuple #[.agg #[.int .i64 0, .string ⟨#[]⟩, .int .i64 0], .bool false]) (by simp [results, Try.results19, go_sem, k0, k1, k2]) rfl ⟨?_, HB9.out⟩
        exact ⟨_, rfl⟩
      · obtain ⟨d, hd⟩ : ∃ d, ord - base = d := ⟨_, rfl⟩
        rw [hd] at hR
        have hw : IntKind.i64.wrap d = d := by rw [IntKind.wrap_i64]; omega
        have HRE := Lib.hid hR
        clear hR h3 h4
        go_enter Try.func19, Try.ntmps19
        go_upto_region 1 with (fail)
        refine (congrArg _ HE1.out).mpr ?_
        go_wp2_with fail
        refine (HAT.out d _ HB.out).mono ?_
        rintro e w2 ⟨hq, hw2⟩
        rw [HRE.out] at hq
        have HX2 := Lib.hid ((hw2.block _ (lt_of_row' H2.out)).trans H2.out)
        have HB2 := Lib.hid (HB.out.trans (hw2.mono HB.out.size))
        obtain ⟨X, TT, ix, BB, rfl, hq2⟩ := hq.form
        have HQ2 := Lib.hid hq2
        clear hq hw2 hd hw hq2 p0 p1 p2 q0 q1 q2
        obtain ⟨w9, hw9⟩ : ∃ w9, w2.setRow (w.heap.size + 2) #[.int .i64 X, .string TT, .int .i64 ix] = w9 := ⟨_, rfl⟩
        have HE9 := Lib.hid hw9
        have HR9 := Lib.hid (show w9.heap[w.heap.size + 2]? = some (.cells #[.int .i64 X, .string TT, .int .i64 ix] 58 (0, 0)) from by rw [← hw9]; exact setRow_heap _ _ _ _ _ _ HX2.out)
        have HB9 := Lib.hid (show Below w.heap.size w w9 from by rw [← hw9]; exact below_setRow HB2.out (by omega) _)
        have k0 : w9.cell? ⟨w.heap.size + 2, 0, none⟩ = some (.int .i64 X) := by rw [cell_of_row _ _ _ _ _ _ HR9.out]; rfl
        have k1 : w9.cell? ⟨w.heap.size + 2, 1, none⟩ = some (.string TT) := by rw [cell_of_row _ _ _ _ _ _ HR9.out]; rfl
        have k2 : w9.cell? ⟨w.heap.size + 2, 2, none⟩ = some (.int .i64 ix) := by rw [cell_of_row _ _ _ _ _ _ HR9.out]; rfl
        clear hw9
        go_wp2_with (first | (refine wpList_store_row rfl 58 _ _ rfl (w.heap.size + 2) #[.int .i64 X, .string TT, .int .i64 ix] rfl rfl 58 #[.int .i64 0, .string ⟨#[]⟩, .int .i64 0] HX2.out foInfo rfl foOne ?_; refine (congrArg _ HE9.out).mpr ?_) | fail)
        refine bodyPost_ret (v := .tuple #[.agg #[.int .i64 X, .string TT, .int .i64 ix], .bool BB]) (by simp [results, Try.results19, go_sem, k0, k1, k2]) rfl ⟨?_, HB9.out⟩
        exact RAtQ.back HQ2.out
end Go.Proofs.Ytbjabncefhgefaa
namespace Go.Proofs.Ytbjabncefhgefaa
open Go.ChangeShapes Go.WideShapes Go.ChangeAt Go.RowKit
set_option linter.unusedVariables false
set_option linter.unusedSimpArgs false

set_option maxRecDepth 100000 in
set_option maxHeartbeats 4000000 in
theorem efind_any (fs : List FnV) (ns : List NmV) (F N : Option Addr) (fc nc : Nat) (base ord : Int) (S : ByteArray) (B : Bool) (w : World) (hs : SlT gC 2 w F fs) (hn : SlT nC 2 w N ns) (hb : ∀ f ∈ fs, FnOk f) (hl : fs.length ≤ 1000000) (hnl : ns.length ≤ 1000000) (h1 : 0 ≤ base) (h2 : base ≤ 1000000) (h3 : -9223372036854775808 ≤ ord) (h4 : ord ≤ 9223372036854775807) :
    Calls Try.prog 18 #[.agg #[.int .i64 base, .slice F fs.length fc, .slice N ns.length nc], .agg #[.string S, .int .i64 ord, .bool B]] w fun e w' => AtQ (findM fs ns base S ord B) e ∧ Below w.heap.size w w' := by
  have HO := Lib.hid (fun W (hW : Below w.heap.size w W) => byOrd_any fs F N fc ns.length nc base ord W (hs.below hW) hb hl h1 h2 h3 h4)
  have HN := Lib.hid (fun W (hW : Below w.heap.size w W) => byName_any fs ns F N fc nc base S W (hs.below hW) (hn.below hW) hb hl hnl)
  obtain ⟨w1, hw1⟩ : ∃ w1, ((w.alloc (.cells #[.int .i64 base, .slice F fs.length fc, .slice N ns.length nc] 32)).alloc (.cells #[.string S, .int .i64 ord, .bool B] 50)).alloc (.cells #[.int .i64 0, .string ⟨#[]⟩] 37) = w1 := ⟨_, rfl⟩
  have hs1 : (w.alloc (.cells #[.int .i64 base, .slice F fs.length fc, .slice N ns.length nc] 32)).heap.size = w.heap.size + 1 := by simp
  have hs2 : ((w.alloc (.cells #[.int .i64 base, .slice F fs.length fc, .slice N ns.length nc] 32)).alloc (.cells #[.string S, .int .i64 ord, .bool B] 50)).heap.size = w.heap.size + 2 := by simp
  have HB := Lib.hid (show Below w.heap.size w w1 from by rw [← hw1]; exact (((Below.refl w.heap.size w).alloc (Nat.le_refl _) _).alloc (by rw [hs1]; omega) _).alloc (by rw [hs2]; omega) _)
  have H0 := Lib.hid (show w1.heap[w.heap.size]? = some (.cells #[.int .i64 base, .slice F fs.length fc, .slice N ns.length nc] 32 (0, 0)) from by
    rw [← hw1]
    exact (Below.heap_alloc _ _ w.heap.size (by rw [hs2]; omega)).trans ((Below.heap_alloc _ _ w.heap.size (by rw [hs1]; omega)).trans (heap_alloc_new w _)))
  have H1 := Lib.hid (show w1.heap[w.heap.size + 1]? = some (.cells #[.string S, .int .i64 ord, .bool B] 50 (0, 0)) from by
    rw [← hw1]
    refine (Below.heap_alloc _ _ (w.heap.size + 1) (by rw [hs2]; omega)).trans ?_
    have h := heap_alloc_new (w.alloc (.cells #[.int .i64 base, .slice F fs.length fc, .slice N ns.length nc] 32)) (.cells #[.string S, .int .i64 ord, .bool B] 50)
    rwa [hs1] at h)
  have H2 := Lib.hid (show w1.heap[w.heap.size + 2]? = some (.cells #[.int .i64 0, .string ⟨#[]⟩] 37 (0, 0)) from by
    rw [← hw1]
    have h := heap_alloc_new ((w.alloc (.cells #[.int .i64 base, .slice F fs.length fc, .slice N ns.length nc] 32)).alloc (.cells #[.string S, .int .i64 ord, .bool B] 50)) (.cells #[.int .i64 0, .string ⟨#[]⟩] 37)
    rwa [hs2] at h)
  have HE1 := Lib.hid hw1
  clear hw1 hs1 hs2
  have p0 : w1.cell? ⟨w.heap.size, 0, none⟩ = some (.int .i64 base) := by rw [cell_of_row _ _ _ _ _ _ H0.out]; rfl
  have p1 : w1.cell? ⟨w.heap.size, 1, none⟩ = some (.slice F fs.length fc) := by rw [cell_of_row _ _ _ _ _ _ H0.out]; rfl
  have p2 : w1.cell? ⟨w.heap.size, 2, none⟩ = some (.slice N ns.length nc) := by rw [cell_of_row _ _ _ _ _ _ H0.out]; rfl
  have q0 : w1.cell? ⟨w.heap.size + 1, 0, none⟩ = some (.string S) := by rw [cell_of_row _ _ _ _ _ _ H1.out]; rfl
  have q1 : w1.cell? ⟨w.heap.size + 1, 1, none⟩ = some (.int .i64 ord) := by rw [cell_of_row _ _ _ _ _ _ H1.out]; rfl
  have q2 : w1.cell? ⟨w.heap.size + 1, 2, none⟩ = some (.bool B) := by rw [cell_of_row _ _ _ _ _ _ H1.out]; rfl
  obtain ⟨R, hR⟩ : ∃ R, findM fs ns base S ord B = R := ⟨_, rfl⟩
  rw [hR]
  unfold findM at hR
  clear hs hn hb h3 h4
  rcases B with _ | _
  · rw [if_neg (by simp)] at hR
    have HRE := Lib.hid hR
    clear hR
    go_enter Try.func18, Try.ntmps18
    go_upto_region 1 with (fail)
    refine (congrArg _ HE1.out).mpr ?_
    go_wp2_with fail
    refine (HN.out _ HB.out).mono ?_
    rintro e w2 ⟨hq, hw2⟩
    rw [HRE.out] at hq
    have HX2 := Lib.hid ((hw2.block _ (lt_of_row' H2.out)).trans H2.out)
    have HB2 := Lib.hid (HB.out.trans (hw2.mono HB.out.size))
    obtain ⟨X, TT, BB, rfl⟩ := hq.form
    have HQ2 := Lib.hid hq
    clear hq hw2 p0 p1 p2 q0 q1 q2
    obtain ⟨w9, hw9⟩ : ∃ w9, w2.setRow (w.heap.size + 2) #[.int .i64 X, .string TT] = w9 := ⟨_, rfl⟩
    have HE9 := Lib.hid hw9
    have HR9 := Lib.hid (show w9.heap[w.heap.size + 2]? = some (.cells #[.int .i64 X, .string TT] 37 (0, 0)) from by rw [← hw9]; exact setRow_heap _ _ _ _ _ _ HX2.out)
    have HB9 := Lib.hid (show Below w.heap.size w w9 from by rw [← hw9]; exact below_setRow HB2.out (by omega) _)
    have k0 : w9.cell? ⟨w.heap.size + 2, 0, none⟩ = some (.int .i64 X) := by rw [cell_of_row _ _ _ _ _ _ HR9.out]; rfl
    have k1 : w9.cell? ⟨w.heap.size + 2, 1, none⟩ = some (.string TT) := by rw [cell_of_row _ _ _ _ _ _ HR9.out]; rfl
    clear hw9
    go_wp2_with (first | (refine wpList_store_row rfl 37 _ _ rfl (w.heap.size + 2) #[.int .i64 X, .string TT] rfl rfl 37 #[.int .i64 0, .string ⟨#[]⟩] HX2.out fnInfo rfl fnOne ?_; refine (congrArg _ HE9.out).mpr ?_) | fail)
    refine bodyPost_ret (v := .tuple #[.agg #[.int .i64 X, .string TT], .bool BB]) (by simp [results, Try.results18, go_sem, k0, k1]) rfl ⟨?_, HB9.out⟩
    exact HQ2.out
  · rw [if_pos rfl] at hR
    have HRE := Lib.hid hR
    clear hR
    go_enter Try.func18, Try.ntmps18
    go_upto_region 1 with (fail)
    refine (congrArg _ HE1.out).mpr ?_
    go_wp2_with fail
    refine (HO.out _ HB.out).mono ?_
    rintro e w2 ⟨hq, hw2⟩
    rw [HRE.out] at hq
    have HX2 := Lib.hid ((hw2.block _ (lt_of_row' H2.out)).trans H2.out)
    have HB2 := Lib.hid (HB.out.trans (hw2.mono HB.out.size))
    obtain ⟨X, TT, BB, rfl⟩ := hq.form
    have HQ2 := Lib.hid hq
    clear hq hw2 p0 p1 p2 q0 q1 q2
    obtain ⟨w9, hw9⟩ : ∃ w9, w2.setRow (w.heap.size + 2) #[.int .i64 X, .string TT] = w9 := ⟨_, rfl⟩
    have HE9 := Lib.hid hw9
    have HR9 := Lib.hid (show w9.heap[w.heap.size + 2]? = some (.cells #[.int .i64 X, .string TT] 37 (0, 0)) from by rw [← hw9]; exact setRow_heap _ _ _ _ _ _ HX2.out)
    have HB9 := Lib.hid (show Below w.heap.size w w9 from by rw [← hw9]; exact below_setRow HB2.out (by omega) _)
    have k0 : w9.cell? ⟨w.heap.size + 2, 0, none⟩ = some (.int .i64 X) := by rw [cell_of_row _ _ _ _ _ _ HR9.out]; rfl
    have k1 : w9.cell? ⟨w.heap.size + 2, 1, none⟩ = some (.string TT) := by rw [cell_of_row _ _ _ _ _ _ HR9.out]; rfl
    clear hw9
    go_wp2_with (first | (refine wpList_store_row rfl 37 _ _ rfl (w.heap.size + 2) #[.int .i64 X, .string TT] rfl rfl 37 #[.int .i64 0, .string ⟨#[]⟩] HX2.out fnInfo rfl fnOne ?_; refine (congrArg _ HE9.out).mpr ?_) | fail)
    refine bodyPost_ret (v := .tuple #[.agg #[.int .i64 X, .string TT], .bool BB]) (by simp [results, Try.results18, go_sem, k0, k1]) rfl ⟨?_, HB9.out⟩
    exact HQ2.out

theorem AtQ.found {r : Option FnV} {e : Ending} (h : AtQ r e) : ∃ (X : Nat) (T : ByteArray) (B : Bool), e = .returned (.tuple #[.agg #[.int .i64 X, .string T], .bool B]) ∧ IsFound r X T B := by
  cases r with
  | none => exact ⟨0, _, _, h, rfl, rfl, rfl⟩
  | some f => exact ⟨_, _, _, h, rfl, rfl, rfl⟩
theorem IsFound.same {r : Option FnV} {X Y : Nat} {S T : ByteArray} {A B : Bool} (h : IsFound r X S A) (k : IsFound r Y T B) : X = Y ∧ S = T ∧ A = B := by
  cases r with
  | none => obtain ⟨rfl, rfl, rfl⟩ := h; obtain ⟨rfl, rfl, rfl⟩ := k; exact ⟨rfl, rfl, rfl⟩
  | some f => obtain ⟨rfl, rfl, rfl⟩ := h; obtain ⟨rfl, rfl, rfl⟩ := k; exact ⟨rfl, rfl, rfl⟩
end Go.Proofs.Ytbjabncefhgefaa
