/- package cpu: a number is stored. -/
import Derived.Test.YthbgmlmcjnlopaaMchA
import Derived.Test.YthbgmlmcjnlopaaStoreRow
namespace Go.Proofs.Ythbgmlmcjnlopaa
open Go.ChangeShapes Go.WideShapes Go.ChangeAt Go.RowKit
set_option linter.unusedVariables false
set_option linter.unusedSimpArgs false
set_option maxRecDepth 100000

/-- What is laid by a number of eight bytes. -/
def le8 (v : Int) (j : Nat) : Int := byteOf v j
theorem src_le8 {R : Nat → Prop} {w : World} {g : Nat} {v : Int} (h : Own w g 8 (leF v 8)) (hg : R g) : SrcR R w (some ⟨g, 0, none⟩) 8 (le8 v) :=
  .inr ⟨g, 0, rfl, hg, fun j hj => by rw [Nat.zero_add, h.cell hj]; unfold leF le8; rw [if_pos hj]⟩

/-- A memory at W, of which the blocks of R are none, and that holds mp; R0 was ahead. -/
structure Gd (R0 R : Nat → Prop) (w W : World) (M m : Nat) (most : Int) (mp : Int → Option Pg) : Prop where
  mem : MemAt R W M m most mp
  sub : ∀ k, R0 k → R k
  kept : Kept R0 w W
theorem Gd.start {R : Nat → Prop} {w : World} {M m : Nat} {most : Int} {mp : Int → Option Pg} (h : MemAt R w M m most mp) : Gd R R w w M m most mp := ⟨h, fun _ h => h, Kept.refl _ _⟩
/-- What is new is none of the memory's. -/
theorem Gd.below {R0 R : Nat → Prop} {w W W' : World} {M m : Nat} {most : Int} {mp : Int → Option Pg} (h : Gd R0 R w W M m most mp) (hb : Below W.heap.size W W') : Gd R0 (fun k => R k ∨ (W.heap.size ≤ k ∧ k < W'.heap.size)) w W' M m most mp :=
  ⟨h.mem.more hb, fun k hk => .inl (h.sub k hk), h.kept.trans (Kept.of_below hb (fun k hk => h.mem.sz k (h.sub k hk)))⟩
theorem Gd.turned {R0 R : Nat → Prop} {w W W' : World} {M m : Nat} {most : Int} {mp mp' : Int → Option Pg} (h : Gd R0 R w W M m most mp) (hm : MemAt R W' M m most mp') (hk : Kept R W W') : Gd R0 R w W' M m most mp' :=
  ⟨hm, h.sub, h.kept.trans (hk.mono h.sub)⟩
theorem Gd.drew {R0 R : Nat → Prop} {w W : World} {M m : Nat} {most : Int} {mp : Int → Option Pg} (h : Gd R0 R w W M m most mp) : Gd R0 R w W.drew M m most mp := ⟨h.mem.drewN 1, h.sub, h.kept.drew⟩
/-- One block that is none of the memory's, and was not there, is written. -/
theorem Gd.written {R0 R : Nat → Prop} {w W W' : World} {M m b : Nat} {most : Int} {mp : Int → Option Pg} (h : Gd R0 R w W M m most mp) (hb : R b) (hn : ¬ R0 b) (hg : W'.os = W.os ∧ W'.tape = W.tape ∧ W'.output = W.output ∧ W.heap.size ≤ W'.heap.size) (hk : ∀ k, k ≠ b → W'.heap[k]? = W.heap[k]?) : Gd R0 R w W' M m most mp :=
  ⟨h.mem.kept hg.2.2.2 (fun k _ hr => hk k (fun e => hr (by rw [e]; exact hb))), h.sub, h.kept.trans ⟨hg.1, hg.2.1, hg.2.2.1, hg.2.2.2, fun k hR => hk k (fun e => hn (by rw [← e]; exact hR))⟩⟩

/-- The memory behind the write, and the block of what is told. -/
def FinB (R : Nat → Prop) (w w3 : World) (M m : Nat) (most : Int) (mp : Int → Option Pg) (b : Nat) : Prop :=
  ∃ R3, Gd R R3 w w3 M m most mp ∧ R3 b ∧ ¬ R b ∧ w3.heap[b]? = some (.cells #[.int .i64 0, .int .u64 0] 57 (0, 0))
/-- What a store leaves. -/
structure StoP (R : Nat → Prop) (w : World) (C M m : Nat) (most : Int) (mp' : Int → Option Pg) (s : StV) (k a : Int) (e : Ending) (w' : World) : Prop where
  yes : k = 0 → e = .returned (.bool true) ∧ MemAt R w' M m most mp' ∧ Kept R w w'
  no : k ≠ 0 → e = .returned (.bool false) ∧ MemAt R w' M m most mp' ∧ Own w' C 24 (cpuF M s k a) ∧ Kept (fun q => R q ∧ q ≠ C) w w'
set_option maxHeartbeats 4000000 in
theorem store_core (R : Nat → Prop) (w : World) (C M m : Nat) (most : Int) (mp mp' : Int → Option Pg) (s : StV) (fk fa at' v k a : Int) (v0 : 0 ≤ v) (v1 : v < 18446744073709551616) (hm : MemAt R w M m most mp) (hc : Own w C 24 (cpuF M s fk fa)) (hRC : R C)
    (HWR : ∀ (R2 : Nat → Prop) (W : World) (g : Nat), MemAt R2 W M m most mp → R2 g → Own W g 8 (leF v 8) → Calls Try.prog 54 #[.pointer (some ⟨M, 0, none⟩), .int .u64 at', .slice (some ⟨g, 0, none⟩) 8 8] W fun e w' => e = .returned (.agg #[.int .i64 k, .int .u64 a]) ∧ MemAt R2 w' M m most mp' ∧ Kept R2 W w') :
    Calls Try.prog 81 #[.pointer (some ⟨C, 0, none⟩), .int .u64 at', .int .u64 v] w fun e w' => StoP R w C M m most mp' s k a e w' := by
  have hcm := cpu_mem hc
  have hlt := hc.1
  have HSZ := Lib.hid hm.sz
  have HG0 := Lib.hid (Gd.start hm).drew
  have HG00 := Lib.hid (Gd.start hm)
  have HC := Lib.hid hc
  have HRC := Lib.hid hRC
  have HW := Lib.hid HWR
  clear hm hc hRC HWR
  go_enter Try.func81, Try.ntmps81
  go_upto_region 1 with (fail)
  have HS := Lib.hid (show w.drew.cell? ⟨C, 0, none⟩ = some (.pointer (some ⟨M, 0, none⟩)) from hcm)
  have HKC := Lib.hid (fun W (hW : Kept R w W) => show W.cell? ⟨C, 0, none⟩ = some (.pointer (some ⟨M, 0, none⟩)) from (hW.cell HRC.out).trans hcm)
  refine wp_region_noPanic ?_
  refine wp_region_K (fun W => W.cell? ⟨C, 0, none⟩ = some (.pointer (some ⟨M, 0, none⟩))) (fun _ => True) 99 (by kernel_rfl) ?_
  refine wpAnyK_take (i := 0) (oi := ?_) (v := ?_) ?_ (by kernel_rfl) (by kernel_rfl) (by kernel_rfl) (fun _ _ _ h => h) (by decide) ?_ HS.out (fun _ => trivial) ?_
  rotate_left 2
  · (simp only [List.getElem?_toArray, List.getElem?_cons_succ, List.getElem?_cons_zero]; rfl)
  · (first | exact Or.inr ⟨by rfl, rfl⟩ | (refine Or.inl ⟨by rfl, ?_⟩; intro W hSw; clear hSw; go_simp; try with_reducible rfl))
  try simp only [Act.put, List.setIfInBounds_toArray, List.set_cons_zero, List.set_cons_succ]
  refine wpAnyK_take (i := 1) (oi := ?_) (v := ?_) ?_ (by kernel_rfl) (by kernel_rfl) (by kernel_rfl) (fun _ _ _ h => h) (by decide) ?_ HS.out (fun _ => trivial) ?_
  rotate_left 2
  · (simp only [List.getElem?_toArray, List.getElem?_cons_succ, List.getElem?_cons_zero]; rfl)
  · (first | exact Or.inr ⟨by rfl, rfl⟩ | (refine Or.inl ⟨by rfl, ?_⟩; intro W hSw; clear hSw; go_simp; try with_reducible rfl))
  try simp only [Act.put, List.setIfInBounds_toArray, List.set_cons_zero, List.set_cons_succ]
  refine wpAnyK_take (i := 2) (oi := ?_) (v := ?_) ?_ (by kernel_rfl) (by kernel_rfl) (by kernel_rfl) (fun _ _ _ h => h) (by decide) ?_ HS.out (fun _ => trivial) ?_
  rotate_left 2
  · (simp only [List.getElem?_toArray, List.getElem?_cons_succ, List.getElem?_cons_zero]; rfl)
  · (first | exact Or.inr ⟨by rfl, rfl⟩ | (refine Or.inl ⟨by rfl, ?_⟩; intro W hSw; clear hSw; go_simp; try with_reducible rfl))
  try simp only [Act.put, List.setIfInBounds_toArray, List.set_cons_zero, List.set_cons_succ]
  refine wpAnyK_take (i := 3) (oi := ?_) (v := ?_) ?_ (by kernel_rfl) (by kernel_rfl) (by kernel_rfl) (fun _ _ _ h => h) (by decide) ?_ HS.out (fun _ => trivial) ?_
  rotate_left 2
  · (simp only [List.getElem?_toArray, List.getElem?_cons_succ, List.getElem?_cons_zero]; rfl)
  · (first | exact Or.inr ⟨by rfl, rfl⟩ | (refine Or.inl ⟨by rfl, ?_⟩; intro W hSw; have hq : W.cell? ⟨C, 0, none⟩ = some (.pointer (some ⟨M, 0, none⟩)) := hSw; clear hSw; go_simp; try with_reducible rfl))
  try simp only [Act.put, List.setIfInBounds_toArray, List.set_cons_zero, List.set_cons_succ]
  refine wpAnyK_take (i := 4) (oi := ?_) (v := ?_) ?_ (by kernel_rfl) (by kernel_rfl) (by kernel_rfl) (fun _ _ _ h => h) (by decide) ?_ HS.out (fun _ => trivial) ?_
  rotate_left 2
  · (simp only [List.getElem?_toArray, List.getElem?_cons_succ, List.getElem?_cons_zero]; rfl)
  · (first | exact Or.inr ⟨by rfl, rfl⟩ | (refine Or.inl ⟨by rfl, ?_⟩; intro W hSw; clear hSw; go_simp; try with_reducible rfl))
  try simp only [Act.put, List.setIfInBounds_toArray, List.set_cons_zero, List.set_cons_succ]
  refine wpAnyK_take (i := 5) (oi := ?_) (v := ?_) ?_ (by kernel_rfl) (by kernel_rfl) (by kernel_rfl) (fun _ _ _ h => h) (by decide) ?_ HS.out (fun _ => trivial) ?_
  rotate_left 2
  · (simp only [List.getElem?_toArray, List.getElem?_cons_succ, List.getElem?_cons_zero]; rfl)
  · (first | exact Or.inr ⟨by rfl, rfl⟩ | (refine Or.inl ⟨by rfl, ?_⟩; intro W hSw; clear hSw; go_simp; try with_reducible rfl))
  try simp only [Act.put, List.setIfInBounds_toArray, List.set_cons_zero, List.set_cons_succ]
  refine wpAnyK_two (i := 6) (j := 8) (o := ?_) (o2 := ?_) (by kernel_rfl) ?_ ?_ (fun K hK => ?callA) (fun K hK => ?allocA)
  rotate_left 2
  · (simp only [List.getElem?_toArray, List.getElem?_cons_succ, List.getElem?_cons_zero]; rfl)
  · (simp only [List.getElem?_toArray, List.getElem?_cons_succ, List.getElem?_cons_zero]; rfl)
  case' callA =>
    go_simp
    go_at_call 55
    refine (bytes_in v 8 w.drew v0 (by omega) (by omega)).mono ?_
    rintro e w1 ⟨rfl, hog, hb1⟩
    have HG1 := Lib.hid (HG0.out.below hb1)
    have HOG := Lib.hid hog
    have HNG := Lib.hid (show w.heap.size < w1.heap.size from hog.1)
    have HS1 := Lib.hid (HKC.out _ HG1.out.kept)
    clear hog hb1
    refine hK.out _ _ HS1.out (fun _ => trivial) ?_
    clear hK K
    try simp only [Act.put, List.setIfInBounds_toArray, List.set_cons_zero, List.set_cons_succ]
    have HGR := Lib.hid (show R w.drew.heap.size ∨ (w.drew.heap.size ≤ w.drew.heap.size ∧ w.drew.heap.size < w1.heap.size) from .inr ⟨Nat.le_refl _, HNG.out⟩)
    refine wpAnyK_two (i := 7) (j := 8) (o := ?_) (o2 := ?_) (by kernel_rfl) ?_ ?_ (fun K hK => ?callB) (fun K hK => ?allocB)
    rotate_left 2
    · (simp only [List.getElem?_toArray, List.getElem?_cons_succ, List.getElem?_cons_zero]; rfl)
    · (simp only [List.getElem?_toArray, List.getElem?_cons_succ, List.getElem?_cons_zero]; rfl)
    case' callB =>
      go_simp
      go_at_call 54
      refine (HW.out _ w1 _ HG1.out.mem (HGR.out) HOG.out).mono ?_
      rintro e w2 ⟨rfl, hm2, hk2⟩
      have HG2 := Lib.hid (HG1.out.turned hm2 hk2)
      have HS2 := Lib.hid (HKC.out _ HG2.out.kept)
      have HKW := Lib.hid hk2
      clear hm2 hk2
      refine hK.out _ _ HS2.out (fun _ => trivial) ?_
      clear hK K
      try simp only [Act.put, List.setIfInBounds_toArray, List.set_cons_zero, List.set_cons_succ]
      refine wpAnyK_one (i := 8) (o := ?_) (by kernel_rfl) ?_ (fun K hK => ?_)
      rotate_left 1
      · (simp only [List.getElem?_toArray, List.getElem?_cons_succ, List.getElem?_cons_zero]; rfl)
      go_simp
      have HG3 := Lib.hid (HG2.out.below ((Below.refl _ _).alloc (Nat.le_refl _) (.cells #[.int .i64 0, .int .u64 0] 57)))
      have HS3 := Lib.hid (HKC.out _ HG3.out.kept)
      have HZ3 := Lib.hid (heap_alloc_new w2 (.cells #[.int .i64 0, .int .u64 0] 57))
      refine hK.out _ _ HS3.out (fun _ => trivial) ?_
      clear hK K
      try simp only [Act.put, List.setIfInBounds_toArray, List.set_cons_zero, List.set_cons_succ]
      have HFIN := Lib.hid (show FinB R w (w2.alloc (.cells #[.int .i64 0, .int .u64 0] 57)) M m most mp' w2.heap.size from ⟨_, HG3.out, .inr ⟨Nat.le_refl _, by simp⟩, fun h => Nat.lt_irrefl _ (Nat.lt_of_lt_of_le (HSZ.out _ h) HG2.out.kept.size), HZ3.out⟩)
      generalize w2.alloc (.cells #[.int .i64 0, .int .u64 0] 57) = w3 at *
      generalize w2.heap.size = b10 at *
    case' allocB =>
      go_simp
      have HG2 := Lib.hid (HG1.out.below ((Below.refl _ _).alloc (Nat.le_refl _) (.cells #[.int .i64 0, .int .u64 0] 57)))
      have HS2 := Lib.hid (HKC.out _ HG2.out.kept)
      have HZ2 := Lib.hid (heap_alloc_new w1 (.cells #[.int .i64 0, .int .u64 0] 57))
      have HOG2 := Lib.hid (HOG.out.alloc (.cells #[.int .i64 0, .int .u64 0] 57))
      refine hK.out _ _ HS2.out (fun _ => trivial) ?_
      clear hK K
      try simp only [Act.put, List.setIfInBounds_toArray, List.set_cons_zero, List.set_cons_succ]
      refine wpAnyK_one (i := 7) (o := ?_) (by kernel_rfl) ?_ (fun K hK => ?_)
      rotate_left 1
      · (simp only [List.getElem?_toArray, List.getElem?_cons_succ, List.getElem?_cons_zero]; rfl)
      go_simp
      go_at_call 54
      refine (HW.out _ (w1.alloc (.cells #[.int .i64 0, .int .u64 0] 57)) _ HG2.out.mem (.inl HGR.out) HOG2.out).mono ?_
      rintro e w3 ⟨rfl, hm2, hk2⟩
      have HG3 := Lib.hid (HG2.out.turned hm2 hk2)
      have HS3 := Lib.hid (HKC.out _ HG3.out.kept)
      have HKW := Lib.hid hk2
      clear hm2 hk2
      refine hK.out _ _ HS3.out (fun _ => trivial) ?_
      clear hK K
      try simp only [Act.put, List.setIfInBounds_toArray, List.set_cons_zero, List.set_cons_succ]
      have HFIN := Lib.hid (show FinB R w w3 M m most mp' w1.heap.size from ⟨_, HG3.out, .inr ⟨Nat.le_refl _, by simp⟩, fun h => Nat.lt_irrefl _ (Nat.lt_of_lt_of_le (HSZ.out _ h) HG1.out.kept.size), (HKW.out.block _ (.inr ⟨Nat.le_refl _, by simp⟩)).trans HZ2.out⟩)
      generalize w1.heap.size = b10 at *
  case' allocA =>
    go_simp
    obtain ⟨R1, hg1, hr1⟩ : ∃ R1, Gd R R1 w (w.alloc (.cells #[.int .i64 0, .int .u64 0] 57)).drew M m most mp ∧ R1 w.heap.size := ⟨_, (HG00.out.below ((Below.refl _ _).alloc (Nat.le_refl _) (.cells #[.int .i64 0, .int .u64 0] 57))).drew, .inr ⟨Nat.le_refl _, by simp⟩⟩
    have HG1 := Lib.hid hg1
    have HR1 := Lib.hid hr1
    clear hg1 hr1
    have HS1 := Lib.hid (HKC.out _ HG1.out.kept)
    have HZ1 := Lib.hid (show (w.alloc (.cells #[.int .i64 0, .int .u64 0] 57)).drew.heap[w.heap.size]? = _ from heap_alloc_new w (.cells #[.int .i64 0, .int .u64 0] 57))
    have HN1 := Lib.hid (show w.heap.size < (w.alloc (.cells #[.int .i64 0, .int .u64 0] 57)).drew.heap.size from by simp)
    have HNR := Lib.hid (fun (h : R w.heap.size) => Nat.lt_irrefl _ (HSZ.out _ h))
    refine hK.out _ _ HS1.out (fun _ => trivial) ?_
    clear hK K
    try simp only [Act.put, List.setIfInBounds_toArray, List.set_cons_zero, List.set_cons_succ]
    generalize (w.alloc (.cells #[.int .i64 0, .int .u64 0] 57)).drew = w1 at *
    generalize w.heap.size = b10 at *
    refine wpAnyK_one (i := 6) (o := ?_) (by kernel_rfl) ?_ (fun K hK => ?_)
    rotate_left 1
    · (simp only [List.getElem?_toArray, List.getElem?_cons_succ, List.getElem?_cons_zero]; rfl)
    go_simp
    go_at_call 55
    refine (bytes_in v 8 w1 v0 (by omega) (by omega)).mono ?_
    rintro e w2 ⟨rfl, hog, hb1⟩
    have HG2 := Lib.hid (HG1.out.below hb1)
    have HOG := Lib.hid hog
    have HNG := Lib.hid hog.1
    have HZ2 := Lib.hid ((hb1.block b10 HN1.out).trans HZ1.out)
    have HS2 := Lib.hid (HKC.out _ HG2.out.kept)
    clear hog hb1
    generalize w1.heap.size = g1 at *
    refine hK.out _ _ HS2.out (fun _ => trivial) ?_
    clear hK K
    try simp only [Act.put, List.setIfInBounds_toArray, List.set_cons_zero, List.set_cons_succ]
    refine wpAnyK_one (i := 7) (o := ?_) (by kernel_rfl) ?_ (fun K hK => ?_)
    rotate_left 1
    · (simp only [List.getElem?_toArray, List.getElem?_cons_succ, List.getElem?_cons_zero]; rfl)
    go_simp
    go_at_call 54
    refine (HW.out _ w2 _ HG2.out.mem (.inr ⟨Nat.le_refl _, HNG.out⟩) HOG.out).mono ?_
    rintro e w3 ⟨rfl, hm2, hk2⟩
    have HG3 := Lib.hid (HG2.out.turned hm2 hk2)
    have HS3 := Lib.hid (HKC.out _ HG3.out.kept)
    have HKW := Lib.hid hk2
    clear hm2 hk2
    refine hK.out _ _ HS3.out (fun _ => trivial) ?_
    clear hK K
    try simp only [Act.put, List.setIfInBounds_toArray, List.set_cons_zero, List.set_cons_succ]
    have HFIN := Lib.hid (show FinB R w w3 M m most mp' b10 from ⟨_, HG3.out, .inl HR1.out, HNR.out, (HKW.out.block _ (.inl HR1.out)).trans HZ2.out⟩)
  all_goals
    obtain ⟨R3, hg3, hb3, hnb, hz3⟩ := HFIN.out
    refine wpAnyK_one (i := 9) (o := ?_) (by kernel_rfl) ?_ (fun K hK => ?_)
    rotate_left 1
    · (simp only [List.getElem?_toArray, List.getElem?_cons_succ, List.getElem?_cons_zero]; rfl)
    refine step_store_row' rfl 57 _ _ rfl b10 #[.int .i64 k, .int .u64 a] ?_ ?_ 57 #[.int .i64 0, .int .u64 0] hz3 (by kernel_rfl) rfl (by simp [Value.oneCell']) ?_
    · first | rfl | simp [Act.eval]
    · first | rfl | simp [Act.eval]
    have hg4 := hg3.written (W' := w3.setRow b10 #[.int .i64 k, .int .u64 a]) hb3 hnb ⟨rfl, rfl, rfl, by simp [World.setRow]⟩ (fun q hq => setRow_other _ _ q _ hq)
    have HG4 := Lib.hid hg4
    have HS4 := Lib.hid (HKC.out _ hg4.kept)
    have HZ4 := Lib.hid (row_set (cells := #[.int .i64 k, .int .u64 a]) hz3)
    have HNB := Lib.hid hnb
    clear hg3 hg4 hz3
    refine hK.out _ _ HS4.out (fun _ => trivial) ?_
    clear hK K
    try simp only [Act.put, List.setIfInBounds_toArray, List.set_cons_zero, List.set_cons_succ]
    refine wpAnyK_done (by kernel_rfl) ?_ _
    refine NoPanic.normal ?_
    have c0 : (w3.setRow b10 #[.int .i64 k, .int .u64 a]).cell? ⟨b10, 0, none⟩ = some (.int .i64 k) := by rw [cell_of_row' HZ4.out]; rfl
    have c1 : (w3.setRow b10 #[.int .i64 k, .int .u64 a]).cell? ⟨b10, 1, none⟩ = some (.int .u64 a) := by rw [cell_of_row' HZ4.out]; rfl
    have hC4 := HG4.out.kept.own HC.out HRC.out
    have c22 := hC4.cell (i := 22) (by omega)
    have c23 := hC4.cell (i := 23) (by omega)
    have f22 := hC4.frozen (i := 22) (by omega)
    have f23 := hC4.frozen (i := 23) (by omega)
    simp only [cpuF] at c22 c23
    have HC4 := Lib.hid hC4
    clear hC4 hcm hlt HS4 HZ4
    generalize w3.setRow b10 #[.int .i64 k, .int .u64 a] = w4 at *
    by_cases hk0 : k = 0
    · subst hk0
      clear c22 c23 f22 f23
      go_wp2_with fail
      go_ret
      exact ⟨fun _ => ⟨rfl, HG4.out.mem.weaken HG4.out.sub, HG4.out.kept⟩, fun h => absurd rfl h⟩
    · have hb : (k == 0) = false := by simpa using hk0
      have HNZ := Lib.hid hk0
      clear hk0
      go_wp2_with fail
      go_ret
      refine ⟨fun h => absurd h HNZ.out, fun _ => ⟨rfl, ?_, cpu_fault HC4.out k a, ?_⟩⟩
      · exact ((HG4.out.mem.weaken HG4.out.sub).setFar HRC.out _).setFar HRC.out _
      · exact (((HG4.out.kept.mono (R' := fun q => R q ∧ q ≠ C) (fun q hq => hq.1)).setCell (fun h => h.2 rfl) _).setCell (fun h => h.2 rfl) _)

theorem store_yes (R : Nat → Prop) (w : World) (C M m : Nat) (most : Int) (mp : Int → Option Pg) (s : StV) (fk fa at' v : Int) (HO : MpOk mp) (h0 : 0 ≤ at') (h1 : at' < 18446744073709551616) (v0 : 0 ≤ v) (v1 : v < 18446744073709551616) (hm : MemAt R w M m most mp) (hc : Own w C 24 (cpuF M s fk fa)) (hRC : R C) (hf : (askS mp 2 3 8 at' 8).1 = 0) :
    Calls Try.prog 81 #[.pointer (some ⟨C, 0, none⟩), .int .u64 at', .int .u64 v] w fun e w' =>
      e = .returned (.bool true) ∧ MemAt R w' M m most (putP mp at' 8 (le8 v)) ∧ Kept R w w' := by
  have ha := HO.addr_in (need := 2) (kind := 3) (k := 8) h0 h1 (n := 8) (by omega) (by omega) (by omega) hf
  refine (store_core R w C M m most mp _ s fk fa at' v 0 0 v0 v1 hm hc hRC (fun R2 W g hm2 hg ho => ?_)).mono fun e w' h => h.yes rfl
  exact write_yes R2 W M m most mp at' (some ⟨g, 0, none⟩) 8 8 (le8 v) h0 (by omega) (by omega) (by omega) (by omega) (src_le8 ho hg) HO.prot hf hm2

theorem store_no (R : Nat → Prop) (w : World) (C M m : Nat) (most : Int) (mp : Int → Option Pg) (s : StV) (fk fa at' v : Int) (HO : MpOk mp) (h0 : 0 ≤ at') (h1 : at' < 18446744073709551616) (v0 : 0 ≤ v) (v1 : v < 18446744073709551616) (hm : MemAt R w M m most mp) (hc : Own w C 24 (cpuF M s fk fa)) (hRC : R C) (hf : (askS mp 2 3 8 at' 8).1 ≠ 0) :
    Calls Try.prog 81 #[.pointer (some ⟨C, 0, none⟩), .int .u64 at', .int .u64 v] w fun e w' =>
      e = .returned (.bool false) ∧ MemAt R w' M m most (askM mp (askS mp 2 3 8 at' 8)) ∧ Own w' C 24 (cpuF M s (askS mp 2 3 8 at' 8).1 (askS mp 2 3 8 at' 8).2.1) ∧ Kept (fun k => R k ∧ k ≠ C) w w' := by
  refine (store_core R w C M m most mp _ s fk fa at' v _ _ v0 v1 hm hc hRC (fun R2 W g hm2 hg ho => ?_)).mono fun e w' h => h.no hf
  exact write_no R2 W M m most mp at' (some ⟨g, 0, none⟩) 8 8 h0 (HO.addr h0 h1 (by omega)) (by omega) HO.prot hf hm2
end Go.Proofs.Ythbgmlmcjnlopaa
