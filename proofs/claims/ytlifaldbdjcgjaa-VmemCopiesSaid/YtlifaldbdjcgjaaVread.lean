/- Memory of pages: Read, Fetch, Write. -/
import Derived.Test.YtlifaldbdjcgjaaVacc
namespace Go.Proofs.Ytlifaldbdjcgjaa
open Go.ChangeShapes Go.WideShapes Go.ChangeAt Go.RowKit
open Go.Maps (Keyed)
set_option linter.unusedVariables false
set_option linter.unusedSimpArgs false

/-- The block of a result that is a fault, made at the call's beginning. -/
structure ResBlk (R R2 : Nat → Prop) (w W0 : World) (M m : Nat) (most : Int) (mp : Int → Option Pg) : Prop where
  hm : MemAt R2 W0 M m most mp
  hB2 : R2 w.heap.size
  sub : ∀ k, R k → R2 k
  kept : Kept R w W0
  hB : ¬ R w.heap.size
  own : Own W0 w.heap.size 2 (fun i => if i = 0 then .int .i64 0 else .int .u64 0)
  lt : ∀ k, R k → k < w.heap.size

theorem resBlk {R : Nat → Prop} {w : World} {M m : Nat} {most : Int} {mp : Int → Option Pg} (H : MemAt R w M m most mp) : ∃ R2, ResBlk R R2 w (w.alloc (.cells #[.int .i64 0, .int .u64 0] 45)) M m most mp := by
  have HR0 : ∀ k, R k → k < w.heap.size := by obtain ⟨bm, f, S, _, _, _, h⟩ := H; exact h
  refine ⟨fun k => R k ∨ (w.heap.size ≤ k ∧ k < (w.alloc (.cells #[.int .i64 0, .int .u64 0] 45)).heap.size), H.more ((Below.refl w.heap.size w).alloc (Nat.le_refl _) (.cells #[.int .i64 0, .int .u64 0] 45)), .inr ⟨Nat.le_refl _, by simp⟩, fun k hk => .inl hk, (Kept.refl R w).alloc HR0 (.cells #[.int .i64 0, .int .u64 0] 45), fun h => by have := HR0 _ h; omega, ?_, HR0⟩
  exact ⟨by simp, fun i hi => ⟨by rcases (by omega : i = 0 ∨ i = 1) with rfl | rfl <;> simp [go_sem], by simp [go_sem]⟩⟩

theorem read_no (R : Nat → Prop) (w : World) (M m : Nat) (most : Int) (mp : Int → Option Pg) (a n : Int) (k : Nat) (h0 : 0 ≤ a) (h1 : (a + n ≤ 9223372036854775807 ∨ (mp (a - a % 4096) = none ∧ a < 18446744073709551616))) (hn : n ≤ 65536) (hn0 : 0 ≤ n) (hk : n ≤ k) (hp : ∀ x g, mp x = some g → 0 ≤ g.prot ∧ g.prot ≤ 15) (hf : (askS mp 1 2 k a n).1 ≠ 0) (H : MemAt R w M m most mp) :
    Calls Try.prog 23 #[.pointer (some ⟨M, 0, none⟩), .int .u64 a, .int .i64 n] w fun e w' =>
      e = .returned (.tuple #[.slice none 0 0, .agg #[.int .i64 (askS mp 1 2 k a n).1, .int .u64 (askS mp 1 2 k a n).2.1]]) ∧ MemAt R w' M m most (askM mp (askS mp 1 2 k a n)) ∧ Kept R w w' := by
  obtain ⟨R2, hb⟩ := resBlk H
  have HRB := Lib.hid hb
  have HP := Lib.hid hp
  clear hb H hp
  go_enter Try.func23, Try.ntmps23
  go_wp2_with fail
  generalize w.alloc (.cells #[.int .i64 0, .int .u64 0] 45) = W0 at *
  refine (fetch_no R2 W0 M m most mp a n 1 2 k h0 h1 hn hn0 hk HP.out hf HRB.out.hm).mono ?_
  obtain ⟨r, hr⟩ : ∃ r, askS mp 1 2 k a n = r := ⟨_, rfl⟩
  rw [hr] at hf
  simp only [hr]
  rintro e w1 ⟨rfl, hm, hk⟩
  have HM2 := Lib.hid hm
  have HK2 := Lib.hid (HRB.out.kept.trans (hk.mono HRB.out.sub))
  have ho := hk.own HRB.out.own HRB.out.hB2
  have HO2 := Lib.hid ho
  have o0 := ho.cell (i := 0) (by omega)
  have o1 := ho.cell (i := 1) (by omega)
  have z0 := ho.frozen (i := 0) (by omega)
  have z1 := ho.frozen (i := 1) (by omega)
  simp only [if_pos, if_neg, Nat.one_ne_zero] at o0 o1
  have HRQ := Lib.hid hr
  clear hm hk hr ho
  go_wp2
  have hX := (HO2.out.set (i := 0) (by omega) (.int .i64 r.1)).set (i := 1) (by omega) (.int .u64 r.2.1)
  have c0 := hX.cell (i := 0) (by omega)
  have c1 := hX.cell (i := 1) (by omega)
  simp only [if_pos, if_neg, Nat.one_ne_zero, Nat.zero_ne_one, if_true, if_false] at c0 c1
  try rw [HRQ.out]
  exact bodyPost_ret (v := .tuple #[.slice none 0 0, .agg #[.int .i64 r.1, .int .u64 r.2.1]]) (by simp [results, Try.results23, go_sem, c0, c1]) rfl ⟨rfl, ((HM2.out.setFar HRB.out.hB2 _).setFar HRB.out.hB2 _).weaken HRB.out.sub, (HK2.out.setCell HRB.out.hB _).setCell HRB.out.hB _⟩

theorem read_yes (R : Nat → Prop) (w : World) (M m : Nat) (most : Int) (mp : Int → Option Pg) (a : Int) (n : Nat) (h0 : 0 ≤ a) (h1 : a + n ≤ 9223372036854775807) (hn : n ≤ 65536) (hp : ∀ x g, mp x = some g → 0 ≤ g.prot ∧ g.prot ≤ 15) (hf : (askS mp 1 2 n a n).1 = 0) (H : MemAt R w M m most mp) :
    Calls Try.prog 23 #[.pointer (some ⟨M, 0, none⟩), .int .u64 a, .int .i64 n] w fun e w' =>
      ∃ g, w.heap.size ≤ g ∧ e = .returned (.tuple #[.slice (some ⟨g, 0, none⟩) n n, .agg #[.int .i64 0, .int .u64 0]]) ∧ Own w' g n (fun q => .int .u8 (byteAt mp (a + q))) ∧ MemAt (fun k => R k ∨ k = g) w' M m most mp ∧ Kept R w w' := by
  obtain ⟨R2, hb⟩ := resBlk H
  have HRB := Lib.hid hb
  have HP := Lib.hid hp
  clear hb H hp
  go_enter Try.func23, Try.ntmps23
  go_wp2_with fail
  generalize w.alloc (.cells #[.int .i64 0, .int .u64 0] 45) = W0 at *
  refine (fetch_yes R2 W0 M m most mp a n 1 2 h0 h1 hn (by omega) HP.out hf HRB.out.hm).mono ?_
  rintro e w1 ⟨g, hg, rfl, hog, hm, hk⟩
  have HM2 := Lib.hid hm
  have HK2 := Lib.hid (HRB.out.kept.trans (hk.mono HRB.out.sub))
  have ho := hk.own HRB.out.own HRB.out.hB2
  have hlt := HRB.out.own.1
  have HO2 := Lib.hid ho
  have HOG := Lib.hid hog
  have o0 := ho.cell (i := 0) (by omega)
  have o1 := ho.cell (i := 1) (by omega)
  have z0 := ho.frozen (i := 0) (by omega)
  have z1 := ho.frozen (i := 1) (by omega)
  simp only [if_pos, if_neg, Nat.one_ne_zero] at o0 o1
  clear hm hk ho hog
  go_wp2
  have hX := (HO2.out.set (i := 0) (by omega) (.int .i64 0)).set (i := 1) (by omega) (.int .u64 0)
  have c0 := hX.cell (i := 0) (by omega)
  have c1 := hX.cell (i := 1) (by omega)
  simp only [if_pos, if_neg, Nat.one_ne_zero, Nat.zero_ne_one, if_true, if_false] at c0 c1
  exact bodyPost_ret (v := .tuple #[.slice (some ⟨g, 0, none⟩) n n, .agg #[.int .i64 0, .int .u64 0]]) (by simp [results, Try.results23, go_sem, c0, c1]) rfl
    ⟨g, by omega, rfl, (HOG.out.setFar (by omega) _).setFar (by omega) _, ((HM2.out.setFar (.inl HRB.out.hB2) _).setFar (.inl HRB.out.hB2) _).weaken (fun k hk => by
      rcases hk with h | h
      · exact .inl (HRB.out.sub k h)
      · exact .inr h), (HK2.out.setCell HRB.out.hB _).setCell HRB.out.hB _⟩

theorem run_no (R : Nat → Prop) (w : World) (M m : Nat) (most : Int) (mp : Int → Option Pg) (a n : Int) (k : Nat) (h0 : 0 ≤ a) (h1 : (a + n ≤ 9223372036854775807 ∨ (mp (a - a % 4096) = none ∧ a < 18446744073709551616))) (hn : n ≤ 65536) (hn0 : 0 ≤ n) (hk : n ≤ k) (hp : ∀ x g, mp x = some g → 0 ≤ g.prot ∧ g.prot ≤ 15) (hf : (askS mp 4 4 k a n).1 ≠ 0) (H : MemAt R w M m most mp) :
    Calls Try.prog 25 #[.pointer (some ⟨M, 0, none⟩), .int .u64 a, .int .i64 n] w fun e w' =>
      e = .returned (.tuple #[.slice none 0 0, .agg #[.int .i64 (askS mp 4 4 k a n).1, .int .u64 (askS mp 4 4 k a n).2.1]]) ∧ MemAt R w' M m most (askM mp (askS mp 4 4 k a n)) ∧ Kept R w w' := by
  obtain ⟨R2, hb⟩ := resBlk H
  have HRB := Lib.hid hb
  have HP := Lib.hid hp
  clear hb H hp
  go_enter Try.func25, Try.ntmps25
  go_wp2_with fail
  generalize w.alloc (.cells #[.int .i64 0, .int .u64 0] 45) = W0 at *
  refine (fetch_no R2 W0 M m most mp a n 4 4 k h0 h1 hn hn0 hk HP.out hf HRB.out.hm).mono ?_
  obtain ⟨r, hr⟩ : ∃ r, askS mp 4 4 k a n = r := ⟨_, rfl⟩
  rw [hr] at hf
  simp only [hr]
  rintro e w1 ⟨rfl, hm, hk⟩
  have HM2 := Lib.hid hm
  have HK2 := Lib.hid (HRB.out.kept.trans (hk.mono HRB.out.sub))
  have ho := hk.own HRB.out.own HRB.out.hB2
  have HO2 := Lib.hid ho
  have o0 := ho.cell (i := 0) (by omega)
  have o1 := ho.cell (i := 1) (by omega)
  have z0 := ho.frozen (i := 0) (by omega)
  have z1 := ho.frozen (i := 1) (by omega)
  simp only [if_pos, if_neg, Nat.one_ne_zero] at o0 o1
  have HRQ := Lib.hid hr
  clear hm hk hr ho
  go_wp2
  have hX := (HO2.out.set (i := 0) (by omega) (.int .i64 r.1)).set (i := 1) (by omega) (.int .u64 r.2.1)
  have c0 := hX.cell (i := 0) (by omega)
  have c1 := hX.cell (i := 1) (by omega)
  simp only [if_pos, if_neg, Nat.one_ne_zero, Nat.zero_ne_one, if_true, if_false] at c0 c1
  try rw [HRQ.out]
  exact bodyPost_ret (v := .tuple #[.slice none 0 0, .agg #[.int .i64 r.1, .int .u64 r.2.1]]) (by simp [results, Try.results25, go_sem, c0, c1]) rfl ⟨rfl, ((HM2.out.setFar HRB.out.hB2 _).setFar HRB.out.hB2 _).weaken HRB.out.sub, (HK2.out.setCell HRB.out.hB _).setCell HRB.out.hB _⟩

theorem run_yes (R : Nat → Prop) (w : World) (M m : Nat) (most : Int) (mp : Int → Option Pg) (a : Int) (n : Nat) (h0 : 0 ≤ a) (h1 : a + n ≤ 9223372036854775807) (hn : n ≤ 65536) (hp : ∀ x g, mp x = some g → 0 ≤ g.prot ∧ g.prot ≤ 15) (hf : (askS mp 4 4 n a n).1 = 0) (H : MemAt R w M m most mp) :
    Calls Try.prog 25 #[.pointer (some ⟨M, 0, none⟩), .int .u64 a, .int .i64 n] w fun e w' =>
      ∃ g, w.heap.size ≤ g ∧ e = .returned (.tuple #[.slice (some ⟨g, 0, none⟩) n n, .agg #[.int .i64 0, .int .u64 0]]) ∧ Own w' g n (fun q => .int .u8 (byteAt mp (a + q))) ∧ MemAt (fun k => R k ∨ k = g) w' M m most mp ∧ Kept R w w' := by
  obtain ⟨R2, hb⟩ := resBlk H
  have HRB := Lib.hid hb
  have HP := Lib.hid hp
  clear hb H hp
  go_enter Try.func25, Try.ntmps25
  go_wp2_with fail
  generalize w.alloc (.cells #[.int .i64 0, .int .u64 0] 45) = W0 at *
  refine (fetch_yes R2 W0 M m most mp a n 4 4 h0 h1 hn (by omega) HP.out hf HRB.out.hm).mono ?_
  rintro e w1 ⟨g, hg, rfl, hog, hm, hk⟩
  have HM2 := Lib.hid hm
  have HK2 := Lib.hid (HRB.out.kept.trans (hk.mono HRB.out.sub))
  have ho := hk.own HRB.out.own HRB.out.hB2
  have hlt := HRB.out.own.1
  have HO2 := Lib.hid ho
  have HOG := Lib.hid hog
  have o0 := ho.cell (i := 0) (by omega)
  have o1 := ho.cell (i := 1) (by omega)
  have z0 := ho.frozen (i := 0) (by omega)
  have z1 := ho.frozen (i := 1) (by omega)
  simp only [if_pos, if_neg, Nat.one_ne_zero] at o0 o1
  clear hm hk ho hog
  go_wp2
  have hX := (HO2.out.set (i := 0) (by omega) (.int .i64 0)).set (i := 1) (by omega) (.int .u64 0)
  have c0 := hX.cell (i := 0) (by omega)
  have c1 := hX.cell (i := 1) (by omega)
  simp only [if_pos, if_neg, Nat.one_ne_zero, Nat.zero_ne_one, if_true, if_false] at c0 c1
  exact bodyPost_ret (v := .tuple #[.slice (some ⟨g, 0, none⟩) n n, .agg #[.int .i64 0, .int .u64 0]]) (by simp [results, Try.results25, go_sem, c0, c1]) rfl
    ⟨g, by omega, rfl, (HOG.out.setFar (by omega) _).setFar (by omega) _, ((HM2.out.setFar (.inl HRB.out.hB2) _).setFar (.inl HRB.out.hB2) _).weaken (fun k hk => by
      rcases hk with h | h
      · exact .inl (HRB.out.sub k h)
      · exact .inr h), (HK2.out.setCell HRB.out.hB _).setCell HRB.out.hB _⟩

end Go.Proofs.Ytlifaldbdjcgjaa
