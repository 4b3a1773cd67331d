/- Memory of pages: Write. -/
import Derived.Test.YtlifaldbdjcgjaaVread
namespace Go.Proofs.Ytlifaldbdjcgjaa
open Go.ChangeShapes Go.WideShapes Go.ChangeAt Go.RowKit
open Go.Maps (Keyed)
set_option linter.unusedVariables false
set_option linter.unusedSimpArgs false

theorem write_no (R : Nat → Prop) (w : World) (M m : Nat) (most : Int) (mp : Int → Option Pg) (a : Int) (A : Option Addr) (n cap : Nat) (h0 : 0 ≤ a) (h1 : (a + n ≤ 9223372036854775807 ∨ (mp (a - a % 4096) = none ∧ a < 18446744073709551616))) (hn : n ≤ 65536) (hp : ∀ x g, mp x = some g → 0 ≤ g.prot ∧ g.prot ≤ 15) (hf : (askS mp 2 3 n a n).1 ≠ 0) (H : MemAt R w M m most mp) :
    Calls Try.prog 26 #[.pointer (some ⟨M, 0, none⟩), .int .u64 a, .slice A n cap] w fun e w' =>
      e = .returned (.agg #[.int .i64 (askS mp 2 3 n a n).1, .int .u64 (askS mp 2 3 n a n).2.1]) ∧ MemAt R w' M m most (askM mp (askS mp 2 3 n a n)) ∧ Kept R w w' := by
  obtain ⟨R2, hb⟩ := resBlk H
  have HRB := Lib.hid hb
  have HP := Lib.hid hp
  clear hb H hp
  go_enter Try.func26, Try.ntmps26
  go_wp2_with fail
  generalize w.alloc (.cells #[.int .i64 0, .int .u64 0] 45) = W0 at *
  refine (ask_any R2 W0 M m most mp a n 2 3 n h0 h1 (by omega) (by omega) (Int.le_refl _) HP.out HRB.out.hm).mono ?_
  obtain ⟨r, hr⟩ : ∃ r, askS mp 2 3 n a n = r := ⟨_, rfl⟩
  rw [hr] at hf
  simp only [hr]
  rintro e w1 ⟨rfl, hm, hk⟩
  have HM2 := Lib.hid hm
  have HK2 := Lib.hid (HRB.out.kept.trans (hk.mono HRB.out.sub))
  have ho := hk.own HRB.out.own HRB.out.hB2
  have hlt := ho.1
  have HO2 := Lib.hid ho
  have o0 := ho.cell (i := 0) (by omega)
  have o1 := ho.cell (i := 1) (by omega)
  have z0 := ho.frozen (i := 0) (by omega)
  have z1 := ho.frozen (i := 1) (by omega)
  simp only [if_pos, if_neg, Nat.one_ne_zero] at o0 o1
  have HRQ := Lib.hid hr
  have hne : ¬ w1.heap.size = w.heap.size := by omega
  clear hm hk hr ho
  go_wp2
  try go_region
  all_goals try go_wp2
  have hX := ((HO2.out.set (i := 0) (by omega) (.int .i64 r.1)).set (i := 1) (by omega) (.int .u64 r.2.1)).alloc (.cells #[.int .i64 r.1, .int .u64 r.2.1] 45)
  have c0 := hX.cell (i := 0) (by omega)
  have c1 := hX.cell (i := 1) (by omega)
  simp only [if_pos, if_neg, Nat.one_ne_zero, Nat.zero_ne_one, if_true, if_false] at c0 c1
  try rw [HRQ.out]
  exact bodyPost_ret (v := .agg #[.int .i64 r.1, .int .u64 r.2.1]) (by simp [results, Try.results26, go_sem, c0, c1]) rfl ⟨rfl, (((HM2.out.setFar HRB.out.hB2 _).setFar HRB.out.hB2 _).more ((Below.refl _ _).alloc (Nat.le_refl _) _)).weaken (fun k hk => .inl (HRB.out.sub k hk)), ((HK2.out.setCell HRB.out.hB _).setCell HRB.out.hB _).alloc HRB.out.lt _⟩

theorem write_yes (R : Nat → Prop) (w : World) (M m : Nat) (most : Int) (mp : Int → Option Pg) (a : Int) (A : Option Addr) (n cap : Nat) (h : Nat → Int) (h0 : 0 ≤ a) (h1 : a + n ≤ 9223372036854775807) (hn : n ≤ 65536) (hcap : n ≤ cap) (hcap2 : cap ≤ 9223372036854775807) (hsrc : SrcR R w A n h) (hp : ∀ x g, mp x = some g → 0 ≤ g.prot ∧ g.prot ≤ 15) (hf : (askS mp 2 3 n a n).1 = 0) (H : MemAt R w M m most mp) :
    Calls Try.prog 26 #[.pointer (some ⟨M, 0, none⟩), .int .u64 a, .slice A n cap] w fun e w' =>
      e = .returned (.agg #[.int .i64 0, .int .u64 0]) ∧ MemAt R w' M m most (putP mp a n h) ∧ Kept R w w' := by
  obtain ⟨R2, hb⟩ := resBlk H
  have HRB := Lib.hid hb
  have HP := Lib.hid hp
  have HSR := Lib.hid hsrc
  obtain ⟨hin, hq, hq2⟩ := askS_ok (mp := mp) (need := 2) (kind := 3) (by omega) n a n h0 (Int.le_refl _) hf
  have HIN := Lib.hid hin
  clear hb H hp hsrc hin
  go_enter Try.func26, Try.ntmps26
  go_wp2_with fail
  generalize w.alloc (.cells #[.int .i64 0, .int .u64 0] 45) = W0 at *
  refine (ask_any R2 W0 M m most mp a n 2 3 n h0 (.inl h1) (by omega) (by omega) (Int.le_refl _) HP.out HRB.out.hm).mono ?_
  rintro e w1 ⟨rfl, hm, hk⟩
  unfold askM at hm
  rw [hq] at hm
  simp only [hf, hq2] at hm ⊢
  have HK2 := Lib.hid (HRB.out.kept.trans (hk.mono HRB.out.sub))
  have HR2 : Hid (∀ k, R2 k → k < w1.heap.size) := by obtain ⟨bm, f, S, _, _, _, h⟩ := hm; exact h
  have ho := hk.own HRB.out.own HRB.out.hB2
  have hb1 := (Below.refl w1.heap.size w1).alloc (Nat.le_refl _) (.cells #[.int .i64 0, .int .u64 0] 45)
  obtain ⟨R3, hR3⟩ : ∃ R3 : Nat → Prop, R3 = fun k => R2 k ∨ (w1.heap.size ≤ k ∧ k < (w1.alloc (.cells #[.int .i64 0, .int .u64 0] 45)).heap.size) := ⟨_, rfl⟩
  have HM3 : Hid (MemAt R3 (w1.alloc (.cells #[.int .i64 0, .int .u64 0] 45)) M m most mp) := by rw [hR3]; exact hm.more hb1
  have H23 : Hid (∀ k, R2 k → R3 k) := fun k hk => by rw [hR3]; exact .inl hk
  have H13 : Hid (R3 w1.heap.size) := by rw [hR3]; exact .inr ⟨Nat.le_refl _, by simp⟩
  have HO3 := Lib.hid (ho.alloc (.cells #[.int .i64 0, .int .u64 0] 45))
  have HK3 := Lib.hid (HK2.out.alloc HRB.out.lt (.cells #[.int .i64 0, .int .u64 0] 45))
  have HN3 : Hid (Own (w1.alloc (.cells #[.int .i64 0, .int .u64 0] 45)) w1.heap.size 2 (fun i => if i = 0 then .int .i64 0 else .int .u64 0)) := ⟨by simp, fun i hi => ⟨by rcases (by omega : i = 0 ∨ i = 1) with rfl | rfl <;> simp [go_sem], by simp [go_sem]⟩⟩
  have HS3 : Hid (SrcR R3 (w1.alloc (.cells #[.int .i64 0, .int .u64 0] 45)) A n h) := by
    rcases HSR.out with h | ⟨b, off, hA, hb, hc⟩
    · exact .inl h
    · exact .inr ⟨b, off, hA, H23.out _ (HRB.out.sub _ hb), fun j hj => (HK3.out.cell (p := ⟨b, off + j, none⟩) hb).trans (hc j hj)⟩
  have hlt := ho.1
  have HL := Lib.hid hlt
  clear hm hk ho hf hq hq2 hR3 hb1 hlt
  go_wp2_with fail
  generalize w1.alloc (.cells #[.int .i64 0, .int .u64 0] 45) = W1 at *
  refine (put_any R3 W1 M m most mp a A n cap h h0 h1 hn hcap hcap2 HIN.out HS3.out HM3.out).mono ?_
  rintro e w2 ⟨rfl, hm, hk⟩
  have HM4 := Lib.hid hm
  have HK4 := Lib.hid (HK3.out.trans (hk.mono (fun k h => H23.out k (HRB.out.sub k h))))
  have ho := hk.own HO3.out (H23.out _ HRB.out.hB2)
  have hn4 := hk.own HN3.out H13.out
  have HO4 := Lib.hid ho
  have o0 := ho.cell (i := 0) (by omega)
  have o1 := ho.cell (i := 1) (by omega)
  have z0 := ho.frozen (i := 0) (by omega)
  have z1 := ho.frozen (i := 1) (by omega)
  have p0 := hn4.cell (i := 0) (by omega)
  have p1 := hn4.cell (i := 1) (by omega)
  simp only [if_pos, if_neg, Nat.one_ne_zero] at o0 o1 p0 p1
  clear hm hk ho hn4
  go_wp2
  try go_region
  all_goals try go_wp2
  have hX := (HO4.out.set (i := 0) (by omega) (.int .i64 0)).set (i := 1) (by omega) (.int .u64 0)
  have c0 := hX.cell (i := 0) (by omega)
  have c1 := hX.cell (i := 1) (by omega)
  simp only [if_pos, if_neg, Nat.one_ne_zero, Nat.zero_ne_one, if_true, if_false] at c0 c1
  exact bodyPost_ret (v := .agg #[.int .i64 0, .int .u64 0]) (by simp [results, Try.results26, go_sem, c0, c1]) rfl ⟨rfl, ((HM4.out.setFar (H23.out _ HRB.out.hB2) _).setFar (H23.out _ HRB.out.hB2) _).weaken (fun k hk => H23.out k (HRB.out.sub k hk)), (HK4.out.setCell HRB.out.hB _).setCell HRB.out.hB _⟩
end Go.Proofs.Ytlifaldbdjcgjaa
