/- Memory of pages: Peek, Poke, Read, Fetch, Write. -/
import Derived.Test.YtlifaldbdjcgjaaVput
namespace Go.Proofs.Ytlifaldbdjcgjaa
open Go.ChangeShapes Go.WideShapes Go.ChangeAt Go.RowKit
open Go.Maps (Keyed)
set_option linter.unusedVariables false
set_option linter.unusedSimpArgs false

theorem peek_yes (R : Nat → Prop) (w : World) (M m : Nat) (most : Int) (mp : Int → Option Pg) (a : Int) (n : Nat) (h0 : 0 ≤ a) (h1 : a + n ≤ 9223372036854775807) (hn : n ≤ 65536) (hin : InM mp a n) (H : MemAt R w M m most mp) :
    Calls Try.prog 28 #[.pointer (some ⟨M, 0, none⟩), .int .u64 a, .int .i64 n] w fun e w' =>
      e = .returned (.tuple #[.slice (some ⟨w.heap.size, 0, none⟩) n n, .bool true]) ∧ Below w.heap.size w w' ∧ Own w' w.heap.size n (fun q => .int .u8 (byteAt mp (a + q))) := by
  have HM := Lib.hid H
  have HIN := Lib.hid hin
  clear H hin
  go_enter Try.func28, Try.ntmps28
  go_wp2_with (first | (go_at_call 44; refine (has_any R w M m most mp a n true ⟨fun _ => HIN.out, fun _ => rfl⟩ h0 h1 (by omega) (by omega) HM.out).mono ?_; rintro e w1 ⟨rfl, k1, rfl⟩) | (go_at_call 45; refine (bytes_any R _ M m most mp a n h0 h1 hn HIN.out (HM.out.drewN k1)).mono ?_; rintro e w2 ⟨rfl, hb2, ho2⟩))
  go_ret2
  exact ⟨rfl, (below_drewN (Below.refl w.heap.size w) k1).trans hb2, ho2⟩

theorem peek_no (R : Nat → Prop) (w : World) (M m : Nat) (most : Int) (mp : Int → Option Pg) (a : Int) (n : Nat) (h0 : 0 ≤ a) (h1 : a + n ≤ 9223372036854775807) (hn : n ≤ 65536) (hin : ¬ InM mp a n) (H : MemAt R w M m most mp) :
    Calls Try.prog 28 #[.pointer (some ⟨M, 0, none⟩), .int .u64 a, .int .i64 n] w fun e w' =>
      e = .returned (.tuple #[.slice none 0 0, .bool false]) ∧ ∃ k, w' = w.drewN k := by
  have HM := Lib.hid H
  have HIN := Lib.hid hin
  clear H hin
  go_enter Try.func28, Try.ntmps28
  go_wp2_with (go_at_call 44; refine (has_any R w M m most mp a n false ⟨(fun h => by cases h), fun h => absurd h HIN.out⟩ h0 h1 (by omega) (by omega) HM.out).mono ?_; rintro e w1 ⟨rfl, k1, rfl⟩)
  go_ret2
  exact ⟨rfl, k1, rfl⟩

theorem poke_yes (R : Nat → Prop) (w : World) (M m : Nat) (most : Int) (mp : Int → Option Pg) (a : Int) (A : Option Addr) (n cap : Nat) (h : Nat → Int) (h0 : 0 ≤ a) (h1 : a + n ≤ 9223372036854775807) (hn : n ≤ 65536) (hcap : n ≤ cap) (hcap2 : cap ≤ 9223372036854775807) (hin : InM mp a n) (hsrc : SrcR R w A n h) (H : MemAt R w M m most mp) :
    Calls Try.prog 29 #[.pointer (some ⟨M, 0, none⟩), .int .u64 a, .slice A n cap] w fun e w' =>
      e = .returned (.bool true) ∧ MemAt R w' M m most (putP mp a n h) ∧ Kept R w w' := by
  have HM := Lib.hid H
  have HIN := Lib.hid hin
  have HSR := Lib.hid hsrc
  clear H hin hsrc
  go_enter Try.func29, Try.ntmps29
  go_wp2_with (first | (go_at_call 44; refine (has_any R w M m most mp a n true ⟨fun _ => HIN.out, fun _ => rfl⟩ h0 h1 (by omega) (by omega) HM.out).mono ?_; rintro e w1 ⟨rfl, k1, rfl⟩) | (go_at_call 43; refine (put_any R _ M m most mp a A n cap h h0 h1 hn hcap hcap2 HIN.out (show SrcR R (w.drewN k1) A n h from HSR.out) (HM.out.drewN k1)).mono ?_; rintro e w2 ⟨rfl, hm2, hk2⟩))
  go_ret
  exact ⟨rfl, hm2, (Kept.drewN R w k1).trans hk2⟩

theorem poke_no (R : Nat → Prop) (w : World) (M m : Nat) (most : Int) (mp : Int → Option Pg) (a : Int) (A : Option Addr) (n cap : Nat) (h0 : 0 ≤ a) (h1 : a + n ≤ 9223372036854775807) (hn : n ≤ 65536) (hin : ¬ InM mp a n) (H : MemAt R w M m most mp) :
    Calls Try.prog 29 #[.pointer (some ⟨M, 0, none⟩), .int .u64 a, .slice A n cap] w fun e w' =>
      e = .returned (.bool false) ∧ ∃ k, w' = w.drewN k := by
  have HM := Lib.hid H
  have HIN := Lib.hid hin
  clear H hin
  go_enter Try.func29, Try.ntmps29
  go_wp2_with (go_at_call 44; refine (has_any R w M m most mp a n false ⟨(fun h => by cases h), fun h => absurd h HIN.out⟩ h0 h1 (by omega) (by omega) HM.out).mono ?_; rintro e w1 ⟨rfl, k1, rfl⟩)
  go_ret
  exact ⟨rfl, k1, rfl⟩

theorem Own.setFar {w : World} {g n B o : Nat} {f : Nat → Value} (h : Own w g n f) (hne : g ≠ B) (u : Value) : Own (w.setCell ⟨B, o, none⟩ u) g n f :=
  h.of_block (Below.heap_setCell w ⟨B, o, none⟩ u g hne) (by simp [World.setCell])

/-- Read and Fetch: a fault, or the bytes. -/
theorem fetch_no (R : Nat → Prop) (w : World) (M m : Nat) (most : Int) (mp : Int → Option Pg) (a n need kind : Int) (k : Nat) (h0 : 0 ≤ a) (h1 : (a + n ≤ 9223372036854775807 ∨ (mp (a - a % 4096) = none ∧ a < 18446744073709551616))) (hn : n ≤ 65536) (hn0 : 0 ≤ n) (hk : n ≤ k) (hp : ∀ x g, mp x = some g → 0 ≤ g.prot ∧ g.prot ≤ 15) (hf : (askS mp need kind k a n).1 ≠ 0) (H : MemAt R w M m most mp) :
    Calls Try.prog 41 #[.pointer (some ⟨M, 0, none⟩), .int .u64 a, .int .i64 n, .int .i64 need, .int .i64 kind] w fun e w' =>
      e = .returned (.tuple #[.slice none 0 0, .agg #[.int .i64 (askS mp need kind k a n).1, .int .u64 (askS mp need kind k a n).2.1]]) ∧ MemAt R w' M m most (askM mp (askS mp need kind k a n)) ∧ Kept R w w' := by
  have HR0 : Hid (∀ k, R k → k < w.heap.size) := by obtain ⟨bm, f, S, _, _, _, h⟩ := H; exact h
  have HM := Lib.hid H
  have HP := Lib.hid hp
  have HK := Lib.hid hk
  clear H hp hk
  have hmx : max n 0 = n := by omega
  go_enter Try.func41, Try.ntmps41
  go_wp2_with fail
  obtain ⟨R2, hR2⟩ : ∃ R2 : Nat → Prop, R2 = fun k => R k ∨ (w.heap.size ≤ k ∧ k < (w.alloc (.cells #[.int .i64 0, .int .u64 0] 45)).heap.size) := ⟨_, rfl⟩
  have HM1 : Hid (MemAt R2 (w.alloc (.cells #[.int .i64 0, .int .u64 0] 45)) M m most mp) := by
    rw [hR2]
    exact HM.out.more ((Below.refl w.heap.size w).alloc (Nat.le_refl _) (.cells #[.int .i64 0, .int .u64 0] 45))
  have HB2 : Hid (R2 w.heap.size) := by rw [hR2]; exact .inr ⟨Nat.le_refl _, by simp⟩
  have HRR2 : Hid (∀ k, R k → R2 k) := fun k hk => by rw [hR2]; exact .inl hk
  clear hR2
  have HK1 := Lib.hid ((Kept.refl R w).alloc HR0.out (.cells #[.int .i64 0, .int .u64 0] 45))
  have HB : Hid (¬ R w.heap.size) := fun h => by have := HR0.out _ h; omega
  have hO : Own (w.alloc (.cells #[.int .i64 0, .int .u64 0] 45)) w.heap.size 2 (fun i => if i = 0 then .int .i64 0 else .int .u64 0) := ⟨by simp, fun i hi => ⟨by rcases (by omega : i = 0 ∨ i = 1) with rfl | rfl <;> simp [go_sem], by simp [go_sem]⟩⟩
  have HO0 := Lib.hid hO
  clear HM hO
  generalize w.alloc (.cells #[.int .i64 0, .int .u64 0] 45) = W0 at *
  refine (ask_any R2 W0 M m most mp a n need kind k h0 h1 hn hn0 HK.out HP.out HM1.out).mono ?_
  rintro e w1 ⟨rfl, hm, hk⟩
  obtain ⟨r, hr⟩ : ∃ r, askS mp need kind k a n = r := ⟨_, rfl⟩
  rw [hr] at hf hm
  simp only [hr]
  have HM2 := Lib.hid hm
  have HK2 := Lib.hid (HK1.out.trans (hk.mono HRR2.out))
  have ho := hk.own HO0.out HB2.out
  have hlt := ho.1
  have HO2 := Lib.hid ho
  have HR2 : Hid (∀ k, R k → k < w1.heap.size) := fun k hk => Nat.lt_of_lt_of_le (HR0.out k hk) HK2.out.size
  have hne : ¬ w1.heap.size = w.heap.size := by omega
  have o0 := ho.cell (i := 0) (by omega)
  have o1 := ho.cell (i := 1) (by omega)
  have z0 := ho.frozen (i := 0) (by omega)
  have z1 := ho.frozen (i := 1) (by omega)
  simp only [if_pos, if_neg, Nat.one_ne_zero] at o0 o1
  have HM3 := Lib.hid ((HM2.out.more ((Below.refl w1.heap.size w1).alloc (Nat.le_refl _) (.cells #[.int .i64 r.1, .int .u64 r.2.1] 45))).weaken (R := R2) (fun k hk => .inl hk))
  have HK3 := Lib.hid (HK2.out.trans ((Kept.refl R w1).alloc HR2.out (.cells #[.int .i64 r.1, .int .u64 r.2.1] 45)))
  have HRQ := Lib.hid hr
  clear hm hk hr ho
  go_wp2
  go_region
  all_goals go_wp2
  have hX := ((HO2.out.set (i := 0) (by omega) (.int .i64 r.1)).set (i := 1) (by omega) (.int .u64 r.2.1)).alloc (.cells #[.int .i64 r.1, .int .u64 r.2.1] 45)
  have c0 := hX.cell (i := 0) (by omega)
  have c1 := hX.cell (i := 1) (by omega)
  simp only [if_pos, if_neg, Nat.one_ne_zero, Nat.zero_ne_one, if_true, if_false] at c0 c1
  try rw [HRQ.out]
  exact bodyPost_ret (v := .tuple #[.slice none 0 0, .agg #[.int .i64 r.1, .int .u64 r.2.1]]) (by simp [results, Try.results41, go_sem, c0, c1]) rfl ⟨rfl, ((((HM2.out.setFar HB2.out _).setFar HB2.out _).more ((Below.refl _ _).alloc (Nat.le_refl _) _)).weaken (fun k hk => .inl (HRR2.out k hk))).drewN 1, (((HK2.out.setCell HB.out _).setCell HB.out _).alloc HR0.out _).drew⟩

theorem askS_ok {mp : Int → Option Pg} {need kind : Int} (hk0 : kind ≠ 0) : ∀ (k : Nat) (a n : Int), 0 ≤ a → n ≤ k → (askS mp need kind k a n).1 = 0 → InM mp a n ∧ (askS mp need kind k a n).2.2 = none ∧ (askS mp need kind k a n).2.1 = 0
  | 0, a, n, _, hn, _ => ⟨fun i h1 h2 => by omega, rfl, rfl⟩
  | k + 1, a, n, h0, hn, h => by
    unfold askS at h ⊢
    by_cases c0 : n ≤ 0
    · rw [if_pos c0]
      exact ⟨fun i h1 h2 => by omega, rfl, rfl⟩
    · rw [if_neg c0] at h ⊢
      cases hg : mp (a - a % 4096) with
      | none => rw [hg] at h; simp at h
      | some g =>
        rw [hg] at h
        simp only at h ⊢
        by_cases c1 : (bits .and .i64 g.prot 8 != 0) = true
        · rw [if_pos c1] at h; simp at h
        · rw [if_neg c1] at h ⊢
          by_cases c2 : (bits .and .i64 g.prot need == 0) = true
          · rw [if_pos c2] at h; exact absurd h hk0
          · rw [if_neg c2] at h ⊢
            obtain ⟨h1, h2, h3⟩ := askS_ok hk0 k _ _ (by omega) (by omega) h
            exact ⟨(InM.step (by rw [hg]; simp) h0 rfl).2 h1, h2, h3⟩

theorem fetch_yes (R : Nat → Prop) (w : World) (M m : Nat) (most : Int) (mp : Int → Option Pg) (a : Int) (n : Nat) (need kind : Int) (h0 : 0 ≤ a) (h1 : a + n ≤ 9223372036854775807) (hn : n ≤ 65536) (hkd : kind ≠ 0) (hp : ∀ x g, mp x = some g → 0 ≤ g.prot ∧ g.prot ≤ 15) (hf : (askS mp need kind n a n).1 = 0) (H : MemAt R w M m most mp) :
    Calls Try.prog 41 #[.pointer (some ⟨M, 0, none⟩), .int .u64 a, .int .i64 n, .int .i64 need, .int .i64 kind] w fun e w' =>
      ∃ g, w.heap.size ≤ g ∧ e = .returned (.tuple #[.slice (some ⟨g, 0, none⟩) n n, .agg #[.int .i64 0, .int .u64 0]]) ∧ Own w' g n (fun q => .int .u8 (byteAt mp (a + q))) ∧ MemAt (fun k => R k ∨ k = g) w' M m most mp ∧ Kept R w w' := by
  have HR0 : Hid (∀ k, R k → k < w.heap.size) := by obtain ⟨bm, f, S, _, _, _, h⟩ := H; exact h
  have HM := Lib.hid H
  have HP := Lib.hid hp
  obtain ⟨hin, hq, hq2⟩ := askS_ok (mp := mp) (need := need) hkd n a n h0 (Int.le_refl _) hf
  have HIN := Lib.hid hin
  clear H hp hin
  have hmx : max (n : Int) 0 = n := by omega
  go_enter Try.func41, Try.ntmps41
  go_wp2_with fail
  obtain ⟨R2, hR2⟩ : ∃ R2 : Nat → Prop, R2 = fun k => R k ∨ (w.heap.size ≤ k ∧ k < (w.alloc (.cells #[.int .i64 0, .int .u64 0] 45)).heap.size) := ⟨_, rfl⟩
  have HM1 : Hid (MemAt R2 (w.alloc (.cells #[.int .i64 0, .int .u64 0] 45)) M m most mp) := by
    rw [hR2]
    exact HM.out.more ((Below.refl w.heap.size w).alloc (Nat.le_refl _) (.cells #[.int .i64 0, .int .u64 0] 45))
  have HB2 : Hid (R2 w.heap.size) := by rw [hR2]; exact .inr ⟨Nat.le_refl _, by simp⟩
  have HRR2 : Hid (∀ k, R k → R2 k) := fun k hk => by rw [hR2]; exact .inl hk
  clear hR2
  have HK1 := Lib.hid ((Kept.refl R w).alloc HR0.out (.cells #[.int .i64 0, .int .u64 0] 45))
  have HB : Hid (¬ R w.heap.size) := fun h => by have := HR0.out _ h; omega
  have hO : Own (w.alloc (.cells #[.int .i64 0, .int .u64 0] 45)) w.heap.size 2 (fun i => if i = 0 then .int .i64 0 else .int .u64 0) := ⟨by simp, fun i hi => ⟨by rcases (by omega : i = 0 ∨ i = 1) with rfl | rfl <;> simp [go_sem], by simp [go_sem]⟩⟩
  have HO0 := Lib.hid hO
  clear HM hO
  generalize w.alloc (.cells #[.int .i64 0, .int .u64 0] 45) = W0 at *
  refine (ask_any R2 W0 M m most mp a n need kind n h0 (.inl h1) (by omega) (by omega) (Int.le_refl _) HP.out HM1.out).mono ?_
  rintro e w1 ⟨rfl, hm, hk⟩
  unfold askM at hm
  rw [hq] at hm
  simp only [hf, hq2] at hm ⊢
  have HM2 := Lib.hid hm
  have HK2 := Lib.hid (HK1.out.trans (hk.mono HRR2.out))
  have ho := hk.own HO0.out HB2.out
  have HO2 := Lib.hid ho
  have hlt := ho.1
  have HM3 := Lib.hid (HM2.out.below ((Below.refl w1.heap.size w1).alloc (Nat.le_refl _) (.cells #[.int .i64 0, .int .u64 0] 45)))
  have HO3 := Lib.hid (ho.alloc (.cells #[.int .i64 0, .int .u64 0] 45))
  have HK3 := Lib.hid (HK2.out.alloc HR0.out (.cells #[.int .i64 0, .int .u64 0] 45))
  clear hm hk ho hf hq hq2
  go_wp2_with fail
  refine (bytes_any R2 _ M m most mp a n h0 h1 hn HIN.out HM3.out).mono ?_
  rintro e w2 ⟨rfl, hb2, ho2⟩
  have HB3 := Lib.hid hb2
  have HO4 := Lib.hid ho2
  have ho := HO3.out.below hb2 (by simp; omega)
  have o0 := ho.cell (i := 0) (by omega)
  have o1 := ho.cell (i := 1) (by omega)
  have z0 := ho.frozen (i := 0) (by omega)
  have z1 := ho.frozen (i := 1) (by omega)
  simp only [if_pos, if_neg, Nat.one_ne_zero] at o0 o1
  have HO5 := Lib.hid ho
  clear ho hb2 ho2
  go_wp2
  try go_region
  all_goals try go_wp2
  have hX := (HO5.out.set (i := 0) (by omega) (.int .i64 0)).set (i := 1) (by omega) (.int .u64 0)
  have c0 := hX.cell (i := 0) (by omega)
  have c1 := hX.cell (i := 1) (by omega)
  simp only [if_pos, if_neg, Nat.one_ne_zero, Nat.zero_ne_one, if_true, if_false] at c0 c1
  have hsz : (w1.alloc (.cells #[.int .i64 0, .int .u64 0] 45)).heap.size = w1.heap.size + 1 := by simp
  have hM4 := HM3.out.more HB3.out
  have hO4 := HO4.out
  have hK4 := HK3.out.trans (Kept.of_below HB3.out (fun k hk => Nat.lt_of_lt_of_le (HR0.out k hk) HK3.out.size))
  rw [hsz] at hM4 hO4
  have hlt4 := hO4.1
  exact bodyPost_ret (v := .tuple #[.slice (some ⟨w1.heap.size + 1, 0, none⟩) n n, .agg #[.int .i64 0, .int .u64 0]]) (by simp [results, Try.results41, go_sem, c0, c1]) rfl
    ⟨w1.heap.size + 1, by omega, rfl, (hO4.setFar (by omega) _).setFar (by omega) _, ((hM4.setFar (.inl HB2.out) _).setFar (.inl HB2.out) _).weaken (fun k hk => by
      rcases hk with h | h
      · exact .inl (HRR2.out k h)
      · exact .inr ⟨by omega, by omega⟩), (hK4.setCell HB.out _).setCell HB.out _⟩
end Go.Proofs.Ytlifaldbdjcgjaa
