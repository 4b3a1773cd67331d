/- Memory of pages: ask. -/
import Derived.Test.YtlifaldbdjcgjaaVaskA
namespace Go.Proofs.Ytlifaldbdjcgjaa
open Go.ChangeShapes Go.WideShapes Go.ChangeAt Go.RowKit
open Go.Maps (Keyed)
set_option linter.unusedVariables false
set_option linter.unusedSimpArgs false

/-- What an access is told: a fault's kind and place; the page whose guard it took. -/
def askS (mp : Int → Option Pg) (need kind : Int) : Nat → Int → Int → Int × Int × Option (Int × Pg)
  | 0, _, _ => (0, 0, none)
  | k + 1, a, n =>
    if n ≤ 0 then (0, 0, none) else
    match mp (a - a % 4096) with
    | none => (1, a, none)
    | some g =>
      if (bits .and .i64 g.prot 8 != 0) = true then (5, a, some (a - a % 4096, ⟨g.prot - 8, g.dat⟩))
      else if (bits .and .i64 g.prot need == 0) = true then (kind, a, none)
      else askS mp need kind k (a + min n (4096 - a % 4096)) (n - min n (4096 - a % 4096))

def askM (mp : Int → Option Pg) (r : Int × Int × Option (Int × Pg)) : Int → Option Pg :=
  match r.2.2 with
  | none => mp
  | some p => upd mp p.1 (some p.2)

theorem ask_far (w : World) (M : Nat) (a n need kind : Int) (h : 65536 < n) :
    Calls Try.prog 42 #[.pointer (some ⟨M, 0, none⟩), .int .u64 a, .int .i64 n, .int .i64 need, .int .i64 kind] w fun e w' => e = .returned (.agg #[.int .i64 1, .int .u64 a]) ∧ Below w.heap.size w w' := by
  go_enter Try.func42, Try.ntmps42
  go_wp2
  exact bodyPost_ret (v := .agg #[.int .i64 1, .int .u64 a]) (by simp [results, Try.results42, go_sem]) rfl ⟨rfl, by go_grown⟩

/-- A page's guard is taken. -/
theorem guard_taken {w w' : World} {B : Nat} {g : Pg} (h : Own w B 4097 (pgF g)) (hw : w' = w.setCell ⟨B, 0, none⟩ (.int .i64 (g.prot - 8))) : Own w' B 4097 (pgF ⟨g.prot - 8, g.dat⟩) := by
  subst hw
  refine (h.set (i := 0) (by omega) (.int .i64 (g.prot - 8))).congr fun q hq => ?_
  by_cases e : q = 0
  · subst e; simp [pgF]
  · simp [pgF, e]

set_option maxRecDepth 100000 in
set_option maxHeartbeats 1000000 in
theorem ask_any (R : Nat → Prop) (w : World) (M m : Nat) (most : Int) (mp : Int → Option Pg) (a n need kind : Int) (k : Nat) (h0 : 0 ≤ a) (h1 : (a + n ≤ 9223372036854775807 ∨ (mp (a - a % 4096) = none ∧ a < 18446744073709551616))) (hn : n ≤ 65536) (hn0 : 0 ≤ n) (hk : n ≤ k) (hp : ∀ x g, mp x = some g → 0 ≤ g.prot ∧ g.prot ≤ 15) (H : MemAt R w M m most mp) :
    Calls Try.prog 42 #[.pointer (some ⟨M, 0, none⟩), .int .u64 a, .int .i64 n, .int .i64 need, .int .i64 kind] w fun e w' =>
      e = .returned (.agg #[.int .i64 (askS mp need kind k a n).1, .int .u64 (askS mp need kind k a n).2.1]) ∧ MemAt R w' M m most (askM mp (askS mp need kind k a n)) ∧ Kept R w w' := by
  have HM := Lib.hid H
  have HP := Lib.hid hp
  have HR0 : Hid (∀ k, R k → k < w.heap.size) := by obtain ⟨bm, f, S, _, _, _, h⟩ := H; exact h
  obtain ⟨r, hr⟩ : ∃ r, askS mp need kind k a n = r := ⟨_, rfl⟩
  rw [hr]
  have HRR := Lib.hid hr
  clear hr H hp
  go_enter Try.func42, Try.ntmps42
  go_wp2_with fail
  obtain ⟨R2, hR2⟩ : ∃ R2 : Nat → Prop, R2 = fun k => R k ∨ (w.heap.size ≤ k ∧ k < (w.alloc (.cells #[.int .i64 0, .int .u64 0] 45)).heap.size) := ⟨_, rfl⟩
  have HM0 : Hid (MemAt R2 (w.alloc (.cells #[.int .i64 0, .int .u64 0] 45)) M m most mp) := by
    rw [hR2]
    exact HM.out.more ((Below.refl w.heap.size w).alloc (Nat.le_refl _) (.cells #[.int .i64 0, .int .u64 0] 45))
  have HB2 : Hid (R2 w.heap.size) := by rw [hR2]; exact .inr ⟨Nat.le_refl _, by simp⟩
  have HRR2 : Hid (∀ k, R k → R2 k) := fun k hk => by rw [hR2]; exact .inl hk
  clear hR2
  have HK0 := Lib.hid ((Kept.refl R w).alloc HR0.out (.cells #[.int .i64 0, .int .u64 0] 45))
  have HB : Hid (¬ R w.heap.size) := fun h => by have := HR0.out _ h; omega
  have hO : Own (w.alloc (.cells #[.int .i64 0, .int .u64 0] 45)) w.heap.size 2 (fun i => if i = 0 then .int .i64 0 else .int .u64 0) := ⟨by simp, fun i hi => ⟨by rcases (by omega : i = 0 ∨ i = 1) with rfl | rfl <;> simp [go_sem], by simp [go_sem]⟩⟩
  have HO0 := Lib.hid hO
  clear HM hO
  generalize w.alloc (.cells #[.int .i64 0, .int .u64 0] 45) = W0 at *
  go_loopw [1, 2] (fun p q wr => ∃ (a' n' : Int) (k' : Nat), p = .int .u64 a' ∧ q = .int .i64 n' ∧ 0 ≤ a' ∧ 0 ≤ n' ∧ n' ≤ 65536 ∧ (a' + n' ≤ 9223372036854775807 ∨ (mp (a' - a' % 4096) = none ∧ a' < 18446744073709551616)) ∧ n' ≤ k' ∧ askS mp need kind k' a' n' = r ∧ ∃ d, wr = W0.drewN d) (fun _ q _ => (intOf q).toNat)
  case atStart => exact ⟨a, n, k, rfl, rfl, h0, hn0, hn, h1, hk, HRR.out, 0, rfl⟩
  case round =>
    obtain ⟨a', n', k', rfl, rfl, b0, b1, b2, b3, b4, hr, hd⟩ := hrel
    have HRR' := Lib.hid hr
    have HMr : Hid (MemAt R2 wr M m most mp) := by obtain ⟨d, rfl⟩ := hd; exact HM0.out.drewN d
    have HKr : Hid (Kept R w wr) := by obtain ⟨d, rfl⟩ := hd; exact HK0.out.trans (Kept.drewN R W0 d)
    have HOr : Hid (Own wr w.heap.size 2 (fun i => if i = 0 then .int .i64 0 else .int .u64 0)) := by obtain ⟨d, rfl⟩ := hd; exact HO0.out
    have HD := Lib.hid hd
    have ha64 : a' < 18446744073709551616 := by
      rcases b3 with h | h
      · omega
      · exact h.2
    have HB3 := Lib.hid b3
    clear b3
    obtain ⟨bm, f, S, hRs⟩ := HMr.out
    have HRs := Lib.hid hRs
    have k1 := S.c1
    have o0 := HOr.out.cell (i := 0) (by omega)
    have o1 := HOr.out.cell (i := 1) (by omega)
    have z0 := HOr.out.frozen (i := 0) (by omega)
    have z1 := HOr.out.frozen (i := 1) (by omega)
    simp only [if_pos, if_neg, Nat.one_ne_zero] at o0 o1
    clear hr HRR h0 h1 hn hn0 hk hd hRs
    by_cases hlt : 0 < n'
    · obtain ⟨k2, rfl⟩ : ∃ k2, k' = k2 + 1 := ⟨k' - 1, by omega⟩
      cases hg : mp (a' - a' % 4096) with
      | none =>
        have hl := look_none S hg (by omega) (by omega)
        have hr := HRR'.out
        unfold askS at hr
        rw [if_neg (by omega), hg] at hr
        simp only at hr
        subst hr
        clear hg
        go_wp2_with fail
        go_quiet ((go_at_call 47; exact Calls.quiet_of_same (pageOf_q _ _ b0 (by omega))))
        go_wp2
        exact bodyPost_ret (v := .agg #[.int .i64 1, .int .u64 a']) (by simp [results, Try.results42, go_sem, o0, o1, z0, z1]) rfl ⟨rfl, (((HMr.out.drewN nq).setFar HB2.out _).setFar HB2.out _).weaken HRR2.out, ((HKr.out.trans (Kept.drewN R wr nq)).setCell HB.out _).setCell HB.out _⟩
      | some g =>
        obtain ⟨B, hf, ho, hl⟩ := look_some S hg (by omega) (by omega)
        have b3 : a' + n' ≤ 9223372036854775807 := by
          rcases HB3.out with h | h
          · exact h
          · rw [hg] at h; cases h.1
        have hpc := ho.cell (i := 0) (by omega)
        have hpz := ho.frozen (i := 0) (by omega)
        simp only [pgF, if_pos] at hpc
        have hpr := HP.out _ _ hg
        obtain ⟨p0, p1⟩ := hpr
        have hr := HRR'.out
        unfold askS at hr
        rw [if_neg (by omega), hg] at hr
        simp only at hr
        have HR := Lib.hid hr
        have HO := Lib.hid ho
        have HF := Lib.hid hf
        have HG := Lib.hid hg
        have hneB : B ≠ w.heap.size := fun h => HRs.out.2.2.1 _ _ hf (by rw [h]; exact HB2.out)
        have HNB := Lib.hid hneB
        clear hr ho hf hg hneB
        cases hgb : (bits .and .i64 g.prot 8 != 0) with
        | true =>
          have hr := HR.out
          rw [if_pos hgb] at hr
          subst hr
          have p8 := and8_le p0 p1 hgb
          have hoth : ∀ (nq i : Nat), ((wr.drewN nq).setCell ⟨B, 0, none⟩ (.int .i64 (g.prot - 8))).cell? ⟨w.heap.size, i, none⟩ = wr.cell? ⟨w.heap.size, i, none⟩ := fun nq i => World.cell?_of_block (a := ⟨w.heap.size, i, none⟩) (Below.heap_setCell (wr.drewN nq) ⟨B, 0, none⟩ _ _ (fun h => HNB.out h.symm))
          have hofr : ∀ (nq i : Nat), ((wr.drewN nq).setCell ⟨B, 0, none⟩ (.int .i64 (g.prot - 8))).frozen? ⟨w.heap.size, i, none⟩ = wr.frozen? ⟨w.heap.size, i, none⟩ := fun nq i => World.frozen?_of_block (a := ⟨w.heap.size, i, none⟩) (Below.heap_setCell (wr.drewN nq) ⟨B, 0, none⟩ _ _ (fun h => HNB.out h.symm))
          have q0 := fun nq => (hoth nq 0).trans o0
          have q1 := fun nq => (hoth nq 1).trans o1
          have y0 := fun nq => (hofr nq 0).trans z0
          have y1 := fun nq => (hofr nq 1).trans z1
          clear hoth hofr
          go_wp2_with fail
          go_quiet ((go_at_call 47; exact Calls.quiet_of_same (pageOf_q _ _ b0 (by omega))))
          go_wp2
          have hg' := Lib.hid (guard_taken (w := wr.drewN nq) HO.out rfl)
          have S2 := MemIn.turned (S.drewN nq) HF.out HG.out (only_setCell (grownBy_refl (wr.drewN nq) (some B)) (p := ⟨B, 0, none⟩) (.inl rfl) _) hg'.out
          exact bodyPost_ret (v := .agg #[.int .i64 5, .int .u64 a']) (by simp [results, Try.results42, go_sem, o0, o1, z0, z1, q0, q1, y0, y1]) rfl ⟨rfl, (((show MemAt R2 _ M m most _ from ⟨bm, f, S2, HRs.out.1, HRs.out.2.1, HRs.out.2.2.1, fun k hk => by have := HRs.out.2.2.2 k hk; simpa [World.setCell] using this⟩).setFar HB2.out _).setFar HB2.out _).weaken HRR2.out, (((HKr.out.trans (Kept.drewN R wr nq)).setCell (fun h => HRs.out.2.2.1 _ _ HF.out (HRR2.out _ h)) _).setCell HB.out _).setCell HB.out _⟩
        | false =>
          cases hnb : (bits .and .i64 g.prot need == 0) with
          | true =>
            have hr := HR.out
            rw [if_neg (by rw [hgb]; exact Bool.false_ne_true), if_pos hnb] at hr
            subst hr
            go_wp2_with fail
            go_quiet ((go_at_call 47; exact Calls.quiet_of_same (pageOf_q _ _ b0 (by omega))))
            go_wp2
            exact bodyPost_ret (v := .agg #[.int .i64 kind, .int .u64 a']) (by simp [results, Try.results42, go_sem, o0, o1, z0, z1]) rfl ⟨rfl, (((HMr.out.drewN nq).setFar HB2.out _).setFar HB2.out _).weaken HRR2.out, ((HKr.out.trans (Kept.drewN R wr nq)).setCell HB.out _).setCell HB.out _⟩
          | false =>
            have hr := HR.out
            rw [if_neg (by rw [hgb]; exact Bool.false_ne_true), if_neg (by rw [hnb]; exact Bool.false_ne_true)] at hr
            have HR2 := Lib.hid hr
            clear hr
            go_wp2_with fail
            go_quiet ((go_at_call 47; exact Calls.quiet_of_same (pageOf_q _ _ b0 (by omega))))
            go_wp2_with (go_at_call 48; refine (piece_any a' n' _ b0 (by omega) b1 (by omega)).mono ?_; rintro e w3 ⟨rfl, rfl⟩)
            have hs : Hid (0 < min n' (4096 - a' % 4096) ∧ min n' (4096 - a' % 4096) ≤ n') := ⟨by omega, by omega⟩
            have HR3 := Lib.hid HR2.out
            clear HR2 HR HRR'
            generalize min n' (4096 - a' % 4096) = s at *
            obtain ⟨s0, s1⟩ := hs.out
            go_wp2
            go_roundw
            case rel => exact ⟨a' + s, n' - s, k2, rfl, rfl, by omega, by omega, by omega, .inl (by omega), by omega, HR3.out, by obtain ⟨d, rfl⟩ := HD.out; exact ⟨d + nq, by rw [World.drewN_drewN]⟩⟩
            case measure => simp [intOf]; omega
    · have hr := HRR'.out
      have hr2 : r = (0, 0, none) := by
        cases k' with
        | zero => exact hr.symm
        | succ k2 => unfold askS at hr; rw [if_pos (by omega)] at hr; exact hr.symm
      subst hr2
      clear hr
      go_wp2
      exact bodyPost_ret (v := .agg #[.int .i64 0, .int .u64 0]) (by simp [results, Try.results42, go_sem, o0, o1, z0, z1]) rfl ⟨rfl, ((HMr.out.setFar HB2.out _).setFar HB2.out _).weaken HRR2.out, (HKr.out.setCell HB.out _).setCell HB.out _⟩
end Go.Proofs.Ytlifaldbdjcgjaa
