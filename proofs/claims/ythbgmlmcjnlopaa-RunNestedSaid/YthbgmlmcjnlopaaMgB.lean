/- Memory of pages: who may touch what. · Memory of pages: ask. · The builtin copy into a block that is known whole; make of a row of bytes. · Memory of pages: has, rest. · Memory of pages: bytes, put. · Memory of pages: put. · Memory of pages: Peek, Poke, Read, Fetch, Write. · Memory of pages: Read, Fetch, Write. · Memory of pages: Write. -/
import Derived.Test.YthbgmlmcjnlopaaMgA
import Derived.Laws.IdiomCopy
import Derived.Laws.OwnMore
import Derived.OwnWalk
import Derived.Deep.Upon
import Derived.Deep.RegionLaw
namespace Go.Proofs.Ythbgmlmcjnlopaa
open Go.ChangeShapes Go.WideShapes Go.ChangeAt Go.RowKit
open Go.Maps (Keyed)
set_option linter.unusedVariables false
set_option linter.unusedSimpArgs false

theorem ret_i64 {a b : Int} (h : a = b) : Value.int .i64 a = Value.int .i64 b := by rw [h]
theorem Kept.drewN (R : Nat → Prop) (w : World) (n : Nat) : Kept R w (w.drewN n) := ⟨rfl, rfl, rfl, Nat.le_refl _, fun _ _ => rfl⟩
theorem grownBy_refl (w : World) (row : Option Nat) : w.grownBy w row := (World.grownBy.refl w row)
theorem and8_le {p : Int} (h0 : 0 ≤ p) (h1 : p ≤ 15) (h : (bits .and .i64 p 8 != 0) = true) : 8 ≤ p := by
  by_cases h2 : 8 ≤ p
  · exact h2
  · exfalso
    rcases (by omega : p = 0 ∨ p = 1 ∨ p = 2 ∨ p = 3 ∨ p = 4 ∨ p = 5 ∨ p = 6 ∨ p = 7) with rfl | rfl | rfl | rfl | rfl | rfl | rfl | rfl <;> revert h <;> decide

theorem MemAt.below {R : Nat → Prop} {w w' : World} {M m : Nat} {most : Int} {mp : Int → Option Pg} (H : MemAt R w M m most mp) (hb : Below w.heap.size w w') : MemAt R w' M m most mp := by
  obtain ⟨bm, f, S, hRM, hRb, hRB, hR⟩ := H
  have h2 := S.map.lt
  have hlt : ∀ a B, f a = some B → B < w.heap.size := fun a B h => by
    have hb := S.both a
    rw [h] at hb
    cases hm : mp a with
    | none => rw [hm] at hb; cases hb
    | some g' => exact (S.page a B g' h hm).1
  have kM := hb.block M S.mlt
  exact ⟨bm, f, ⟨(World.cell?_of_block kM).trans S.c0, (World.cell?_of_block kM).trans S.c1, Nat.lt_of_lt_of_le S.mlt hb.size, S.map.of_block (hb.block bm h2), S.both, fun a B g h1 h2 => (S.page a B g h1 h2).of_block (hb.block B (hlt a B h1)) hb.size, S.inj, S.nos, S.low, S.high, S.fits⟩, hRM, hRb, hRB, fun k hk => Nat.lt_of_lt_of_le (hR k hk) hb.size⟩

/-- One page's block is written: the page is another one. -/
theorem MemIn.turned {w w' : World} {M bm m : Nat} {most : Int} {f : Int → Option Nat} {mp : Int → Option Pg} (S : MemIn w M bm m most f mp) {x : Int} {B : Nat} {g g' : Pg} (hf : f x = some B) (hmp : mp x = some g) (hg : w.grownBy w' (some B)) (ho : Own w' B 4097 (pgF g')) :
    MemIn w' M bm m most f (upd mp x (some g')) := by
  have ho0 := S.page x B g hf hmp
  have hBM := S.nos x B hf
  have hBb : B ≠ bm := S.map.own_ne (ho0.cell (i := 0) (by omega))
  have kM := hg.block M S.mlt (by simpa using hBM.symm)
  refine ⟨(World.cell?_of_block kM).trans S.c0, (World.cell?_of_block kM).trans S.c1, Nat.lt_of_lt_of_le S.mlt hg.size, S.map.of_block (hg.block bm S.map.lt (by simpa using hBb.symm)), fun a => ?_, fun a B' g2 h1 h2 => ?_, S.inj, S.nos, S.low, S.high, S.fits⟩
  · by_cases e : a = x
    · subst e; rw [upd_same, S.both a, hmp]; rfl
    · rw [upd_other mp _ e]; exact S.both a
  · by_cases e : a = x
    · subst e
      rw [upd_same] at h2
      cases h2
      rw [hf] at h1
      cases h1
      exact ho
    · rw [upd_other mp _ e] at h2
      have hne : B' ≠ B := fun h => e (S.inj a x B (h ▸ h1) hf)
      have h3 := S.page a B' g2 h1 h2
      exact h3.of_block (hg.block B' h3.1 (by simpa using hne)) hg.size

theorem piece_any (a n : Int) (w : World) (h0 : 0 ≤ a) (h1 : a < 18446744073709551616) (h2 : 0 ≤ n) (h3 : n ≤ 9223372036854775807) : Calls Try.prog 69 #[.int .u64 a, .int .i64 n] w fun e w' => e = .returned (.int .i64 (min n (4096 - a % 4096))) ∧ w = w' := by
  have e1 : 0 ≤ a % 4096 := by omega
  have e2 : a % 4096 < 4096 := by omega
  go_enter Try.func69, Try.ntmps69
  go_wp2
  all_goals go_ret
  all_goals exact ⟨congrArg _ (ret_i64 (by omega)), rfl⟩

/-- A store into a block that is none of the memory's. -/
theorem MemAt.setFar {R : Nat → Prop} {w : World} {M m : Nat} {most : Int} {mp : Int → Option Pg} (H : MemAt R w M m most mp) {B o : Nat} (hB : R B) (u : Value) : MemAt R (w.setCell ⟨B, o, none⟩ u) M m most mp := by
  obtain ⟨bm, f, S, hRM, hRb, hRB, hR⟩ := H
  have hk : ∀ k, ¬ R k → (w.setCell ⟨B, o, none⟩ u).heap[k]? = w.heap[k]? := fun k h => Below.heap_setCell w ⟨B, o, none⟩ u k (fun e => h (by rw [e]; exact hB))
  have hs : w.heap.size ≤ (w.setCell ⟨B, o, none⟩ u).heap.size := by simp [World.setCell]
  exact ⟨bm, f, ⟨(World.cell?_of_block (hk M hRM)).trans S.c0, (World.cell?_of_block (hk M hRM)).trans S.c1, Nat.lt_of_lt_of_le S.mlt hs, S.map.of_block (hk bm hRb), S.both, fun a B g h1 h2 => (S.page a B g h1 h2).of_block (hk B (hRB a B h1)) hs, S.inj, S.nos, S.low, S.high, S.fits⟩, hRM, hRb, hRB, fun k hk => Nat.lt_of_lt_of_le (hR k hk) hs⟩

theorem MemAt.weaken {R R' : Nat → Prop} {w : World} {M m : Nat} {most : Int} {mp : Int → Option Pg} (H : MemAt R' w M m most mp) (h : ∀ k, R k → R' k) : MemAt R w M m most mp := by
  obtain ⟨bm, f, S, hRM, hRb, hRB, hR⟩ := H
  exact ⟨bm, f, S, fun hk => hRM (h _ hk), fun hk => hRb (h _ hk), fun a B hf hk => hRB a B hf (h _ hk), fun k hk => hR k (h k hk)⟩

/-- More blocks that the memory has nothing of. -/
theorem MemAt.more {R : Nat → Prop} {w w2 : World} {M m : Nat} {most : Int} {mp : Int → Option Pg} (H : MemAt R w M m most mp) (hb : Below w.heap.size w w2) :
    MemAt (fun k => R k ∨ (w.heap.size ≤ k ∧ k < w2.heap.size)) w2 M m most mp := by
  obtain ⟨bm, f, S, hRM, hRb, hRB, hR⟩ := H
  have hlt : ∀ a B, f a = some B → B < w.heap.size := fun a B h => by
    have hb := S.both a
    rw [h] at hb
    cases hm : mp a with
    | none => rw [hm] at hb; cases hb
    | some g' => exact (S.page a B g' h hm).1
  have kM := hb.block M S.mlt
  refine ⟨bm, f, ⟨(World.cell?_of_block kM).trans S.c0, (World.cell?_of_block kM).trans S.c1, Nat.lt_of_lt_of_le S.mlt hb.size, S.map.of_block (hb.block bm S.map.lt), S.both, fun a B g h1 h2 => (S.page a B g h1 h2).of_block (hb.block B (hlt a B h1)) hb.size, S.inj, S.nos, S.low, S.high, S.fits⟩, ?_, ?_, fun a B hf => ?_, fun k hk => ?_⟩
  · have := S.mlt
    rintro (h | h)
    · exact hRM h
    · omega
  · have := S.map.lt
    rintro (h | h)
    · exact hRb h
    · omega
  · have := hlt a B hf
    rintro (h | h)
    · exact hRB a B hf h
    · omega
  · rcases hk with h | h
    · have := hR k h; have := hb.size; omega
    · exact h.2
end Go.Proofs.Ythbgmlmcjnlopaa
namespace Go.Proofs.Ythbgmlmcjnlopaa
open Go.ChangeShapes Go.WideShapes Go.ChangeAt Go.RowKit
open Go.Maps (Keyed)
set_option linter.unusedVariables false
set_option linter.unusedSimpArgs false

/-- What an access is told: a fault's kind and place; the page whose guard it took. -/
def askS (mp : Int → Option Pg) (need kind : Int) : Nat → Int → Int → Int × Int × Option (Int × Pg)
  | 0, _, _ => (0, 0, none)
  | k + 1, a, n =>
    if n ≤ 0 then (0, 0, none) else
    match mp (a - a % 4096) with
    | none => (1, a, none)
    | some g =>
      if (bits .and .i64 g.prot 8 != 0) = true then (5, a, some (a - a % 4096, ⟨g.prot - 8, g.dat⟩))
      else if (bits .and .i64 g.prot need == 0) = true then (kind, a, none)
      else askS mp need kind k (a + min n (4096 - a % 4096)) (n - min n (4096 - a % 4096))

def askM (mp : Int → Option Pg) (r : Int × Int × Option (Int × Pg)) : Int → Option Pg :=
  match r.2.2 with
  | none => mp
  | some p => upd mp p.1 (some p.2)

theorem ask_far (w : World) (M : Nat) (a n need kind : Int) (h : 65536 < n) :
    Calls Try.prog 71 #[.pointer (some ⟨M, 0, none⟩), .int .u64 a, .int .i64 n, .int .i64 need, .int .i64 kind] w fun e w' => e = .returned (.agg #[.int .i64 1, .int .u64 a]) ∧ Below w.heap.size w w' := by
  go_enter Try.func71, Try.ntmps71
  go_wp2
  exact bodyPost_ret (v := .agg #[.int .i64 1, .int .u64 a]) (by simp [results, Try.results71, go_sem]) rfl ⟨rfl, by go_grown⟩

/-- A page's guard is taken. -/
theorem guard_taken {w w' : World} {B : Nat} {g : Pg} (h : Own w B 4097 (pgF g)) (hw : w' = w.setCell ⟨B, 0, none⟩ (.int .i64 (g.prot - 8))) : Own w' B 4097 (pgF ⟨g.prot - 8, g.dat⟩) := by
  subst hw
  refine (h.set (i := 0) (by omega) (.int .i64 (g.prot - 8))).congr fun q hq => ?_
  by_cases e : q = 0
  · subst e; simp [pgF]
  · simp [pgF, e]

set_option maxRecDepth 100000 in
set_option maxHeartbeats 1000000 in
theorem ask_any (R : Nat → Prop) (w : World) (M m : Nat) (most : Int) (mp : Int → Option Pg) (a n need kind : Int) (k : Nat) (h0 : 0 ≤ a) (h1 : (a + n ≤ 9223372036854775807 ∨ (mp (a - a % 4096) = none ∧ a < 18446744073709551616))) (hn : n ≤ 65536) (hn0 : 0 ≤ n) (hk : n ≤ k) (hp : ∀ x g, mp x = some g → 0 ≤ g.prot ∧ g.prot ≤ 15) (H : MemAt R w M m most mp) :
    Calls Try.prog 71 #[.pointer (some ⟨M, 0, none⟩), .int .u64 a, .int .i64 n, .int .i64 need, .int .i64 kind] w fun e w' =>
      e = .returned (.agg #[.int .i64 (askS mp need kind k a n).1, .int .u64 (askS mp need kind k a n).2.1]) ∧ MemAt R w' M m most (askM mp (askS mp need kind k a n)) ∧ Kept R w w' := by
  have HM := Lib.hid H
  have HP := Lib.hid hp
  have HR0 : Hid (∀ k, R k → k < w.heap.size) := by obtain ⟨bm, f, S, _, _, _, h⟩ := H; exact h
  obtain ⟨r, hr⟩ : ∃ r, askS mp need kind k a n = r := ⟨_, rfl⟩
  rw [hr]
  have HRR := Lib.hid hr
  clear hr H hp
  go_enter Try.func71, Try.ntmps71
  go_wp2_with fail
  obtain ⟨R2, hR2⟩ : ∃ R2 : Nat → Prop, R2 = fun k => R k ∨ (w.heap.size ≤ k ∧ k < (w.alloc (.cells #[.int .i64 0, .int .u64 0] 57)).heap.size) := ⟨_, rfl⟩
  have HM0 : Hid (MemAt R2 (w.alloc (.cells #[.int .i64 0, .int .u64 0] 57)) M m most mp) := by
    rw [hR2]
    exact HM.out.more ((Below.refl w.heap.size w).alloc (Nat.le_refl _) (.cells #[.int .i64 0, .int .u64 0] 57))
  have HB2 : Hid (R2 w.heap.size) := by rw [hR2]; exact .inr ⟨Nat.le_refl _, by simp⟩
  have HRR2 : Hid (∀ k, R k → R2 k) := fun k hk => by rw [hR2]; exact .inl hk
  clear hR2
  have HK0 := Lib.hid ((Kept.refl R w).alloc HR0.out (.cells #[.int .i64 0, .int .u64 0] 57))
  have HB : Hid (¬ R w.heap.size) := fun h => by have := HR0.out _ h; omega
  have hO : Own (w.alloc (.cells #[.int .i64 0, .int .u64 0] 57)) w.heap.size 2 (fun i => if i = 0 then .int .i64 0 else .int .u64 0) := ⟨by simp, fun i hi => ⟨by rcases (by omega : i = 0 ∨ i = 1) with rfl | rfl <;> simp [go_sem], by simp [go_sem]⟩⟩
  have HO0 := Lib.hid hO
  clear HM hO
  generalize w.alloc (.cells #[.int .i64 0, .int .u64 0] 57) = W0 at *
  go_loopw [1, 2] (fun p q wr => ∃ (a' n' : Int) (k' : Nat), p = .int .u64 a' ∧ q = .int .i64 n' ∧ 0 ≤ a' ∧ 0 ≤ n' ∧ n' ≤ 65536 ∧ (a' + n' ≤ 9223372036854775807 ∨ (mp (a' - a' % 4096) = none ∧ a' < 18446744073709551616)) ∧ n' ≤ k' ∧ askS mp need kind k' a' n' = r ∧ ∃ d, wr = W0.drewN d) (fun _ q _ => (intOf q).toNat)
  case atStart => exact ⟨a, n, k, rfl, rfl, h0, hn0, hn, h1, hk, HRR.out, 0, rfl⟩
  case round =>
    obtain ⟨a', n', k', rfl, rfl, b0, b1, b2, b3, b4, hr, hd⟩ := hrel
    have HRR' := Lib.hid hr
    have HMr : Hid (MemAt R2 wr M m most mp) := by obtain ⟨d, rfl⟩ := hd; exact HM0.out.drewN d
    have HKr : Hid (Kept R w wr) := by obtain ⟨d, rfl⟩ := hd; exact HK0.out.trans (Kept.drewN R W0 d)
    have HOr : Hid (Own wr w.heap.size 2 (fun i => if i = 0 then .int .i64 0 else .int .u64 0)) := by obtain ⟨d, rfl⟩ := hd; exact HO0.out
    have HD := Lib.hid hd
    have ha64 : a' < 18446744073709551616 := by
      rcases b3 with h | h
      · omega
      · exact h.2
    have HB3 := Lib.hid b3
    clear b3
    obtain ⟨bm, f, S, hRs⟩ := HMr.out
    have HRs := Lib.hid hRs
    have k1 := S.c1
    have o0 := HOr.out.cell (i := 0) (by omega)
    have o1 := HOr.out.cell (i := 1) (by omega)
    have z0 := HOr.out.frozen (i := 0) (by omega)
    have z1 := HOr.out.frozen (i := 1) (by omega)
    simp only [if_pos, if_neg, Nat.one_ne_zero] at o0 o1
    clear hr HRR h0 h1 hn hn0 hk hd hRs
    by_cases hlt : 0 < n'
    · obtain ⟨k2, rfl⟩ : ∃ k2, k' = k2 + 1 := ⟨k' - 1, by omega⟩
      cases hg : mp (a' - a' % 4096) with
      | none =>
        have hl := look_none S hg (by omega) (by omega)
        have hr := HRR'.out
        unfold askS at hr
        rw [if_neg (by omega), hg] at hr
        simp only at hr
        subst hr
        clear hg
        go_wp2_with fail
        go_quiet ((go_at_call 53; exact Calls.quiet_of_same (pageOf_q _ _ b0 (by omega))))
        go_wp2
        exact bodyPost_ret (v := .agg #[.int .i64 1, .int .u64 a']) (by simp [results, Try.results71, go_sem, o0, o1, z0, z1]) rfl ⟨rfl, (((HMr.out.drewN nq).setFar HB2.out _).setFar HB2.out _).weaken HRR2.out, ((HKr.out.trans (Kept.drewN R wr nq)).setCell HB.out _).setCell HB.out _⟩
      | some g =>
        obtain ⟨B, hf, ho, hl⟩ := look_some S hg (by omega) (by omega)
        have b3 : a' + n' ≤ 9223372036854775807 := by
          rcases HB3.out with h | h
          · exact h
          · rw [hg] at h; cases h.1
        have hpc := ho.cell (i := 0) (by omega)
        have hpz := ho.frozen (i := 0) (by omega)
        simp only [pgF, if_pos] at hpc
        have hpr := HP.out _ _ hg
        obtain ⟨p0, p1⟩ := hpr
        have hr := HRR'.out
        unfold askS at hr
        rw [if_neg (by omega), hg] at hr
        simp only at hr
        have HR := Lib.hid hr
        have HO := Lib.hid ho
        have HF := Lib.hid hf
        have HG := Lib.hid hg
        have hneB : B ≠ w.heap.size := fun h => HRs.out.2.2.1 _ _ hf (by rw [h]; exact HB2.out)
        have HNB := Lib.hid hneB
        clear hr ho hf hg hneB
        cases hgb : (bits .and .i64 g.prot 8 != 0) with
        | true =>
          have hr := HR.out
          rw [if_pos hgb] at hr
          subst hr
          have p8 := and8_le p0 p1 hgb
          have hoth : ∀ (nq i : Nat), ((wr.drewN nq).setCell ⟨B, 0, none⟩ (.int .i64 (g.prot - 8))).cell? ⟨w.heap.size, i, none⟩ = wr.cell? ⟨w.heap.size, i, none⟩ := fun nq i => World.cell?_of_block (a := ⟨w.heap.size, i, none⟩) (Below.heap_setCell (wr.drewN nq) ⟨B, 0, none⟩ _ _ (fun h => HNB.out h.symm))
          have hofr : ∀ (nq i : Nat), ((wr.drewN nq).setCell ⟨B, 0, none⟩ (.int .i64 (g.prot - 8))).frozen? ⟨w.heap.size, i, none⟩ = wr.frozen? ⟨w.heap.size, i, none⟩ := fun nq i => World.frozen?_of_block (a := ⟨w.heap.size, i, none⟩) (Below.heap_setCell (wr.drewN nq) ⟨B, 0, none⟩ _ _ (fun h => HNB.out h.symm))
          have q0 := fun nq => (hoth nq 0).trans o0
          have q1 := fun nq => (hoth nq 1).trans o1
          have y0 := fun nq => (hofr nq 0).trans z0
          have y1 := fun nq => (hofr nq 1).trans z1
          clear hoth hofr
          go_wp2_with fail
          go_quiet ((go_at_call 53; exact Calls.quiet_of_same (pageOf_q _ _ b0 (by omega))))
          go_wp2
          have hg' := Lib.hid (guard_taken (w := wr.drewN nq) HO.out rfl)
          have S2 := MemIn.turned (S.drewN nq) HF.out HG.out (only_setCell (grownBy_refl (wr.drewN nq) (some B)) (p := ⟨B, 0, none⟩) (.inl rfl) _) hg'.out
          exact bodyPost_ret (v := .agg #[.int .i64 5, .int .u64 a']) (by simp [results, Try.results71, go_sem, o0, o1, z0, z1, q0, q1, y0, y1]) rfl ⟨rfl, (((show MemAt R2 _ M m most _ from ⟨bm, f, S2, HRs.out.1, HRs.out.2.1, HRs.out.2.2.1, fun k hk => by have := HRs.out.2.2.2 k hk; simpa [World.setCell] using this⟩).setFar HB2.out _).setFar HB2.out _).weaken HRR2.out, (((HKr.out.trans (Kept.drewN R wr nq)).setCell (fun h => HRs.out.2.2.1 _ _ HF.out (HRR2.out _ h)) _).setCell HB.out _).setCell HB.out _⟩
        | false =>
          cases hnb : (bits .and .i64 g.prot need == 0) with
          | true =>
            have hr := HR.out
            rw [if_neg (by rw [hgb]; exact Bool.false_ne_true), if_pos hnb] at hr
            subst hr
            go_wp2_with fail
            go_quiet ((go_at_call 53; exact Calls.quiet_of_same (pageOf_q _ _ b0 (by omega))))
            go_wp2
            exact bodyPost_ret (v := .agg #[.int .i64 kind, .int .u64 a']) (by simp [results, Try.results71, go_sem, o0, o1, z0, z1]) rfl ⟨rfl, (((HMr.out.drewN nq).setFar HB2.out _).setFar HB2.out _).weaken HRR2.out, ((HKr.out.trans (Kept.drewN R wr nq)).setCell HB.out _).setCell HB.out _⟩
          | false =>
            have hr := HR.out
            rw [if_neg (by rw [hgb]; exact Bool.false_ne_true), if_neg (by rw [hnb]; exact Bool.false_ne_true)] at hr
            have HR2 := Lib.hid hr
            clear hr
            go_wp2_with fail
            go_quiet ((go_at_call 53; exact Calls.quiet_of_same (pageOf_q _ _ b0 (by omega))))
            go_wp2_with (go_at_call 69; refine (piece_any a' n' _ b0 (by omega) b1 (by omega)).mono ?_; rintro e w3 ⟨rfl, rfl⟩)
            have hs : Hid (0 < min n' (4096 - a' % 4096) ∧ min n' (4096 - a' % 4096) ≤ n') := ⟨by omega, by omega⟩
            have HR3 := Lib.hid HR2.out
            clear HR2 HR HRR'
            generalize min n' (4096 - a' % 4096) = s at *
            obtain ⟨s0, s1⟩ := hs.out
            go_wp2
            go_roundw
            case rel => exact ⟨a' + s, n' - s, k2, rfl, rfl, by omega, by omega, by omega, .inl (by omega), by omega, HR3.out, by obtain ⟨d, rfl⟩ := HD.out; exact ⟨d + nq, by rw [World.drewN_drewN]⟩⟩
            case measure => simp [intOf]; omega
    · have hr := HRR'.out
      have hr2 : r = (0, 0, none) := by
        cases k' with
        | zero => exact hr.symm
        | succ k2 => unfold askS at hr; rw [if_pos (by omega)] at hr; exact hr.symm
      subst hr2
      clear hr
      go_wp2
      exact bodyPost_ret (v := .agg #[.int .i64 0, .int .u64 0]) (by simp [results, Try.results71, go_sem, o0, o1, z0, z1]) rfl ⟨rfl, ((HMr.out.setFar HB2.out _).setFar HB2.out _).weaken HRR2.out, (HKr.out.setCell HB.out _).setCell HB.out _⟩
end Go.Proofs.Ythbgmlmcjnlopaa
namespace Go.Proofs.Ythbgmlmcjnlopaa
open Go.ChangeShapes Go.WideShapes Go.ChangeAt Go.RowKit
set_option linter.unusedVariables false
set_option linter.unusedSimpArgs false

theorem setCells_os (g : Nat) : ∀ (vs : List Value) (o : Nat) (w : World), (w.setCells g o vs).os = w.os ∧ (w.setCells g o vs).tape = w.tape ∧ (w.setCells g o vs).output = w.output ∧ (w.setCells g o vs).heap.size = w.heap.size
  | [], _, _ => ⟨rfl, rfl, rfl, rfl⟩
  | v :: r, o, w => by
    obtain ⟨h1, h2, h3, h4⟩ := setCells_os g r (o + 1) (w.setCell ⟨g, o, none⟩ v)
    refine ⟨h1.trans rfl, h2.trans rfl, h3.trans rfl, h4.trans (by simp [World.setCell])⟩

theorem grownBy_setCells (w : World) (g o : Nat) (vs : List Value) : w.grownBy (w.setCells g o vs) (some g) := by
  obtain ⟨h1, h2, h3, h4⟩ := setCells_os g vs o w
  exact ⟨h1, h2, h3, Nat.le_of_eq h4.symm, fun i hi hne => World.heap_setCells_other w g o vs hi (fun e => hne (by rw [e]))⟩

theorem Own.setCells {w : World} {g n : Nat} {f : Nat → Value} (h : Own w g n f) (o k : Nat) (c : Nat → Value) (hk : o + k ≤ n) :
    Own (w.setCells g o ((List.range k).map c)) g n (fun q => if o ≤ q ∧ q < o + k then c (q - o) else f q) := by
  refine ⟨by rw [(setCells_os g _ o w).2.2.2]; exact h.1, fun q hq => ⟨?_, ?_⟩⟩
  · by_cases e : o ≤ q ∧ q < o + k
    · have h2 := World.cell?_setCells_in g ((List.range k).map c) o w (fun j hj => by rw [h.cell (i := o + j) (by simp at hj; omega)]; rfl) (q - o) (by simp; omega)
      rw [show o + (q - o) = q by omega] at h2
      rw [h2]
      simp [e]
    · rw [World.cell?_setCells_out g _ o w ⟨g, q, none⟩ (fun _ _ => by simp; omega), h.cell hq]
      simp only [if_neg e]
  · rw [World.frozen?_setCells]; exact h.frozen hq

theorem step_copy_own {P : Program} {ops : Array Oper} {o : Oper} {a : Act} {w : World} {K : Act → World → Prop} {Q : Exit → Act → World → Prop} {E : Prop} (hgd : o.guard = none) (d s : Operand) (dT sT : TypeId)
    (ho : o.op = .call { callee := .builtin .copy, args := #[d, s], argTypes := #[dT, sT] }) (elem : TypeId) (hu : P.underlying dT = some (.slice elem)) (hsz : (P.info? elem).map (·.size) = some 1)
    (g off dLen dCap : Nat) (b2 off2 : Nat) (sLen sCap : Nat) (hd : a.eval d = .slice (some ⟨g, off, none⟩) dLen dCap) (hs : a.eval s = .slice (some ⟨b2, off2, none⟩) sLen sCap)
    (k n : Nat) (f : Nat → Value) (c : Nat → Value) (hk : k = Nat.min sLen dLen) (hown : Own w g n f) (hfit : off + k ≤ n)
    (hsrc : ∀ j, j < k → w.cell? ⟨b2, off2 + j, none⟩ = some (c j)) (h1 : ∀ j, (c j).oneCell' = true)
    (h : ∀ w', w.grownBy w' (some g) → Own w' g n (fun q => if off ≤ q ∧ q < off + k then c (q - off) else f q) → K (a.put o.dst (goInt k)) w') :
    if Region.wanted o (yielded ops a.tmps) = true then Oper.wp P o a w K Q else E := by
  have hw : Region.wanted o (yielded ops a.tmps) = true := by simp [Region.wanted, hgd]
  rw [if_pos hw]
  have hadd : ∀ j, (⟨b2, off2, none⟩ : Addr).add j = ⟨b2, off2 + j, none⟩ := fun j => by unfold Addr.add; split <;> simp_all
  have hrun := run_copy_cells (P := P) w dT sT o.type elem g off dLen dCap ⟨b2, off2, none⟩ sLen sCap ((List.range k).map c) hu hsz (by simpa using hk)
    (fun j v hj => by
      rw [hadd]
      simp only [List.getElem?_map, Option.map_eq_some_iff] at hj
      obtain ⟨j2, h2, rfl⟩ := hj
      obtain ⟨h3, rfl⟩ := List.getElem?_eq_some_iff.1 h2
      simpa using hsrc j (by simpa using h3))
    (fun j hj => by rw [hown.cell (i := off + j) (by simp at hj; omega)]; rfl) (fun j hj => hown.frozen (i := off + j) (by simp at hj; omega)) (fun v hv => by simp at hv; obtain ⟨j, _, rfl⟩ := hv; exact h1 j)
  unfold Oper.wp
  simp [execOp, ho, resolve, invoke, builtin, hd, hs, hrun, Result.andThen]
  exact h _ (grownBy_setCells w g off _) (hown.setCells off k c hfit)
theorem own_made (w : World) (e : TypeId) (n : Nat) (z : Value) (hz : z.cells = #[z]) : Own (w.alloc (.cells (madeCells z.cells n) e)) w.heap.size n (fun _ => z) := by
  refine ⟨by simp, fun i hi => ⟨?_, by simp [go_sem]⟩⟩
  have h : (madeCells z.cells n)[i]? = some z := by
    simp [madeCells, hi, hz, Nat.mod_one]
  generalize madeCells z.cells n = cs at h
  simp [go_sem, h]

/-- make of n bytes (or other values of one cell). -/
theorem wpList_make_bytes {P : Program} (w : World) {ops : Array Oper} {rest : List Oper} {o : Oper} {a : Act} {Q : Exit → Act → World → Prop}
    (hg : o.guard = none) (l c : Operand) (t : TypeId) (hop : o.op = Op.makeSlice t l c)
    (e : TypeId) (z : Value) (bytes : Nat) (h1 : P.underlying t = some (.slice e)) (h2 : (P.info? e).map (fun i => (i.zero, i.size, i.bytes)) = some (some z, 1, bytes)) (hz : z.cells = #[z])
    (kl kc : IntKind) (n : Nat) (hl : a.eval l = .int kl n) (hc : a.eval c = .int kc n) (b2 : bytes * n ≤ 281474976710656) (b3 : n ≤ 9223372036854775807)
    (hK : ∀ w', Below w.heap.size w w' → Own w' w.heap.size n (fun _ => z) → wpList P ops Q rest (a.put o.dst (.slice (some ⟨w.heap.size, 0, none⟩) n n)) w') :
    wpList P ops Q (o :: rest) a w := by
  obtain ⟨i, hi, hzz⟩ := Option.map_eq_some_iff.1 h2
  simp only [Prod.mk.injEq] at hzz
  obtain ⟨z1, z2, z3⟩ := hzz
  refine wpList_plain hg fun K hK' => ?_
  have hbb : (i.bytes : Int) * (n : Int) ≤ 281474976710656 := by
    have h : ((bytes * n : Nat) : Int) ≤ 281474976710656 := by omega
    rw [z3]
    rwa [Int.natCast_mul] at h
  have hrun := run_make (P := P) w t e i z h1 hi z1 kl kc n n (by omega) (Int.le_refl _) hbb (by omega)
  rw [z2] at hrun
  simp only [Int.toNat_natCast, Nat.mul_one] at hrun
  unfold Oper.wp
  simp [execOp, hop, hl, hc, hrun, Result.andThen]
  exact hK' _ _ (hK _ ((Below.refl w.heap.size w).alloc (Nat.le_refl _) _) (own_made w e n z hz))
end Go.Proofs.Ythbgmlmcjnlopaa
namespace Go.Proofs.Ythbgmlmcjnlopaa
open Go.ChangeShapes Go.WideShapes Go.ChangeAt Go.RowKit
open Go.Maps (Keyed)
set_option linter.unusedVariables false
set_option linter.unusedSimpArgs false

/-- All n bytes from a on are mapped. -/
def InM (mp : Int → Option Pg) (a n : Int) : Prop := ∀ i : Int, 0 ≤ i → i < n → mp (a + i - (a + i) % 4096) ≠ none

theorem InM.step {mp : Int → Option Pg} {a n : Int} (h : mp (a - a % 4096) ≠ none) (h0 : 0 ≤ a) {s : Int} (hs : s = min n (4096 - a % 4096)) : InM mp a n ↔ InM mp (a + s) (n - s) := by
  constructor
  · intro H i h1 h2
    have := H (s + i) (by omega) (by omega)
    rw [show a + s + i = a + (s + i) by omega]
    exact this
  · intro H i h1 h2
    by_cases hi : i < s
    · rw [show a + i - (a + i) % 4096 = a - a % 4096 by omega]; exact h
    · have := H (i - s) (by omega) (by omega)
      rw [show a + s + (i - s) = a + i by omega] at this
      exact this

theorem has_any (R : Nat → Prop) (w : World) (M m : Nat) (most : Int) (mp : Int → Option Pg) (a n : Int) (b : Bool) (hb : b = true ↔ InM mp a n) (h0 : 0 ≤ a) (h1 : a + n ≤ 9223372036854775807) (hn : n ≤ 65536) (hn0 : 0 ≤ n) (H : MemAt R w M m most mp) :
    Calls Try.prog 46 #[.pointer (some ⟨M, 0, none⟩), .int .u64 a, .int .i64 n] w fun e w' => e = .returned (.bool b) ∧ ∃ k, w' = w.drewN k := by
  have HM := Lib.hid H
  have HB := Lib.hid hb
  clear hb H
  go_enter Try.func46, Try.ntmps46
  go_wp2_with fail
  go_loopw [1, 2] (fun p q wr => ∃ (a' n' : Int), p = .int .u64 a' ∧ q = .int .i64 n' ∧ 0 ≤ a' ∧ 0 ≤ n' ∧ n' ≤ 65536 ∧ a' + n' ≤ 9223372036854775807 ∧ (b = true ↔ InM mp a' n') ∧ ∃ d, wr = w.drewN d) (fun _ q _ => (intOf q).toNat)
  case atStart => exact ⟨a, n, rfl, rfl, h0, hn0, hn, h1, HB.out, 0, rfl⟩
  case round =>
    obtain ⟨a', n', rfl, rfl, b0, b1, b2, b3, hb, hd⟩ := hrel
    obtain ⟨bm, f, S, hRs⟩ : MemAt R wr M m most mp := by obtain ⟨k, rfl⟩ := hd; exact HM.out.drewN k
    have k1 := S.c1
    have HD := Lib.hid hd
    have HB' := Lib.hid hb
    clear hd hb h0 h1 hn hn0
    by_cases hlt : 0 < n'
    · cases hg : mp (a' - a' % 4096) with
      | none =>
        have hl := look_none S hg (by omega) (by omega)
        have hbf : b = false := by
          cases b with
          | false => rfl
          | true => exact absurd hg (by have := (HB'.out.1 rfl) 0 (by omega) hlt; simpa using this)
        subst hbf
        clear hg
        go_wp2_with fail
        go_quiet ((go_at_call 53; exact Calls.quiet_of_same (pageOf_q _ _ b0 (by omega))))
        go_wp2
        go_ret
        exact ⟨rfl, by obtain ⟨k, rfl⟩ := HD.out; exact ⟨k + nq, by rw [World.drewN_drewN]⟩⟩
      | some g =>
        obtain ⟨B, hf, ho, hl⟩ := look_some S hg (by omega) (by omega)
        have hst := (InM.step (mp := mp) (a := a') (n := n') (by rw [hg]; simp) b0 rfl)
        have HB2 := Lib.hid (HB'.out.trans hst)
        clear hg hf ho hst HB'
        go_wp2_with fail
        go_quiet ((go_at_call 53; exact Calls.quiet_of_same (pageOf_q _ _ b0 (by omega))))
        go_wp2_with (go_at_call 69; refine (piece_any a' n' _ b0 (by omega) b1 (by omega)).mono ?_; rintro e w3 ⟨rfl, rfl⟩)
        have hs : Hid (0 < min n' (4096 - a' % 4096) ∧ min n' (4096 - a' % 4096) ≤ n') := ⟨by omega, by omega⟩
        generalize min n' (4096 - a' % 4096) = s at *
        obtain ⟨s0, s1⟩ := hs.out
        go_wp2
        go_roundw
        case rel => exact ⟨a' + s, n' - s, rfl, rfl, by omega, by omega, by omega, by omega, HB2.out, by obtain ⟨d, rfl⟩ := HD.out; exact ⟨d + nq, by rw [World.drewN_drewN]⟩⟩
        case measure => simp [intOf]; omega
    · have hbt : b = true := HB'.out.2 (fun i h1 h2 => by omega)
      subst hbt
      go_wp2
      go_ret
      exact ⟨rfl, HD.out⟩

theorem slice_page (w : World) (B : Nat) (l : Int) (h0 : 0 ≤ l) (h1 : l < 4096) (n : Nat) :
    (Instr.sliceAt 93 (.pointer (some ⟨B, 1, none⟩)) (some (.int .u64 l)) none none).run Try.prog (w.drewN n) = .ok (.slice (some ⟨B, 1 + l.toNat, none⟩) (4096 - l.toNat) (4096 - l.toNat)) (w.drewN n) := by
  have h2 : ¬ 4096 = l.toNat := by omega
  have hA : Try.prog.arrayLen 93 = 4096 := by kernel_rfl
  have hs : ∀ W, (sizeOf (Try.prog.elem 93)).run Try.prog W = .ok 1 W := fun W => by kernel_rfl
  rw [run_sliceAt_array_l (P := Try.prog) (w.drewN n) 93 ⟨B, 1, none⟩ (by kernel_rfl) .u64 l h0 (by rw [hA]; omega), hs, hA]
  simp [slicedAt, h2, Addr.add]

/-- A page's bytes from a on. -/
theorem rest_any (w : World) (M bm m : Nat) (most : Int) (f : Int → Option Nat) (mp : Int → Option Pg) (a : Int) (B : Nat) (g : Pg) (h0 : 0 ≤ a) (h1 : a < 18446744073709551616) (S : MemIn w M bm m most f mp) (hg : mp (a - a % 4096) = some g) (hf : f (a - a % 4096) = some B) :
    Calls Try.prog 70 #[.pointer (some ⟨M, 0, none⟩), .int .u64 a] w fun e w' => e = .returned (.slice (some ⟨B, 1 + (a % 4096).toNat, none⟩) (4096 - (a % 4096).toNat) (4096 - (a % 4096).toNat)) ∧ ∃ k, w' = w.drewN k := by
  obtain ⟨B', hf', ho, hl⟩ := look_some S hg (by omega) (by omega)
  obtain rfl : B' = B := by rw [hf] at hf'; injection hf' with h; exact h.symm
  have k1 := S.c1
  have hpc := ho.cell (i := 0) (by omega)
  have hpz := ho.frozen (i := 0) (by omega)
  simp only [pgF, if_pos] at hpc
  have e1 : 0 ≤ a % 4096 := by omega
  have e2 : a % 4096 < 4096 := by omega
  have hsl := slice_page w B' (a % 4096) e1 e2
  clear hg hf hf' ho
  go_enter Try.func70, Try.ntmps70
  go_wp2_with fail
  go_quiet ((go_at_call 53; exact Calls.quiet_of_same (pageOf_q _ _ h0 (by omega))))
  go_wp2
  go_ret
  exact ⟨rfl, nq, rfl⟩
end Go.Proofs.Ythbgmlmcjnlopaa
namespace Go.Proofs.Ythbgmlmcjnlopaa
open Go.ChangeShapes Go.WideShapes Go.ChangeAt Go.RowKit
open Go.Maps (Keyed)
set_option linter.unusedVariables false
set_option linter.unusedSimpArgs false

/-- The byte at address x. -/
def byteAt (mp : Int → Option Pg) (x : Int) : Int :=
  match mp (x - x % 4096) with
  | some g => g.dat (x % 4096).toNat
  | none => 0

theorem MemIn.drew {w : World} {M bm m : Nat} {most : Int} {f : Int → Option Nat} {mp : Int → Option Pg} (h : MemIn w M bm m most f mp) : MemIn w.drew M bm m most f mp := h.drewN 1
theorem Own.drewN {w : World} {g n : Nat} {f : Nat → Value} (h : Own w g n f) (k : Nat) : Own (w.drewN k) g n f := h
/-- A page's bytes, as they stand in its block. -/
theorem page_cells {w : World} {M bm m : Nat} {most : Int} {f : Int → Option Nat} {mp : Int → Option Pg} (S : MemIn w M bm m most f mp) {x : Int} {B : Nat} {g : Pg} (h0 : 0 ≤ x) (hg : mp (x - x % 4096) = some g) (hf : f (x - x % 4096) = some B) (j : Nat) (hj : (x % 4096).toNat + j < 4096) :
    w.cell? ⟨B, 1 + (x % 4096).toNat + j, none⟩ = some (.int .u8 (byteAt mp (x + j))) := by
  have ho := S.page _ B g hf hg
  rw [ho.cell (by omega)]
  unfold byteAt
  rw [show x + j - (x + j) % 4096 = x - x % 4096 by omega, hg]
  unfold pgF
  rw [if_neg (by omega), show ((x + (j : Int)) % 4096).toNat = 1 + (x % 4096).toNat + j - 1 by omega]

theorem below_row {B g : Nat} {w wr w4 : World} (hb : Below B w wr) (hg : wr.grownBy w4 (some g)) (h : B ≤ g) (hs : B ≤ wr.heap.size) : Below B w w4 :=
  hb.trans ⟨hg.os, hg.tape, hg.output, hg.size, fun k hk => hg.block k (by omega) (fun e => by injection e with e; omega)⟩
theorem below_drewN {B : Nat} {w wr : World} (h : Below B w wr) (n : Nat) : Below B w (wr.drewN n) := ⟨h.os, h.tape, h.output, h.size, h.block⟩
theorem Own.lt {w : World} {g n : Nat} {f : Nat → Value} (h : Own w g n f) : g < w.heap.size := h.1

set_option maxRecDepth 100000 in
theorem bytes_any (R : Nat → Prop) (w : World) (M m : Nat) (most : Int) (mp : Int → Option Pg) (a : Int) (n : Nat) (h0 : 0 ≤ a) (h1 : a + n ≤ 9223372036854775807) (hn : n ≤ 65536) (hin : InM mp a n) (H : MemAt R w M m most mp) :
    Calls Try.prog 47 #[.pointer (some ⟨M, 0, none⟩), .int .u64 a, .int .i64 n] w fun e w' =>
      e = .returned (.slice (some ⟨w.heap.size, 0, none⟩) n n) ∧ Below w.heap.size w w' ∧ Own w' w.heap.size n (fun q => .int .u8 (byteAt mp (a + q))) := by
  have HM := Lib.hid H
  have HIN := Lib.hid hin
  clear H hin
  go_enter Try.func47, Try.ntmps47
  go_wp2_with (at_make; refine wpList_make_bytes _ rfl (.tmp 9) (.tmp 9) 24 rfl 5 (.int .u8 0) 1 (by kernel_rfl) (by kernel_rfl) rfl .i64 .i64 n (by simp [Act.eval, Act.put]) (by simp [Act.eval, Act.put]) (by omega) (by omega) ?_; intro w1 hw1 ho1)
  have HB1 := Lib.hid hw1
  have HO1 := Lib.hid ho1
  clear hw1 ho1
  go_loopw [8] (fun o wr => ∃ i : Nat, i ≤ n ∧ o = .int .i64 i ∧ Below w.heap.size w wr ∧ Own wr w.heap.size n (fun q => .int .u8 (if q < i then byteAt mp (a + q) else 0))) (fun o _ => n - (intOf o).toNat)
  case atStart => exact ⟨0, Nat.zero_le _, rfl, HB1.out, HO1.out.congr fun q _ => by simp⟩
  case round =>
    obtain ⟨i, hi, rfl, hb, ho⟩ := hrel
    have HB := Lib.hid hb
    have HO := Lib.hid ho
    clear hb ho HO1 HB1
    by_cases hlt : i < n
    · obtain ⟨bm, f, S, hRs⟩ := HM.out.below HB.out
      have HRs := Lib.hid hRs
      obtain ⟨g, hg⟩ := Option.ne_none_iff_exists'.1 (HIN.out i (by omega) (by omega))
      obtain ⟨B, hf⟩ := f_some S hg
      have HS := Lib.hid S
      have HG := Lib.hid hg
      have HF := Lib.hid hf
      have e1 : 0 ≤ a + i := by omega
      have e2 : a + i < 18446744073709551616 := by omega
      have wr1 : IntKind.u64.wrap (i : Int) = i := by rw [IntKind.wrap_u64]; omega
      have wr2 : IntKind.u64.wrap (a + i) = a + i := by rw [IntKind.wrap_u64]; omega
      have hne : ¬ n = i := by omega
      obtain ⟨r, hr⟩ : ∃ r, r = ((a + i) % 4096).toNat := ⟨_, rfl⟩
      have hr2 : r < 4096 := by omega
      obtain ⟨k, hk⟩ : ∃ k, k = Nat.min (4096 - r) (n - i) := ⟨_, rfl⟩
      have hk1 : 0 < k ∧ i + k ≤ n ∧ r + k ≤ 4096 := by have := Nat.min_def (n := 4096 - r) (m := n - i); simp only [Nat.min_def] at hk; split at hk <;> omega
      have HSRC : Hid (∀ j, j < k → wr.cell? ⟨B, 1 + r + j, none⟩ = some (.int .u8 (byteAt mp (a + i + j)))) := fun j hj => by rw [hr]; exact page_cells S e1 hg hf j (by omega)
      have HK := Lib.hid hk
      have HK1 := Lib.hid hk1
      have HRE := Lib.hid (show ((a + i) % 4096).toNat = r from hr.symm)
      have wr3 : IntKind.i64.wrap ((i : Int) + (k : Int)) = i + k := by rw [IntKind.wrap_i64]; omega
      clear hg hf hRs S hk hk1 hr
      go_wp2_with fail
      go_region_law (first | (go_simp; go_at_call 70; refine (rest_any wr.drew M bm m most f mp (a + i) B g e1 e2 HS.out.drew HG.out HF.out).mono ?_; rw [HRE.out]; rintro e w3 ⟨rfl, n3, rfl⟩) | (refine step_copy_own rfl (.tmp 17) (.tmp 23) 24 24 rfl 5 (by kernel_rfl) (by kernel_rfl) w.heap.size i (n - i) (n - i) B (1 + r) (4096 - r) (4096 - r) (by simp [Act.eval, Act.put, hne]) (by simp [Act.eval, Act.put]) k n (fun q => .int .u8 (if q < i then byteAt mp (a + q) else 0)) (fun j => .int .u8 (byteAt mp (a + i + j))) HK.out (HO.out.drew.drewN n3) HK1.out.2.1 HSRC.out (fun _ => rfl) ?_; intro w4 hg4 ho4))
      have HB2 := Lib.hid (below_row (below_drewN HB.out (1 + n3)) hg4 (Nat.le_refl _) HB.out.size)
      have HO2 := Lib.hid ho4
      clear hg4 ho4
      simp only [Act.put, List.getElem_toArray, List.getElem_cons_succ, List.getElem_cons_zero, List.setIfInBounds_toArray, List.set_cons_succ, List.set_cons_zero]
      go_wp2
      go_roundw
      case rel => exact ⟨i + k, HK1.out.2.1, by go_num, HB2.out, HO2.out.congr fun q hq => by
        by_cases c1 : i ≤ q ∧ q < i + k
        · rw [if_pos c1, if_pos c1.2, show a + (i : Int) + ((q - i : Nat) : Int) = a + q by omega]
        · rw [if_neg c1]
          by_cases c2 : q < i
          · rw [if_pos c2, if_pos (by omega)]
          · rw [if_neg c2, if_neg (by omega)]⟩
      case measure => have := HK1.out; simp [intOf]; omega
    · obtain rfl : i = n := by omega
      go_wp2
      go_ret
      exact ⟨rfl, HB.out, HO.out.congr fun q hq => by simp [hq]⟩
end Go.Proofs.Ythbgmlmcjnlopaa
namespace Go.Proofs.Ythbgmlmcjnlopaa
open Go.ChangeShapes Go.WideShapes Go.ChangeAt Go.RowKit
open Go.Maps (Keyed)
set_option linter.unusedVariables false
set_option linter.unusedSimpArgs false

/-- n bytes h laid at a. -/
def putP (mp : Int → Option Pg) (a : Int) (n : Nat) (h : Nat → Int) : Int → Option Pg :=
  fun p => (mp p).map fun g => ⟨g.prot, fun j => if p % 4096 = 0 ∧ j < 4096 ∧ a ≤ p + j ∧ p + j < a + n then h (p + j - a).toNat else g.dat j⟩

theorem putP_zero (mp : Int → Option Pg) (a : Int) (h : Nat → Int) : putP mp a 0 h = mp := by
  funext p
  unfold putP
  cases mp p with
  | none => rfl
  | some g =>
    simp only [Option.map_some]
    congr 1
    cases g with
    | mk pr d =>
      congr 1
      funext j
      rw [if_neg (by omega)]

theorem putP_none {mp : Int → Option Pg} {a : Int} {n : Nat} {h : Nat → Int} {p : Int} : putP mp a n h p = none ↔ mp p = none := by
  unfold putP; cases mp p <;> simp

theorem putP_step {mp : Int → Option Pg} {a : Int} {i k r : Nat} {h : Nat → Int} {g' : Pg} (hr : r = ((a + i) % 4096).toNat) (hrk : r + k ≤ 4096) (hg : putP mp a i h (a + i - (a + i) % 4096) = some g') :
    putP mp a (i + k) h = upd (putP mp a i h) (a + i - (a + i) % 4096) (some ⟨g'.prot, fun j => if r ≤ j ∧ j < r + k then h (i + (j - r)) else g'.dat j⟩) := by
  funext x
  by_cases e : x = a + i - (a + i) % 4096
  · rw [e, upd_same]
    unfold putP at hg ⊢
    cases hm : mp (a + i - (a + i) % 4096) with
    | none => rw [hm] at hg; cases hg
    | some g =>
      rw [hm] at hg
      simp only [Option.map_some, Option.some.injEq] at hg ⊢
      subst hg
      simp only [Pg.mk.injEq, true_and]
      funext j
      by_cases c1 : r ≤ j ∧ j < r + k
      · rw [if_pos c1, if_pos (by omega), show (a + (i : Int) - (a + i) % 4096 + j - a).toNat = i + (j - r) by omega]
      · rw [if_neg c1]
        by_cases c2 : (a + (i : Int) - (a + i) % 4096) % 4096 = 0 ∧ j < 4096 ∧ a ≤ a + (i : Int) - (a + i) % 4096 + j ∧ a + (i : Int) - (a + i) % 4096 + j < a + i
        · rw [if_pos c2, if_pos (by omega)]
        · rw [if_neg c2, if_neg (by omega)]
  · rw [upd_other _ _ e]
    unfold putP
    cases mp x with
    | none => rfl
    | some g =>
      simp only [Option.map_some, Option.some.injEq, Pg.mk.injEq, true_and]
      funext j
      by_cases c2 : x % 4096 = 0 ∧ j < 4096 ∧ a ≤ x + j ∧ x + j < a + i
      · rw [if_pos c2, if_pos (by omega)]
      · rw [if_neg c2, if_neg (by omega)]

/-- A slice of n bytes h that lies in one of the blocks R. -/
def SrcR (R : Nat → Prop) (w : World) (A : Option Addr) (n : Nat) (h : Nat → Int) : Prop := n = 0 ∨ ∃ b off, A = some ⟨b, off, none⟩ ∧ R b ∧ ∀ j, j < n → w.cell? ⟨b, off + j, none⟩ = some (.int .u8 (h j))

set_option maxRecDepth 100000 in
theorem put_any (R : Nat → Prop) (w : World) (M m : Nat) (most : Int) (mp : Int → Option Pg) (a : Int) (A : Option Addr) (n cap : Nat) (h : Nat → Int) (h0 : 0 ≤ a) (h1 : a + n ≤ 9223372036854775807) (hn : n ≤ 65536) (hcap : n ≤ cap) (hcap2 : cap ≤ 9223372036854775807) (hin : InM mp a n) (hsrc : SrcR R w A n h) (H : MemAt R w M m most mp) :
    Calls Try.prog 52 #[.pointer (some ⟨M, 0, none⟩), .int .u64 a, .slice A n cap] w fun e w' =>
      e = .returned (.tuple #[]) ∧ MemAt R w' M m most (putP mp a n h) ∧ Kept R w w' := by
  have HM := Lib.hid H
  have HIN := Lib.hid hin
  have HSR := Lib.hid hsrc
  have HR0 : Hid (∀ k, R k → k < w.heap.size) := by obtain ⟨bm, f, S, _, _, _, h⟩ := H; exact h
  clear H hin hsrc
  go_enter Try.func52, Try.ntmps52
  go_wp2_with fail
  go_loopw [6] (fun o wr => ∃ i : Nat, i ≤ n ∧ o = .int .i64 i ∧ MemAt R wr M m most (putP mp a i h) ∧ Kept R w wr) (fun o _ => n - (intOf o).toNat)
  case atStart => exact ⟨0, Nat.zero_le _, rfl, by rw [putP_zero]; exact HM.out, Kept.refl R w⟩
  case round =>
    obtain ⟨i, hi, rfl, hm, hk⟩ := hrel
    have HMr := Lib.hid hm
    have HKr := Lib.hid hk
    clear hk HM
    by_cases hlt : i < n
    · obtain ⟨bm, f, S, hRs⟩ := hm
      have HRs := Lib.hid hRs
      obtain ⟨g, hg⟩ := Option.ne_none_iff_exists'.1 (mt putP_none.1 (HIN.out i (by omega) (by omega)) : putP mp a i h _ ≠ none)
      obtain ⟨B, hf⟩ := f_some S hg
      obtain ⟨b, off, rfl, hRb, hcell⟩ : ∃ b off, A = some ⟨b, off, none⟩ ∧ R b ∧ ∀ j, j < n → w.cell? ⟨b, off + j, none⟩ = some (.int .u8 (h j)) := by
        rcases HSR.out with h | h
        · omega
        · exact h
      have HS := Lib.hid S
      have HG := Lib.hid hg
      have HF := Lib.hid hf
      have e1 : 0 ≤ a + i := by omega
      have e2 : a + i < 18446744073709551616 := by omega
      have wr1 : IntKind.u64.wrap (i : Int) = i := by rw [IntKind.wrap_u64]; omega
      have wr2 : IntKind.u64.wrap (a + i) = a + i := by rw [IntKind.wrap_u64]; omega
      have hne : ¬ cap = i := by omega
      obtain ⟨r, hr⟩ : ∃ r, r = ((a + i) % 4096).toNat := ⟨_, rfl⟩
      have hr2 : r < 4096 := by omega
      obtain ⟨k, hk⟩ : ∃ k, k = Nat.min (n - i) (4096 - r) := ⟨_, rfl⟩
      have hk1 : 0 < k ∧ i + k ≤ n ∧ r + k ≤ 4096 := by simp only [Nat.min_def] at hk; split at hk <;> omega
      have HSRC : Hid (∀ j, j < k → wr.cell? ⟨b, off + i + j, none⟩ = some (.int .u8 (h (i + j)))) := fun j hj => by rw [Nat.add_assoc]; exact (HKr.out.cell (p := ⟨b, off + (i + j), none⟩) hRb).trans (hcell _ (by omega))
      have HO := Lib.hid (S.page _ B g hf hg)
      have HK := Lib.hid hk
      have HK1 := Lib.hid hk1
      have HRE := Lib.hid (show ((a + i) % 4096).toNat = r from hr.symm)
      have HR2 := Lib.hid hr2
      have wr3 : IntKind.i64.wrap ((i : Int) + (k : Int)) = i + k := by rw [IntKind.wrap_i64]; omega
      clear hg hf hRs S hk hk1 hr hr2 hcell
      go_wp2_with fail
      go_region_law (first | (go_simp; go_at_call 70; refine (rest_any wr.drew M bm m most f (putP mp a i h) (a + i) B g e1 e2 HS.out.drew HG.out HF.out).mono ?_; rw [HRE.out]; rintro e w3 ⟨rfl, n3, rfl⟩) | (refine step_copy_own rfl (.tmp 17) (.tmp 20) 24 24 rfl 5 (by kernel_rfl) (by kernel_rfl) B (1 + r) (4096 - r) (4096 - r) b (off + i) (n - i) (cap - i) (by simp [Act.eval, Act.put, hne]) (by simp [Act.eval, Act.put, hne]) k 4097 (pgF g) (fun j => .int .u8 (h (i + j))) HK.out (HO.out.drew.drewN n3) (by have := HK1.out; omega) HSRC.out (fun _ => rfl) ?_; intro w4 hg4 ho4))
      have hS2 := MemIn.turned (g' := ⟨g.prot, fun j => if r ≤ j ∧ j < r + k then h (i + (j - r)) else g.dat j⟩) (HS.out.drewN (1 + n3)) HF.out HG.out hg4 (ho4.congr fun q hq => by
        have h3 := HK1.out
        unfold pgF
        by_cases c0 : q = 0
        · rw [if_pos c0, if_neg (by omega), if_pos c0]
        · rw [if_neg c0, if_neg c0]
          by_cases c1 : 1 + r ≤ q ∧ q < 1 + r + k
          · rw [if_pos c1]
            show _ = Value.int .u8 (if r ≤ q - 1 ∧ q - 1 < r + k then h (i + (q - 1 - r)) else g.dat (q - 1))
            rw [if_pos (by omega), show q - (1 + r) = q - 1 - r by omega]
          · rw [if_neg c1]
            show _ = Value.int .u8 (if r ≤ q - 1 ∧ q - 1 < r + k then h (i + (q - 1 - r)) else g.dat (q - 1))
            rw [if_neg (by omega)])
      rw [← putP_step HRE.out.symm HK1.out.2.2 HG.out] at hS2
      have HM4 : Hid (MemAt R w4 M m most (putP mp a (i + k) h)) := ⟨bm, f, hS2, HRs.out.1, HRs.out.2.1, HRs.out.2.2.1, fun k hk => Nat.lt_of_lt_of_le (HRs.out.2.2.2 k hk) hg4.size⟩
      have HK4 := Lib.hid ((HKr.out.trans (Kept.drewN R wr (1 + n3))).grown hg4 HR0.out (fun k hk hr => by injection hk with hk; subst hk; exact HRs.out.2.2.1 _ _ HF.out hr))
      clear hS2 hg4 ho4
      simp only [Act.put, List.getElem_toArray, List.getElem_cons_succ, List.getElem_cons_zero, List.setIfInBounds_toArray, List.set_cons_succ, List.set_cons_zero]
      go_wp2
      go_roundw
      case rel => exact ⟨i + k, HK1.out.2.1, by go_num, HM4.out, HK4.out⟩
      case measure => have := HK1.out; simp [intOf]; omega
    · obtain rfl : i = n := by omega
      go_wp2
      go_end0
      exact ⟨rfl, HMr.out, HKr.out⟩
end Go.Proofs.Ythbgmlmcjnlopaa
namespace Go.Proofs.Ythbgmlmcjnlopaa
open Go.ChangeShapes Go.WideShapes Go.ChangeAt Go.RowKit
open Go.Maps (Keyed)
set_option linter.unusedVariables false
set_option linter.unusedSimpArgs false

theorem peek_yes (R : Nat → Prop) (w : World) (M m : Nat) (most : Int) (mp : Int → Option Pg) (a : Int) (n : Nat) (h0 : 0 ≤ a) (h1 : a + n ≤ 9223372036854775807) (hn : n ≤ 65536) (hin : InM mp a n) (H : MemAt R w M m most mp) :
    Calls Try.prog 19 #[.pointer (some ⟨M, 0, none⟩), .int .u64 a, .int .i64 n] w fun e w' =>
      e = .returned (.tuple #[.slice (some ⟨w.heap.size, 0, none⟩) n n, .bool true]) ∧ Below w.heap.size w w' ∧ Own w' w.heap.size n (fun q => .int .u8 (byteAt mp (a + q))) := by
  have HM := Lib.hid H
  have HIN := Lib.hid hin
  clear H hin
  go_enter Try.func19, Try.ntmps19
  go_wp2_with (first | (go_at_call 46; refine (has_any R w M m most mp a n true ⟨fun _ => HIN.out, fun _ => rfl⟩ h0 h1 (by omega) (by omega) HM.out).mono ?_; rintro e w1 ⟨rfl, k1, rfl⟩) | (go_at_call 47; refine (bytes_any R _ M m most mp a n h0 h1 hn HIN.out (HM.out.drewN k1)).mono ?_; rintro e w2 ⟨rfl, hb2, ho2⟩))
  go_ret2
  exact ⟨rfl, (below_drewN (Below.refl w.heap.size w) k1).trans hb2, ho2⟩

theorem peek_no (R : Nat → Prop) (w : World) (M m : Nat) (most : Int) (mp : Int → Option Pg) (a : Int) (n : Nat) (h0 : 0 ≤ a) (h1 : a + n ≤ 9223372036854775807) (hn : n ≤ 65536) (hin : ¬ InM mp a n) (H : MemAt R w M m most mp) :
    Calls Try.prog 19 #[.pointer (some ⟨M, 0, none⟩), .int .u64 a, .int .i64 n] w fun e w' =>
      e = .returned (.tuple #[.slice none 0 0, .bool false]) ∧ ∃ k, w' = w.drewN k := by
  have HM := Lib.hid H
  have HIN := Lib.hid hin
  clear H hin
  go_enter Try.func19, Try.ntmps19
  go_wp2_with (go_at_call 46; refine (has_any R w M m most mp a n false ⟨(fun h => by cases h), fun h => absurd h HIN.out⟩ h0 h1 (by omega) (by omega) HM.out).mono ?_; rintro e w1 ⟨rfl, k1, rfl⟩)
  go_ret2
  exact ⟨rfl, k1, rfl⟩

theorem poke_yes (R : Nat → Prop) (w : World) (M m : Nat) (most : Int) (mp : Int → Option Pg) (a : Int) (A : Option Addr) (n cap : Nat) (h : Nat → Int) (h0 : 0 ≤ a) (h1 : a + n ≤ 9223372036854775807) (hn : n ≤ 65536) (hcap : n ≤ cap) (hcap2 : cap ≤ 9223372036854775807) (hin : InM mp a n) (hsrc : SrcR R w A n h) (H : MemAt R w M m most mp) :
    Calls Try.prog 26 #[.pointer (some ⟨M, 0, none⟩), .int .u64 a, .slice A n cap] w fun e w' =>
      e = .returned (.bool true) ∧ MemAt R w' M m most (putP mp a n h) ∧ Kept R w w' := by
  have HM := Lib.hid H
  have HIN := Lib.hid hin
  have HSR := Lib.hid hsrc
  clear H hin hsrc
  go_enter Try.func26, Try.ntmps26
  go_wp2_with (first | (go_at_call 46; refine (has_any R w M m most mp a n true ⟨fun _ => HIN.out, fun _ => rfl⟩ h0 h1 (by omega) (by omega) HM.out).mono ?_; rintro e w1 ⟨rfl, k1, rfl⟩) | (go_at_call 52; refine (put_any R _ M m most mp a A n cap h h0 h1 hn hcap hcap2 HIN.out (show SrcR R (w.drewN k1) A n h from HSR.out) (HM.out.drewN k1)).mono ?_; rintro e w2 ⟨rfl, hm2, hk2⟩))
  go_ret
  exact ⟨rfl, hm2, (Kept.drewN R w k1).trans hk2⟩

theorem poke_no (R : Nat → Prop) (w : World) (M m : Nat) (most : Int) (mp : Int → Option Pg) (a : Int) (A : Option Addr) (n cap : Nat) (h0 : 0 ≤ a) (h1 : a + n ≤ 9223372036854775807) (hn : n ≤ 65536) (hin : ¬ InM mp a n) (H : MemAt R w M m most mp) :
    Calls Try.prog 26 #[.pointer (some ⟨M, 0, none⟩), .int .u64 a, .slice A n cap] w fun e w' =>
      e = .returned (.bool false) ∧ ∃ k, w' = w.drewN k := by
  have HM := Lib.hid H
  have HIN := Lib.hid hin
  clear H hin
  go_enter Try.func26, Try.ntmps26
  go_wp2_with (go_at_call 46; refine (has_any R w M m most mp a n false ⟨(fun h => by cases h), fun h => absurd h HIN.out⟩ h0 h1 (by omega) (by omega) HM.out).mono ?_; rintro e w1 ⟨rfl, k1, rfl⟩)
  go_ret
  exact ⟨rfl, k1, rfl⟩

theorem Own.setFar {w : World} {g n B o : Nat} {f : Nat → Value} (h : Own w g n f) (hne : g ≠ B) (u : Value) : Own (w.setCell ⟨B, o, none⟩ u) g n f :=
  h.of_block (Below.heap_setCell w ⟨B, o, none⟩ u g hne) (by simp [World.setCell])

/-- Read and Fetch: a fault, or the bytes. -/
theorem fetch_no (R : Nat → Prop) (w : World) (M m : Nat) (most : Int) (mp : Int → Option Pg) (a n need kind : Int) (k : Nat) (h0 : 0 ≤ a) (h1 : (a + n ≤ 9223372036854775807 ∨ (mp (a - a % 4096) = none ∧ a < 18446744073709551616))) (hn : n ≤ 65536) (hn0 : 0 ≤ n) (hk : n ≤ k) (hp : ∀ x g, mp x = some g → 0 ≤ g.prot ∧ g.prot ≤ 15) (hf : (askS mp need kind k a n).1 ≠ 0) (H : MemAt R w M m most mp) :
    Calls Try.prog 76 #[.pointer (some ⟨M, 0, none⟩), .int .u64 a, .int .i64 n, .int .i64 need, .int .i64 kind] w fun e w' =>
      e = .returned (.tuple #[.slice none 0 0, .agg #[.int .i64 (askS mp need kind k a n).1, .int .u64 (askS mp need kind k a n).2.1]]) ∧ MemAt R w' M m most (askM mp (askS mp need kind k a n)) ∧ Kept R w w' := by
  have HR0 : Hid (∀ k, R k → k < w.heap.size) := by obtain ⟨bm, f, S, _, _, _, h⟩ := H; exact h
  have HM := Lib.hid H
  have HP := Lib.hid hp
  have HK := Lib.hid hk
  clear H hp hk
  have hmx : max n 0 = n := by omega
  go_enter Try.func76, Try.ntmps76
  go_wp2_with fail
  obtain ⟨R2, hR2⟩ : ∃ R2 : Nat → Prop, R2 = fun k => R k ∨ (w.heap.size ≤ k ∧ k < (w.alloc (.cells #[.int .i64 0, .int .u64 0] 57)).heap.size) := ⟨_, rfl⟩
  have HM1 : Hid (MemAt R2 (w.alloc (.cells #[.int .i64 0, .int .u64 0] 57)) M m most mp) := by
    rw [hR2]
    exact HM.out.more ((Below.refl w.heap.size w).alloc (Nat.le_refl _) (.cells #[.int .i64 0, .int .u64 0] 57))
  have HB2 : Hid (R2 w.heap.size) := by rw [hR2]; exact .inr ⟨Nat.le_refl _, by simp⟩
  have HRR2 : Hid (∀ k, R k → R2 k) := fun k hk => by rw [hR2]; exact .inl hk
  clear hR2
  have HK1 := Lib.hid ((Kept.refl R w).alloc HR0.out (.cells #[.int .i64 0, .int .u64 0] 57))
  have HB : Hid (¬ R w.heap.size) := fun h => by have := HR0.out _ h; omega
  have hO : Own (w.alloc (.cells #[.int .i64 0, .int .u64 0] 57)) w.heap.size 2 (fun i => if i = 0 then .int .i64 0 else .int .u64 0) := ⟨by simp, fun i hi => ⟨by rcases (by omega : i = 0 ∨ i = 1) with rfl | rfl <;> simp [go_sem], by simp [go_sem]⟩⟩
  have HO0 := Lib.hid hO
  clear HM hO
  generalize w.alloc (.cells #[.int .i64 0, .int .u64 0] 57) = W0 at *
  refine (ask_any R2 W0 M m most mp a n need kind k h0 h1 hn hn0 HK.out HP.out HM1.out).mono ?_
  rintro e w1 ⟨rfl, hm, hk⟩
  obtain ⟨r, hr⟩ : ∃ r, askS mp need kind k a n = r := ⟨_, rfl⟩
  rw [hr] at hf hm
  simp only [hr]
  have HM2 := Lib.hid hm
  have HK2 := Lib.hid (HK1.out.trans (hk.mono HRR2.out))
  have ho := hk.own HO0.out HB2.out
  have hlt := ho.1
  have HO2 := Lib.hid ho
  have HR2 : Hid (∀ k, R k → k < w1.heap.size) := fun k hk => Nat.lt_of_lt_of_le (HR0.out k hk) HK2.out.size
  have hne : ¬ w1.heap.size = w.heap.size := by omega
  have o0 := ho.cell (i := 0) (by omega)
  have o1 := ho.cell (i := 1) (by omega)
  have z0 := ho.frozen (i := 0) (by omega)
  have z1 := ho.frozen (i := 1) (by omega)
  simp only [if_pos, if_neg, Nat.one_ne_zero] at o0 o1
  have HM3 := Lib.hid ((HM2.out.more ((Below.refl w1.heap.size w1).alloc (Nat.le_refl _) (.cells #[.int .i64 r.1, .int .u64 r.2.1] 57))).weaken (R := R2) (fun k hk => .inl hk))
  have HK3 := Lib.hid (HK2.out.trans ((Kept.refl R w1).alloc HR2.out (.cells #[.int .i64 r.1, .int .u64 r.2.1] 57)))
  have HRQ := Lib.hid hr
  clear hm hk hr ho
  go_wp2
  go_region
  all_goals go_wp2
  have hX := ((HO2.out.set (i := 0) (by omega) (.int .i64 r.1)).set (i := 1) (by omega) (.int .u64 r.2.1)).alloc (.cells #[.int .i64 r.1, .int .u64 r.2.1] 57)
  have c0 := hX.cell (i := 0) (by omega)
  have c1 := hX.cell (i := 1) (by omega)
  simp only [if_pos, if_neg, Nat.one_ne_zero, Nat.zero_ne_one, if_true, if_false] at c0 c1
  try rw [HRQ.out]
  exact bodyPost_ret (v := .tuple #[.slice none 0 0, .agg #[.int .i64 r.1, .int .u64 r.2.1]]) (by simp [results, Try.results76, go_sem, c0, c1]) rfl ⟨rfl, ((((HM2.out.setFar HB2.out _).setFar HB2.out _).more ((Below.refl _ _).alloc (Nat.le_refl _) _)).weaken (fun k hk => .inl (HRR2.out k hk))).drewN 1, (((HK2.out.setCell HB.out _).setCell HB.out _).alloc HR0.out _).drew⟩

theorem askS_ok {mp : Int → Option Pg} {need kind : Int} (hk0 : kind ≠ 0) : ∀ (k : Nat) (a n : Int), 0 ≤ a → n ≤ k → (askS mp need kind k a n).1 = 0 → InM mp a n ∧ (askS mp need kind k a n).2.2 = none ∧ (askS mp need kind k a n).2.1 = 0
  | 0, a, n, _, hn, _ => ⟨fun i h1 h2 => by omega, rfl, rfl⟩
  | k + 1, a, n, h0, hn, h => by
    unfold askS at h ⊢
    by_cases c0 : n ≤ 0
    · rw [if_pos c0]
      exact ⟨fun i h1 h2 => by omega, rfl, rfl⟩
    · rw [if_neg c0] at h ⊢
      cases hg : mp (a - a % 4096) with
      | none => rw [hg] at h; simp at h
      | some g =>
        rw [hg] at h
        simp only at h ⊢
        by_cases c1 : (bits .and .i64 g.prot 8 != 0) = true
        · rw [if_pos c1] at h; simp at h
        · rw [if_neg c1] at h ⊢
          by_cases c2 : (bits .and .i64 g.prot need == 0) = true
          · rw [if_pos c2] at h; exact absurd h hk0
          · rw [if_neg c2] at h ⊢
            obtain ⟨h1, h2, h3⟩ := askS_ok hk0 k _ _ (by omega) (by omega) h
            exact ⟨(InM.step (by rw [hg]; simp) h0 rfl).2 h1, h2, h3⟩

theorem fetch_yes (R : Nat → Prop) (w : World) (M m : Nat) (most : Int) (mp : Int → Option Pg) (a : Int) (n : Nat) (need kind : Int) (h0 : 0 ≤ a) (h1 : a + n ≤ 9223372036854775807) (hn : n ≤ 65536) (hkd : kind ≠ 0) (hp : ∀ x g, mp x = some g → 0 ≤ g.prot ∧ g.prot ≤ 15) (hf : (askS mp need kind n a n).1 = 0) (H : MemAt R w M m most mp) :
    Calls Try.prog 76 #[.pointer (some ⟨M, 0, none⟩), .int .u64 a, .int .i64 n, .int .i64 need, .int .i64 kind] w fun e w' =>
      ∃ g, w.heap.size ≤ g ∧ e = .returned (.tuple #[.slice (some ⟨g, 0, none⟩) n n, .agg #[.int .i64 0, .int .u64 0]]) ∧ Own w' g n (fun q => .int .u8 (byteAt mp (a + q))) ∧ MemAt (fun k => R k ∨ k = g) w' M m most mp ∧ Kept R w w' := by
  have HR0 : Hid (∀ k, R k → k < w.heap.size) := by obtain ⟨bm, f, S, _, _, _, h⟩ := H; exact h
  have HM := Lib.hid H
  have HP := Lib.hid hp
  obtain ⟨hin, hq, hq2⟩ := askS_ok (mp := mp) (need := need) hkd n a n h0 (Int.le_refl _) hf
  have HIN := Lib.hid hin
  clear H hp hin
  have hmx : max (n : Int) 0 = n := by omega
  go_enter Try.func76, Try.ntmps76
  go_wp2_with fail
  obtain ⟨R2, hR2⟩ : ∃ R2 : Nat → Prop, R2 = fun k => R k ∨ (w.heap.size ≤ k ∧ k < (w.alloc (.cells #[.int .i64 0, .int .u64 0] 57)).heap.size) := ⟨_, rfl⟩
  have HM1 : Hid (MemAt R2 (w.alloc (.cells #[.int .i64 0, .int .u64 0] 57)) M m most mp) := by
    rw [hR2]
    exact HM.out.more ((Below.refl w.heap.size w).alloc (Nat.le_refl _) (.cells #[.int .i64 0, .int .u64 0] 57))
  have HB2 : Hid (R2 w.heap.size) := by rw [hR2]; exact .inr ⟨Nat.le_refl _, by simp⟩
  have HRR2 : Hid (∀ k, R k → R2 k) := fun k hk => by rw [hR2]; exact .inl hk
  clear hR2
  have HK1 := Lib.hid ((Kept.refl R w).alloc HR0.out (.cells #[.int .i64 0, .int .u64 0] 57))
  have HB : Hid (¬ R w.heap.size) := fun h => by have := HR0.out _ h; omega
  have hO : Own (w.alloc (.cells #[.int .i64 0, .int .u64 0] 57)) w.heap.size 2 (fun i => if i = 0 then .int .i64 0 else .int .u64 0) := ⟨by simp, fun i hi => ⟨by rcases (by omega : i = 0 ∨ i = 1) with rfl | rfl <;> simp [go_sem], by simp [go_sem]⟩⟩
  have HO0 := Lib.hid hO
  clear HM hO
  generalize w.alloc (.cells #[.int .i64 0, .int .u64 0] 57) = W0 at *
  refine (ask_any R2 W0 M m most mp a n need kind n h0 (.inl h1) (by omega) (by omega) (Int.le_refl _) HP.out HM1.out).mono ?_
  rintro e w1 ⟨rfl, hm, hk⟩
  unfold askM at hm
  rw [hq] at hm
  simp only [hf, hq2] at hm ⊢
  have HM2 := Lib.hid hm
  have HK2 := Lib.hid (HK1.out.trans (hk.mono HRR2.out))
  have ho := hk.own HO0.out HB2.out
  have HO2 := Lib.hid ho
  have hlt := ho.1
  have HM3 := Lib.hid (HM2.out.below ((Below.refl w1.heap.size w1).alloc (Nat.le_refl _) (.cells #[.int .i64 0, .int .u64 0] 57)))
  have HO3 := Lib.hid (ho.alloc (.cells #[.int .i64 0, .int .u64 0] 57))
  have HK3 := Lib.hid (HK2.out.alloc HR0.out (.cells #[.int .i64 0, .int .u64 0] 57))
  clear hm hk ho hf hq hq2
  go_wp2_with fail
  refine (bytes_any R2 _ M m most mp a n h0 h1 hn HIN.out HM3.out).mono ?_
  rintro e w2 ⟨rfl, hb2, ho2⟩
  have HB3 := Lib.hid hb2
  have HO4 := Lib.hid ho2
  have ho := HO3.out.below hb2 (by simp; omega)
  have o0 := ho.cell (i := 0) (by omega)
  have o1 := ho.cell (i := 1) (by omega)
  have z0 := ho.frozen (i := 0) (by omega)
  have z1 := ho.frozen (i := 1) (by omega)
  simp only [if_pos, if_neg, Nat.one_ne_zero] at o0 o1
  have HO5 := Lib.hid ho
  clear ho hb2 ho2
  go_wp2
  try go_region
  all_goals try go_wp2
  have hX := (HO5.out.set (i := 0) (by omega) (.int .i64 0)).set (i := 1) (by omega) (.int .u64 0)
  have c0 := hX.cell (i := 0) (by omega)
  have c1 := hX.cell (i := 1) (by omega)
  simp only [if_pos, if_neg, Nat.one_ne_zero, Nat.zero_ne_one, if_true, if_false] at c0 c1
  have hsz : (w1.alloc (.cells #[.int .i64 0, .int .u64 0] 57)).heap.size = w1.heap.size + 1 := by simp
  have hM4 := HM3.out.more HB3.out
  have hO4 := HO4.out
  have hK4 := HK3.out.trans (Kept.of_below HB3.out (fun k hk => Nat.lt_of_lt_of_le (HR0.out k hk) HK3.out.size))
  rw [hsz] at hM4 hO4
  have hlt4 := hO4.1
  exact bodyPost_ret (v := .tuple #[.slice (some ⟨w1.heap.size + 1, 0, none⟩) n n, .agg #[.int .i64 0, .int .u64 0]]) (by simp [results, Try.results76, go_sem, c0, c1]) rfl
    ⟨w1.heap.size + 1, by omega, rfl, (hO4.setFar (by omega) _).setFar (by omega) _, ((hM4.setFar (.inl HB2.out) _).setFar (.inl HB2.out) _).weaken (fun k hk => by
      rcases hk with h | h
      · exact .inl (HRR2.out k h)
      · exact .inr ⟨by omega, by omega⟩), (hK4.setCell HB.out _).setCell HB.out _⟩
end Go.Proofs.Ythbgmlmcjnlopaa
namespace Go.Proofs.Ythbgmlmcjnlopaa
open Go.ChangeShapes Go.WideShapes Go.ChangeAt Go.RowKit
open Go.Maps (Keyed)
set_option linter.unusedVariables false
set_option linter.unusedSimpArgs false

/-- The block of a result that is a fault, made at the call's beginning. -/
structure ResBlk (R R2 : Nat → Prop) (w W0 : World) (M m : Nat) (most : Int) (mp : Int → Option Pg) : Prop where
  hm : MemAt R2 W0 M m most mp
  hB2 : R2 w.heap.size
  sub : ∀ k, R k → R2 k
  kept : Kept R w W0
  hB : ¬ R w.heap.size
  own : Own W0 w.heap.size 2 (fun i => if i = 0 then .int .i64 0 else .int .u64 0)
  lt : ∀ k, R k → k < w.heap.size

theorem resBlk {R : Nat → Prop} {w : World} {M m : Nat} {most : Int} {mp : Int → Option Pg} (H : MemAt R w M m most mp) : ∃ R2, ResBlk R R2 w (w.alloc (.cells #[.int .i64 0, .int .u64 0] 57)) M m most mp := by
  have HR0 : ∀ k, R k → k < w.heap.size := by obtain ⟨bm, f, S, _, _, _, h⟩ := H; exact h
  refine ⟨fun k => R k ∨ (w.heap.size ≤ k ∧ k < (w.alloc (.cells #[.int .i64 0, .int .u64 0] 57)).heap.size), H.more ((Below.refl w.heap.size w).alloc (Nat.le_refl _) (.cells #[.int .i64 0, .int .u64 0] 57)), .inr ⟨Nat.le_refl _, by simp⟩, fun k hk => .inl hk, (Kept.refl R w).alloc HR0 (.cells #[.int .i64 0, .int .u64 0] 57), fun h => by have := HR0 _ h; omega, ?_, HR0⟩
  exact ⟨by simp, fun i hi => ⟨by rcases (by omega : i = 0 ∨ i = 1) with rfl | rfl <;> simp [go_sem], by simp [go_sem]⟩⟩

theorem read_no (R : Nat → Prop) (w : World) (M m : Nat) (most : Int) (mp : Int → Option Pg) (a n : Int) (k : Nat) (h0 : 0 ≤ a) (h1 : (a + n ≤ 9223372036854775807 ∨ (mp (a - a % 4096) = none ∧ a < 18446744073709551616))) (hn : n ≤ 65536) (hn0 : 0 ≤ n) (hk : n ≤ k) (hp : ∀ x g, mp x = some g → 0 ≤ g.prot ∧ g.prot ≤ 15) (hf : (askS mp 1 2 k a n).1 ≠ 0) (H : MemAt R w M m most mp) :
    Calls Try.prog 82 #[.pointer (some ⟨M, 0, none⟩), .int .u64 a, .int .i64 n] w fun e w' =>
      e = .returned (.tuple #[.slice none 0 0, .agg #[.int .i64 (askS mp 1 2 k a n).1, .int .u64 (askS mp 1 2 k a n).2.1]]) ∧ MemAt R w' M m most (askM mp (askS mp 1 2 k a n)) ∧ Kept R w w' := by
  obtain ⟨R2, hb⟩ := resBlk H
  have HRB := Lib.hid hb
  have HP := Lib.hid hp
  clear hb H hp
  go_enter Try.func82, Try.ntmps82
  go_wp2_with fail
  generalize w.alloc (.cells #[.int .i64 0, .int .u64 0] 57) = W0 at *
  refine (fetch_no R2 W0 M m most mp a n 1 2 k h0 h1 hn hn0 hk HP.out hf HRB.out.hm).mono ?_
  obtain ⟨r, hr⟩ : ∃ r, askS mp 1 2 k a n = r := ⟨_, rfl⟩
  rw [hr] at hf
  simp only [hr]
  rintro e w1 ⟨rfl, hm, hk⟩
  have HM2 := Lib.hid hm
  have HK2 := Lib.hid (HRB.out.kept.trans (hk.mono HRB.out.sub))
  have ho := hk.own HRB.out.own HRB.out.hB2
  have HO2 := Lib.hid ho
  have o0 := ho.cell (i := 0) (by omega)
  have o1 := ho.cell (i := 1) (by omega)
  have z0 := ho.frozen (i := 0) (by omega)
  have z1 := ho.frozen (i := 1) (by omega)
  simp only [if_pos, if_neg, Nat.one_ne_zero] at o0 o1
  have HRQ := Lib.hid hr
  clear hm hk hr ho
  go_wp2
  have hX := (HO2.out.set (i := 0) (by omega) (.int .i64 r.1)).set (i := 1) (by omega) (.int .u64 r.2.1)
  have c0 := hX.cell (i := 0) (by omega)
  have c1 := hX.cell (i := 1) (by omega)
  simp only [if_pos, if_neg, Nat.one_ne_zero, Nat.zero_ne_one, if_true, if_false] at c0 c1
  try rw [HRQ.out]
  exact bodyPost_ret (v := .tuple #[.slice none 0 0, .agg #[.int .i64 r.1, .int .u64 r.2.1]]) (by simp [results, Try.results82, go_sem, c0, c1]) rfl ⟨rfl, ((HM2.out.setFar HRB.out.hB2 _).setFar HRB.out.hB2 _).weaken HRB.out.sub, (HK2.out.setCell HRB.out.hB _).setCell HRB.out.hB _⟩

theorem read_yes (R : Nat → Prop) (w : World) (M m : Nat) (most : Int) (mp : Int → Option Pg) (a : Int) (n : Nat) (h0 : 0 ≤ a) (h1 : a + n ≤ 9223372036854775807) (hn : n ≤ 65536) (hp : ∀ x g, mp x = some g → 0 ≤ g.prot ∧ g.prot ≤ 15) (hf : (askS mp 1 2 n a n).1 = 0) (H : MemAt R w M m most mp) :
    Calls Try.prog 82 #[.pointer (some ⟨M, 0, none⟩), .int .u64 a, .int .i64 n] w fun e w' =>
      ∃ g, w.heap.size ≤ g ∧ e = .returned (.tuple #[.slice (some ⟨g, 0, none⟩) n n, .agg #[.int .i64 0, .int .u64 0]]) ∧ Own w' g n (fun q => .int .u8 (byteAt mp (a + q))) ∧ MemAt (fun k => R k ∨ k = g) w' M m most mp ∧ Kept R w w' := by
  obtain ⟨R2, hb⟩ := resBlk H
  have HRB := Lib.hid hb
  have HP := Lib.hid hp
  clear hb H hp
  go_enter Try.func82, Try.ntmps82
  go_wp2_with fail
  generalize w.alloc (.cells #[.int .i64 0, .int .u64 0] 57) = W0 at *
  refine (fetch_yes R2 W0 M m most mp a n 1 2 h0 h1 hn (by omega) HP.out hf HRB.out.hm).mono ?_
  rintro e w1 ⟨g, hg, rfl, hog, hm, hk⟩
  have HM2 := Lib.hid hm
  have HK2 := Lib.hid (HRB.out.kept.trans (hk.mono HRB.out.sub))
  have ho := hk.own HRB.out.own HRB.out.hB2
  have hlt := HRB.out.own.1
  have HO2 := Lib.hid ho
  have HOG := Lib.hid hog
  have o0 := ho.cell (i := 0) (by omega)
  have o1 := ho.cell (i := 1) (by omega)
  have z0 := ho.frozen (i := 0) (by omega)
  have z1 := ho.frozen (i := 1) (by omega)
  simp only [if_pos, if_neg, Nat.one_ne_zero] at o0 o1
  clear hm hk ho hog
  go_wp2
  have hX := (HO2.out.set (i := 0) (by omega) (.int .i64 0)).set (i := 1) (by omega) (.int .u64 0)
  have c0 := hX.cell (i := 0) (by omega)
  have c1 := hX.cell (i := 1) (by omega)
  simp only [if_pos, if_neg, Nat.one_ne_zero, Nat.zero_ne_one, if_true, if_false] at c0 c1
  exact bodyPost_ret (v := .tuple #[.slice (some ⟨g, 0, none⟩) n n, .agg #[.int .i64 0, .int .u64 0]]) (by simp [results, Try.results82, go_sem, c0, c1]) rfl
    ⟨g, by omega, rfl, (HOG.out.setFar (by omega) _).setFar (by omega) _, ((HM2.out.setFar (.inl HRB.out.hB2) _).setFar (.inl HRB.out.hB2) _).weaken (fun k hk => by
      rcases hk with h | h
      · exact .inl (HRB.out.sub k h)
      · exact .inr h), (HK2.out.setCell HRB.out.hB _).setCell HRB.out.hB _⟩

theorem run_no (R : Nat → Prop) (w : World) (M m : Nat) (most : Int) (mp : Int → Option Pg) (a n : Int) (k : Nat) (h0 : 0 ≤ a) (h1 : (a + n ≤ 9223372036854775807 ∨ (mp (a - a % 4096) = none ∧ a < 18446744073709551616))) (hn : n ≤ 65536) (hn0 : 0 ≤ n) (hk : n ≤ k) (hp : ∀ x g, mp x = some g → 0 ≤ g.prot ∧ g.prot ≤ 15) (hf : (askS mp 4 4 k a n).1 ≠ 0) (H : MemAt R w M m most mp) :
    Calls Try.prog 61 #[.pointer (some ⟨M, 0, none⟩), .int .u64 a, .int .i64 n] w fun e w' =>
      e = .returned (.tuple #[.slice none 0 0, .agg #[.int .i64 (askS mp 4 4 k a n).1, .int .u64 (askS mp 4 4 k a n).2.1]]) ∧ MemAt R w' M m most (askM mp (askS mp 4 4 k a n)) ∧ Kept R w w' := by
  obtain ⟨R2, hb⟩ := resBlk H
  have HRB := Lib.hid hb
  have HP := Lib.hid hp
  clear hb H hp
  go_enter Try.func61, Try.ntmps61
  go_wp2_with fail
  generalize w.alloc (.cells #[.int .i64 0, .int .u64 0] 57) = W0 at *
  refine (fetch_no R2 W0 M m most mp a n 4 4 k h0 h1 hn hn0 hk HP.out hf HRB.out.hm).mono ?_
  obtain ⟨r, hr⟩ : ∃ r, askS mp 4 4 k a n = r := ⟨_, rfl⟩
  rw [hr] at hf
  simp only [hr]
  rintro e w1 ⟨rfl, hm, hk⟩
  have HM2 := Lib.hid hm
  have HK2 := Lib.hid (HRB.out.kept.trans (hk.mono HRB.out.sub))
  have ho := hk.own HRB.out.own HRB.out.hB2
  have HO2 := Lib.hid ho
  have o0 := ho.cell (i := 0) (by omega)
  have o1 := ho.cell (i := 1) (by omega)
  have z0 := ho.frozen (i := 0) (by omega)
  have z1 := ho.frozen (i := 1) (by omega)
  simp only [if_pos, if_neg, Nat.one_ne_zero] at o0 o1
  have HRQ := Lib.hid hr
  clear hm hk hr ho
  go_wp2
  have hX := (HO2.out.set (i := 0) (by omega) (.int .i64 r.1)).set (i := 1) (by omega) (.int .u64 r.2.1)
  have c0 := hX.cell (i := 0) (by omega)
  have c1 := hX.cell (i := 1) (by omega)
  simp only [if_pos, if_neg, Nat.one_ne_zero, Nat.zero_ne_one, if_true, if_false] at c0 c1
  try rw [HRQ.out]
  exact bodyPost_ret (v := .tuple #[.slice none 0 0, .agg #[.int .i64 r.1, .int .u64 r.2.1]]) (by simp [results, Try.results61, go_sem, c0, c1]) rfl ⟨rfl, ((HM2.out.setFar HRB.out.hB2 _).setFar HRB.out.hB2 _).weaken HRB.out.sub, (HK2.out.setCell HRB.out.hB _).setCell HRB.out.hB _⟩

theorem run_yes (R : Nat → Prop) (w : World) (M m : Nat) (most : Int) (mp : Int → Option Pg) (a : Int) (n : Nat) (h0 : 0 ≤ a) (h1 : a + n ≤ 9223372036854775807) (hn : n ≤ 65536) (hp : ∀ x g, mp x = some g → 0 ≤ g.prot ∧ g.prot ≤ 15) (hf : (askS mp 4 4 n a n).1 = 0) (H : MemAt R w M m most mp) :
    Calls Try.prog 61 #[.pointer (some ⟨M, 0, none⟩), .int .u64 a, .int .i64 n] w fun e w' =>
      ∃ g, w.heap.size ≤ g ∧ e = .returned (.tuple #[.slice (some ⟨g, 0, none⟩) n n, .agg #[.int .i64 0, .int .u64 0]]) ∧ Own w' g n (fun q => .int .u8 (byteAt mp (a + q))) ∧ MemAt (fun k => R k ∨ k = g) w' M m most mp ∧ Kept R w w' := by
  obtain ⟨R2, hb⟩ := resBlk H
  have HRB := Lib.hid hb
  have HP := Lib.hid hp
  clear hb H hp
  go_enter Try.func61, Try.ntmps61
  go_wp2_with fail
  generalize w.alloc (.cells #[.int .i64 0, .int .u64 0] 57) = W0 at *
  refine (fetch_yes R2 W0 M m most mp a n 4 4 h0 h1 hn (by omega) HP.out hf HRB.out.hm).mono ?_
  rintro e w1 ⟨g, hg, rfl, hog, hm, hk⟩
  have HM2 := Lib.hid hm
  have HK2 := Lib.hid (HRB.out.kept.trans (hk.mono HRB.out.sub))
  have ho := hk.own HRB.out.own HRB.out.hB2
  have hlt := HRB.out.own.1
  have HO2 := Lib.hid ho
  have HOG := Lib.hid hog
  have o0 := ho.cell (i := 0) (by omega)
  have o1 := ho.cell (i := 1) (by omega)
  have z0 := ho.frozen (i := 0) (by omega)
  have z1 := ho.frozen (i := 1) (by omega)
  simp only [if_pos, if_neg, Nat.one_ne_zero] at o0 o1
  clear hm hk ho hog
  go_wp2
  have hX := (HO2.out.set (i := 0) (by omega) (.int .i64 0)).set (i := 1) (by omega) (.int .u64 0)
  have c0 := hX.cell (i := 0) (by omega)
  have c1 := hX.cell (i := 1) (by omega)
  simp only [if_pos, if_neg, Nat.one_ne_zero, Nat.zero_ne_one, if_true, if_false] at c0 c1
  exact bodyPost_ret (v := .tuple #[.slice (some ⟨g, 0, none⟩) n n, .agg #[.int .i64 0, .int .u64 0]]) (by simp [results, Try.results61, go_sem, c0, c1]) rfl
    ⟨g, by omega, rfl, (HOG.out.setFar (by omega) _).setFar (by omega) _, ((HM2.out.setFar (.inl HRB.out.hB2) _).setFar (.inl HRB.out.hB2) _).weaken (fun k hk => by
      rcases hk with h | h
      · exact .inl (HRB.out.sub k h)
      · exact .inr h), (HK2.out.setCell HRB.out.hB _).setCell HRB.out.hB _⟩

end Go.Proofs.Ythbgmlmcjnlopaa
namespace Go.Proofs.Ythbgmlmcjnlopaa
open Go.ChangeShapes Go.WideShapes Go.ChangeAt Go.RowKit
open Go.Maps (Keyed)
set_option linter.unusedVariables false
set_option linter.unusedSimpArgs false

theorem write_no (R : Nat → Prop) (w : World) (M m : Nat) (most : Int) (mp : Int → Option Pg) (a : Int) (A : Option Addr) (n cap : Nat) (h0 : 0 ≤ a) (h1 : (a + n ≤ 9223372036854775807 ∨ (mp (a - a % 4096) = none ∧ a < 18446744073709551616))) (hn : n ≤ 65536) (hp : ∀ x g, mp x = some g → 0 ≤ g.prot ∧ g.prot ≤ 15) (hf : (askS mp 2 3 n a n).1 ≠ 0) (H : MemAt R w M m most mp) :
    Calls Try.prog 54 #[.pointer (some ⟨M, 0, none⟩), .int .u64 a, .slice A n cap] w fun e w' =>
      e = .returned (.agg #[.int .i64 (askS mp 2 3 n a n).1, .int .u64 (askS mp 2 3 n a n).2.1]) ∧ MemAt R w' M m most (askM mp (askS mp 2 3 n a n)) ∧ Kept R w w' := by
  obtain ⟨R2, hb⟩ := resBlk H
  have HRB := Lib.hid hb
  have HP := Lib.hid hp
  clear hb H hp
  go_enter Try.func54, Try.ntmps54
  go_wp2_with fail
  generalize w.alloc (.cells #[.int .i64 0, .int .u64 0] 57) = W0 at *
  refine (ask_any R2 W0 M m most mp a n 2 3 n h0 h1 (by omega) (by omega) (Int.le_refl _) HP.out HRB.out.hm).mono ?_
  obtain ⟨r, hr⟩ : ∃ r, askS mp 2 3 n a n = r := ⟨_, rfl⟩
  rw [hr] at hf
  simp only [hr]
  rintro e w1 ⟨rfl, hm, hk⟩
  have HM2 := Lib.hid hm
  have HK2 := Lib.hid (HRB.out.kept.trans (hk.mono HRB.out.sub))
  have ho := hk.own HRB.out.own HRB.out.hB2
  have hlt := ho.1
  have HO2 := Lib.hid ho
  have o0 := ho.cell (i := 0) (by omega)
  have o1 := ho.cell (i := 1) (by omega)
  have z0 := ho.frozen (i := 0) (by omega)
  have z1 := ho.frozen (i := 1) (by omega)
  simp only [if_pos, if_neg, Nat.one_ne_zero] at o0 o1
  have HRQ := Lib.hid hr
  have hne : ¬ w1.heap.size = w.heap.size := by omega
  clear hm hk hr ho
  go_wp2
  try go_region
  all_goals try go_wp2
  have hX := ((HO2.out.set (i := 0) (by omega) (.int .i64 r.1)).set (i := 1) (by omega) (.int .u64 r.2.1)).alloc (.cells #[.int .i64 r.1, .int .u64 r.2.1] 57)
  have c0 := hX.cell (i := 0) (by omega)
  have c1 := hX.cell (i := 1) (by omega)
  simp only [if_pos, if_neg, Nat.one_ne_zero, Nat.zero_ne_one, if_true, if_false] at c0 c1
  try rw [HRQ.out]
  exact bodyPost_ret (v := .agg #[.int .i64 r.1, .int .u64 r.2.1]) (by simp [results, Try.results54, go_sem, c0, c1]) rfl ⟨rfl, (((HM2.out.setFar HRB.out.hB2 _).setFar HRB.out.hB2 _).more ((Below.refl _ _).alloc (Nat.le_refl _) _)).weaken (fun k hk => .inl (HRB.out.sub k hk)), ((HK2.out.setCell HRB.out.hB _).setCell HRB.out.hB _).alloc HRB.out.lt _⟩

theorem write_yes (R : Nat → Prop) (w : World) (M m : Nat) (most : Int) (mp : Int → Option Pg) (a : Int) (A : Option Addr) (n cap : Nat) (h : Nat → Int) (h0 : 0 ≤ a) (h1 : a + n ≤ 9223372036854775807) (hn : n ≤ 65536) (hcap : n ≤ cap) (hcap2 : cap ≤ 9223372036854775807) (hsrc : SrcR R w A n h) (hp : ∀ x g, mp x = some g → 0 ≤ g.prot ∧ g.prot ≤ 15) (hf : (askS mp 2 3 n a n).1 = 0) (H : MemAt R w M m most mp) :
    Calls Try.prog 54 #[.pointer (some ⟨M, 0, none⟩), .int .u64 a, .slice A n cap] w fun e w' =>
      e = .returned (.agg #[.int .i64 0, .int .u64 0]) ∧ MemAt R w' M m most (putP mp a n h) ∧ Kept R w w' := by
  obtain ⟨R2, hb⟩ := resBlk H
  have HRB := Lib.hid hb
  have HP := Lib.hid hp
  have HSR := Lib.hid hsrc
  obtain ⟨hin, hq, hq2⟩ := askS_ok (mp := mp) (need := 2) (kind := 3) (by omega) n a n h0 (Int.le_refl _) hf
  have HIN := Lib.hid hin
  clear hb H hp hsrc hin
  go_enter Try.func54, Try.ntmps54
  go_wp2_with fail
  generalize w.alloc (.cells #[.int .i64 0, .int .u64 0] 57) = W0 at *
  refine (ask_any R2 W0 M m most mp a n 2 3 n h0 (.inl h1) (by omega) (by omega) (Int.le_refl _) HP.out HRB.out.hm).mono ?_
  rintro e w1 ⟨rfl, hm, hk⟩
  unfold askM at hm
  rw [hq] at hm
  simp only [hf, hq2] at hm ⊢
  have HK2 := Lib.hid (HRB.out.kept.trans (hk.mono HRB.out.sub))
  have HR2 : Hid (∀ k, R2 k → k < w1.heap.size) := by obtain ⟨bm, f, S, _, _, _, h⟩ := hm; exact h
  have ho := hk.own HRB.out.own HRB.out.hB2
  have hb1 := (Below.refl w1.heap.size w1).alloc (Nat.le_refl _) (.cells #[.int .i64 0, .int .u64 0] 57)
  obtain ⟨R3, hR3⟩ : ∃ R3 : Nat → Prop, R3 = fun k => R2 k ∨ (w1.heap.size ≤ k ∧ k < (w1.alloc (.cells #[.int .i64 0, .int .u64 0] 57)).heap.size) := ⟨_, rfl⟩
  have HM3 : Hid (MemAt R3 (w1.alloc (.cells #[.int .i64 0, .int .u64 0] 57)) M m most mp) := by rw [hR3]; exact hm.more hb1
  have H23 : Hid (∀ k, R2 k → R3 k) := fun k hk => by rw [hR3]; exact .inl hk
  have H13 : Hid (R3 w1.heap.size) := by rw [hR3]; exact .inr ⟨Nat.le_refl _, by simp⟩
  have HO3 := Lib.hid (ho.alloc (.cells #[.int .i64 0, .int .u64 0] 57))
  have HK3 := Lib.hid (HK2.out.alloc HRB.out.lt (.cells #[.int .i64 0, .int .u64 0] 57))
  have HN3 : Hid (Own (w1.alloc (.cells #[.int .i64 0, .int .u64 0] 57)) w1.heap.size 2 (fun i => if i = 0 then .int .i64 0 else .int .u64 0)) := ⟨by simp, fun i hi => ⟨by rcases (by omega : i = 0 ∨ i = 1) with rfl | rfl <;> simp [go_sem], by simp [go_sem]⟩⟩
  have HS3 : Hid (SrcR R3 (w1.alloc (.cells #[.int .i64 0, .int .u64 0] 57)) A n h) := by
    rcases HSR.out with h | ⟨b, off, hA, hb, hc⟩
    · exact .inl h
    · exact .inr ⟨b, off, hA, H23.out _ (HRB.out.sub _ hb), fun j hj => (HK3.out.cell (p := ⟨b, off + j, none⟩) hb).trans (hc j hj)⟩
  have hlt := ho.1
  have HL := Lib.hid hlt
  clear hm hk ho hf hq hq2 hR3 hb1 hlt
  go_wp2_with fail
  generalize w1.alloc (.cells #[.int .i64 0, .int .u64 0] 57) = W1 at *
  refine (put_any R3 W1 M m most mp a A n cap h h0 h1 hn hcap hcap2 HIN.out HS3.out HM3.out).mono ?_
  rintro e w2 ⟨rfl, hm, hk⟩
  have HM4 := Lib.hid hm
  have HK4 := Lib.hid (HK3.out.trans (hk.mono (fun k h => H23.out k (HRB.out.sub k h))))
  have ho := hk.own HO3.out (H23.out _ HRB.out.hB2)
  have hn4 := hk.own HN3.out H13.out
  have HO4 := Lib.hid ho
  have o0 := ho.cell (i := 0) (by omega)
  have o1 := ho.cell (i := 1) (by omega)
  have z0 := ho.frozen (i := 0) (by omega)
  have z1 := ho.frozen (i := 1) (by omega)
  have p0 := hn4.cell (i := 0) (by omega)
  have p1 := hn4.cell (i := 1) (by omega)
  simp only [if_pos, if_neg, Nat.one_ne_zero] at o0 o1 p0 p1
  clear hm hk ho hn4
  go_wp2
  try go_region
  all_goals try go_wp2
  have hX := (HO4.out.set (i := 0) (by omega) (.int .i64 0)).set (i := 1) (by omega) (.int .u64 0)
  have c0 := hX.cell (i := 0) (by omega)
  have c1 := hX.cell (i := 1) (by omega)
  simp only [if_pos, if_neg, Nat.one_ne_zero, Nat.zero_ne_one, if_true, if_false] at c0 c1
  exact bodyPost_ret (v := .agg #[.int .i64 0, .int .u64 0]) (by simp [results, Try.results54, go_sem, c0, c1]) rfl ⟨rfl, ((HM4.out.setFar (H23.out _ HRB.out.hB2) _).setFar (H23.out _ HRB.out.hB2) _).weaken (fun k hk => H23.out k (HRB.out.sub k hk)), (HK4.out.setCell HRB.out.hB _).setCell HRB.out.hB _⟩
end Go.Proofs.Ythbgmlmcjnlopaa
