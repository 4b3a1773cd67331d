/- Memory of pages: who may touch what. -/
import Derived.Test.YtlifaldbdjcgjaaVunmap
namespace Go.Proofs.Ytlifaldbdjcgjaa
open Go.ChangeShapes Go.WideShapes Go.ChangeAt Go.RowKit
open Go.Maps (Keyed)
set_option linter.unusedVariables false
set_option linter.unusedSimpArgs false

theorem ret_i64 {a b : Int} (h : a = b) : Value.int .i64 a = Value.int .i64 b := by rw [h]
theorem Kept.drewN (R : Nat → Prop) (w : World) (n : Nat) : Kept R w (w.drewN n) := ⟨rfl, rfl, rfl, Nat.le_refl _, fun _ _ => rfl⟩
theorem grownBy_refl (w : World) (row : Option Nat) : w.grownBy w row := (World.grownBy.refl w row)
theorem and8_le {p : Int} (h0 : 0 ≤ p) (h1 : p ≤ 15) (h : (bits .and .i64 p 8 != 0) = true) : 8 ≤ p := by
  by_cases h2 : 8 ≤ p
  · exact h2
  · exfalso
    rcases (by omega : p = 0 ∨ p = 1 ∨ p = 2 ∨ p = 3 ∨ p = 4 ∨ p = 5 ∨ p = 6 ∨ p = 7) with rfl | rfl | rfl | rfl | rfl | rfl | rfl | rfl <;> revert h <;> decide

theorem MemAt.below {R : Nat → Prop} {w w' : World} {M m : Nat} {most : Int} {mp : Int → Option Pg} (H : MemAt R w M m most mp) (hb : Below w.heap.size w w') : MemAt R w' M m most mp := by
  obtain ⟨bm, f, S, hRM, hRb, hRB, hR⟩ := H
  have h2 := S.map.lt
  have hlt : ∀ a B, f a = some B → B < w.heap.size := fun a B h => by
    have hb := S.both a
    rw [h] at hb
    cases hm : mp a with
    | none => rw [hm] at hb; cases hb
    | some g' => exact (S.page a B g' h hm).1
  have kM := hb.block M S.mlt
  exact ⟨bm, f, ⟨(World.cell?_of_block kM).trans S.c0, (World.cell?_of_block kM).trans S.c1, Nat.lt_of_lt_of_le S.mlt hb.size, S.map.of_block (hb.block bm h2), S.both, fun a B g h1 h2 => (S.page a B g h1 h2).of_block (hb.block B (hlt a B h1)) hb.size, S.inj, S.nos, S.low, S.high, S.fits⟩, hRM, hRb, hRB, fun k hk => Nat.lt_of_lt_of_le (hR k hk) hb.size⟩

/-- One page's block is written: the page is another one. -/
theorem MemIn.turned {w w' : World} {M bm m : Nat} {most : Int} {f : Int → Option Nat} {mp : Int → Option Pg} (S : MemIn w M bm m most f mp) {x : Int} {B : Nat} {g g' : Pg} (hf : f x = some B) (hmp : mp x = some g) (hg : w.grownBy w' (some B)) (ho : Own w' B 4097 (pgF g')) :
    MemIn w' M bm m most f (upd mp x (some g')) := by
  have ho0 := S.page x B g hf hmp
  have hBM := S.nos x B hf
  have hBb : B ≠ bm := S.map.own_ne (ho0.cell (i := 0) (by omega))
  have kM := hg.block M S.mlt (by simpa using hBM.symm)
  refine ⟨(World.cell?_of_block kM).trans S.c0, (World.cell?_of_block kM).trans S.c1, Nat.lt_of_lt_of_le S.mlt hg.size, S.map.of_block (hg.block bm S.map.lt (by simpa using hBb.symm)), fun a => ?_, fun a B' g2 h1 h2 => ?_, S.inj, S.nos, S.low, S.high, S.fits⟩
  · by_cases e : a = x
    · subst e; rw [upd_same, S.both a, hmp]; rfl
    · rw [upd_other mp _ e]; exact S.both a
  · by_cases e : a = x
    · subst e
      rw [upd_same] at h2
      cases h2
      rw [hf] at h1
      cases h1
      exact ho
    · rw [upd_other mp _ e] at h2
      have hne : B' ≠ B := fun h => e (S.inj a x B (h ▸ h1) hf)
      have h3 := S.page a B' g2 h1 h2
      exact h3.of_block (hg.block B' h3.1 (by simpa using hne)) hg.size

theorem piece_any (a n : Int) (w : World) (h0 : 0 ≤ a) (h1 : a < 18446744073709551616) (h2 : 0 ≤ n) (h3 : n ≤ 9223372036854775807) : Calls Try.prog 48 #[.int .u64 a, .int .i64 n] w fun e w' => e = .returned (.int .i64 (min n (4096 - a % 4096))) ∧ w = w' := by
  have e1 : 0 ≤ a % 4096 := by omega
  have e2 : a % 4096 < 4096 := by omega
  go_enter Try.func48, Try.ntmps48
  go_wp2
  all_goals go_ret
  all_goals exact ⟨congrArg _ (ret_i64 (by omega)), rfl⟩

/-- A store into a block that is none of the memory's. -/
theorem MemAt.setFar {R : Nat → Prop} {w : World} {M m : Nat} {most : Int} {mp : Int → Option Pg} (H : MemAt R w M m most mp) {B o : Nat} (hB : R B) (u : Value) : MemAt R (w.setCell ⟨B, o, none⟩ u) M m most mp := by
  obtain ⟨bm, f, S, hRM, hRb, hRB, hR⟩ := H
  have hk : ∀ k, ¬ R k → (w.setCell ⟨B, o, none⟩ u).heap[k]? = w.heap[k]? := fun k h => Below.heap_setCell w ⟨B, o, none⟩ u k (fun e => h (by rw [e]; exact hB))
  have hs : w.heap.size ≤ (w.setCell ⟨B, o, none⟩ u).heap.size := by simp [World.setCell]
  exact ⟨bm, f, ⟨(World.cell?_of_block (hk M hRM)).trans S.c0, (World.cell?_of_block (hk M hRM)).trans S.c1, Nat.lt_of_lt_of_le S.mlt hs, S.map.of_block (hk bm hRb), S.both, fun a B g h1 h2 => (S.page a B g h1 h2).of_block (hk B (hRB a B h1)) hs, S.inj, S.nos, S.low, S.high, S.fits⟩, hRM, hRb, hRB, fun k hk => Nat.lt_of_lt_of_le (hR k hk) hs⟩

theorem MemAt.weaken {R R' : Nat → Prop} {w : World} {M m : Nat} {most : Int} {mp : Int → Option Pg} (H : MemAt R' w M m most mp) (h : ∀ k, R k → R' k) : MemAt R w M m most mp := by
  obtain ⟨bm, f, S, hRM, hRb, hRB, hR⟩ := H
  exact ⟨bm, f, S, fun hk => hRM (h _ hk), fun hk => hRb (h _ hk), fun a B hf hk => hRB a B hf (h _ hk), fun k hk => hR k (h k hk)⟩

/-- More blocks that the memory has nothing of. -/
theorem MemAt.more {R : Nat → Prop} {w w2 : World} {M m : Nat} {most : Int} {mp : Int → Option Pg} (H : MemAt R w M m most mp) (hb : Below w.heap.size w w2) :
    MemAt (fun k => R k ∨ (w.heap.size ≤ k ∧ k < w2.heap.size)) w2 M m most mp := by
  obtain ⟨bm, f, S, hRM, hRb, hRB, hR⟩ := H
  have hlt : ∀ a B, f a = some B → B < w.heap.size := fun a B h => by
    have hb := S.both a
    rw [h] at hb
    cases hm : mp a with
    | none => rw [hm] at hb; cases hb
    | some g' => exact (S.page a B g' h hm).1
  have kM := hb.block M S.mlt
  refine ⟨bm, f, ⟨(World.cell?_of_block kM).trans S.c0, (World.cell?_of_block kM).trans S.c1, Nat.lt_of_lt_of_le S.mlt hb.size, S.map.of_block (hb.block bm S.map.lt), S.both, fun a B g h1 h2 => (S.page a B g h1 h2).of_block (hb.block B (hlt a B h1)) hb.size, S.inj, S.nos, S.low, S.high, S.fits⟩, ?_, ?_, fun a B hf => ?_, fun k hk => ?_⟩
  · have := S.mlt
    rintro (h | h)
    · exact hRM h
    · omega
  · have := S.map.lt
    rintro (h | h)
    · exact hRb h
    · omega
  · have := hlt a B hf
    rintro (h | h)
    · exact hRB a B hf h
    · omega
  · rcases hk with h | h
    · have := hR k h; have := hb.size; omega
    · exact h.2
end Go.Proofs.Ytlifaldbdjcgjaa
