/- law 23: GatesPlay: what stands between the acts. -/
import Derived.Test.YtijggmioknneoaaGateDoSet
import Derived.Test.YtijggmioknneoaaGates
namespace Go.Proofs.Ytijggmioknneoaa
open Go.ChangeShapes Go.WideShapes Go.ChangeAt Go.RowKit
set_option linter.unusedVariables false
set_option linter.unusedSimpArgs false

theorem SlotsAt.weaken {R R' : Nat → Prop} {w : World} {s n : Nat} {v : Int → Nat → Int} (H : SlotsAt R' w s n v) (h : ∀ k, R k → R' k) : SlotsAt R w s n v := by
  obtain ⟨bm, m, f, S, hm, hRs, hRb, hRB, hR⟩ := H
  exact ⟨bm, m, f, S, hm, fun hk => hRs (h _ hk), fun hk => hRb (h _ hk), fun t B hf hk => hRB t B hf (h _ hk), fun k hk => hR k (h k hk)⟩
/-- What is no block of the slots' own turns. -/
theorem SlotsAt.aside {R : Nat → Prop} {w w' : World} {s n : Nat} {v : Int → Nat → Int} (H : SlotsAt R w s n v) (hs : w.heap.size ≤ w'.heap.size) (hk : ∀ k, k < w.heap.size → ¬ R k → w'.heap[k]? = w.heap[k]?) : SlotsAt R w' s n v := by
  obtain ⟨bm, m, f, S, hm, hRs, hRb, hRB, hR⟩ := H
  refine ⟨bm, m, f, S.of_blocks (fun k h => ?_) hs, hm, hRs, hRb, hRB, fun k h => Nat.lt_of_lt_of_le (hR k h) hs⟩
  rcases h with rfl | rfl | ⟨t, ht⟩
  · exact hk k S.slt hRs
  · exact hk k S.map.lt hRb
  · exact hk k (S.row t k ht).1 (hRB t k ht)
theorem SlotsAt.lt {R : Nat → Prop} {w : World} {s n : Nat} {v : Int → Nat → Int} (H : SlotsAt R w s n v) : ∀ k, R k → k < w.heap.size := by
  obtain ⟨bm, m, f, S, hm, hRs, hRb, hRB, hR⟩ := H
  exact hR

/-- The slots at s, the machine at C, the law's own table at B; R: what is none of the slots'. -/
structure Play (R : Nat → Prop) (w0 w : World) (s C B n : Nat) (v : Int → Nat → Int) (u : Nat → Int) (r : Nat → Int) : Prop where
  slots : SlotsAt R w s n v
  cpu : CpuAt w C r
  want : Own w B 128 (fun j => .int .u64 (u j))
  kept : Kept (· < w0.heap.size) w0 w
  r0 : ∀ k, k < w0.heap.size → R k
  rC : R C
  rB : R B
  ne : C ≠ B
  cC : w0.heap.size ≤ C
  cB : w0.heap.size ≤ B

namespace Play
variable {R R' : Nat → Prop} {w0 w w' : World} {s C B n n' : Nat} {v v' : Int → Nat → Int} {u u' : Nat → Int} {r r' : Nat → Int}

/-- Whatever leaves the blocks of the three as they are. -/
theorem aside (h : Play R w0 w s C B n v u r) (hg : w'.os = w.os ∧ w'.tape = w.tape ∧ w'.output = w.output) (hs : w.heap.size ≤ w'.heap.size)
    (hk : ∀ k, k < w.heap.size → (¬ R k ∨ k = C ∨ k = B ∨ k < w0.heap.size) → w'.heap[k]? = w.heap[k]?) : Play R w0 w' s C B n v u r := by
  have hl := h.slots.lt
  exact ⟨h.slots.aside hs (fun k a b => hk k a (.inl b)), h.cpu.of_block (hk C (hl C h.rC) (.inr (.inl rfl))) hs, h.want.of_block (hk B (hl B h.rB) (.inr (.inr (.inl rfl)))) hs,
    h.kept.trans ⟨hg.1, hg.2.1, hg.2.2, hs, fun k a => hk k (hl k (h.r0 k a)) (.inr (.inr (.inr a)))⟩, h.r0, h.rC, h.rB, h.ne, h.cC, h.cB⟩
theorem below (h : Play R w0 w s C B n v u r) (hb : Below w.heap.size w w') : Play R w0 w' s C B n v u r :=
  h.aside ⟨hb.os, hb.tape, hb.output⟩ hb.size (fun k a _ => hb.block k a)
theorem drew (h : Play R w0 w s C B n v u r) : Play R w0 w.drew s C B n v u r :=
  h.aside ⟨rfl, rfl, rfl⟩ (Nat.le_refl _) (fun _ _ _ => rfl)
/-- One block of R that is neither the machine's nor the table's turns. -/
theorem grown (h : Play R w0 w s C B n v u r) {P : Nat} (hg : w.grownBy w' (some P)) (hR : R P) (h1 : P ≠ C) (h2 : P ≠ B) (h3 : w0.heap.size ≤ P) : Play R w0 w' s C B n v u r :=
  h.aside ⟨hg.os, hg.tape, hg.output⟩ hg.size (fun k a b => hg.block k a (fun e => by
    injection e with e
    subst e
    rcases b with b | b | b | b
    · exact b hR
    · exact h1 b
    · exact h2 b
    · omega))
/-- A new block, of which the slots have nothing. -/
theorem alloc (h : Play R w0 w s C B n v u r) (o : Obj) : Play (fun k => R k ∨ k = w.heap.size) w0 (w.alloc o) s C B n v u r := by
  have h1 := h.below ((Below.refl w.heap.size w).alloc (Nat.le_refl _) o)
  have h2 := (h.slots.reserve ((Below.refl w.heap.size w).alloc (Nat.le_refl _) o)).weaken (R := fun k => R k ∨ k = w.heap.size) (fun k hk => by
    rcases hk with hk | hk
    · exact .inl hk
    · exact .inr ⟨by omega, by simp; omega⟩)
  exact ⟨h2, h1.cpu, h1.want, h1.kept, fun k hk => .inl (h.r0 k hk), .inl h.rC, .inl h.rB, h.ne, h.cC, h.cB⟩
theorem weaken (h : Play R' w0 w s C B n v u r) (hR : ∀ k, R k → R' k) (h0 : ∀ k, k < w0.heap.size → R k) (hC : R C) (hB : R B) : Play R w0 w s C B n v u r :=
  ⟨h.slots.weaken hR, h.cpu, h.want, h.kept, h0, hC, hB, h.ne, h.cC, h.cB⟩
/-- What a contract of the slots leaves. -/
theorem turned (h : Play R w0 w s C B n v u r) (hS : SlotsAt R w' s n' v') (hK : Kept R w w') : Play R w0 w' s C B n' v' u r :=
  ⟨hS, h.cpu.of_block (hK.block C h.rC) hK.size, hK.own h.want h.rB, h.kept.trans (hK.mono h.r0), h.r0, h.rC, h.rB, h.ne, h.cC, h.cB⟩
theorem turned2 (h : Play R w0 w s C B n v u r) (hS : SlotsAt R w' s n' v') (hC : CpuAt w' C r') (hK : Kept (fun k => R k ∧ k ≠ C) w w') : Play R w0 w' s C B n' v' u r' :=
  ⟨hS, hC, hK.own h.want ⟨h.rB, fun e => h.ne e.symm⟩, h.kept.trans (hK.mono (fun k hk => ⟨h.r0 k hk, fun e => by have := h.cC; have hk' : k < w0.heap.size := hk; omega⟩)), h.r0, h.rC, h.rB, h.ne, h.cC, h.cB⟩
theorem setReg (h : Play R w0 w s C B n v u r) {i : Nat} (hi : i < 16) (x : Int) : Play R w0 (w.setCell ⟨C, 1 + i, none⟩ (.int .u64 x)) s C B n v u (fun j => if j = i then x else r j) :=
  h.turned2 (h.slots.setFar h.rC _) (h.cpu.set hi x) (Kept.setOut w C _ _)
theorem setWant (h : Play R w0 w s C B n v u r) {j : Nat} (hj : j < 128) (x : Int) : Play R w0 (w.setCell ⟨B, j, none⟩ (.int .u64 x)) s C B n v (fun q => if q = j then x else u q) r := by
  refine ⟨h.slots.setFar h.rB _, h.cpu.of_block (Below.heap_setCell w ⟨B, j, none⟩ _ C h.ne) (by simp [World.setCell]), (h.want.set hj _).congr (fun q _ => by by_cases e : q = j <;> simp [e]), h.kept.trans ?_, h.r0, h.rC, h.rB, h.ne, h.cC, h.cB⟩
  exact (Kept.refl _ w).setCell (fun e => by have := h.cB; have e' : B < w0.heap.size := e; omega) _
end Play

/-- The table says what the slots of the threads 0 to 3 hold. -/
def Agrees (v : Int → Nat → Int) (u : Nat → Int) : Prop := ∀ k i : Nat, k < 4 → i < 32 → u (32 * k + i) = v k i

theorem Agrees.put {v : Int → Nat → Int} {u : Nat → Int} (h : Agrees v u) {k i : Nat} (hk : k < 4) (hi : i < 32) (x : Int) : Agrees (putV v k i x) (fun q => if q = 32 * k + i then x else u q) := fun k' i' h1 h2 => by
  show (if 32 * k' + i' = 32 * k + i then x else u (32 * k' + i')) = if (k' : Int) = k ∧ i' = i then x else v k' i'
  by_cases c : k' = k ∧ i' = i
  · rw [if_pos (by omega), if_pos (by omega)]
  · rw [if_neg (by omega), if_neg (by omega)]
    exact h k' i' h1 h2
theorem Agrees.get {v : Int → Nat → Int} {u : Nat → Int} (h : Agrees v u) {k i : Nat} (h0 : 0 < k) (hk : k < 4) (hi : i < 32) : getV v k i = u (32 * k + i) := by
  rw [getV_nat v k i (by omega) hi]
  exact (h k i hk hi).symm
end Go.Proofs.Ytijggmioknneoaa
