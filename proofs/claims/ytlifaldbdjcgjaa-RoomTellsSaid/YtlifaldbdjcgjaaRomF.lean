/- RoomTells: both memories, side by side. -/
import Derived.Test.YtlifaldbdjcgjaaRomE
import Derived.Test.YtlifaldbdjcgjaaRoomFills
import Derived.Test.YtlifaldbdjcgjaaMapTaken
namespace Go.Proofs.Ytlifaldbdjcgjaa
open Go.ChangeShapes Go.WideShapes Go.ChangeAt Go.RowKit
set_option linter.unusedVariables false
set_option linter.unusedSimpArgs false

/-- The same pages are mapped. -/
def RelP (mp : Int → Option Pg) (L : List RPg) : Prop := ∀ x : Nat, mp (x : Int) = none ↔ hasP L x = false
theorem RelP.ins {mp : Int → Option Pg} {L : List RPg} (h : RelP mp L) (a n : Nat) (t : ByteArray) : RelP (setP mp a 1 n) (insP L a n t) := by
  intro x
  by_cases hx : ∃ i, i < n ∧ x = a + i * 4096
  · obtain ⟨i, hi, rfl⟩ := hx
    have h1 := setP_in mp a 1 n i hi
    have e : ((a + i * 4096 : Nat) : Int) = (a : Int) + i * 4096 := by omega
    rw [e, h1]
    refine ⟨fun h => (by cases h), fun h => ?_⟩
    have := insP_has (l := L) (t := t) (a := a) (n := n) (b := a + i * 4096) |>.mpr (.inr ⟨i, hi, rfl⟩)
    rw [this] at h
    cases h
  · have h1 := setP_out mp a 1 x n (fun i hi e => hx ⟨i, hi, by omega⟩)
    rw [h1, h x]
    constructor
    · intro h2
      rcases hh : hasP (insP L a n t) x with _ | _
      · rfl
      · rcases insP_has.mp hh with h3 | h3
        · rw [h3] at h2; cases h2
        · exact absurd h3 hx
    · intro h2
      rcases hh : hasP L x with _ | _
      · rfl
      · rw [insP_has.mpr (.inl hh)] at h2; cases h2
theorem room_iff {mp : Int → Option Pg} {L : List RPg} (h : RelP mp L) (a : Nat) (n : Int) : RoomOk mp a n ↔ RoomR L a n := by
  constructor
  · rintro ⟨h1, h2, h3, h4, h5, h6⟩
    refine ⟨by omega, by omega, ⟨by omega, h3, h4, by omega, h5⟩, fun i hi => ?_⟩
    have := h6 i hi
    rw [← h, ← this]
    congr 1
  · rintro ⟨h1, h2, ⟨h3, h4, h5, h6, h7⟩, h8⟩
    refine ⟨by omega, by omega, h4, h5, h7, fun i hi => ?_⟩
    have := (h (a + i * 4096)).mpr (h8 i hi)
    rw [← this]
    congr 1
/-- Where the document's pages lie. -/
def RowIn (R : Nat → Prop) (w : World) (B : Nat) : Prop := ∃ A n c, w.heap[B]? = some (.cells #[.slice A n c, .int .i64 1024] 73 (0, 0)) ∧ ∀ b, A.map (·.block) = some b → R b
structure Both (w0 wr : World) (M B m : Nat) (mp : Int → Option Pg) (L : List RPg) (R : Nat → Prop) : Prop where
  mem : MemAt R wr M m 1024 mp
  old : ∀ k, k < w0.heap.size → R k
  hB : R B
  row : RowIn R wr B
  ref : RefM wr B L
  os : wr.os = w0.os
  tape : wr.tape = w0.tape
  out : wr.output = w0.output
  size : w0.heap.size ≤ wr.heap.size
  blk : ∀ k, k < w0.heap.size → wr.heap[k]? = w0.heap[k]?
theorem Both.bel {w0 wr : World} {M B m : Nat} {mp : Int → Option Pg} {L : List RPg} {R : Nat → Prop} (h : Both w0 wr M B m mp L R) : Below w0.heap.size w0 wr := ⟨h.os, h.tape, h.out, h.size, h.blk⟩
theorem Both.below {w0 wr w' : World} {M B m : Nat} {mp : Int → Option Pg} {L : List RPg} {R : Nat → Prop} (h : Both w0 wr M B m mp L R) (hb : Below wr.heap.size wr w') : Both w0 w' M B m mp L R := by
  have h2 := h.bel.trans (hb.mono h.size)
  refine ⟨h.mem.below hb, h.old, h.hB, ?_, h.ref.below hb, h2.os, h2.tape, h2.output, h2.size, h2.block⟩
  obtain ⟨A, n, c, h1, h3⟩ := h.row
  exact ⟨A, n, c, (hb.block B h.ref.lt).trans h1, h3⟩
/-- The program's memory alone is changed. -/
theorem Both.prog {w0 wr w' : World} {M B m m' : Nat} {mp mp' : Int → Option Pg} {L : List RPg} {R : Nat → Prop} (h : Both w0 wr M B m mp L R) (hm : MemAt R w' M m' 1024 mp') (hk : Kept R wr w') : Both w0 w' M B m' mp' L R := by
  obtain ⟨A, n, c, hr1, hr2⟩ := h.row
  have hrow := (hk.block B h.hB).trans hr1
  refine ⟨hm, h.old, h.hB, ⟨A, n, c, hrow, hr2⟩, ?_, hk.os.trans h.os, hk.tape.trans h.tape, hk.output.trans h.out, Nat.le_trans h.size hk.size, fun k hk' => (hk.block k (h.old k hk')).trans (h.blk k hk')⟩
  obtain ⟨A2, c2, q1, q2, q3⟩ := h.ref
  have e : A2 = A := by
    rw [hr1] at q1
    simp at q1
    exact q1.1.symm
  subst e
  exact ⟨A2, c2, (hk.block B h.hB).trans q1, q2.keep hk.size (fun b hb => hk.block b (hr2 b hb)), q3⟩
/-- The document's memory alone is changed. -/
theorem Both.refd {w0 wr w' : World} {M B m : Nat} {mp : Int → Option Pg} {L L' : List RPg} {R : Nat → Prop} (h : Both w0 wr M B m mp L R) (hB0 : w0.heap.size ≤ B) (hr : RefM w' B L') (hg : wr.grownBy w' (some B)) (hn : NewRow wr w' B) : Both w0 w' M B m mp L' (fun k => R k ∨ (wr.heap.size ≤ k ∧ k < w'.heap.size)) := by
  obtain ⟨g, n, c, hrow, hge, hglt⟩ := hn
  refine ⟨h.mem.reserve hg.size (fun k hk hR => hg.block k hk (fun e => ?_)), fun k hk => .inl (h.old k hk), .inl h.hB, ⟨_, n, c, hrow, fun b hb => ?_⟩, hr, hg.os.trans h.os, hg.tape.trans h.tape, hg.output.trans h.out, Nat.le_trans h.size hg.size, fun k hk => (hg.block k (Nat.lt_of_lt_of_le hk h.size) (fun e => ?_)).trans (h.blk k hk)⟩
  · injection e with e; exact hR (by rw [e]; exact h.hB)
  · simp at hb; subst hb; exact .inr ⟨hge, hglt⟩
  · injection e with e; omega
end Go.Proofs.Ytlifaldbdjcgjaa
