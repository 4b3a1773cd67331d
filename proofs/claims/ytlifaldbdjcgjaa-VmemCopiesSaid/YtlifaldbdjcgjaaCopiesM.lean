/- law 3: VmemCopies: what stands in the pages. -/
import Derived.Test.YtlifaldbdjcgjaaPagesTwo
import Derived.Test.YtlifaldbdjcgjaaVprot
import Derived.Test.YtlifaldbdjcgjaaVspansS
import Derived.Test.YtlifaldbdjcgjaaRoomFills
namespace Go.Proofs.Ytlifaldbdjcgjaa
open Go.ChangeShapes Go.WideShapes Go.ChangeAt Go.RowKit
open Go.Maps (Keyed)
set_option linter.unusedVariables false
set_option linter.unusedSimpArgs false

def q0 : Int → Option Pg := setP (fun _ => none) 4096 9 2
theorem q0_lo : q0 4096 = some ⟨9, fun _ => 0⟩ := by
  have := setP_in (fun _ => none) 4096 9 2 0 (by omega)
  simpa [q0] using this
theorem q0_hi : q0 8192 = some ⟨9, fun _ => 0⟩ := by
  have := setP_in (fun _ => none) 4096 9 2 1 (by omega)
  simpa [q0] using this
theorem q0_out {x : Int} (h1 : x ≠ 4096) (h2 : x ≠ 8192) : q0 x = none :=
  setP_out (fun _ => none) 4096 9 x 2 (fun i hi => by rcases (by omega : i = 0 ∨ i = 1) with rfl | rfl <;> omega)
theorem q0_some {x : Int} (h : x = 4096 ∨ x = 8192) : q0 x = some ⟨9, fun _ => 0⟩ := by
  rcases h with rfl | rfl
  · exact q0_lo
  · exact q0_hi

def q1 (T la : Nat) (ha : Nat → Int) : Int → Option Pg := putP q0 (4096 + T) la ha
def q2 (T la lb : Nat) (ha hb : Nat → Int) : Int → Option Pg := putP (q1 T la ha) (4096 + T) lb hb
theorem q1_none {T la : Nat} {ha : Nat → Int} {x : Int} : q1 T la ha x = none ↔ q0 x = none := putP_none
theorem q2_none {T la lb : Nat} {ha hb : Nat → Int} {x : Int} : q2 T la lb ha hb x = none ↔ q0 x = none := putP_none.trans putP_none
theorem q_page {T n : Nat} (hT : T + n ≤ 8192) {i : Int} (h0 : 0 ≤ i) (h1 : i < n) : 4096 + (T : Int) + i - (4096 + (T : Int) + i) % 4096 = 4096 ∨ 4096 + (T : Int) + i - (4096 + (T : Int) + i) % 4096 = 8192 := by omega
theorem q0_in {T n : Nat} (hT : T + n ≤ 8192) : InM q0 (4096 + T) n := fun i h0 h1 => by
  rw [q0_some (q_page hT h0 h1)]; simp
theorem q1_in {T n la : Nat} {ha : Nat → Int} (hT : T + n ≤ 8192) : InM (q1 T la ha) (4096 + T) n := fun i h0 h1 => mt q1_none.1 (q0_in hT i h0 h1)
theorem q1_byte {T la : Nat} {ha : Nat → Int} (hT : T + la ≤ 8192) (q : Nat) (hq : q < la) : byteAt (q1 T la ha) (4096 + T + q) = ha q := by
  have := byteAt_put (q0_some (q_page (i := q) hT (by omega) (by omega))) (4096 + T) la ha
  rw [if_pos (by omega)] at this
  exact this.trans (congrArg ha (by omega))
theorem q2_byte {T la lb : Nat} {ha hb : Nat → Int} (hT : T + lb ≤ 8192) (q : Nat) (hq : q < lb) : byteAt (q2 T la lb ha hb) (4096 + T + q) = hb q := by
  obtain ⟨g, hg⟩ := Option.ne_none_iff_exists'.1 (q1_in (la := la) (ha := ha) hT (q : Int) (by omega) (by omega))
  have := byteAt_put hg (4096 + T) lb hb
  rw [if_pos (by omega)] at this
  exact this.trans (congrArg hb (by omega))
theorem q1_lo (T la : Nat) (ha : Nat → Int) : ∃ g, q1 T la ha 4096 = some g ∧ g.prot = 9 := by
  unfold q1 putP
  rw [q0_lo]
  exact ⟨_, rfl, rfl⟩
theorem q1_keys {T la : Nat} {ha : Nat → Int} (x : Int) (h : q1 T la ha x ≠ none) : x = 4096 ∨ x = 8192 := by
  by_cases h1 : x = 4096
  · exact .inl h1
  · by_cases h2 : x = 8192
    · exact .inr h2
    · exact absurd (q1_none.2 (q0_out h1 h2)) h
theorem q2_lo (T la lb : Nat) (ha hb : Nat → Int) : ∃ g, q2 T la lb ha hb 4096 = some g :=
  Option.ne_none_iff_exists'.1 (mt q2_none.1 (by rw [q0_lo]; simp))
theorem upd_byte {mp : Int → Option Pg} {p : Int} {g : Pg} (h : mp p = some g) (pr x : Int) : byteAt (upd mp p (some ⟨pr, g.dat⟩)) x = byteAt mp x := by
  unfold byteAt
  by_cases e : x - x % 4096 = p
  · rw [e, upd_same, h]
  · rw [upd_other _ _ e]
def q3 (T la lb : Nat) (ha hb : Nat → Int) (g : Pg) : Int → Option Pg := upd (q2 T la lb ha hb) 4096 (some ⟨2, g.dat⟩)
def q4 (T la lb : Nat) (ha hb : Nat → Int) (g : Pg) : Int → Option Pg := setP (q3 T la lb ha hb g) 1048576 7 1
theorem q3_free {T la lb : Nat} {ha hb : Nat → Int} {g : Pg} (i : Nat) (hi : i < 1) : q3 T la lb ha hb g (1048576 + i * 4096) = none := by
  unfold q3
  rw [upd_other _ _ (by omega)]
  exact q2_none.2 (q0_out (by omega) (by omega))
theorem q4_at {T la lb : Nat} {ha hb : Nat → Int} {g : Pg} {x : Int} (h : x ≠ 1048576) : q4 T la lb ha hb g x = q3 T la lb ha hb g x :=
  setP_out _ 1048576 7 x 1 (fun i hi => by omega)
theorem q4_in {T la lb : Nat} {ha hb : Nat → Int} {g : Pg} (hT : T + lb ≤ 8192) : InM (q4 T la lb ha hb g) (4096 + T) lb := fun i h0 h1 => by
  have hp := q_page hT h0 h1
  rw [q4_at (by omega)]
  unfold q3
  by_cases e : 4096 + (T : Int) + i - (4096 + (T : Int) + i) % 4096 = 4096
  · rw [e, upd_same]; simp
  · rw [upd_other _ _ e]
    exact mt q2_none.1 (q0_in hT i h0 h1)
theorem q4_byte {T la lb : Nat} {ha hb : Nat → Int} {g : Pg} (hg : q2 T la lb ha hb 4096 = some g) (hT : T + lb ≤ 8192) (q : Nat) (hq : q < lb) : byteAt (q4 T la lb ha hb g) (4096 + T + q) = hb q := by
  have hp := q_page (i := q) hT (by omega) (by omega)
  have h1 : byteAt (q4 T la lb ha hb g) (4096 + T + q) = byteAt (q3 T la lb ha hb g) (4096 + T + q) := by
    unfold byteAt
    rw [q4_at (by omega)]
  rw [h1]
  unfold q3
  rw [upd_byte hg]
  exact q2_byte hT q hq

/-- The two memories, and what is older. -/
structure Two (w W : World) (M C : Nat) (mp mc : Int → Option Pg) : Prop where
  m : MemAt (· < w.heap.size) W M 2 4 mp
  c : MemAt (· < w.heap.size) W C 3 4 mc
  k : Kept (· < w.heap.size) w W
theorem Two.below {w W W2 : World} {M C : Nat} {mp mc : Int → Option Pg} (h : Two w W M C mp mc) (hb : Below W.heap.size W W2) : Two w W2 M C mp mc :=
  ⟨h.m.below hb, h.c.below hb, h.k.trans (Kept.of_below hb (fun k hk => Nat.lt_of_lt_of_le hk h.k.size))⟩
theorem Two.drewN {w W : World} {M C : Nat} {mp mc : Int → Option Pg} (h : Two w W M C mp mc) (n : Nat) : Two w (W.drewN n) M C mp mc :=
  ⟨h.m.drewN n, h.c.drewN n, h.k.trans (Kept.drewN _ W n)⟩
theorem Two.far {w W W2 : World} {M C : Nat} {mp mc : Int → Option Pg} (h : Two w W M C mp mc) (hb : Below W.heap.size W W2) {b o : Nat} (h1 : W.heap.size ≤ b) (h2 : b < W2.heap.size) (u : Value) : Two w (W2.setCell ⟨b, o, none⟩ u) M C mp mc := by
  have hk := (h.below hb).k
  have hw := h.k.size
  refine ⟨((h.m.more hb).setFar (.inr ⟨h1, h2⟩) u).weaken (fun k hk => .inl hk), ((h.c.more hb).setFar (.inr ⟨h1, h2⟩) u).weaken (fun k hk => .inl hk), ?_⟩
  refine ⟨hk.os, hk.tape, hk.output, Nat.le_trans hk.size (by simp [World.setCell]), fun k hkk => ?_⟩
  exact (Below.heap_setCell W2 ⟨b, o, none⟩ u k (fun e => by have : k < w.heap.size := hkk; have e : k = b := e; omega)).trans (hk.block k hkk)

/-- The copy is changed: the memory that it was made of stays. -/
theorem two_of {w w3 w4 w7 : World} {M C : Nat} {mp mc : Int → Option Pg} (H3 : MemAt (· < w.heap.size) w3 M 2 4 mp) (K3 : Kept (· < w.heap.size) w w3) (hb : Below w3.heap.size w3 w4)
    (H7 : MemAt (· < w3.heap.size) w7 C 3 4 mc) (K7 : Kept (· < w3.heap.size) w4 w7) : Two w w7 M C mp mc := by
  have h34 := hb.size
  refine ⟨((H3.more hb).reserve K7.size (fun k h1 h2 => ?_)).weaken (fun k hk => .inl (.inl hk)), H7.weaken (fun k hk => Nat.lt_of_lt_of_le hk K3.size), (K3.trans (Kept.of_below hb (fun k hk => Nat.lt_of_lt_of_le hk K3.size))).trans (K7.mono (fun k hk => Nat.lt_of_lt_of_le hk K3.size))⟩
  refine K7.block k ?_
  by_cases c : k < w3.heap.size
  · exact c
  · exact absurd (.inr ⟨by omega, h1⟩) h2
end Go.Proofs.Ytlifaldbdjcgjaa
