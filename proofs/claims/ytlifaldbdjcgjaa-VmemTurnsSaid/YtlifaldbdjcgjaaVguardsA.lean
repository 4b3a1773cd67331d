/- VmemGuards: what three pages with guards tell. -/
import Derived.Test.YtlifaldbdjcgjaaVawake
namespace Go.Proofs.Ytlifaldbdjcgjaa
open Go.ChangeShapes Go.WideShapes Go.ChangeAt Go.RowKit
open Go.Maps (Keyed)
set_option linter.unusedVariables false

/-- Three pages from 4096 on; page i has a guard if d i is 1. -/
structure G3 (mp : Int → Option Pg) (d : Nat → Int) : Prop where
  bit : ∀ i, 0 ≤ d i ∧ d i ≤ 1
  page : ∀ i : Nat, i < 3 → ∃ g, mp (4096 * ((i : Int) + 1)) = some g ∧ g.prot = 7 + 8 * d i
  prot : ∀ x g, mp x = some g → 0 ≤ g.prot ∧ g.prot ≤ 15

/-- How many guards there are from page a to page b. -/
def cnt (d : Nat → Int) (a b : Int) : Int :=
  (if a ≤ 0 ∧ 0 ≤ b then d 0 else 0) + (if a ≤ 1 ∧ 1 ≤ b then d 1 else 0) + (if a ≤ 2 ∧ 2 ≤ b then d 2 else 0)

theorem and_guard (d : Int) (h : d = 0 ∨ d = 1) : (bits .and .i64 (7 + 8 * d) 8 != 0) = decide (d = 1) := by
  rcases h with rfl | rfl <;> decide
theorem and_need (need : Int) (h : need = 1 ∨ need = 2 ∨ need = 4) : (bits .and .i64 7 need == 0) = false := by
  rcases h with rfl | rfl | rfl <;> decide

theorem G3.taken {mp : Int → Option Pg} {d : Nat → Int} (h : G3 mp d) {i : Nat} (hi : i < 3) (dat : Nat → Int) :
    G3 (upd mp (4096 * ((i : Int) + 1)) (some ⟨7, dat⟩)) (fun j => if j = i then 0 else d j) := by
  refine ⟨fun j => ?_, fun j hj => ?_, fun x g hx => ?_⟩
  · show 0 ≤ (if j = i then 0 else d j) ∧ _
    have := h.bit j
    split <;> omega
  · by_cases e : j = i
    · subst e
      exact ⟨⟨7, dat⟩, upd_same _ _ _, by simp⟩
    · obtain ⟨g, h1, h2⟩ := h.page j hj
      exact ⟨g, by rw [upd_other _ _ (by omega)]; exact h1, by simp [e, h2]⟩
  · by_cases e : x = 4096 * ((i : Int) + 1)
    · rw [e, upd_same] at hx; cases hx; exact ⟨by show (0 : Int) ≤ 7; decide, by show (7 : Int) ≤ 15; decide⟩
    · rw [upd_other _ _ e] at hx; exact h.prot x g hx

theorem cnt_skip (d : Nat → Int) (a : Nat) (b : Int) (ha : a < 3) (h : d a = 0) : cnt d a b = cnt d (a + 1) b := by
  unfold cnt
  rcases (by omega : a = 0 ∨ a = 1 ∨ a = 2) with rfl | rfl | rfl <;> simp [h] <;> (repeat' split) <;> omega
theorem cnt_pos (d : Nat → Int) (hd : ∀ i, 0 ≤ d i) (a : Nat) (b : Int) (ha : a < 3) (hb : (a : Int) ≤ b) (h : d a = 1) : 1 ≤ cnt d a b := by
  unfold cnt
  have h0 := hd 0
  have h1 := hd 1
  have h2 := hd 2
  rcases (by omega : a = 0 ∨ a = 1 ∨ a = 2) with rfl | rfl | rfl <;> simp [h] <;> (repeat' split) <;> omega
theorem cnt_less (d : Nat → Int) (a : Nat) (b : Int) (ha : a < 3) (hb : (a : Int) ≤ b) (h : d a = 1) : cnt (fun j => if j = a then 0 else d j) a b = cnt d a b - 1 := by
  unfold cnt
  rcases (by omega : a = 0 ∨ a = 1 ∨ a = 2) with rfl | rfl | rfl <;> simp [h] <;> (repeat' split) <;> omega
theorem cnt_end (d : Nat → Int) (a : Nat) (b : Int) (hb : b < a) : cnt d a b = 0 := by
  unfold cnt
  rw [if_neg (by omega), if_neg (by omega), if_neg (by omega)]; rfl
theorem cnt_bound (d : Nat → Int) (hd : ∀ i, 0 ≤ d i ∧ d i ≤ 1) (a b : Int) : 0 ≤ cnt d a b ∧ cnt d a b ≤ 3 := by
  unfold cnt
  have h0 := hd 0
  have h1 := hd 1
  have h2 := hd 2
  repeat' split
  all_goals omega

/-- What an access in the three pages is told. -/
def Told (mp : Int → Option Pg) (d : Nat → Int) (a b : Int) (r : Int × Int × Option (Int × Pg)) : Prop :=
  (cnt d a b = 0 ∧ r = (0, 0, none)) ∨ (1 ≤ cnt d a b ∧ r.1 = 5 ∧ ∃ d', (∀ i, d' i ≤ d i) ∧ G3 (askM mp r) d' ∧ cnt d' a b = cnt d a b - 1)

theorem ask3 {mp : Int → Option Pg} {d : Nat → Int} (h : G3 mp d) (need kind : Int) (hn : need = 1 ∨ need = 2 ∨ need = 4) : ∀ (k : Nat) (T n : Int), 0 ≤ T → 1 ≤ n → T + n ≤ 12288 → n ≤ k → Told mp d (T / 4096) ((T + n - 1) / 4096) (askS mp need kind k (4096 + T) n)
  | 0, T, n, h0, h1, h2, h3 => by omega
  | k + 1, T, n, h0, h1, h2, h3 => by
    obtain ⟨i, hi⟩ : ∃ i : Nat, T / 4096 = i := ⟨(T / 4096).toNat, by omega⟩
    have hi3 : i < 3 := by omega
    obtain ⟨g, hg, hp⟩ := h.page i hi3
    have hb := h.bit i
    unfold askS
    rw [if_neg (by omega), show 4096 + T - (4096 + T) % 4096 = 4096 * ((i : Int) + 1) by omega, hg]
    simp only [hp]
    rw [and_guard _ (by omega), hi]
    by_cases c : d i = 1
    · rw [if_pos (decide_eq_true c)]
      refine .inr ⟨cnt_pos d (fun i => (h.bit i).1) i _ hi3 (by omega) c, rfl, _, fun j => ?_, ?_, cnt_less d i _ hi3 (by omega) c⟩
      · have := h.bit j
        show (if j = i then 0 else d j) ≤ _
        split <;> omega
      · have := h.taken hi3 g.dat
        rw [c]
        exact this
    · have c0 : d i = 0 := by omega
      rw [if_neg (by simp [c]), c0]
      rw [show (7 + 8 * 0 : Int) = 7 from rfl, and_need need hn, if_neg (by decide)]
      have hmod : (4096 + T) % 4096 = T % 4096 := by omega
      rw [hmod]
      by_cases c2 : n ≤ 4096 - T % 4096
      · rw [show min n (4096 - T % 4096) = n by omega, show n - n = 0 by omega]
        have hz : (T + n - 1) / 4096 = i := by omega
        left
        constructor
        · rw [hz, cnt_skip d i _ hi3 c0]
          rw [show (i : Int) + 1 = ((i + 1 : Nat) : Int) by omega]
          exact cnt_end d _ _ (by omega)
        · cases k with
          | zero => rfl
          | succ k => unfold askS; rw [if_pos (by omega)]
      · rw [show min n (4096 - T % 4096) = 4096 - T % 4096 by omega]
        have ih := ask3 h need kind hn k (4096 * ((i : Int) + 1)) (n - (4096 - T % 4096)) (by omega) (by omega) (by omega) (by omega)
        rw [show 4096 + T + (4096 - T % 4096) = 4096 + 4096 * ((i : Int) + 1) by omega]
        rw [show (4096 * ((i : Int) + 1) + (n - (4096 - T % 4096)) - 1) / 4096 = (T + n - 1) / 4096 by omega, show 4096 * ((i : Int) + 1) / 4096 = (i : Int) + 1 by omega] at ih
        unfold Told at ih ⊢
        rw [cnt_skip d i _ hi3 c0]
        rcases ih with ih | ⟨i1, i2, d', i3, i4, i5⟩
        · exact .inl ih
        · have hd' : d' i = 0 := by
            have := i3 i
            have := (i4.bit i).1
            omega
          exact .inr ⟨i1, i2, d', i3, i4, by rw [cnt_skip d' i _ hi3 hd']; exact i5⟩

/-- Read, whatever it is told. -/
theorem read_q (R : Nat → Prop) (w : World) (M m : Nat) (most : Int) (mp : Int → Option Pg) (a : Int) (n : Nat) (h0 : 0 ≤ a) (h1 : a + n ≤ 9223372036854775807) (hn : n ≤ 65536) (hp : ∀ x g, mp x = some g → 0 ≤ g.prot ∧ g.prot ≤ 15) (H : MemAt R w M m most mp) :
    Calls Try.prog 23 #[.pointer (some ⟨M, 0, none⟩), .int .u64 a, .int .i64 n] w fun e w' =>
      ∃ v, e = .returned (.tuple #[v, .agg #[.int .i64 (askS mp 1 2 n a n).1, .int .u64 (askS mp 1 2 n a n).2.1]]) ∧ MemAt R w' M m most (askM mp (askS mp 1 2 n a n)) ∧ Kept R w w' := by
  by_cases c : (askS mp 1 2 n a n).1 = 0
  · obtain ⟨_, q1, q2⟩ := askS_ok (mp := mp) (need := 1) (kind := 2) (by omega) n a n h0 (Int.le_refl _) c
    refine (read_yes R w M m most mp a n h0 h1 hn hp c H).mono ?_
    rintro e w' ⟨g, hg, rfl, ho, hm, hk⟩
    refine ⟨_, by rw [c, q2], ?_, hk⟩
    unfold askM
    rw [q1]
    exact hm.weaken (fun k hk => .inl hk)
  · exact (read_no R w M m most mp a n n h0 (.inl h1) (by omega) (by omega) (Int.le_refl _) hp c H).mono fun e w' ⟨h1, h2, h3⟩ => ⟨_, h1, h2, h3⟩

theorem run_q (R : Nat → Prop) (w : World) (M m : Nat) (most : Int) (mp : Int → Option Pg) (a : Int) (n : Nat) (h0 : 0 ≤ a) (h1 : a + n ≤ 9223372036854775807) (hn : n ≤ 65536) (hp : ∀ x g, mp x = some g → 0 ≤ g.prot ∧ g.prot ≤ 15) (H : MemAt R w M m most mp) :
    Calls Try.prog 25 #[.pointer (some ⟨M, 0, none⟩), .int .u64 a, .int .i64 n] w fun e w' =>
      ∃ v, e = .returned (.tuple #[v, .agg #[.int .i64 (askS mp 4 4 n a n).1, .int .u64 (askS mp 4 4 n a n).2.1]]) ∧ MemAt R w' M m most (askM mp (askS mp 4 4 n a n)) ∧ Kept R w w' := by
  by_cases c : (askS mp 4 4 n a n).1 = 0
  · obtain ⟨_, q1, q2⟩ := askS_ok (mp := mp) (need := 4) (kind := 4) (by omega) n a n h0 (Int.le_refl _) c
    refine (run_yes R w M m most mp a n h0 h1 hn hp c H).mono ?_
    rintro e w' ⟨g, hg, rfl, ho, hm, hk⟩
    refine ⟨_, by rw [c, q2], ?_, hk⟩
    unfold askM
    rw [q1]
    exact hm.weaken (fun k hk => .inl hk)
  · exact (run_no R w M m most mp a n n h0 (.inl h1) (by omega) (by omega) (Int.le_refl _) hp c H).mono fun e w' ⟨h1, h2, h3⟩ => ⟨_, h1, h2, h3⟩

/-- What stands in memory behind a write. -/
def wroteM (mp : Int → Option Pg) (a : Int) (n : Nat) (h : Nat → Int) : Int → Option Pg :=
  if (askS mp 2 3 n a n).1 = 0 then putP mp a n h else askM mp (askS mp 2 3 n a n)

theorem write_q (R : Nat → Prop) (w : World) (M m : Nat) (most : Int) (mp : Int → Option Pg) (a : Int) (A : Option Addr) (n cap : Nat) (h : Nat → Int) (h0 : 0 ≤ a) (h1 : a + n ≤ 9223372036854775807) (hn : n ≤ 65536) (hcap : n ≤ cap) (hcap2 : cap ≤ 9223372036854775807) (hsrc : SrcR R w A n h) (hp : ∀ x g, mp x = some g → 0 ≤ g.prot ∧ g.prot ≤ 15) (H : MemAt R w M m most mp) :
    Calls Try.prog 26 #[.pointer (some ⟨M, 0, none⟩), .int .u64 a, .slice A n cap] w fun e w' =>
      e = .returned (.agg #[.int .i64 (askS mp 2 3 n a n).1, .int .u64 (askS mp 2 3 n a n).2.1]) ∧ MemAt R w' M m most (wroteM mp a n h) ∧ Kept R w w' := by
  unfold wroteM
  by_cases c : (askS mp 2 3 n a n).1 = 0
  · obtain ⟨_, q1, q2⟩ := askS_ok (mp := mp) (need := 2) (kind := 3) (by omega) n a n h0 (Int.le_refl _) c
    rw [if_pos c, c, q2]
    exact write_yes R w M m most mp a A n cap h h0 h1 hn hcap hcap2 hsrc hp c H
  · rw [if_neg c]
    exact write_no R w M m most mp a A n cap h0 (.inl h1) hn hp c H
end Go.Proofs.Ytlifaldbdjcgjaa
