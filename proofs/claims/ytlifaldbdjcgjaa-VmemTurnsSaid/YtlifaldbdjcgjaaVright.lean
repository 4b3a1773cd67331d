/- VmemRights: what two pages of unlike rights tell; the test by rights. -/
import Derived.Test.YtlifaldbdjcgjaaVguardsA
import Derived.Test.YtlifaldbdjcgjaaVspansA
import Derived.Test.YtlifaldbdjcgjaaRegK
namespace Go.Proofs.Ytlifaldbdjcgjaa
open Go.ChangeShapes Go.WideShapes Go.ChangeAt Go.RowKit
open Go.Maps (Keyed)
set_option linter.unusedVariables false

theorem ret_boolR {a b : Bool} (h : a = b) : Ending.returned (.bool a) = .returned (.bool b) := by rw [h]
/-- May it, by what is asked of the first and of the second page? -/
def mayB (F S : Bool) (p q : Int) : Bool := (!F || (p != 0)) && (!S || (q != 0))

set_option maxHeartbeats 1000000 in
theorem may_any (W : World) (b1 b2 b3 b4 : Nat) (F S : Bool) (a b r p q : Int) (h1 : W.cell? ⟨b1, 0, none⟩ = some (.bool F)) (h2 : W.cell? ⟨b2, 0, none⟩ = some (.int .i64 a)) (h3 : W.cell? ⟨b3, 0, none⟩ = some (.bool S)) (h4 : W.cell? ⟨b4, 0, none⟩ = some (.int .i64 b))
    (hp : bits .and .i64 a r = p) (hq : bits .and .i64 b r = q) :
    Calls Try.prog 27 #[.int .i64 r, .pointer (some ⟨b1, 0, none⟩), .pointer (some ⟨b2, 0, none⟩), .pointer (some ⟨b3, 0, none⟩), .pointer (some ⟨b4, 0, none⟩)] W fun e w' => e = .returned (.bool (mayB F S p q)) ∧ W = w' := by
  cases F <;> cases S <;> (by_cases p0 : p = 0) <;> (by_cases q0 : q = 0)
  all_goals
    first | (have e1 : (p != 0) = false := by simp [p0]) | (have e1 : (p != 0) = true := by simp [p0])
    first | (have e2 : (q != 0) = false := by simp [q0]) | (have e2 : (q != 0) = true := by simp [q0])
    have E1 := Lib.hid e1
    have E2 := Lib.hid e2
    clear p0 q0
    go_enter Try.func27, Try.ntmps27
    go_wp2
    go_ret
    refine ⟨ret_boolR ?_, rfl⟩
    unfold mayB
    rw [E1.out, E2.out]
    rfl

/-- The two pages. -/
structure G2 (mp : Int → Option Pg) (a b : Int) : Prop where
  one : ∃ d, mp 8192 = some ⟨a, d⟩
  two : ∃ d, mp 12288 = some ⟨b, d⟩
  prot : ∀ x g, mp x = some g → 0 ≤ g.prot ∧ g.prot ≤ 15

theorem no_guard (p : Int) (h0 : 0 ≤ p) (h1 : p ≤ 7) : (bits .and .i64 p 8 != 0) = false := by
  rcases (by omega : p = 0 ∨ p = 1 ∨ p = 2 ∨ p = 3 ∨ p = 4 ∨ p = 5 ∨ p = 6 ∨ p = 7) with rfl | rfl | rfl | rfl | rfl | rfl | rfl | rfl <;> decide

/-- Where an access is told of, if it may not. -/
def whereI (F : Bool) (p : Int) (T : Int) : Int := if F = true ∧ p ≠ 0 then 12288 else 8192 + T

theorem ask2 {mp : Int → Option Pg} {a b : Int} (h : G2 mp a b) (a0 : 0 ≤ a) (a1 : a ≤ 7) (b0 : 0 ≤ b) (b1 : b ≤ 7) (need kind p q : Int) (hp : bits .and .i64 a need = p) (hq : bits .and .i64 b need = q) (T n k : Nat) (hn : 1 ≤ n) (hn2 : n ≤ 200) (hT : T + n ≤ 8192) (hk : n ≤ k) :
    askS mp need kind k (8192 + T) n = if mayB (decide ((T : Int) < 4096)) (decide ((4096 : Int) < (T : Int) + n)) p q = true then (0, 0, none) else (kind, whereI (decide ((T : Int) < 4096)) p T, none) := by
  obtain ⟨d1, h1⟩ := h.one
  obtain ⟨d2, h2⟩ := h.two
  have g1 := no_guard a a0 a1
  have g2 := no_guard b b0 b1
  obtain ⟨k, rfl⟩ : ∃ j, k = j + 1 := ⟨k - 1, by omega⟩
  have hend : ∀ (j : Nat) (x : Int), askS mp need kind j x 0 = (0, 0, none) := fun j x => by
    cases j with
    | zero => rfl
    | succ j => unfold askS; rw [if_pos (by omega)]
  unfold askS
  rw [if_neg (by omega)]
  by_cases hF : T < 4096
  · have dF : decide ((T : Int) < 4096) = true := decide_eq_true (by omega)
    rw [show (8192 + (T : Int)) - (8192 + (T : Int)) % 4096 = 8192 by omega, h1, dF]
    simp only [g1, hp]
    rw [if_neg (by simp)]
    by_cases p0 : p = 0
    · rw [if_pos (by simp [p0]), if_neg (by simp [mayB, p0])]
      simp [whereI, p0]
    · rw [if_neg (by simp [p0])]
      rw [show (8192 + (T : Int)) % 4096 = T by omega]
      by_cases hS : 4096 < T + n
      · have dS : decide ((4096 : Int) < (T : Int) + n) = true := decide_eq_true (by omega)
        rw [dS, show min (n : Int) (4096 - (T : Int)) = 4096 - T by omega, show (8192 + (T : Int)) + (4096 - T) = 12288 by omega]
        obtain ⟨k, rfl⟩ : ∃ j, k = j + 1 := ⟨k - 1, by omega⟩
        unfold askS
        rw [if_neg (by omega), show (12288 : Int) - 12288 % 4096 = 12288 by decide, h2]
        simp only [g2, hq]
        rw [if_neg (by simp)]
        by_cases q0 : q = 0
        · rw [if_pos (by simp [q0]), if_neg (by simp [mayB, q0])]
          simp [whereI, p0]
        · rw [if_neg (by simp [q0]), if_pos (by simp [mayB, p0, q0])]
          rw [show min ((n : Int) - (4096 - T)) (4096 - 12288 % 4096) = (n : Int) - (4096 - T) by omega, show (n : Int) - (4096 - T) - ((n : Int) - (4096 - T)) = 0 by omega]
          exact hend _ _
      · have dS : decide ((4096 : Int) < (T : Int) + n) = false := decide_eq_false (by omega)
        rw [dS, if_pos (by simp [mayB, p0]), show min (n : Int) (4096 - (T : Int)) = n by omega, show (n : Int) - n = 0 by omega]
        exact hend _ _
  · have dF : decide ((T : Int) < 4096) = false := decide_eq_false (by omega)
    have dS : decide ((4096 : Int) < (T : Int) + n) = true := decide_eq_true (by omega)
    rw [show (8192 + (T : Int)) - (8192 + (T : Int)) % 4096 = 12288 by omega, h2, dF, dS]
    simp only [g2, hq]
    rw [if_neg (by simp)]
    by_cases q0 : q = 0
    · rw [if_pos (by simp [q0]), if_neg (by simp [mayB, q0])]
      simp [whereI]
    · rw [if_neg (by simp [q0]), if_pos (by simp [mayB, q0])]
      rw [show min (n : Int) (4096 - (8192 + (T : Int)) % 4096) = n by omega, show (n : Int) - n = 0 by omega]
      exact hend _ _

theorem G2.put {mp : Int → Option Pg} {a b : Int} (h : G2 mp a b) (x : Int) (n : Nat) (f : Nat → Int) : G2 (putP mp x n f) a b := by
  obtain ⟨d1, h1⟩ := h.one
  obtain ⟨d2, h2⟩ := h.two
  refine ⟨⟨_, by unfold putP; rw [h1]; rfl⟩, ⟨_, by unfold putP; rw [h2]; rfl⟩, fun y g hy => ?_⟩
  unfold putP at hy
  cases hm : mp y with
  | none => rw [hm] at hy; cases hy
  | some g' =>
    rw [hm] at hy
    injection hy with hy
    subst hy
    exact h.prot y g' hm
theorem G2.in {mp : Int → Option Pg} {a b : Int} (h : G2 mp a b) (T n : Nat) (hT : T + n ≤ 8192) : InM mp (8192 + T) n := by
  obtain ⟨d1, h1⟩ := h.one
  obtain ⟨d2, h2⟩ := h.two
  intro j h0 hj
  by_cases c : T + j < 4096
  · rw [show 8192 + (T : Int) + j - (8192 + (T : Int) + j) % 4096 = 8192 by omega, h1]; simp
  · rw [show 8192 + (T : Int) + j - (8192 + (T : Int) + j) % 4096 = 12288 by omega, h2]; simp
theorem G2.made (a b : Int) (a0 : 0 ≤ a) (a1 : a ≤ 7) (b0 : 0 ≤ b) (b1 : b ≤ 7) : G2 (setP (setP (fun _ => none) 8192 a 1) 12288 b 1) a b := by
  have e : setP (setP (fun _ => none) 8192 a 1) 12288 b 1 = upd (upd (fun _ => none) 8192 (some ⟨a, fun _ => 0⟩)) 12288 (some ⟨b, fun _ => 0⟩) := by
    show upd (upd (fun _ => none) (8192 + ((0 : Nat) : Int) * 4096) _) (12288 + ((0 : Nat) : Int) * 4096) _ = _
    simp
  rw [e]
  refine ⟨⟨_, by rw [upd_other _ _ (by decide), upd_same]⟩, ⟨_, upd_same _ _ _⟩, fun x g hx => ?_⟩
  by_cases c : x = 12288
  · rw [c, upd_same] at hx; cases hx; exact ⟨by simpa using b0, by show b ≤ 15; omega⟩
  · rw [upd_other _ _ c] at hx
    by_cases c2 : x = 8192
    · rw [c2, upd_same] at hx; cases hx; exact ⟨by simpa using a0, by show a ≤ 15; omega⟩
    · rw [upd_other _ _ c2] at hx; cases hx

theorem made_zero (a b x : Int) (h0 : 8192 ≤ x) (h1 : x < 16384) : byteAt (setP (setP (fun _ => none) 8192 a 1) 12288 b 1) x = 0 := by
  have e : setP (setP (fun _ => none) 8192 a 1) 12288 b 1 = upd (upd (fun _ => none) 8192 (some ⟨a, fun _ => 0⟩)) 12288 (some ⟨b, fun _ => 0⟩) := by
    show upd (upd (fun _ => none) (8192 + ((0 : Nat) : Int) * 4096) _) (12288 + ((0 : Nat) : Int) * 4096) _ = _
    simp
  rw [e]
  unfold byteAt
  by_cases c : x < 12288
  · rw [show x - x % 4096 = 8192 by omega, upd_other _ _ (by decide), upd_same]
  · rw [show x - x % 4096 = 12288 by omega, upd_same]
theorem G2.putAt {mp : Int → Option Pg} {a b : Int} (h : G2 mp a b) (T n : Nat) (hT : T + n ≤ 8192) (f : Nat → Int) (q : Nat) (hq : q < n) : byteAt (putP mp (8192 + T) n f) (8192 + T + q) = f q := by
  obtain ⟨d1, h1⟩ := h.one
  obtain ⟨d2, h2⟩ := h.two
  have hg : ∃ g, mp ((8192 + (T : Int) + q) - (8192 + (T : Int) + q) % 4096) = some g := by
    by_cases c : T + q < 4096
    · rw [show 8192 + (T : Int) + q - (8192 + (T : Int) + q) % 4096 = 8192 by omega]; exact ⟨_, h1⟩
    · rw [show 8192 + (T : Int) + q - (8192 + (T : Int) + q) % 4096 = 12288 by omega]; exact ⟨_, h2⟩
  obtain ⟨g, hg⟩ := hg
  rw [byteAt_put hg, if_pos (by omega)]
  congr 1
  omega

theorem read_m (R : Nat → Prop) (w : World) (M m : Nat) (most : Int) (mp : Int → Option Pg) (a : Int) (n : Nat) (h0 : 0 ≤ a) (h1 : a + n ≤ 9223372036854775807) (hn : n ≤ 65536) (hp : ∀ x g, mp x = some g → 0 ≤ g.prot ∧ g.prot ≤ 15) (H : MemAt R w M m most mp)
    (c : Bool) (wh : Int) (hc : askS mp 1 2 n a n = if c = true then (0, 0, none) else (2, wh, none)) :
    Calls Try.prog 23 #[.pointer (some ⟨M, 0, none⟩), .int .u64 a, .int .i64 n] w fun e w' =>
      ∃ (v : Value) (ad : Int) (R' : Nat → Prop), e = .returned (.tuple #[v, .agg #[.int .i64 (if c = true then 0 else 2), .int .u64 ad]]) ∧ (∀ k, R k → R' k) ∧ MemAt R' w' M m most mp ∧ Kept R w w' ∧
        (c = true → ∃ g, v = .slice (some ⟨g, 0, none⟩) n n ∧ R' g ∧ Own w' g n (fun q => .int .u8 (byteAt mp (a + q)))) := by
  cases c with
  | true =>
    rw [if_pos rfl] at hc
    refine (read_yes R w M m most mp a n h0 h1 hn hp (by rw [hc]) H).mono ?_
    rintro e w' ⟨g, hg, rfl, ho, hm, hk⟩
    exact ⟨_, 0, _, rfl, fun k hk => .inl hk, hm, hk, fun _ => ⟨g, rfl, .inr rfl, ho⟩⟩
  | false =>
    rw [if_neg (by decide)] at hc
    have h := read_no R w M m most mp a n n h0 (.inl h1) (by omega) (by omega) (Int.le_refl _) hp (by rw [hc]; show (2 : Int) ≠ 0; decide) H
    rw [hc] at h
    refine h.mono ?_
    rintro e w' ⟨h1, h2, h3⟩
    exact ⟨_, wh, R, h1, fun k hk => hk, h2, h3, fun h => by cases h⟩

theorem run_m (R : Nat → Prop) (w : World) (M m : Nat) (most : Int) (mp : Int → Option Pg) (a : Int) (n : Nat) (h0 : 0 ≤ a) (h1 : a + n ≤ 9223372036854775807) (hn : n ≤ 65536) (hp : ∀ x g, mp x = some g → 0 ≤ g.prot ∧ g.prot ≤ 15) (H : MemAt R w M m most mp)
    (c : Bool) (wh : Int) (hc : askS mp 4 4 n a n = if c = true then (0, 0, none) else (4, wh, none)) :
    Calls Try.prog 25 #[.pointer (some ⟨M, 0, none⟩), .int .u64 a, .int .i64 n] w fun e w' =>
      ∃ (v : Value) (ad : Int) (R' : Nat → Prop), e = .returned (.tuple #[v, .agg #[.int .i64 (if c = true then 0 else 4), .int .u64 ad]]) ∧ (∀ k, R k → R' k) ∧ MemAt R' w' M m most mp ∧ Kept R w w' ∧
        (c = true → ∃ g, v = .slice (some ⟨g, 0, none⟩) n n ∧ R' g ∧ Own w' g n (fun q => .int .u8 (byteAt mp (a + q)))) := by
  cases c with
  | true =>
    rw [if_pos rfl] at hc
    refine (run_yes R w M m most mp a n h0 h1 hn hp (by rw [hc]) H).mono ?_
    rintro e w' ⟨g, hg, rfl, ho, hm, hk⟩
    exact ⟨_, 0, _, rfl, fun k hk => .inl hk, hm, hk, fun _ => ⟨g, rfl, .inr rfl, ho⟩⟩
  | false =>
    rw [if_neg (by decide)] at hc
    have h := run_no R w M m most mp a n n h0 (.inl h1) (by omega) (by omega) (Int.le_refl _) hp (by rw [hc]; show (4 : Int) ≠ 0; decide) H
    rw [hc] at h
    refine h.mono ?_
    rintro e w' ⟨h1, h2, h3⟩
    exact ⟨_, wh, R, h1, fun k hk => hk, h2, h3, fun h => by cases h⟩

theorem write_m (R : Nat → Prop) (w : World) (M m : Nat) (most : Int) (mp : Int → Option Pg) (a : Int) (A : Option Addr) (n cap : Nat) (h : Nat → Int) (h0 : 0 ≤ a) (h1 : a + n ≤ 9223372036854775807) (hn : n ≤ 65536) (hcap : n ≤ cap) (hcap2 : cap ≤ 9223372036854775807) (hsrc : SrcR R w A n h) (hp : ∀ x g, mp x = some g → 0 ≤ g.prot ∧ g.prot ≤ 15) (H : MemAt R w M m most mp)
    (c : Bool) (wh : Int) (hc : askS mp 2 3 n a n = if c = true then (0, 0, none) else (3, wh, none)) :
    Calls Try.prog 26 #[.pointer (some ⟨M, 0, none⟩), .int .u64 a, .slice A n cap] w fun e w' =>
      e = .returned (.agg #[.int .i64 (if c = true then 0 else 3), .int .u64 (if c = true then 0 else wh)]) ∧ MemAt R w' M m most (if c = true then putP mp a n h else mp) ∧ Kept R w w' := by
  have hq := write_q R w M m most mp a A n cap h h0 h1 hn hcap hcap2 hsrc hp H
  unfold wroteM at hq
  rw [hc] at hq
  cases c with
  | true => exact hq
  | false => exact hq
end Go.Proofs.Ytlifaldbdjcgjaa
