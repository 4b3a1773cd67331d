/- law 3: VmemTurns: what is mapped, step by step. -/
import Derived.Test.YtlifaldbdjcgjaaRoomGaps
import Derived.Test.YtlifaldbdjcgjaaPages
import Derived.Test.YtlifaldbdjcgjaaMapTaken
import Derived.Test.YtlifaldbdjcgjaaVread
namespace Go.Proofs.Ytlifaldbdjcgjaa
set_option linter.unusedVariables false

def t1 : Int → Option Pg := setP (fun _ => none) 1073741824 1 2
def t2 (a : Int) (n : Nat) : Int → Option Pg := setP t1 a 2 n
def t3 (a : Int) (n l : Nat) (h : Nat → Int) : Int → Option Pg := putP (t2 a n) a l h
def t4 (a : Int) (n l : Nat) (h : Nat → Int) : Int → Option Pg := clrP (t3 a n l h) a n
def t5 (a : Int) (n l : Nat) (h : Nat → Int) : Int → Option Pg := setP (t4 a n l h) a 1 n

section
variable {a : Int} {n l : Nat} {h : Nat → Int}
theorem t1_free (h0 : 0 ≤ a) (ha : a ≤ 1044480) (hn : n ≤ 8) (i : Nat) (hi : i < n) : t1 (a + i * 4096) = none := by
  unfold t1
  rw [setP_out _ _ _ _ _ (fun i' hi' => by omega)]
theorem t2_in (i : Nat) (hi : i < n) : t2 a n (a + i * 4096) = some ⟨2, fun _ => 0⟩ := setP_in _ _ _ _ _ hi
theorem t2_head (hn : 1 ≤ n) : t2 a n a = some ⟨2, fun _ => 0⟩ := by
  have := t2_in (a := a) (n := n) 0 (by omega)
  rwa [show a + ((0 : Nat) : Int) * 4096 = a by omega] at this
theorem t2_inM (hm : a % 4096 = 0) (hn : 1 ≤ n) (hl : l ≤ 4000) : InM (t2 a n) a l := fun i h0 h1 => by
  rw [show a + i - (a + i) % 4096 = a by omega, t2_head hn]
  simp
theorem t3_in (i : Nat) (hi : i < n) : t3 a n l h (a + i * 4096) ≠ none := fun e => by
  have := putP_none.1 e
  rw [t2_in i hi] at this
  cases this
theorem t4_free (i : Nat) (hi : i < n) : t4 a n l h (a + i * 4096) = none := clrP_in _ _ _ _ hi
theorem t4_not (hn : 1 ≤ n) : ¬ (RowOk a n ∧ ∀ i : Nat, (i : Int) < (n : Int) → t4 a n l h (a + i * 4096) ≠ none) := fun hc => hc.2 0 (by omega) (t4_free 0 (by omega))
theorem t5_head (hn : 1 ≤ n) : t5 a n l h a = some ⟨1, fun _ => 0⟩ := by
  have := setP_in (t4 a n l h) a 1 n 0 (by omega)
  rwa [show a + ((0 : Nat) : Int) * 4096 = a by omega] at this

theorem prot_set {mp : Int → Option Pg} (h : ∀ x g, mp x = some g → 0 ≤ g.prot ∧ g.prot ≤ 15) (p a : Int) (hp : 0 ≤ p ∧ p ≤ 15) : ∀ (k : Nat) x g, setP mp a p k x = some g → 0 ≤ g.prot ∧ g.prot ≤ 15
  | 0, x, g, e => h x g e
  | k + 1, x, g, e => by
    have e : upd (setP mp a p k) (a + k * 4096) _ x = some g := e
    by_cases c : x = a + k * 4096
    · rw [c, upd_same] at e; cases e; exact hp
    · rw [upd_other _ _ c] at e; exact prot_set h p a hp k x g e
theorem prot_put {mp : Int → Option Pg} (h' : ∀ x g, mp x = some g → 0 ≤ g.prot ∧ g.prot ≤ 15) : ∀ x g, putP mp a l h x = some g → 0 ≤ g.prot ∧ g.prot ≤ 15 := fun x g e => by
  unfold putP at e
  cases hm : mp x with
  | none => rw [hm] at e; cases e
  | some g0 => rw [hm] at e; cases e; exact h' x g0 hm
theorem prot_clr {mp : Int → Option Pg} (h : ∀ x g, mp x = some g → 0 ≤ g.prot ∧ g.prot ≤ 15) (a : Int) : ∀ (k : Nat) x g, clrP mp a k x = some g → 0 ≤ g.prot ∧ g.prot ≤ 15
  | 0, x, g, e => h x g e
  | k + 1, x, g, e => by
    have e : upd (clrP mp a k) (a + k * 4096) _ x = some g := e
    by_cases c : x = a + k * 4096
    · rw [c, upd_same] at e; cases e
    · rw [upd_other _ _ c] at e; exact prot_clr h a k x g e
theorem t5_prot : ∀ x g, t5 a n l h x = some g → 0 ≤ g.prot ∧ g.prot ≤ 15 :=
  prot_set (prot_clr (prot_put (prot_set (prot_set (fun x g e => by cases e) 1 _ (by decide) 2) 2 a (by decide) n)) a n) 1 a (by decide) n

theorem t5_ask (hm : a % 4096 = 0) (hn : 1 ≤ n) : (askS (t5 a n l h) 1 2 4096 a 4096).1 = 0 := by
  unfold askS
  rw [if_neg (by omega), show a - a % 4096 = a by omega, t5_head hn]
  have e1 : (bits .and .i64 1 8 != 0) = false := by decide
  have e2 : (bits .and .i64 1 1 == 0) = false := by decide
  simp only [e1, e2]
  simp
  unfold askS
  simp [hm]
theorem t5_byte (hm : a % 4096 = 0) (hn : 1 ≤ n) (q : Nat) (hq : q < 4096) : byteAt (t5 a n l h) (a + q) = 0 := by
  unfold byteAt
  rw [show a + (q : Int) - (a + q) % 4096 = a by omega, t5_head hn]
end
end Go.Proofs.Ytlifaldbdjcgjaa
