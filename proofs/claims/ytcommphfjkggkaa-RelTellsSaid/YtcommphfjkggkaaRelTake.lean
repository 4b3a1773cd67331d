/- package rel: take. -/
import Derived.Test.YtcommphfjkggkaaRel
namespace Go.Proofs.Ytcommphfjkggkaa
open Go.ChangeShapes Go.WideShapes Go.ChangeAt Go.RowKit
set_option linter.unusedVariables false

/-- Whether a site goes in, where tk tells which of n bytes are taken. -/
def takeP (n : Nat) (tk : Nat → Bool) (k r : Int) : Prop := relLen k ≠ 0 ∧ r + relLen k ≤ n ∧ ∀ j : Nat, r ≤ j → (j : Int) < r + relLen k → tk j = false

def setT (tk : Nat → Bool) (r e : Int) (j : Nat) : Bool := tk j || (decide (r ≤ j) && decide ((j : Int) < e))

/-- The row g of n marks: if b, just those of t are set. -/
def TakenTo (w : World) (g n : Nat) (b : Bool) (t : Nat → Bool) : Prop := ∃ tk', Own w g n (fun i => .bool (tk' i)) ∧ (b = true → tk' = t)

theorem grown_below {w w' : World} (h : Below w.heap.size w w') (row : Option Nat) : w.grownBy w' row := ⟨h.os, h.tape, h.output, h.size, fun k hk _ => h.block k hk⟩
theorem own_two (w : World) (x y : Value) (t : TypeId) : Own (w.alloc (.cells #[x, y] t)) w.heap.size 2 (fun i => if i = 0 then x else y) :=
  ⟨by simp, fun i hi => ⟨by rcases (by omega : i = 0 ∨ i = 1) with rfl | rfl <;> simp [go_sem], by simp [go_sem]⟩⟩

set_option maxRecDepth 100000 in
theorem take_any (w : World) (g n cap : Nat) (tk : Nat → Bool) (k r : Int) (b : Bool) (h0 : 0 ≤ r) (h1 : r ≤ 9223372036854775807) (hn : n ≤ 140737488355328) (ho : Own w g n (fun i => .bool (tk i))) (hb : b = true ↔ takeP n tk k r) :
    Calls Try.prog 27 #[.slice (some ⟨g, 0, none⟩) n cap, .agg #[.int .i64 k, .int .i64 r]] w fun e w' =>
      e = .returned (.bool b) ∧ TakenTo w' g n b (setT tk r (r + relLen k)) ∧ w.grownBy w' (some g) := by
  have HO := Lib.hid ho
  have HB := Lib.hid hb
  have hglt := ho.1
  have hB0 : Below w.heap.size w (w.alloc (.cells #[.int .i64 k, .int .i64 r] 30)) := (Below.refl w.heap.size w).alloc (Nat.le_refl _) _
  have HB0 := Lib.hid hB0
  have HT0 := Lib.hid (own_two w (.int .i64 k) (.int .i64 r) 30)
  obtain ⟨l0, l1⟩ := relLen_bd k
  clear ho hb hB0
  go_enter Try.func27, Try.ntmps27
  go_wp2_with fail
  refine (length_any k r _).mono ?_
  rintro e w1 ⟨rfl, hb1⟩
  have HB1 := Lib.hid (HB0.out.trans (hb1.mono (by simp)))
  have HT1 := Lib.hid (HT0.out.below hb1 (by simp))
  clear hb1 HT0 HB0
  have c0 := HT1.out.cell (i := 0) (by omega)
  have c1 := HT1.out.cell (i := 1) (by omega)
  simp only [if_pos, if_neg, Nat.one_ne_zero] at c0 c1
  obtain ⟨L, hL⟩ : ∃ L, relLen k = L := ⟨_, rfl⟩
  have HBB : Hid (b = true ↔ L ≠ 0 ∧ r + L ≤ n ∧ ∀ j : Nat, r ≤ j → (j : Int) < r + L → tk j = false) := by have h := HB.out; unfold takeP at h; rw [hL] at h; exact h
  rw [hL] at l0 l1
  have HL := Lib.hid hL
  try simp only [hL]
  clear hL HB
  have HOW1 := Lib.hid (HO.out.below HB1.out hglt)
  by_cases d0 : L = 0
  · have hbf : b = false := by cases b with
      | false => rfl
      | true => exact absurd d0 (HBB.out.1 rfl).1
    subst hbf d0
    go_wp2
    go_ret
    exact ⟨rfl, ⟨tk, HOW1.out, fun h => by cases h⟩, (grown_below HB1.out (some g))⟩
  · have e0 : (L == 0) = false := by simpa using d0
    by_cases d1 : (n : Int) - L < r
    · have hbf : b = false := by cases b with
        | false => rfl
        | true => have := (HBB.out.1 rfl).2.1; omega
      subst hbf
      have e1 : decide ((n : Int) - L < r) = true := decide_eq_true d1
      go_wp2
      go_ret
      exact ⟨rfl, ⟨tk, HOW1.out, fun h => by cases h⟩, (grown_below HB1.out (some g))⟩
    · have e1 : decide ((n : Int) - L < r) = false := decide_eq_false d1
      obtain ⟨R, rfl⟩ : ∃ R : Nat, r = R := ⟨r.toNat, by omega⟩
      obtain ⟨N, rfl⟩ : ∃ N : Nat, L = N := ⟨L.toNat, by omega⟩
      have hgB : g ≠ w.heap.size := by omega
      have HGB := Lib.hid hgB
      have HG1 := Lib.hid (grown_below HB1.out (some g))
      clear hgB
      go_wp2_with fail
      clear c0 c1
      go_loopw [6] (fun o wr => ∃ i : Nat, R ≤ i ∧ i ≤ R + N ∧ o = .int .i64 i ∧ Own wr g n (fun q => .bool (setT tk R i q)) ∧ Own wr w.heap.size 2 (fun i => if i = 0 then .int .i64 k else .int .i64 (R : Int)) ∧ (∀ j : Nat, R ≤ j → j < i → tk j = false) ∧ w.grownBy wr (some g)) (fun o _ => (R + N) - (intOf o).toNat)
      case atStart => exact ⟨R, by omega, by omega, rfl, HOW1.out.congr (fun q _ => by simp only [setT]; congr 1; by_cases hq : (R : Int) ≤ q <;> simp <;> omega), HT1.out, fun j h1 h2 => by omega, HG1.out⟩
      case round =>
        obtain ⟨i, hi, hi2, rfl, hto, htt, hfr, hg⟩ := hrel
        have HTO := Lib.hid hto
        have HTT := Lib.hid htt
        have HFR := Lib.hid hfr
        have HG := Lib.hid hg
        have c1 := htt.cell (i := 1) (by omega)
        simp only [if_neg, Nat.one_ne_zero] at c1
        clear hto htt hfr hg HT1 HOW1 HG1
        by_cases hlt : i < R + N
        · have ct := HTO.out.cell (i := i) (by omega)
          have cz := HTO.out.frozen (i := i) (by omega)
          have hst : setT tk R i i = tk i := by simp [setT]
          rw [hst] at ct
          have hin : i < n := by omega
          cases htk : tk i with
          | true =>
            have hbf : b = false := by cases b with
              | false => rfl
              | true => have := (HBB.out.1 rfl).2.2 i (by omega) (by omega); rw [htk] at this; cases this
            subst hbf
            rw [htk] at ct
            clear hst htk
            go_wp2_with fail
            go_ret
            exact ⟨rfl, ⟨_, HTO.out, fun h => by cases h⟩, HG.out⟩
          | false =>
            have HF2 := Lib.hid htk
            rw [htk] at ct
            clear hst htk
            go_wp2_with fail
            go_roundw
            case rel => exact ⟨i + 1, by omega, by omega, by go_num, (HTO.out.set hin (.bool true)).congr (fun q hq => by
                by_cases e : q = i
                · subst e; simp [setT]; omega
                · simp only [if_neg e, setT]; rw [show decide ((q : Int) < i) = decide ((q : Int) < ((i + 1 : Nat) : Int)) by rw [decide_eq_decide]; omega]), HTT.out.of_block (Below.heap_setCell _ _ _ _ (fun h => HGB.out h.symm)) (by simp [World.setCell]), fun j h1 h2 => by
                by_cases e : j = i
                · subst e; exact HF2.out
                · exact HFR.out j h1 (by omega), only_setCell HG.out (.inl rfl) _⟩
            case measure => simp [intOf]; omega
        · obtain rfl : i = R + N := by omega
          have hbt : b = true := HBB.out.2 ⟨d0, by omega, fun j h1 h2 => HFR.out j (by omega) (by omega)⟩
          subst hbt
          go_wp2_with fail
          go_ret
          exact ⟨rfl, ⟨_, HTO.out, fun _ => by rw [HL.out, show ((R + N : Nat) : Int) = (R : Int) + N by omega]⟩, HG.out⟩
end Go.Proofs.Ytcommphfjkggkaa
