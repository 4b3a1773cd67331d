/- VmemSpans. -/
import Derived.Test.YtlifaldbdjcgjaaVawake
namespace Go.Proofs.Ytlifaldbdjcgjaa
open Go.ChangeShapes Go.WideShapes Go.ChangeAt Go.RowKit
open Go.Maps (Keyed)
set_option linter.unusedVariables false
set_option linter.unusedSimpArgs false

theorem and_65535 (n : Int) : bits .and .i64 n 65535 = n % 65536 := i64_mask n 16 (by omega)

/-- Three pages from 4096 on; the middle one may be missing. -/
def mpS : Bool → Int → Option Pg
  | true => clrP (setP (fun _ => none) 4096 0 3) 8192 1
  | false => setP (fun _ => none) 4096 0 3

theorem setP_three (i : Nat) (hi : i < 3) : setP (fun _ => none) 4096 0 3 (4096 * ((i : Int) + 1)) = some ⟨0, fun _ => 0⟩ := by
  have := setP_in (fun _ => none) 4096 0 3 i hi
  rw [show (4096 : Int) + i * 4096 = 4096 * (i + 1) by omega] at this
  exact this

theorem mpS_some (gap : Bool) (i : Nat) (hi : i < 3) (h : ¬ (gap = true ∧ i = 1)) : mpS gap (4096 * ((i : Int) + 1)) = some ⟨0, fun _ => 0⟩ := by
  cases gap with
  | false => rw [mpS]; exact setP_three i hi
  | true =>
    rw [mpS]
    rw [clrP_out _ _ _ 1 (fun j hj => by have : i ≠ 1 := fun e => h ⟨rfl, e⟩
                                         omega)]
    exact setP_three i hi
theorem mpS_none : mpS true 8192 = none := by
  rw [mpS]
  have := clrP_in (setP (fun _ => none) 4096 0 3) 8192 1 0 (by omega)
  simpa using this

theorem byteAt_put {mp : Int → Option Pg} {x : Int} {g : Pg} (hg : mp (x - x % 4096) = some g) (a : Int) (n : Nat) (h : Nat → Int) :
    byteAt (putP mp a n h) x = if a ≤ x ∧ x < a + n then h (x - a).toNat else g.dat (x % 4096).toNat := by
  unfold byteAt putP
  rw [hg]
  simp only [Option.map_some]
  by_cases c : a ≤ x ∧ x < a + n
  · rw [if_pos c, if_pos (by omega)]
    congr 1
    omega
  · rw [if_neg c, if_neg (by omega)]
theorem byteAt_of {mp : Int → Option Pg} {x : Int} {g : Pg} (hg : mp (x - x % 4096) = some g) : byteAt mp x = g.dat (x % 4096).toNat := by
  unfold byteAt
  rw [hg]

/-- What stands in the pages in the end. -/
def mpT (gap : Bool) (ok : Bool) (T len : Nat) (h : Nat → Int) : Int → Option Pg :=
  match ok with
  | true => putP (mpS gap) (4096 + T) len h
  | false => mpS gap

theorem mpT_in (gap ok : Bool) (T len : Nat) (h : Nat → Int) (i : Nat) (hi : i < 3) (hg : ¬ (gap = true ∧ i = 1)) : InM (mpT gap ok T len h) (4096 * ((i : Int) + 1)) 4096 := by
  intro j h0 h1
  rw [show 4096 * ((i : Int) + 1) + j - (4096 * ((i : Int) + 1) + j) % 4096 = 4096 * ((i : Int) + 1) by omega]
  unfold mpT
  have h2 := mpS_some gap i hi hg
  cases ok with
  | false => show mpS gap _ ≠ none; rw [h2]; simp
  | true => exact mt putP_none.1 (by rw [h2]; simp)
theorem mpT_out (ok : Bool) (T len : Nat) (h : Nat → Int) : ¬ InM (mpT true ok T len h) (4096 * (((1 : Nat) : Int) + 1)) 4096 := by
  intro H
  have h1 := H 0 (by omega) (by omega)
  rw [show 4096 * (((1 : Nat) : Int) + 1) + 0 - (4096 * (((1 : Nat) : Int) + 1) + 0) % 4096 = 8192 from rfl] at h1
  apply h1
  unfold mpT
  cases ok with
  | false => exact mpS_none
  | true => exact putP_none.2 mpS_none
theorem mpT_byte (gap ok : Bool) (T len : Nat) (h : Nat → Int) (i : Nat) (hi : i < 3) (hg : ¬ (gap = true ∧ i = 1)) (k : Nat) (hk : k < 4096) :
    byteAt (mpT gap ok T len h) (4096 * ((i : Int) + 1) + k) = if ok = true ∧ (T : Int) ≤ 4096 * i + k ∧ (4096 * i + k : Int) < T + len then h (4096 * (i : Int) + k - T).toNat else 0 := by
  have h2 := mpS_some gap i hi hg
  have h3 : mpS gap (4096 * ((i : Int) + 1) + k - (4096 * ((i : Int) + 1) + k) % 4096) = some ⟨0, fun _ => 0⟩ := by rw [show 4096 * ((i : Int) + 1) + k - (4096 * ((i : Int) + 1) + k) % 4096 = 4096 * ((i : Int) + 1) by omega]; exact h2
  unfold mpT
  cases ok with
  | false => show byteAt (mpS gap) _ = _; rw [byteAt_of h3]; simp
  | true =>
    show byteAt (putP (mpS gap) (4096 + T) len h) _ = _
    rw [byteAt_put h3]
    by_cases c : (4096 : Int) + T ≤ 4096 * ((i : Int) + 1) + k ∧ 4096 * ((i : Int) + 1) + k < 4096 + T + len
    · rw [if_pos c, if_pos (by refine ⟨rfl, ?_, ?_⟩ <;> omega)]
      congr 1
      omega
    · rw [if_neg c, if_neg (by omega)]

/-- Whether the bytes go in. -/
theorem spans_in (gap : Bool) (T len : Nat) (hT : T + len ≤ 12288) (h : gap = false ∨ len = 0 ∨ T + len ≤ 4096 ∨ 8192 ≤ T) : InM (mpS gap) (4096 + T) len := by
  intro j h0 h1
  obtain ⟨i, hi, he⟩ : ∃ i : Nat, i < 3 ∧ (4096 + (T : Int) + j) - (4096 + (T : Int) + j) % 4096 = 4096 * ((i : Int) + 1) := ⟨((T + j) / 4096).toNat, by omega, by omega⟩
  rw [he, mpS_some gap i hi (fun hg => by
    obtain ⟨hg, rfl⟩ := hg
    rcases h with h | h | h | h
    · rw [h] at hg; cases hg
    · omega
    · omega
    · omega)]
  simp
theorem spans_out (T len : Nat) (h0 : 0 < len) (h1 : 4096 < T + len) (h2 : T < 8192) : ¬ InM (mpS true) (4096 + T) len := by
  intro H
  by_cases c : T < 4096
  · have := H (4096 - T) (by omega) (by omega)
    rw [show (4096 + (T : Int) + (4096 - T)) - (4096 + (T : Int) + (4096 - T)) % 4096 = 8192 by omega] at this
    exact this mpS_none
  · have := H 0 (by omega) (by omega)
    rw [show (4096 + (T : Int) + 0) - (4096 + (T : Int) + 0) % 4096 = 8192 by omega] at this
    exact this mpS_none

/-- A slice of n bytes h: it has none, or they lie somewhere. -/
def SlB (w : World) (A : Option Addr) (n : Nat) (f : Nat → Int) : Prop := n = 0 ∨ ∃ b off, A = some ⟨b, off, none⟩ ∧ b < w.heap.size ∧ Row w b off n f

end Go.Proofs.Ytlifaldbdjcgjaa
