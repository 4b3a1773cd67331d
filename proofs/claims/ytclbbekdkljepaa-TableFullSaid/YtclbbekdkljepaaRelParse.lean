/- package rel: Parse. -/
import Derived.Test.YtclbbekdkljepaaRelTake
import Derived.Test.YtclbbekdkljepaaOwnT
import Derived.Test.YtclbbekdkljepaaCopy
import Derived.Deep.DeepFit
namespace Go.Proofs.Ytclbbekdkljepaa
open Go.ChangeShapes Go.WideShapes Go.ChangeAt Go.RowKit
set_option linter.unusedVariables false

abbrev Site := Int × Int
def relC (x : Site) : List Value := [.int .i64 x.1, .int .i64 x.2]
theorem relC_len (x : Site) : (relC x).length = 2 := rfl
theorem relC_one (x : Site) : ∀ u ∈ relC x, u.oneCell' = true := by
  intro u hu
  simp [relC] at hu
  rcases hu with rfl | rfl <;> rfl

/-- Whether x goes in beside the sites l, in n bytes. -/
def siteOk (n : Nat) (l : List Site) (x : Site) : Prop := relLen x.1 ≠ 0 ∧ x.2 + relLen x.1 ≤ n ∧ l.length < 512 ∧ ∀ y ∈ l, y.2 + relLen y.1 ≤ x.2 ∨ x.2 + relLen x.1 ≤ y.2
instance (n : Nat) (l : List Site) (x : Site) : Decidable (siteOk n l x) := by unfold siteOk; infer_instance

/-- The site that an entry v of page p tells. -/
def siteOf (p v : Int) : Site := (v / 4096, p + v % 4096)

def rowS (n : Nat) (f : Nat → Int) (p : Int) : Nat → Nat → List Site → Option (List Site)
  | 0, _, l => some l
  | k + 1, o, l => if rdF f o 2 / 4096 = 0 then rowS n f p k (o + 2) l else if siteOk n l (siteOf p (rdF f o 2)) then rowS n f p k (o + 2) (l ++ [siteOf p (rdF f o 2)]) else none

def blocksS (n : Nat) (f : Nat → Int) (e : Nat) : Nat → Nat → List Site → Option (List Site)
  | 0, _, _ => none
  | F + 1, o, l =>
    if e ≤ o then some l else
    match headS f o e with
    | none => none
    | some (p, z) =>
      match rowS n f p ((z.toNat - 8) / 2) (o + 8) l with
      | none => none
      | some l' => blocksS n f e F (o + z.toNat) l'

def parseS (n : Nat) (f : Nat → Int) (r s : Int) : Option (List Site) :=
  if r = 0 then some [] else if ¬ (0 ≤ r ∧ 0 ≤ s ∧ r ≤ n - s) then none else blocksS n f (r.toNat + s.toNat) (s.toNat + 1) r.toNat []

/-- tk tells the bytes of the sites l. -/
structure Marks (tk : Nat → Bool) (l : List Site) : Prop where
  mark : ∀ j : Nat, tk j = true ↔ ∃ y ∈ l, y.2 ≤ j ∧ (j : Int) < y.2 + relLen y.1
  good : ∀ y ∈ l, relLen y.1 ≠ 0 ∧ 0 ≤ y.2
  len : l.length ≤ 512

theorem Marks.site {tk : Nat → Bool} {l : List Site} (h : Marks tk l) (n : Nat) (k r : Int) (h0 : 0 ≤ r) : siteOk n l (k, r) ↔ takeP n tk k r ∧ l.length < 512 := by
  have hL := relLen_bd k
  constructor
  · rintro ⟨h1, h2, h3, h4⟩
    refine ⟨⟨h1, h2, fun j hj1 hj2 => ?_⟩, h3⟩
    cases htk : tk j with
    | false => rfl
    | true =>
      obtain ⟨y, hy, hy1, hy2⟩ := (h.mark j).1 htk
      have := h4 y hy
      simp only at this
      omega
  · rintro ⟨⟨h1, h2, h3⟩, h4⟩
    refine ⟨h1, h2, h4, fun y hy => ?_⟩
    have hy1 := h.good y hy
    have hyL := relLen_bd y.1
    simp only
    by_cases c : y.2 + relLen y.1 ≤ r ∨ r + relLen k ≤ y.2
    · exact c
    · exfalso
      have h5 := h3 (max r y.2).toNat (by omega) (by omega)
      have h6 := (h.mark (max r y.2).toNat).2 ⟨y, hy, by omega, by omega⟩
      rw [h5] at h6
      cases h6

theorem Marks.add {tk : Nat → Bool} {l : List Site} (h : Marks tk l) (k r : Int) (h0 : 0 ≤ r) (hk : relLen k ≠ 0) (hl : l.length < 512) : Marks (setT tk r (r + relLen k)) (l ++ [(k, r)]) := by
  refine ⟨fun j => ?_, fun y hy => ?_, by simp; omega⟩
  · have h1 := h.mark j
    unfold setT
    constructor
    · intro h2
      rw [Bool.or_eq_true] at h2
      rcases h2 with h2 | h2
      · obtain ⟨y, hy, h3⟩ := h1.1 h2
        exact ⟨y, by simp [hy], h3⟩
      · exact ⟨(k, r), by simp, by simpa using h2⟩
    · rintro ⟨y, hy, h3, h4⟩
      rw [Bool.or_eq_true]
      rw [List.mem_append, List.mem_singleton] at hy
      rcases hy with hy | rfl
      · exact .inl (h1.2 ⟨y, hy, h3, h4⟩)
      · exact .inr (by simpa using ⟨h3, h4⟩)
  · rw [List.mem_append, List.mem_singleton] at hy
    rcases hy with hy | rfl
    · exact h.good y hy
    · exact ⟨hk, h0⟩

theorem Marks.nil : Marks (fun _ => false) [] := ⟨fun j => by simp, fun y hy => by simp at hy, by simp⟩

theorem and_4095 (n : Int) : bits .and .i64 n 4095 = n % 4096 := i64_mask n 12 (by omega)

/-- What Parse answers. -/
def ParseR (w w' : World) (r : Option (List Site)) (e : Ending) : Prop :=
  (match r with
   | none => e = .returned (.tuple #[.slice none 0 0, .int .i64 9])
   | some l => ∃ A cap, e = .returned (.tuple #[.slice A l.length cap, .int .i64 0]) ∧ OwnT relC 2 w' w.heap.size 94 (.slice A l.length cap) l) ∧ Below w.heap.size w w'

/-- What stands between two entries: the sites l so far, and the marks of their bytes. -/
structure PState (w wr : World) (n gt : Nat) (A : Option Addr) (cap : Nat) (l : List Site) (tk : Nat → Bool) : Prop where
  own : OwnT relC 2 wr w.heap.size 94 (.slice A l.length cap) l
  row : Own wr gt n (fun i => .bool (tk i))
  marks : Marks tk l
  apart : ∀ k, (Value.slice A l.length cap).ownBlock = some k → k ≠ gt
  bel : Below w.heap.size w wr

theorem infoRel : (Try.prog.info? 94).map (fun i => (i.zero, i.size, i.bytes)) = some (some (.agg #[.int .i64 0, .int .i64 0]), 2, 16) := by kernel_rfl

end Go.Proofs.Ytclbbekdkljepaa
