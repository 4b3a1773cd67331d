/- package rel: Apply, Sites. -/
import Derived.Test.YtclbbekdkljepaaRelApply
namespace Go.Proofs.Ytclbbekdkljepaa
open Go.ChangeShapes Go.WideShapes Go.ChangeAt Go.RowKit
set_option linter.unusedVariables false

/-- A slice of n bytes f, new since w0. -/
def ResB (w0 w : World) (A : Option Addr) (n cap : Nat) (f : Nat → Int) : Prop :=
  n ≤ cap ∧ cap ≤ maxLen ∧ (n = 0 ∨ ∃ g, A = some ⟨g, 0, none⟩ ∧ w0.heap.size ≤ g ∧ Own w g n (fun i => .int .u8 (f i)))

theorem ResB.sl {w0 w : World} {A : Option Addr} {n cap : Nat} {f : Nat → Int} (h : ResB w0 w A n cap f) : SlB w A n f := by
  rcases h.2.2 with h | ⟨g, rfl, _, ho⟩
  · exact .inl h
  · exact .inr ⟨g, 0, rfl, ho.1, own_row ho (fun i _ => rfl)⟩

def applyI (n : Nat) (d : Int) (f : Nat → Int) (l : List Site) : Nat → Int := l.foldl (addI n d) f
theorem applyI255 {n : Nat} {d : Int} : ∀ (l : List Site) {f : Nat → Int}, Bytes255 f → Bytes255 (applyI n d f l)
  | [], _, hf => hf
  | x :: l, f, hf => applyI255 l (f := addI n d f x) (addI255 hf x)

def ApplyR (w w' : World) (n : Nat) (f : Nat → Int) (e : Ending) : Prop := ∃ A cap, e = .returned (.slice A n cap) ∧ ResB w w' A n cap f ∧ Below w.heap.size w w'

theorem addI_zero (d : Int) (f : Nat → Int) (x : Site) (h : relLen x.1 ≠ 0 → ¬ (0 ≤ x.2 ∧ x.2 + relLen x.1 ≤ 0)) : addI 0 d f x = f := by
  unfold addI
  exact if_neg (fun ⟨h1, h2, h3⟩ => h h1 ⟨h2, h3⟩)

/-- A site out of a slice, at the walk's addresses. -/
theorem SlT.site {w : World} {L : Option Addr} {l : List Site} (h : SlT relC 2 w L l) {i : Nat} (hi : i < l.length) : ∃ b off, L = some ⟨b, off, none⟩ ∧ b < w.heap.size ∧ w.cell? ⟨b, off + i * 2, none⟩ = some (.int .i64 l[i].1) ∧ w.cell? ⟨b, off + i * 2 + 1, none⟩ = some (.int .i64 l[i].2) := by
  rcases h with h | ⟨b, off, rfl, hlt, hc⟩
  · rw [h] at hi; simp at hi
  · exact ⟨b, off, rfl, hlt, by have := hc i hi 0 _ (by simp [relC]; rfl); simpa using this, by have := hc i hi 1 _ (by simp [relC]; rfl); rwa [← Nat.add_assoc] at this⟩

theorem applyI_snoc (n : Nat) (d : Int) (f : Nat → Int) (l : List Site) {i : Nat} (hi : i < l.length) : applyI n d f (l.take (i + 1)) = addI n d (applyI n d f (l.take i)) l[i] := by
  unfold applyI
  rw [List.take_succ_eq_append_getElem hi, List.foldl_append]
  rfl

def spanC (x : Site) : List Value := [.int .i64 x.1, .int .i64 x.2]
theorem spanC_len (x : Site) : (spanC x).length = 2 := rfl
theorem spanC_one (x : Site) : ∀ u ∈ spanC x, u.oneCell' = true := relC_one x
/-- Which bytes sites have. -/
def spansI (l : List Site) : List Site := l.flatMap fun x => if 0 < relLen x.1 then [(x.2, relLen x.1)] else []

theorem spansI_le : ∀ (l : List Site), (spansI l).length ≤ l.length
  | [] => by simp [spansI]
  | x :: l => by
    have := spansI_le l
    unfold spansI at this ⊢
    rw [List.flatMap_cons, List.length_append]
    have h2 : (if 0 < relLen x.1 then [(x.2, relLen x.1)] else ([] : List Site)).length ≤ 1 := by split <;> simp
    rw [List.length_cons]
    omega
theorem spansI_snoc (l : List Site) {i : Nat} (hi : i < l.length) : spansI (l.take (i + 1)) = spansI (l.take i) ++ (if 0 < relLen l[i].1 then [(l[i].2, relLen l[i].1)] else []) := by
  unfold spansI
  rw [List.take_succ_eq_append_getElem hi, List.flatMap_append]
  simp

end Go.Proofs.Ytclbbekdkljepaa
