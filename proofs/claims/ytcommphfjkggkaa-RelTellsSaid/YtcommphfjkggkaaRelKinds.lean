/- Layer 10: the sites that are told are of kinds that are, within the bytes, and not too many. -/
import Derived.Test.YtcommphfjkggkaaRelApp2
namespace Go.Proofs.Ytcommphfjkggkaa
open Go.ChangeShapes Go.WideShapes Go.ChangeAt Go.RowKit
set_option linter.unusedVariables false

def GoodS (n : Nat) (x : Site) : Prop := relLen x.1 ≠ 0 ∧ 0 ≤ x.2 ∧ x.2 + relLen x.1 ≤ n
def GoodL (n : Nat) (l : List Site) : Prop := l.length ≤ 512 ∧ ∀ x ∈ l, GoodS n x

theorem rowS_good (n : Nat) (f : Nat → Int) (hf : Bytes255 f) (p : Int) (hp : 0 ≤ p) : ∀ (k o : Nat) (l l' : List Site), GoodL n l → rowS n f p k o l = some l' → GoodL n l'
  | 0, o, l, l', hl, h => by
    unfold rowS at h
    injection h with h
    subst h
    exact hl
  | k + 1, o, l, l', hl, h => by
    unfold rowS at h
    by_cases c : rdF f o 2 / 4096 = 0
    · rw [if_pos c] at h
      exact rowS_good n f hf p hp k (o + 2) l l' hl h
    · rw [if_neg c] at h
      by_cases d : siteOk n l (siteOf p (rdF f o 2))
      · rw [if_pos d] at h
        refine rowS_good n f hf p hp k (o + 2) _ l' ⟨by rw [List.length_append]; have := d.2.2.1; simp; omega, fun x hx => ?_⟩ h
        rcases List.mem_append.1 hx with hx | hx
        · exact hl.2 x hx
        · rw [List.mem_singleton] at hx
          subst hx
          exact ⟨d.1, by unfold siteOf; simp only; omega, d.2.1⟩
      · rw [if_neg d] at h; cases h

theorem blocksS_good (n : Nat) (f : Nat → Int) (hf : Bytes255 f) (e : Nat) : ∀ (F o : Nat) (l l' : List Site), GoodL n l → blocksS n f e F o l = some l' → GoodL n l'
  | 0, o, l, l', hl, h => by unfold blocksS at h; cases h
  | F + 1, o, l, l', hl, h => by
    unfold blocksS at h
    by_cases c : e ≤ o
    · rw [if_pos c] at h
      injection h with h
      subst h
      exact hl
    · rw [if_neg c] at h
      cases hh : headS f o e with
      | none => rw [hh] at h; cases h
      | some pz =>
        obtain ⟨p, z⟩ := pz
        rw [hh] at h
        simp only at h
        have hp : 0 ≤ p := by rw [(headS_some hh).2.1]; exact (rdF_bd f hf 4 o).1
        cases hr : rowS n f p ((z.toNat - 8) / 2) (o + 8) l with
        | none => rw [hr] at h; cases h
        | some l1 =>
          rw [hr] at h
          exact blocksS_good n f hf e F _ l1 l' (rowS_good n f hf p hp _ _ l l1 hl hr) h

theorem parse_good {n : Nat} {f : Nat → Int} {r s : Int} {l : List Site} (hf : Bytes255 f) (h : parseS n f r s = some l) : GoodL n l := by
  have h0 : GoodL n [] := ⟨by simp, fun x hx => by simp at hx⟩
  unfold parseS at h
  by_cases c : r = 0
  · rw [if_pos c] at h
    injection h with h
    subst h
    exact h0
  · rw [if_neg c] at h
    by_cases d : 0 ≤ r ∧ 0 ≤ s ∧ r ≤ n - s
    · rw [if_neg (fun k => k d)] at h
      exact blocksS_good n f hf _ _ _ [] l h0 h
    · rw [if_pos d] at h; cases h

theorem good_kind {n : Nat} {x : Site} (h : GoodS n x) : x.1 = 3 ∨ x.1 = 10 := by
  have h1 := h.1
  unfold relLen at h1
  by_cases a : x.1 = 3
  · exact .inl a
  · by_cases b : x.1 = 10
    · exact .inr b
    · rw [if_neg a, if_neg b] at h1; exact absurd rfl h1

/-- Which bytes sites have, each of which is of a kind. -/
theorem spans_good {n : Nat} : ∀ {l : List Site}, (∀ x ∈ l, GoodS n x) → spansI l = l.map fun x => (x.2, relLen x.1)
  | [], _ => rfl
  | x :: l, h => by
    have hx := h x List.mem_cons_self
    have ih := spans_good (n := n) (l := l) (fun y hy => h y (List.mem_cons_of_mem _ hy))
    have hb := relLen_bd x.1
    have h1 := hx.1
    unfold spansI at ih ⊢
    rw [List.flatMap_cons, ih, if_pos (by omega)]
    rfl
end Go.Proofs.Ytcommphfjkggkaa
