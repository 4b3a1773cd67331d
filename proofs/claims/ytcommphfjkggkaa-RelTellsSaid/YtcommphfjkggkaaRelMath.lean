/- What Parse tells of rows and blocks that were written. -/
import Derived.Test.YtcommphfjkggkaaRelMade
namespace Go.Proofs.Ytcommphfjkggkaa
open Go.ChangeShapes Go.WideShapes Go.ChangeAt Go.RowKit
set_option linter.unusedVariables false

/-- The sites that entries tell, one by one. -/
def rowV (n : Nat) (p : Int) : List Int → List Site → Option (List Site)
  | [], l => some l
  | v :: vs, l => if v / 4096 = 0 then rowV n p vs l else if siteOk n l (siteOf p v) then rowV n p vs (l ++ [siteOf p v]) else none

theorem rowS_rowV (n : Nat) (f : Nat → Int) (p : Int) : ∀ (vs : List Int) (o : Nat) (l : List Site), (∀ i (h : i < vs.length), rdF f (o + 2 * i) 2 = vs[i]) → rowS n f p vs.length o l = rowV n p vs l
  | [], o, l, _ => rfl
  | v :: vs, o, l, h => by
    have h0 := h 0 (by simp)
    simp only [Nat.mul_zero, Nat.add_zero, List.getElem_cons_zero] at h0
    have ih := fun l => rowS_rowV n f p vs (o + 2) l (fun i hi => by
      have := h (i + 1) (by simpa using hi)
      simp only [List.getElem_cons_succ] at this
      rwa [show o + 2 * (i + 1) = o + 2 + 2 * i by omega] at this)
    show (if rdF f o 2 / 4096 = 0 then _ else if siteOk n l (siteOf p (rdF f o 2)) then _ else none) = _
    rw [h0, ih, ih]
    rfl

theorem rd2 {f : Nat → Int} {o : Nat} {v : Int} (h0 : f o = v % 256) (h1 : f (o + 1) = v / 256) : rdF f o 2 = v := by
  show f o + 256 * (f (o + 1) + 256 * 0) = v
  rw [h0, h1]
  omega

theorem rdF_byteOf {f : Nat → Int} {o n : Nat} {v : Int} (h : ∀ i, i < n → f (o + i) = byteOf v i) : rdF f o n = v % 256 ^ n := by
  have h1 := rdF_put f v n n o 0 (by omega)
  rw [Nat.add_zero] at h1
  rw [← rdF_congr (f := f) (f' := putI f o v n) n o (fun i hi => by unfold putI; rw [if_pos (by omega), h i hi]; congr 1; omega)] at h1
  rw [h1]
  simp

/-- Sites that are apart from each other, of kinds that are some. -/
def Far (l : List Site) : Prop := l.Pairwise fun x y => x.2 + relLen x.1 ≤ y.2 ∨ y.2 + relLen y.1 ≤ x.2
def Kinds (n : Nat) (l : List Site) : Prop := ∀ x ∈ l, (x.1 = 3 ∨ x.1 = 10) ∧ 0 ≤ x.2 ∧ x.2 + relLen x.1 ≤ n

theorem relLen_pos {k : Int} (h : k = 3 ∨ k = 10) : 0 < relLen k := by rcases h with rfl | rfl <;> decide

/-- The number that stands for a site. -/
def numOf (x : Site) : Int := x.1 % 16 * 4096 + x.2 % 4096
theorem siteOf_num {x : Site} (h : x.1 = 3 ∨ x.1 = 10) (p : Int) (hp : x.2 / 4096 = p) : numOf x / 4096 ≠ 0 ∧ siteOf (p * 4096) (numOf x) = x := by
  obtain ⟨k, r⟩ := x
  simp only at h hp
  unfold numOf siteOf
  simp only
  rcases h with rfl | rfl
  · refine ⟨by omega, ?_⟩
    rw [Prod.mk.injEq]
    constructor <;> omega
  · refine ⟨by omega, ?_⟩
    rw [Prod.mk.injEq]
    constructor <;> omega

theorem rowV_all (n : Nat) (p : Int) : ∀ (xs l : List Site), Kinds n xs → (∀ x ∈ xs, x.2 / 4096 = p) → (l ++ xs).length ≤ 512 → Far (l ++ xs) → rowV n (p * 4096) (xs.map numOf) l = some (l ++ xs)
  | [], l, _, _, _, _ => by simp [rowV]
  | x :: xs, l, hk, hp, hl, hf => by
    have hx := hk x (by simp)
    obtain ⟨s1, s2⟩ := siteOf_num hx.1 p (hp x (by simp))
    show (if numOf x / 4096 = 0 then _ else if siteOk n l (siteOf (p * 4096) (numOf x)) then _ else none) = _
    rw [if_neg s1, s2, if_pos]
    · have := rowV_all n p xs (l ++ [x]) (fun y hy => hk y (by simp [hy])) (fun y hy => hp y (by simp [hy])) (by simpa using hl) (by simpa using hf)
      rw [this]
      simp
    · refine ⟨by have := relLen_pos hx.1; omega, hx.2.2, by simp at hl; omega, fun y hy => ?_⟩
      have := (List.pairwise_append.1 hf).2.2 y hy x (by simp)
      omega

theorem rowV_append (n : Nat) (p : Int) (us : List Int) : ∀ (vs : List Int) (l : List Site), rowV n p (vs ++ us) l = (rowV n p vs l).bind (rowV n p us)
  | [], l => rfl
  | v :: vs, l => by
    show (if v / 4096 = 0 then rowV n p (vs ++ us) l else if siteOk n l (siteOf p v) then rowV n p (vs ++ us) (l ++ [siteOf p v]) else none) = _
    rw [rowV_append n p us vs, rowV_append n p us vs]
    show _ = (if v / 4096 = 0 then rowV n p vs l else if siteOk n l (siteOf p v) then rowV n p vs (l ++ [siteOf p v]) else none).bind _
    split
    · rfl
    · split <;> rfl
theorem rowV_zero (n : Nat) (p : Int) (l : List Site) : rowV n p [0] l = some l := by simp [rowV]
end Go.Proofs.Ytcommphfjkggkaa
