/- Layer 10: what is laid over at sites that are apart. -/
import Derived.Test.YtcommphfjkggkaaRelApp2
import Derived.Test.YtcommphfjkggkaaRelApart
namespace Go.Proofs.Ytcommphfjkggkaa
open Go.ChangeShapes Go.WideShapes Go.ChangeAt Go.RowKit
set_option linter.unusedVariables false

theorem addI_ne {n : Nat} {d : Int} {f : Nat → Int} {x : Site} {j : Nat} (h : (j : Int) < x.2 ∨ x.2 + relLen x.1 ≤ j) : addI n d f x j = f j := by
  have hb := relLen_bd x.1
  unfold addI
  split
  · next c =>
    unfold putI
    rw [if_neg]
    omega
  · rfl

theorem applyI_ne {n : Nat} {d : Int} {j : Nat} : ∀ (l : List Site) (f : Nat → Int), (∀ x ∈ l, (j : Int) < x.2 ∨ x.2 + relLen x.1 ≤ j) → applyI n d f l j = f j
  | [], _, _ => rfl
  | x :: l, f, h => by
    have h1 := applyI_ne (n := n) (d := d) l (addI n d f x) (fun y hy => h y (List.mem_cons_of_mem _ hy))
    have h2 : applyI n d f (x :: l) j = applyI n d (addI n d f x) l j := rfl
    rw [h2, h1]
    exact addI_ne (h x List.mem_cons_self)

/-- A number is read from where a site is. -/
def rdS (f : Nat → Int) (x : Site) : Int := rdF f x.2.toNat (relLen x.1).toNat

/-- The modulus at a site. -/
def modS (x : Site) : Int := 256 ^ (relLen x.1).toNat
theorem modS_cases {x : Site} (h : x.1 = 3 ∨ x.1 = 10) : (relLen x.1 = 4 ∧ modS x = 4294967296) ∨ (relLen x.1 = 8 ∧ modS x = 18446744073709551616) := by
  rcases h with h | h
  · left; unfold modS; rw [h]; exact ⟨rfl, rfl⟩
  · right; unfold modS; rw [h]; exact ⟨rfl, rfl⟩

theorem rdS_bd {f : Nat → Int} (hf : Bytes255 f) (x : Site) : 0 ≤ rdS f x ∧ rdS f x < modS x := rdF_bd f hf _ _

theorem addI_at {n : Nat} {d : Int} {f : Nat → Int} {x : Site} (hk : x.1 = 3 ∨ x.1 = 10) (h0 : 0 ≤ x.2) (hn : x.2 + relLen x.1 ≤ n) : rdS (addI n d f x) x = (rdS f x + d) % modS x := by
  have hm := modS_cases hk
  have e : addI n d f x = putI f x.2.toNat ((rdS f x + d) % 18446744073709551616) (relLen x.1).toNat := by
    unfold addI
    rw [if_pos ⟨by omega, h0, hn⟩]
    rfl
  have h := rdF_put f ((rdS f x + d) % 18446744073709551616) (relLen x.1).toNat (relLen x.1).toNat x.2.toNat 0 (by omega)
  rw [Nat.add_zero, ← e] at h
  unfold rdS at h ⊢
  rw [h]
  have hp : (2 : Int) ^ (8 * 0) = 1 := rfl
  rw [hp, Int.ediv_one]
  have hms : modS x = 256 ^ (relLen x.1).toNat := rfl
  rw [← hms]
  rcases hm with ⟨_, hm⟩ | ⟨_, hm⟩ <;> rw [hm] <;> omega

theorem rdS_congr {f g : Nat → Int} {x : Site} (h0 : 0 ≤ x.2) (h : ∀ j : Nat, x.2 ≤ j → (j : Int) < x.2 + relLen x.1 → f j = g j) : rdS f x = rdS g x := by
  have hb := relLen_bd x.1
  exact rdF_congr _ _ (fun i hi => h _ (by omega) (by omega))

theorem applyI_at {n : Nat} {d : Int} : ∀ (l : List Site) (f : Nat → Int), Kinds n l → Far l → ∀ x ∈ l, rdS (applyI n d f l) x = (rdS f x + d) % modS x
  | [], _, _, _, x, hx => by simp at hx
  | y :: l, f, hk, hf, x, hx => by
    have h2 : applyI n d f (y :: l) = applyI n d (addI n d f y) l := rfl
    rw [h2]
    unfold Far at hf
    rw [List.pairwise_cons] at hf
    have hky := hk y List.mem_cons_self
    have hpy := relLen_pos hky.1
    rcases List.mem_cons.1 hx with e | hx
    · subst e
      rw [← addI_at hky.1 hky.2.1 hky.2.2]
      refine rdS_congr hky.2.1 (fun j j0 j1 => applyI_ne l _ (fun z hz => ?_))
      have := hf.1 z hz
      omega
    · have hkx := hk x (List.mem_cons_of_mem _ hx)
      rw [applyI_at l (addI n d f y) (fun z hz => hk z (List.mem_cons_of_mem _ hz)) hf.2 x hx]
      have : rdS (addI n d f y) x = rdS f x := by
        refine rdS_congr hkx.2.1 (fun j j0 j1 => addI_ne ?_)
        have := hf.1 x hx
        omega
      rw [this]

theorem rdF_inj {f g : Nat → Int} (hf : Bytes255 f) (hg : Bytes255 g) : ∀ (n o : Nat), rdF f o n = rdF g o n → ∀ i, i < n → f (o + i) = g (o + i)
  | 0, _, _, i, hi => by omega
  | n + 1, o, h, i, hi => by
    simp only [rdF] at h
    have a := hf o
    have b := hg o
    have e : f o = g o := by omega
    have h2 : rdF f (o + 1) n = rdF g (o + 1) n := by omega
    rcases i with _ | i
    · simpa using e
    · have := rdF_inj hf hg n (o + 1) h2 i (by omega)
      rw [show o + (i + 1) = o + 1 + i from by omega]
      exact this

theorem apply_undo {n : Nat} {d d' : Int} {f : Nat → Int} (l : List Site) (hb : Bytes255 f) (hk : Kinds n l) (hf : Far l) (hd : (d + d') % 18446744073709551616 = 0) (j : Nat) : applyI n d' (applyI n d f l) l j = f j := by
  by_cases h : ∀ x ∈ l, (j : Int) < x.2 ∨ x.2 + relLen x.1 ≤ j
  · rw [applyI_ne l _ h, applyI_ne l _ h]
  · obtain ⟨x, hx⟩ := Classical.not_forall.1 h
    obtain ⟨hx, hj⟩ := Classical.not_imp.1 hx
    have hkx := hk x hx
    have hm := modS_cases hkx.1
    have h1 := applyI_at (n := n) (d := d') l (applyI n d f l) hk hf x hx
    rw [applyI_at (n := n) (d := d) l f hk hf x hx] at h1
    have hbd := rdS_bd hb x
    have e : rdS (applyI n d' (applyI n d f l) l) x = rdS f x := by
      rw [h1]
      rcases hm with ⟨_, hm⟩ | ⟨_, hm⟩ <;> rw [hm] at hbd ⊢ <;> omega
    have hlb := relLen_bd x.1
    have := rdF_inj (applyI255 l (applyI255 l hb)) hb _ _ e (j - x.2.toNat) (by omega)
    rwa [show x.2.toNat + (j - x.2.toNat) = j from by omega] at this

theorem apply_nought {n : Nat} {f : Nat → Int} (l : List Site) (hb : Bytes255 f) (hk : Kinds n l) (hf : Far l) (j : Nat) : applyI n 0 f l j = f j := by
  by_cases h : ∀ x ∈ l, (j : Int) < x.2 ∨ x.2 + relLen x.1 ≤ j
  · rw [applyI_ne l _ h]
  · obtain ⟨x, hx⟩ := Classical.not_forall.1 h
    obtain ⟨hx, hj⟩ := Classical.not_imp.1 hx
    have hkx := hk x hx
    have hbd := rdS_bd hb x
    have e : rdS (applyI n 0 f l) x = rdS f x := by
      rw [applyI_at (n := n) (d := 0) l f hk hf x hx, Int.add_zero, Int.emod_eq_of_lt hbd.1 hbd.2]
    have hlb := relLen_bd x.1
    have := rdF_inj (applyI255 l hb) hb _ _ e (j - x.2.toNat) (by omega)
    rwa [show x.2.toNat + (j - x.2.toNat) = j from by omega] at this
end Go.Proofs.Ytcommphfjkggkaa
