/- law 5: what is made, cut, and with more behind it. -/
import Derived.Test.YtlgdaljbajebhaaMadeH
namespace Go.Proofs.Ytlgdaljbajebhaa
open Go.ChangeShapes Go.WideShapes Go.ChangeAt Go.RowKit
set_option linter.unusedVariables false

theorem MadeI.chain_inv {L : Nat → Trip} {n : Int} {f : Nat → Int} {t : Nat} (x : MadeI L n t f) (size : Int) (k : Nat) : ∀ (m i : Nat) (nx : Int), i + m = t → chainP size k nx ((List.range' i m).map fun j => sectS f (328 + 40 * j)) → atS L i ≤ k → atS L t ≤ k
  | 0, i, nx, h, _, h2 => by
    obtain rfl : i = t := by omega
    exact h2
  | m + 1, i, nx, h, hc, h2 => by
    rw [List.range'_succ, List.map_cons] at hc
    obtain ⟨hs, hc⟩ := hc
    refine x.chain_inv size k m (i + 1) _ (by omega) hc ?_
    rw [x.sect (by omega)] at hs
    obtain ⟨_, _, _, _, _, h6⟩ := hs
    have h3 := rawS_bd (L i)
    have h6' : ¬ (0 < rawS (L i) ∧ (k : Int) < (atS L i : Int) + rawS (L i)) := h6
    simp only [atS]
    omega

/-- Cut ahead of its end it is none. -/
theorem MadeP.cut {L : Nat → Trip} {n : Nat} {f : Nat → Int} (x : MadeP L n f) (k : Nat) (hk : k < atS L n) (h1 : 1 ≤ n) (h6 : n ≤ 6) : headE k f ≠ 0 := by
  have h := x.all.hd
  by_cases c : k < 328
  · have hb : beginS k f = (0, 2) := by
      unfold beginS
      by_cases c2 : k < 64
      · rw [if_pos c2]
      · rw [if_neg c2, h.pe, h.m0, h.m1, if_neg (by omega), if_pos (by omega)]
    unfold headE
    rw [if_pos (by rw [hb]; simp), hb]
    simp
  · have hb : (beginS k f).1 = 64 := by rw [x.begin' k (by omega)]
    have hb2 : (beginS k f).2 = 0 := by rw [x.begin' k (by omega)]
    have hr := rvaS_bd L n
    have hal : alignS f 64 (readS f 64).base (readS f 64).size := by
      refine ⟨h.al, h.fal, ?_⟩
      simp only [readS]
      rw [h.base, x.size]
      have h0 := rvaS_mono L (show 1 ≤ n by omega)
      have hf := fullS_bd (L 0)
      omega
    unfold headE
    rw [if_neg (by omega), hb, show ((64 : Int).toNat) = 64 from rfl, if_neg (by rw [x.opt]; omega), if_neg (fun k => k hal)]
    by_cases c3 : k < 1024
    · rw [if_pos]
      · omega
      · intro hp
        have := hp.2.2.2.2
        simp only [readS] at this
        rw [h.hdrs] at this
        omega
    · rw [if_neg (fun hn => hn (by
        simp only [readS]
        rw [h.hdrs, h.cnt]
        unfold headersP
        omega)), if_pos]
      · omega
      · intro hc
        simp only [readS] at hc
        rw [h.hdrs, h.cnt, x.size, show roundS 1024 4096 = 4096 by rfl, Int.toNat_natCast] at hc
        unfold Ytlgdaljbajebhaa.sectsS at hc
        rw [List.range_eq_range'] at hc
        have := x.all.chain_inv (rvaS L n) k n 0 4096 (by omega) hc (by show 1024 ≤ k; omega)
        omega

theorem MadeP.cat {L : Nat → Trip} {n : Nat} {f : Nat → Int} (x : MadeP L n f) (h : Nat → Int) (hn : n ≤ 6) : MadeP L n (catF (atS L n) f h) := by
  have ha := atS_bd L n
  have e : ∀ q, q < atS L n → catF (atS L n) f h q = f q := fun q hq => catF_lt hq
  refine ⟨⟨x.all.hd.congr fun q h1 _ => e q (by omega), fun j hj => (x.all.sec j hj).congr fun q h1 h2 => e q (by omega), fun j k hj hk => ?_, fun q h1 h2 => ?_⟩, ?_⟩
  · have h1 := atS_mono L (show j + 1 ≤ n by omega)
    simp only [atS] at h1
    rw [e _ (by omega)]
    exact x.all.dat j k hj hk
  · rw [e q (by omega)]
    exact x.all.nul q h1 h2
  · rw [rd_cat_lt (by omega)]
    exact x.size
end Go.Proofs.Ytlgdaljbajebhaa
