/- law 5: what Parse tells of what is made. -/
import Derived.Test.YtplgdpjbkdagfaaGreatMadeS
namespace Go.Proofs.YtplgdpjbkdagfaaGreat
set_option maxRecDepth 100000
open Go.ChangeShapes Go.WideShapes Go.ChangeAt Go.RowKit
set_option linter.unusedVariables false
set_option linter.unusedSimpArgs false

theorem MadeI.sect {L : Nat → Trip} {n : Int} {m i : Nat} {f : Nat → Int} (x : MadeI L n m f) (h : i < m) : sectS f (328 + 40 * i) = ⟨nameS f (328 + 40 * i), vS (L i), rvaS L i, rawS (L i), atS L i, rightS (L i) * 536870912⟩ := by
  have s := x.sec i h
  unfold sectS
  rw [s.v, s.rva, s.raw, s.spot, s.r]

theorem MadeP.begin' {L : Nat → Trip} {n : Nat} {f : Nat → Int} (x : MadeP L n f) (N : Nat) (hN : 328 ≤ N) : beginS N f = (64, 0) := by
  have h := x.all.hd
  unfold beginS
  rw [h.pe, h.m0, h.m1, if_neg (by omega), if_neg (by omega), if_neg (by omega)]
  show (if f 64 ≠ 80 ∨ f (64 + 1) ≠ 69 ∨ f (64 + 2) ≠ 0 ∨ f (64 + 3) ≠ 0 then ((0 : Int), (3 : Int)) else (64, 0)) = _
  rw [h.p0, h.p1, h.p2, h.p3, if_neg (by omega)]

theorem MadeP.opt {L : Nat → Trip} {n : Nat} {f : Nat → Int} (x : MadeP L n f) : optS f 64 = 0 := by
  have h := x.all.hd
  unfold optS
  rw [h.mach, h.opt, h.mg, h.nd, if_neg (by omega), if_neg (by omega)]

theorem rvaS_mono (L : Nat → Trip) {i j : Nat} (h : i ≤ j) : rvaS L i ≤ rvaS L j := by
  induction j with
  | zero => obtain rfl : i = 0 := by omega
            exact Int.le_refl _
  | succ j ih =>
    rcases Nat.lt_or_ge j i with h1 | h1
    · obtain rfl : i = j + 1 := by omega
      exact Int.le_refl _
    · have := ih h1
      have := fullS_bd (L j)
      simp only [rvaS]
      omega

theorem MadeI.chain {L : Nat → Trip} {n : Int} {f : Nat → Int} {t : Nat} (x : MadeI L n t f) (N : Nat) (hN : atS L t ≤ N) : ∀ (m i : Nat), i + m = t → chainP (rvaS L t) N (rvaS L i) ((List.range' i m).map fun j => sectS f (328 + 40 * j))
  | 0, i, h => by
    obtain rfl : i = t := by omega
    rfl
  | m + 1, i, h => by
    rw [List.range'_succ, List.map_cons]
    refine ⟨?_, ?_⟩
    · rw [x.sect (by omega)]
      have h1 := vS_bd (L i)
      have h2 := fullS_bd (L i)
      have h3 := rawS_bd (L i)
      have h4 := rvaS_mono L (show i + 1 ≤ t by omega)
      have h5 := atS_mono L (show i + 1 ≤ t by omega)
      have h6 := rvaS_bd L i
      simp only [rvaS, atS] at h4 h5
      refine ⟨rfl, by show vS (L i) ≠ 0; omega, by show vS (L i) ≤ _; omega, h3.2.2.1, h3.2.2.2, ?_⟩
      show ¬ (0 < rawS (L i) ∧ (N : Int) < (atS L i : Int) + rawS (L i))
      omega
    · rw [x.sect (by omega)]
      exact x.chain N hN m (i + 1) (by omega)

theorem MadeP.headP {L : Nat → Trip} {n : Nat} {f : Nat → Int} (x : MadeP L n f) (N : Nat) (hN : 328 ≤ N) : headP N f = 64 := by
  unfold YtplgdpjbkdagfaaGreat.headP
  rw [x.begin' N hN]
  rfl
theorem MadeP.headK {L : Nat → Trip} {n : Nat} {f : Nat → Int} (x : MadeP L n f) (N : Nat) (hN : 328 ≤ N) : headK N f = n := by
  unfold YtplgdpjbkdagfaaGreat.headK
  rw [x.headP N hN, x.all.hd.cnt]
  omega

theorem MadeP.sectsS {L : Nat → Trip} {n : Nat} {f : Nat → Int} (x : MadeP L n f) : chainP (rvaS L n) (atS L n) 4096 (YtplgdpjbkdagfaaGreat.sectsS f 328 n) := by
  have h := x.all.chain (atS L n) (Nat.le_refl _) n 0 (by omega)
  rw [← List.range_eq_range'] at h
  exact h

/-- It is an image. -/
theorem MadeP.ok {L : Nat → Trip} {n : Nat} {f : Nat → Int} (x : MadeP L n f) (N : Nat) (hN : atS L n ≤ N) (h1 : 1 ≤ n) (h6 : n ≤ 6) : headE N f = 0 := by
  have ha := atS_bd L n
  have hr := rvaS_bd L n
  have h0 := rvaS_mono L (show 1 ≤ n by omega)
  have hf := fullS_bd (L 0)
  have h := x.all.hd
  have hb : (beginS N f).1 = 64 := by rw [x.begin' N (by omega)]
  have hb2 : (beginS N f).2 = 0 := by rw [x.begin' N (by omega)]
  have hal : alignS f 64 (readS f 64).base (readS f 64).size := by
    refine ⟨h.al, h.fal, ?_⟩
    simp only [readS]
    rw [h.base, x.size]
    omega
  have hhp : headersP N 64 (readS f 64).headers (rdF f (64 + 6) 2) := by
    simp only [readS]
    rw [h.hdrs, h.cnt]
    unfold headersP
    omega
  have hch : chainP (readS f 64).size N (roundS (readS f 64).headers 4096) (YtplgdpjbkdagfaaGreat.sectsS f (64 + 264) (rdF f (64 + 6) 2).toNat) := by
    simp only [readS]
    rw [h.hdrs, h.cnt, x.size, show roundS 1024 4096 = 4096 by rfl, Int.toNat_natCast]
    have h := x.all.chain N hN n 0 (by omega)
    rw [← List.range_eq_range'] at h
    exact h
  unfold headE
  rw [if_neg (by omega), hb, show ((64 : Int).toNat) = 64 from rfl, if_neg (by rw [x.opt]; omega), if_neg (fun k => k hal), if_neg (fun k => k hhp), if_neg (fun k => k hch), if_neg]
  simp only [readS]
  rw [x.size, h.ent]
  simp only [rvaS] at h0
  omega
end Go.Proofs.YtplgdpjbkdagfaaGreat
