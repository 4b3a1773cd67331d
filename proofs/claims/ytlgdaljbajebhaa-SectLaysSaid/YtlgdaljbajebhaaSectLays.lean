/- SectLays. -/
import Derived.Test.YtlgdaljbajebhaaAwake6
import Derived.Test.YtlgdaljbajebhaaTrips
namespace Go.Proofs.Ytlgdaljbajebhaa
open Go.ChangeShapes Go.WideShapes Go.ChangeAt Go.RowKit
set_option linter.unusedVariables false

/-- m sections from the i-th on. -/
def secs (F : Nat → Int) (i m : Nat) : List SectN := (List.range' i m).map fun j => sectS F (328 + 40 * j)
theorem secs_succ (F : Nat → Int) (i m : Nat) : secs F i (m + 1) = sectS F (328 + 40 * i) :: secs F (i + 1) m := by
  unfold secs
  rw [List.range'_succ, List.map_cons]

section
variable {L : Nat → Trip} {n : Nat} {F : Nat → Int} {N nb : Nat}

theorem lays_low (x : MadeI L n n F) (q : Nat) : ∀ (m i : Nat) (f : Nat → Int), i + m ≤ n → (q : Int) < rvaS L i → laysF N F nb (secs F i m) f q = f q
  | 0, i, f, _, _ => rfl
  | m + 1, i, f, h, hq => by
    rw [secs_succ, x.sect (by omega)]
    have h1 := rvaS_mono L (show i ≤ i + 1 by omega)
    have h2 := rvaS_bd L i
    show laysF N F nb (secs F (i + 1) m) (layF N F nb f (rvaS L i).toNat _ _) q = f q
    rw [lays_low x q m (i + 1) _ (by omega) (by omega)]
    unfold layF
    rw [if_neg (by omega)]

theorem lays_at (x : MadeI L n n F) (hnb : atS L n ≤ nb) (q : Nat) (hq : q < N) : ∀ (m i k : Nat) (f : Nat → Int), i + m = n →
    (ofS q (secs F i m) k = none ∧ laysF N F nb (secs F i m) f q = f q) ∨
    ∃ j, i ≤ j ∧ j < n ∧ ofS q (secs F i m) k = some (k + (j - i)) ∧ behindS (sectS F (328 + 40 * j)) q = some (q - rvaS L j) ∧ rvaS L j ≤ q ∧
      laysF N F nb (secs F i m) f q = if (q : Int) - rvaS L j < rawS (L j) then F (atS L j + ((q : Int) - rvaS L j).toNat) else f q
  | 0, i, k, f, h => .inl ⟨rfl, rfl⟩
  | m + 1, i, k, f, h => by
    have hs := x.sect (show i < n by omega)
    have h2 := rvaS_bd L i
    have h3 := fullS_bd (L i)
    have h4 := rawS_bd (L i)
    have h5 := atS_mono L (show i + 1 ≤ n by omega)
    simp only [atS] at h5
    have hr1 : rvaS L (i + 1) = rvaS L i + fullS (L i) := rfl
    have hbs : behindS (sectS F (328 + 40 * i)) q = if (q : Int) < rvaS L i then none else if fullS (L i) ≤ q - rvaS L i then none else some (q - rvaS L i) := by rw [hs]; rfl
    have hla : laysF N F nb (secs F i (m + 1)) f q = laysF N F nb (secs F (i + 1) m) (layF N F nb f (rvaS L i).toNat (atS L i) (rawS (L i)).toNat) q := by rw [secs_succ, hs]; rfl
    by_cases c1 : (q : Int) < rvaS L i
    · rw [if_pos c1] at hbs
      have hof : ofS q (secs F i (m + 1)) k = ofS q (secs F (i + 1) m) (k + 1) := by rw [secs_succ]; show (if (behindS (sectS F (328 + 40 * i)) q).isSome = true then some k else ofS q (secs F (i + 1) m) (k + 1)) = _; rw [hbs]; rfl
      have hf : layF N F nb f (rvaS L i).toNat (atS L i) (rawS (L i)).toNat q = f q := by unfold layF; rw [if_neg (by omega)]
      rw [hof, hla]
      rcases lays_at x hnb q hq m (i + 1) (k + 1) (layF N F nb f (rvaS L i).toNat (atS L i) (rawS (L i)).toNat) (by omega) with ⟨a, b⟩ | ⟨j, a, b, c, d, e, g⟩
      · exact .inl ⟨a, b.trans hf⟩
      · exact .inr ⟨j, by omega, b, by rw [c]; congr 1; omega, d, e, by rw [g, hf]⟩
    · rw [if_neg c1] at hbs
      by_cases c2 : fullS (L i) ≤ q - rvaS L i
      · rw [if_pos c2] at hbs
        have hof : ofS q (secs F i (m + 1)) k = ofS q (secs F (i + 1) m) (k + 1) := by rw [secs_succ]; show (if (behindS (sectS F (328 + 40 * i)) q).isSome = true then some k else ofS q (secs F (i + 1) m) (k + 1)) = _; rw [hbs]; rfl
        have hf : layF N F nb f (rvaS L i).toNat (atS L i) (rawS (L i)).toNat q = f q := by unfold layF; rw [if_neg (by omega)]
        rw [hof, hla]
        rcases lays_at x hnb q hq m (i + 1) (k + 1) (layF N F nb f (rvaS L i).toNat (atS L i) (rawS (L i)).toNat) (by omega) with ⟨a, b⟩ | ⟨j, a, b, c, d, e, g⟩
        · exact .inl ⟨a, b.trans hf⟩
        · exact .inr ⟨j, by omega, b, by rw [c]; congr 1; omega, d, e, by rw [g, hf]⟩
      · rw [if_neg c2] at hbs
        have hof : ofS q (secs F i (m + 1)) k = some k := by rw [secs_succ]; unfold ofS; rw [hbs]; rfl
        refine .inr ⟨i, by omega, by omega, by rw [hof]; congr 1; omega, hbs, by omega, ?_⟩
        rw [hla, lays_low x q m (i + 1) _ (by omega) (by omega)]
        unfold layF
        by_cases c3 : (q : Int) - rvaS L i < rawS (L i)
        · rw [if_pos c3, if_pos (by omega)]
          unfold byteS
          rw [if_pos (by omega)]
          congr 1
          omega
        · rw [if_neg c3, if_neg (by omega)]

theorem img_want (x : MadeI L n n F) (hnb : atS L n ≤ nb) (q : Nat) (hq : q < N) :
    (offS 1024 (secs F 0 n) q = none ∧ imgF N F nb 1024 (secs F 0 n) q = 0) ∨ ∃ k : Nat, offS 1024 (secs F 0 n) q = some (k : Int) ∧ k < nb ∧ imgF N F nb 1024 (secs F 0 n) q = F k := by
  have hat := atS_bd L n
  by_cases c : q < 1024
  · refine .inr ⟨q, ?_, by omega, ?_⟩
    · unfold offS
      rw [if_pos (by omega)]
    · unfold imgF
      rw [lays_low x q n 0 _ (by omega) (by show (q : Int) < 4096; omega)]
      unfold layF byteS
      rw [if_pos (by omega), if_pos (by omega)]
      congr 1
      omega
  · have hz : layF N F nb (fun _ => 0) 0 0 1024 q = 0 := by unfold layF; rw [if_neg (by omega)]
    have hoff : offS 1024 (secs F 0 n) q = (ofS q (secs F 0 n) 0).bind fun i => (secs F 0 n)[i]?.bind fun s => (behindS s q).bind fun d => if s.raw ≤ d then none else some (s.spot + d) := by
      unfold offS
      rw [if_neg (by omega)]
    rcases lays_at (N := N) x hnb q hq n 0 0 (layF N F nb (fun _ => 0) 0 0 1024) (by omega) with ⟨a, b⟩ | ⟨j, a, b, cc, d, e, g⟩
    · exact .inl ⟨by rw [hoff, a]; rfl, b.trans hz⟩
    · have hj : (secs F 0 n)[j]? = some (sectS F (328 + 40 * j)) := by simp [secs, b]
      rw [Nat.zero_add, Nat.sub_zero] at cc
      have hsr : (sectS F (328 + 40 * j)).raw = rawS (L j) := by rw [x.sect b]
      have hsp : (sectS F (328 + 40 * j)).spot = atS L j := by rw [x.sect b]
      have h4 := rawS_bd (L j)
      have h5 := atS_mono L (show j + 1 ≤ n by omega)
      simp only [atS] at h5
      have hoff2 : offS 1024 (secs F 0 n) q = if rawS (L j) ≤ (q : Int) - rvaS L j then none else some ((atS L j : Int) + ((q : Int) - rvaS L j)) := by
        rw [hoff, cc, Option.bind_some, hj, Option.bind_some, d, Option.bind_some, hsr, hsp]
      by_cases c3 : (q : Int) - rvaS L j < rawS (L j)
      · refine .inr ⟨atS L j + ((q : Int) - rvaS L j).toNat, ?_, by omega, ?_⟩
        · rw [hoff2, if_neg (by omega), show ((atS L j + ((q : Int) - rvaS L j).toNat : Nat) : Int) = (atS L j : Int) + ((q : Int) - rvaS L j) by omega]
        · refine g.trans ?_
          rw [if_pos c3]
      · refine .inl ⟨by rw [hoff2, if_pos (by omega)], ?_⟩
        refine g.trans ?_
        rw [if_neg c3, hz]
end
end Go.Proofs.Ytlgdaljbajebhaa
