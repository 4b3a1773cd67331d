/- law 5: slices of triples that came in; Made of whatever. -/
import Derived.Test.YtlgdaljbajebhaaAwake5
namespace Go.Proofs.Ytlgdaljbajebhaa
open Go.ChangeShapes Go.WideShapes Go.ChangeAt Go.RowKit
set_option linter.unusedVariables false

theorem slT_trips {w : World} {a : Option Addr} {len cap : Nat} {zs : List Trip}
    (h : (a = none ∧ len = 0 ∧ cap = 0 ∧ zs = []) ∨ ∃ x, a = some x ∧ len ≤ cap ∧ cap ≤ maxLen ∧ zs.length = cap ∧ ∀ i (h : i < zs.length), w.cell? (x.add (i * 3)) = some (.int .i64 zs[i].1) ∧ w.cell? (x.add (i * 3 + 1)) = some (.int .i64 zs[i].2.1) ∧ w.cell? (x.add (i * 3 + 2)) = some (.int .i64 zs[i].2.2)) :
    (zs.take len).length = len ∧ len ≤ 9223372036854775807 ∧ SlT tripC 3 w a (zs.take len) := by
  rcases h with ⟨rfl, rfl, rfl, rfl⟩ | ⟨x, rfl, hl, hm, hz, hc⟩
  · exact ⟨rfl, by omega, .inl rfl⟩
  · have hlen : (zs.take len).length = len := by rw [List.length_take]; omega
    refine ⟨hlen, by unfold maxLen at hm; omega, ?_⟩
    rcases Nat.eq_zero_or_pos len with h0 | h0
    · left; rw [h0]; rfl
    · obtain ⟨b, off, spot⟩ := x
      have hspot : spot = none := by simpa [Addr.add] using World.cell?_spot (hc 0 (by omega)).1
      subst hspot
      have hadd : ∀ i, (⟨b, off, none⟩ : Addr).add i = ⟨b, off + i, none⟩ := fun i => by unfold Addr.add; split <;> simp_all
      refine .inr ⟨b, off, rfl, ?_, fun i hi j v hv => ?_⟩
      · have h1 := (hc 0 (by omega)).1
        rw [hadd] at h1
        rcases Nat.lt_or_ge b w.heap.size with hlt | hge
        · exact hlt
        · simp [World.cell?, Array.getElem?_eq_none hge] at h1
      · obtain ⟨c0, c1, c2⟩ := hc i (by omega)
        rw [hadd] at c0 c1 c2
        simp only [List.getElem_take] at hv
        rcases j with _ | _ | _ | j
        · simp [tripC] at hv; subst hv; simpa using c0
        · simp [tripC] at hv; subst hv; rw [← c1]
        · simp [tripC] at hv; subst hv; rw [← c2]
        · simp [tripC] at hv

/-- Made, whatever sections are asked for. -/
theorem made_ex (AS : Option Addr) (l : List Trip) (cs : Nat) (w : World) (hS : SlT tripC 3 w AS l) :
    Calls Try.prog 12 #[.slice AS l.length cs, .slice none 0 0] w fun e w' =>
      ∃ L n g c F, 1 ≤ n ∧ n ≤ 6 ∧ e = .returned (.slice (some ⟨g, 0, none⟩) (atS L n) c) ∧ OwnC w' w.heap.size g (atS L n) c F ∧ MadeP L n F ∧ Below w.heap.size w w' := by
  rcases l with _ | ⟨t, r⟩
  · refine (made_none AS cs (fun _ => (16, 512, 3)) (fun _ => rfl) w).mono ?_
    rintro e w' ⟨g, c, F, rfl, h1, h2, h3⟩
    exact ⟨_, 1, g, c, F, by omega, by omega, rfl, h1, h2, h3⟩
  · refine (made_any AS (t :: r) cs (fun i => (t :: r).getD i t) (fun i => ?_) w (by simp) hS).mono ?_
    · rcases Nat.lt_or_ge i (t :: r).length with h | h
      · left
        rw [List.getD_eq_getElem?_getD, List.getElem?_eq_getElem h]; rfl
      · exact .inr h
    · rintro e w' ⟨g, c, F, rfl, h1, h2, h3⟩
      exact ⟨_, min (t :: r).length 6, g, c, F, by simp; omega, by omega, rfl, h1, h2, h3⟩
end Go.Proofs.Ytlgdaljbajebhaa
