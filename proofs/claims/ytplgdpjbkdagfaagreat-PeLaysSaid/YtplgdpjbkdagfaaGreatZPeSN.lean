import Derived.Test.YtplgdpjbkdagfaaGreatZHdrD
import Derived.Deep.DeepFit
namespace Go.Proofs.YtplgdpjbkdagfaaGreat
open Go.ChangeShapes Go.WideShapes Go.ChangeAt Go.RowKit
set_option linter.unusedVariables false
set_option linter.unusedSimpArgs false
set_option maxRecDepth 100000
theorem eqn_Func (w : World) : Calls Tryz.prog 54 #[.slice none 0 0, .slice none 0 0] w fun e u => e = .returned (.bool true) ∧ Below w.heap.size w u := by
  go_enter Tryz.func54, Tryz.ntmps54
  go_wp2_with fail
  go_loopw [13] (fun v13 wr => v13 = .int .i64 0 ∧ wr = w) (fun _ _ => 0)
  case atStart => exact ⟨rfl, rfl⟩
  case round =>
    obtain ⟨rfl, rfl⟩ := hrel
    go_wp2_with fail
    go_ret
    exact ⟨rfl, Below.refl _ _⟩
theorem eqn_Named (w : World) : Calls Tryz.prog 55 #[.slice none 0 0, .slice none 0 0] w fun e u => e = .returned (.bool true) ∧ Below w.heap.size w u := by
  go_enter Tryz.func55, Tryz.ntmps55
  go_wp2_with fail
  go_loopw [13] (fun v13 wr => v13 = .int .i64 0 ∧ wr = w) (fun _ _ => 0)
  case atStart => exact ⟨rfl, rfl⟩
  case round =>
    obtain ⟨rfl, rfl⟩ := hrel
    go_wp2_with fail
    go_ret
    exact ⟨rfl, Below.refl _ _⟩
theorem eqn_Bound (w : World) : Calls Tryz.prog 58 #[.slice none 0 0, .slice none 0 0] w fun e u => e = .returned (.bool true) ∧ Below w.heap.size w u := by
  go_enter Tryz.func58, Tryz.ntmps58
  go_wp2_with fail
  go_loopw [13] (fun v13 wr => v13 = .int .i64 0 ∧ wr = w) (fun _ _ => 0)
  case atStart => exact ⟨rfl, rfl⟩
  case round =>
    obtain ⟨rfl, rfl⟩ := hrel
    go_wp2_with fail
    go_ret
    exact ⟨rfl, Below.refl _ _⟩
theorem eqn_Rel (w : World) : Calls Tryz.prog 59 #[.slice none 0 0, .slice none 0 0] w fun e u => e = .returned (.bool true) ∧ Below w.heap.size w u := by
  go_enter Tryz.func59, Tryz.ntmps59
  go_wp2_with fail
  go_loopw [13] (fun v13 wr => v13 = .int .i64 0 ∧ wr = w) (fun _ _ => 0)
  case atStart => exact ⟨rfl, rfl⟩
  case round =>
    obtain ⟨rfl, rfl⟩ := hrel
    go_wp2_with fail
    go_ret
    exact ⟨rfl, Below.refl _ _⟩
theorem slT_pairs {C : Int × Int → List Value} {k0 k1 : IntKind} (hC : ∀ x, C x = [.int k0 x.1, .int k1 x.2]) {w : World} {a : Option Addr} {len cap : Nat} {zs : List (Int × Int)}
    (h : (a = none ∧ len = 0 ∧ cap = 0 ∧ zs = []) ∨ ∃ x, a = some x ∧ len ≤ cap ∧ cap ≤ maxLen ∧ zs.length = cap ∧ ∀ i (h : i < zs.length), w.cell? (x.add (i * 2)) = some (.int k0 zs[i].1) ∧ w.cell? (x.add (i * 2 + 1)) = some (.int k1 zs[i].2) ∧ (Lit.int k0 zs[i].1).wf = true ∧ (Lit.int k1 zs[i].2).wf = true) :
    (zs.take len).length = len ∧ len ≤ 9223372036854775807 ∧ SlT C 2 w a (zs.take len) ∧ ∀ x ∈ zs.take len, (Lit.int k0 x.1).wf = true ∧ (Lit.int k1 x.2).wf = true := by
  rcases h with ⟨rfl, rfl, rfl, rfl⟩ | ⟨x, rfl, hl, hm, hz, hc⟩
  · exact ⟨rfl, by omega, .inl rfl, fun x hx => by simp at hx⟩
  · have hlen : (zs.take len).length = len := by rw [List.length_take]; omega
    refine ⟨hlen, by unfold maxLen at hm; omega, ?_, fun y hy => ?_⟩
    · rcases Nat.eq_zero_or_pos len with h0 | h0
      · left; rw [h0]; rfl
      · obtain ⟨b, off, spot⟩ := x
        have hspot : spot = none := by simpa [Addr.add] using World.cell?_spot (hc 0 (by omega)).1
        subst hspot
        have hadd : ∀ i, (⟨b, off, none⟩ : Addr).add i = ⟨b, off + i, none⟩ := fun i => by unfold Addr.add; split <;> simp_all
        refine .inr ⟨b, off, rfl, ?_, fun i hi j v hv => ?_⟩
        · have h1 := (hc 0 (by omega)).1
          rw [hadd] at h1
          rcases Nat.lt_or_ge b w.heap.size with hlt | hge
          · exact hlt
          · simp [World.cell?, Array.getElem?_eq_none hge] at h1
        · obtain ⟨c0, c1, _, _⟩ := hc i (by omega)
          rw [hadd] at c0 c1
          rw [hC] at hv
          simp only [List.getElem_take] at hv
          rcases j with _ | _ | j
          · simp at hv; subst hv; simpa using c0
          · simp at hv; subst hv; rw [← c1]
          · simp at hv
    · obtain ⟨i, hi, rfl⟩ := List.mem_iff_getElem.1 hy
      rw [List.getElem_take]
      exact (hc i (by omega)).2.2
end Go.Proofs.YtplgdpjbkdagfaaGreat
