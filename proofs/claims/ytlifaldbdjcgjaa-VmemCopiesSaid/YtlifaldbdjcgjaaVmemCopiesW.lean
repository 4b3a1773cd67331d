/- law 3: VmemCopies, whole. -/
import Derived.Test.YtlifaldbdjcgjaaVmemCopies
namespace Go.Proofs.Ytlifaldbdjcgjaa
open Go.ChangeShapes Go.WideShapes Go.ChangeAt Go.RowKit
set_option linter.unusedVariables false
set_option linter.unusedSimpArgs false

set_option maxRecDepth 100000 in
set_option maxHeartbeats 2000000 in
theorem copies_small (w : World) (at' : Int) (A B : Option Addr) (la lb capa capb : Nat) (h : la = 0 ∨ lb = 0 ∨ 2000 < la ∨ 2000 < lb) :
    Calls Try.prog 11 #[.slice A la capa, .slice B lb capb, .int .i64 at'] w fun e w' => e = .returned (.bool true) ∧ Below w.heap.size w w' := by
  have HNM := Lib.hid (newMem_any (· < w.heap.size) w 4 (fun _ h => h) (by omega) (by omega))
  have hh : ((((la : Int) == 0) = true) ∨ (((la : Int) == 0) = false ∧ ((lb : Int) == 0) = true)) ∨ ((((la : Int) == 0) = false ∧ ((lb : Int) == 0) = false ∧ decide ((2000 : Int) < la) = true) ∨ (((la : Int) == 0) = false ∧ ((lb : Int) == 0) = false ∧ decide ((2000 : Int) < la) = false ∧ decide ((2000 : Int) < lb) = true)) := by
    simp only [beq_iff_eq, beq_eq_false_iff_ne, decide_eq_true_eq, decide_eq_false_iff_not, ne_eq]
    omega
  clear h
  rcases hh with (e1 | ⟨e1, e2⟩) | (⟨e1, e2, e3⟩ | ⟨e1, e2, e3, e4⟩)
  all_goals
    go_enter Try.func11, Try.ntmps11
    go_wp2_with fail
    refine HNM.out.mono ?_
    rintro e w3 ⟨M, rfl, h3, k3⟩
    have HB3 := Lib.hid (k3.below (fun k hk => hk))
    clear h3 k3 HNM
    go_wp2_with fail
    refine (awake3_any w3).mono ?_
    rintro e w17 ⟨rfl, hb17⟩
    have HB17 := Lib.hid hb17
    clear hb17
    go_wp2
    go_ret
    exact ⟨rfl, HB3.out.trans (HB17.out.mono HB3.out.size)⟩

theorem copies_walk (w : World) (at' : Int) (A B : Option Addr) (la lb capa capb : Nat) (ha hb : Nat → Int) (hca : la ≤ capa) (hca2 : capa ≤ 9223372036854775807) (hsa : SlB w A la ha) (hcb : lb ≤ capb) (hcb2 : capb ≤ 9223372036854775807) (hsb : SlB w B lb hb) :
    Calls Try.prog 11 #[.slice A la capa, .slice B lb capb, .int .i64 at'] w fun e w' => e = .returned (.bool true) ∧ Below w.heap.size w w' := by
  by_cases c : la = 0 ∨ lb = 0 ∨ 2000 < la ∨ 2000 < lb
  · exact copies_small w at' A B la lb capa capb c
  · rcases hsa with e | ⟨A1, o1, rfl, h1, r1⟩
    · exact absurd (.inl e) c
    · rcases hsb with e | ⟨A2, o2, rfl, h2, r2⟩
      · exact absurd (.inr (.inl e)) c
      · exact copies_core w at' A1 A2 o1 o2 la lb capa capb ha hb (by omega) (by omega) (by omega) (by omega) hca hcb hca2 hcb2 h1 h2 r1 r2 (Nat.max la lb) (by simp only [Nat.max_def]; split <;> omega) (by simp only [Nat.max_def]; split <;> omega) (by simp only [Nat.max_def]; split <;> omega) (by simp only [Nat.max_def]; split <;> omega)
end Go.Proofs.Ytlifaldbdjcgjaa
