/- Layer 10: Tame. -/
import Derived.Test.YtcommphfjkggkaaRelApart
import Derived.Test.YtcommphfjkggkaaRelBack
import Derived.StillTailTactics
namespace Go.Proofs.Ytcommphfjkggkaa
open Go.ChangeShapes Go.WideShapes Go.ChangeAt Go.RowKit
set_option linter.unusedVariables false

def TameR (w w' : World) (n : Nat) (e : Ending) : Prop :=
  ∃ (l : List Site) (A : Option Addr) (cap : Nat), e = .returned (.slice A l.length cap) ∧ OwnT relC 2 w' w.heap.size 30 (.slice A l.length cap) l ∧ l.length ≤ 50 ∧ (∀ x ∈ l, 0 ≤ x.2 ∧ x.2 < n) ∧ Below w.heap.size w w'

set_option maxRecDepth 100000 in
set_option maxHeartbeats 2000000 in
theorem tame_any (L : Option Addr) (l : List Site) (lc n : Nat) (w : World) (hL : SlT relC 2 w L l) (hll : l.length ≤ 9223372036854775807) (h0 : 0 < n) (hn : n ≤ 1000000) :
    Calls Try.prog 17 #[.slice L l.length lc, .int .i64 n] w fun e w' => TameR w w' n e := by
  have HLS := Lib.hid hL
  clear hL
  have hn0 : (0 : Int) < (n : Int) := by omega
  go_enter Try.func17, Try.ntmps17
  go_wp2_with fail
  go_loopw [5, 6] (fun v5 o wr => ∃ (i : Nat) (out : List Site) (A : Option Addr) (cap : Nat), i ≤ l.length ∧ i ≤ 50 ∧ o = .int .i64 i ∧ v5 = .slice A out.length cap ∧ out.length ≤ i ∧ OwnT relC 2 wr w.heap.size 30 (.slice A out.length cap) out ∧ (∀ x ∈ out, 0 ≤ x.2 ∧ x.2 < n) ∧ Below w.heap.size w wr) (fun _ o _ => 50 - (intOf o).toNat)
  case atStart => exact ⟨0, [], none, 0, by omega, by omega, rfl, rfl, by simp, OwnT.nil _ _ _, fun x hx => by simp at hx, Below.refl _ _⟩
  case round =>
    obtain ⟨i, out, A, cap, hi, hi5, rfl, rfl, hol, hown, hbd, hbw⟩ := hrel
    have HOWN := Lib.hid hown
    have HBD := Lib.hid hbd
    have HBW := Lib.hid hbw
    clear hown hbd hbw
    by_cases hlt : i < l.length
    · have g1 : decide ((i : Int) < (l.length : Int)) = true := decide_eq_true (by omega)
      by_cases h50 : i < 50
      · have g2 : decide ((i : Int) < 50) = true := decide_eq_true (by omega)
        obtain ⟨b, off, rfl, hbl, q0, q1⟩ := (HLS.out.below HBW.out).site hlt
        generalize l[i] = x at *
        obtain ⟨k, r⟩ := x
        simp only at q0 q1
        have hz : (0 : Int) ≤ (i : Int) := by omega
        have hzl : (i : Int) < (l.length : Int) := by omega
        have hm := and_24 r
        have hnz : n ≠ 0 := by omega
        obtain ⟨y, hy⟩ : ∃ y, r % 16777216 % (n : Int) = y := ⟨_, rfl⟩
        have hyt : (r % 16777216).tmod (n : Int) = y := by rw [Int.tmod_eq_emod_of_nonneg (by omega)]; exact hy
        have hy0 : 0 ≤ y := by rw [← hy]; exact Int.emod_nonneg _ (by omega)
        have hy1 : y < n := by rw [← hy]; exact Int.emod_lt_of_pos _ (by omega)
        go_upto_region 5 with fail
        go_region_law ((refine step_appTs (P := Try.prog) (C := relC) (sz := 2) (w := wr.drew.alloc (.cells #[.int .i64 k, .int .i64 y] 30)) ?_ (.tmp 21) (.tmp 36) 25 ?_ w.heap.size 30 (.agg #[.int .i64 0, .int .i64 0]) 16 ?_ infoRel ?_ ?_ relC_len relC_one (.slice A out.length cap) out ?_ (HOWN.out.drew.alloc (.cells #[.int .i64 k, .int .i64 y] 30)) wr.heap.size 0 1 [(k, y)] ?_ ?_ ?_ ?_ ?_ ?_ ?_; (rfl); (rfl); (kernel_rfl); (rfl); (omega); (first | rfl | simp [Act.eval, Act.put]); (first | rfl | simp [Act.eval, Act.put]); (exact oneSite (own_two wr.drew (.int .i64 k) (.int .i64 y) 30)); (exact (by simp)); ((unfold maxLen; simp; omega)); ((simp; omega)); (exact (HBW.out.drew.alloc HBW.out.size (.cells #[.int .i64 k, .int .i64 y] 30)).size); intro g6 cp6 w6 hown6 hg6 hat6; have hbb : Below w.heap.size w w6 := OwnT.grew (HOWN.out.drew.alloc (.cells #[.int .i64 k, .int .i64 y] 30)) (HBW.out.drew.alloc HBW.out.size (.cells #[.int .i64 k, .int .i64 y] 30)) (Nat.le_refl _) ((HBW.out.drew.alloc HBW.out.size (.cells #[.int .i64 k, .int .i64 y] 30)).size) hg6))
        all_goals go_wp2_with fail
        all_goals go_roundw
        all_goals first
          | (case rel => exact ⟨i + 1, out ++ [(k, y)], some ⟨g6, 0, none⟩, cp6, by omega, by omega, by go_num, by simp, by simp; omega, by rw [List.length_append]; exact hown6, fun x hx => by
              rcases List.mem_append.1 hx with hx | hx
              · exact HBD.out x hx
              · rw [List.mem_singleton] at hx; subst hx; exact ⟨hy0, hy1⟩, hbb⟩)
          | (case measure => simp [intOf]; omega)
      · obtain rfl : i = 50 := by omega
        go_wp2_with fail
        go_ret
        exact ⟨out, A, cap, rfl, HOWN.out, by omega, HBD.out, HBW.out⟩
    · obtain rfl : i = l.length := by omega
      go_wp2_with fail
      go_ret
      exact ⟨out, A, cap, rfl, HOWN.out, by omega, HBD.out, HBW.out⟩
end Go.Proofs.Ytcommphfjkggkaa
