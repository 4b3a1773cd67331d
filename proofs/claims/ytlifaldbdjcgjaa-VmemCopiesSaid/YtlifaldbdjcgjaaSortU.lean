/- slices.Sort at []uint64, of twelve numbers or fewer: the row stays a row of numbers. -/
import Derived.Test.YtlifaldbdjcgjaaKept
import Derived.Test.YtlifaldbdjcgjaaShelf
import Derived.RegionTactic
import Derived.BigRegion
import Derived.Deep.Cut
import Derived.ChangeAlike
import Derived.Deep.QuietTactic
import Derived.BigQuiet
namespace Go.Proofs.Ytlifaldbdjcgjaa
open Go.ChangeShapes Go.WideShapes Go.ChangeAt Go.RowKit
set_option linter.unusedVariables false
set_option linter.unusedSimpArgs false

theorem isNaN_any (x : Int) (w : World) : Calls Try.prog 68 #[.int .u64 x] w fun e w' => e = .returned (.bool false) ∧ w = w' := by
  go_enter Try.func68, Try.ntmps68
  go_wp2
  go_ret
  exact ⟨by simp, rfl⟩
theorem less_any (x y : Int) (w : World) : Calls Try.prog 58 #[.int .u64 x, .int .u64 y] w fun e w' => e = .returned (.bool (decide (x < y))) ∧ w' = w := by
  go_enter Try.func58, Try.ntmps58
  go_wp2_with (go_at_call 68; refine (isNaN_any _ _).mono ?_; rintro e w' ⟨rfl, rfl⟩)
  go_ret
  exact ⟨rfl, rfl⟩

/-- A row of numbers. -/
def RowU (w : World) (g n : Nat) : Prop := ∃ f : Nat → Int, Own w g n (fun i => .int .u64 (f i))

set_option maxHeartbeats 2000000 in
theorem insertion_any (w : World) (g n cap : Nat) (hn : n ≤ 12) (h : RowU w g n) :
    Calls Try.prog 52 #[.slice (some ⟨g, 0, none⟩) n cap, .int .i64 0, .int .i64 n] w fun e w' => e = .returned (.tuple #[]) ∧ RowU w' g n ∧ w.grownBy w' (some g) := by
  have HR := Lib.hid h
  have hn' : (n : Int) ≤ 12 := by omega
  clear h
  go_enter Try.func52, Try.ntmps52
  go_wp2_with fail
  go_loopw [6] (fun v6 wr => ∃ i : Nat, 1 ≤ i ∧ (i ≤ n ∨ i = 1) ∧ v6 = .int .i64 i ∧ RowU wr g n ∧ w.grownBy wr (some g)) (fun v6 _ => n - (intOf v6).toNat)
  case atStart => exact ⟨1, by omega, .inr rfl, rfl, HR.out, ⟨rfl, rfl, rfl, Nat.le_refl _, fun _ _ _ => rfl⟩⟩
  case round =>
    obtain ⟨i, hi1, hi2, rfl, hr, hg⟩ := hrel
    have HRR := Lib.hid hr
    have HG := Lib.hid hg
    clear hr hg
    by_cases hlt : i < n
    · have hlt' : (i : Int) < (n : Int) := by omega
      go_wp2_with fail
      go_loopw [7] (fun v7 wq => ∃ j : Nat, j ≤ i ∧ v7 = .int .i64 j ∧ RowU wq g n ∧ w.grownBy wq (some g)) (fun v7 _ => (intOf v7).toNat)
      case atStart => exact ⟨i, by omega, rfl, HRR.out, HG.out⟩
      case round =>
        obtain ⟨j, hj, rfl, hr, hg⟩ := hrel
        have HR2 := Lib.hid hr
        have HG2 := Lib.hid hg
        clear hr hg
        by_cases hj0 : j = 0
        · subst hj0
          go_wp2_with fail
          go_quiet (fail)
          go_wp2_with fail
          go_roundw
          case rel => exact ⟨i + 1, by omega, .inl (by omega), by go_num, HR2.out, ⟨HG2.out.os, HG2.out.tape, HG2.out.output, HG2.out.size, HG2.out.block⟩⟩
          case measure => simp [intOf]; omega
        · obtain ⟨f, ho⟩ := HR2.out
          obtain ⟨k, rfl⟩ : ∃ k, j = k + 1 := ⟨j - 1, by omega⟩
          have c1 := ho.cell (i := k + 1) (by omega)
          have c0 := ho.cell (i := k) (by omega)
          have z1 := ho.frozen (i := k + 1) (by omega)
          have z0 := ho.frozen (i := k) (by omega)
          have HO := Lib.hid ho
          clear ho
          rw [show ((k + 1 : Nat) : Int) = (k : Int) + 1 from rfl]
          have hsub : IntKind.i64.wrap ((k : Int) + 1 - 1) = k := by rw [show (k : Int) + 1 - 1 = k by omega]; exact IntWalk.i64_in _ ⟨by omega, by omega⟩
          have hk1 : (0 : Int) < (k : Int) + 1 := by omega
          have hk2 : (k : Int) + 1 < (n : Int) := by omega
          have hk3 : (k : Int) < (n : Int) := by omega
          have ht1 : ((k : Int) + 1).toNat = k + 1 := by omega
          have hk0 : (0 : Int) ≤ (k : Int) + 1 := by omega
          generalize f (k + 1) = x at *
          generalize f k = y at *
          by_cases hxy : x < y
          · have hd : decide (x < y) = true := decide_eq_true hxy
            go_wp2_with fail
            go_quiet ((go_at_call 58; exact Calls.quiet_of_same (less_any _ _ _)))
            go_upto_region 6 with fail
            go_region
            go_wp2_with fail
            go_roundw
            case rel =>
              refine ⟨k, by omega, by go_num, ⟨fun q => if q = k then x else if q = k + 1 then y else f q, ?_⟩, only_setCell (g := g) (p := ⟨g, k, none⟩) (only_setCell (a := w) (w := wr.drewN (nq + 1)) (g := g) (p := ⟨g, k + 1, none⟩) ⟨HG2.out.os, HG2.out.tape, HG2.out.output, HG2.out.size, HG2.out.block⟩ (.inl rfl) _) (.inl rfl) _⟩
              refine ((HO.out.set (i := k + 1) (by omega) (.int .u64 y)).set (i := k) (by omega) (.int .u64 x)).congr fun q hq => ?_
              by_cases e : q = k
              · subst e; simp
              · by_cases e2 : q = k + 1
                · subst e2; simp
                · simp [e, e2]
            case measure => simp [intOf]
          · have hd : decide (x < y) = false := decide_eq_false hxy
            go_wp2_with fail
            go_quiet ((go_at_call 58; exact Calls.quiet_of_same (less_any _ _ _)))
            go_wp2_with fail
            go_roundw
            case rel => exact ⟨i + 1, by omega, .inl (by omega), by go_num, ⟨_, HO.out⟩, ⟨HG2.out.os, HG2.out.tape, HG2.out.output, HG2.out.size, HG2.out.block⟩⟩
            case measure => simp [intOf]; omega
    · go_wp2_with fail
      go_end0
      exact ⟨rfl, HRR.out, HG.out⟩

theorem pdq_any (w : World) (g n cap : Nat) (L : Int) (hn : n ≤ 12) (h : RowU w g n) :
    Calls Try.prog 50 #[.slice (some ⟨g, 0, none⟩) n cap, .int .i64 0, .int .i64 n, .int .i64 L] w fun e w' => e = .returned (.tuple #[]) ∧ RowU w' g n ∧ w.grownBy w' (some g) := by
  have HI := Lib.hid (insertion_any w g n cap hn h)
  have hn' : (n : Int) ≤ 12 := by omega
  have hz : (0 : Int) ≤ n := by omega
  clear h
  go_enter Try.func50, Try.ntmps50
  go_wp2_with fail
  go_loopw [1, 2] (fun v1 v2 wr => v1 = .int .i64 0 ∧ v2 = .int .i64 n ∧ wr = w) (fun _ _ _ => 0)
  case atStart => exact ⟨rfl, rfl, rfl⟩
  case round =>
    obtain ⟨rfl, rfl, rfl⟩ := hrel
    go_wp2_with fail
    refine HI.out.mono ?_
    rintro e w2 ⟨rfl, h1, h2⟩
    have H1 := Lib.hid h1
    have H2 := Lib.hid h2
    clear h1 h2
    go_wp2_with fail
    exact bodyPost_ret (v := .tuple #[]) (by simp [results, Try.results50, go_sem]) rfl ⟨rfl, H1.out, H2.out⟩

theorem sort_any (w : World) (g n cap : Nat) (hn : n ≤ 12) (h : RowU w g n) :
    Calls Try.prog 46 #[.slice (some ⟨g, 0, none⟩) n cap] w fun e w' => e = .returned (.tuple #[]) ∧ RowU w' g n ∧ w.grownBy w' (some g) := by
  have HP := Lib.hid (fun L => pdq_any w g n cap L hn h)
  have hn' : (n : Int) ≤ 12 := by omega
  have hz : (0 : Int) ≤ n := by omega
  clear h
  go_enter Try.func46, Try.ntmps46
  go_wp2_with fail
  refine (Try.bits_Len _ _ (by omega) (by omega)).mono ?_
  rintro e w2 ⟨rfl, rfl⟩
  go_wp2_with fail
  refine (HP.out _).mono ?_
  rintro e w2 ⟨rfl, h1, h2⟩
  have H1 := Lib.hid h1
  have H2 := Lib.hid h2
  clear h1 h2
  go_wp2_with fail
  go_end0
  exact ⟨rfl, H1.out, H2.out⟩
end Go.Proofs.Ytlifaldbdjcgjaa
