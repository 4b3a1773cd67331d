/- slices.Sort at two numbers: the lesser one comes first. -/
import Derived.Test.YtlifaldbdjcgjaaSortU
namespace Go.Proofs.Ytlifaldbdjcgjaa
open Go.ChangeShapes Go.WideShapes Go.ChangeAt Go.RowKit
set_option linter.unusedVariables false
set_option linter.unusedSimpArgs false

/-- Two numbers. -/
def RowXY (w : World) (g : Nat) (x y : Int) : Prop := Own w g 2 (fun i => .int .u64 (if i = 0 then x else y))

set_option maxHeartbeats 2000000 in
theorem ins_two (w : World) (g cap : Nat) (x y : Int) (h : RowXY w g x y) :
    Calls Try.prog 52 #[.slice (some ⟨g, 0, none⟩) 2 cap, .int .i64 0, .int .i64 2] w fun e w' => e = .returned (.tuple #[]) ∧ RowXY w' g (min x y) (max x y) ∧ w.grownBy w' (some g) := by
  have HR := Lib.hid h
  clear h
  go_enter Try.func52, Try.ntmps52
  go_wp2_with fail
  go_loopw [6] (fun v6 wr => ∃ i : Nat, (i = 1 ∧ RowXY wr g x y ∨ i = 2 ∧ RowXY wr g (min x y) (max x y)) ∧ v6 = .int .i64 i ∧ w.grownBy wr (some g)) (fun v6 _ => 2 - (intOf v6).toNat)
  case atStart => exact ⟨1, .inl ⟨rfl, HR.out⟩, rfl, ⟨rfl, rfl, rfl, Nat.le_refl _, fun _ _ _ => rfl⟩⟩
  case round =>
    obtain ⟨i, hr, rfl, hg⟩ := hrel
    have HG := Lib.hid hg
    clear hg
    rcases hr with ⟨rfl, hr⟩ | ⟨rfl, hr⟩
    · have HRR := Lib.hid hr
      clear hr
      go_wp2_with fail
      go_loopw [7] (fun v7 wq => ∃ j : Nat, (j = 1 ∧ RowXY wq g x y ∨ j = 0 ∧ RowXY wq g y x ∧ y < x) ∧ v7 = .int .i64 j ∧ w.grownBy wq (some g)) (fun v7 _ => (intOf v7).toNat)
      case atStart => exact ⟨1, .inl ⟨rfl, HRR.out⟩, rfl, HG.out⟩
      case round =>
        obtain ⟨j, hr, rfl, hg⟩ := hrel
        have HG2 := Lib.hid hg
        clear hg
        rcases hr with ⟨rfl, hr⟩ | ⟨rfl, hr, hyx⟩
        · have c1 := hr.cell (i := 1) (by omega)
          have c0 := hr.cell (i := 0) (by omega)
          have z1 := hr.frozen (i := 1) (by omega)
          have z0 := hr.frozen (i := 0) (by omega)
          have HO := Lib.hid hr
          simp only [Nat.one_ne_zero, if_false, if_true] at c1 c0
          clear hr
          by_cases hxy : y < x
          · have hd : decide (y < x) = true := decide_eq_true hxy
            go_wp2_with fail
            go_quiet ((go_at_call 58; exact Calls.quiet_of_same (less_any _ _ _)))
            go_upto_region 6 with fail
            go_region
            go_wp2_with fail
            go_roundw
            case rel =>
              refine ⟨0, .inr ⟨rfl, ?_, hxy⟩, by go_num, only_setCell (g := g) (p := ⟨g, 0, none⟩) (only_setCell (a := w) (w := wr.drewN (nq + 1)) (g := g) (p := ⟨g, 1, none⟩) ⟨HG2.out.os, HG2.out.tape, HG2.out.output, HG2.out.size, HG2.out.block⟩ (.inl rfl) _) (.inl rfl) _⟩
              refine ((HO.out.set (i := 1) (by omega) (.int .u64 x)).set (i := 0) (by omega) (.int .u64 y)).congr fun q hq => ?_
              rcases (by omega : q = 0 ∨ q = 1) with rfl | rfl
              · simp
              · simp
            case measure => simp [intOf]
          · have hd : decide (y < x) = false := decide_eq_false hxy
            go_wp2_with fail
            go_quiet ((go_at_call 58; exact Calls.quiet_of_same (less_any _ _ _)))
            go_wp2_with fail
            go_roundw
            case rel => exact ⟨2, .inr ⟨rfl, by rw [show min x y = x by omega, show max x y = y by omega]; exact HO.out⟩, by go_num, ⟨HG2.out.os, HG2.out.tape, HG2.out.output, HG2.out.size, HG2.out.block⟩⟩
            case measure => simp [intOf]
        · have HO := Lib.hid hr
          have HYX := Lib.hid hyx
          clear hr hyx
          go_wp2_with fail
          go_quiet (fail)
          go_wp2_with fail
          go_roundw
          case rel => exact ⟨2, .inr ⟨rfl, by rw [show min x y = y by have := HYX.out; omega, show max x y = x by have := HYX.out; omega]; exact HO.out⟩, by go_num, ⟨HG2.out.os, HG2.out.tape, HG2.out.output, HG2.out.size, HG2.out.block⟩⟩
          case measure => simp [intOf]
    · have HRR := Lib.hid hr
      clear hr
      go_wp2_with fail
      go_end0
      exact ⟨rfl, HRR.out, HG.out⟩
theorem pdq_two (w : World) (g cap : Nat) (L x y : Int) (h : RowXY w g x y) :
    Calls Try.prog 50 #[.slice (some ⟨g, 0, none⟩) 2 cap, .int .i64 0, .int .i64 2, .int .i64 L] w fun e w' => e = .returned (.tuple #[]) ∧ RowXY w' g (min x y) (max x y) ∧ w.grownBy w' (some g) := by
  have HI := Lib.hid (ins_two w g cap x y h)
  clear h
  go_enter Try.func50, Try.ntmps50
  go_wp2_with fail
  go_loopw [1, 2] (fun v1 v2 wr => v1 = .int .i64 0 ∧ v2 = .int .i64 2 ∧ wr = w) (fun _ _ _ => 0)
  case atStart => exact ⟨rfl, rfl, rfl⟩
  case round =>
    obtain ⟨rfl, rfl, rfl⟩ := hrel
    go_wp2_with fail
    refine HI.out.mono ?_
    rintro e w2 ⟨rfl, h1, h2⟩
    have H1 := Lib.hid h1
    have H2 := Lib.hid h2
    clear h1 h2
    go_wp2_with fail
    exact bodyPost_ret (v := .tuple #[]) (by simp [results, Try.results50, go_sem]) rfl ⟨rfl, H1.out, H2.out⟩
theorem sort_two (w : World) (g cap : Nat) (x y : Int) (h : RowXY w g x y) :
    Calls Try.prog 46 #[.slice (some ⟨g, 0, none⟩) 2 cap] w fun e w' => e = .returned (.tuple #[]) ∧ RowXY w' g (min x y) (max x y) ∧ w.grownBy w' (some g) := by
  have HP := Lib.hid (fun L => pdq_two w g cap L x y h)
  clear h
  go_enter Try.func46, Try.ntmps46
  go_wp2_with fail
  refine (Try.bits_Len _ _ (by omega) (by omega)).mono ?_
  rintro e w2 ⟨rfl, rfl⟩
  go_wp2_with fail
  refine (HP.out _).mono ?_
  rintro e w2 ⟨rfl, h1, h2⟩
  have H1 := Lib.hid h1
  have H2 := Lib.hid h2
  clear h1 h2
  go_wp2_with fail
  go_end0
  exact ⟨rfl, H1.out, H2.out⟩
end Go.Proofs.Ytlifaldbdjcgjaa
