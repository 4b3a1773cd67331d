/- The walk of the law LeEnds. -/
import Derived.Test.YtclholeopgfakaaSl
namespace Go.Proofs.Ytclholeopgfakaa
open Go.ChangeShapes Go.WideShapes Go.ChangeAt Go.RowKit

def zeroF (_ : Nat) : Value := .int .u8 0

theorem put_zero (o n j : Nat) : putF zeroF o 0 n j = zeroF j := by
  unfold putF zeroF byteOf
  split
  · simp
  · rfl

theorem zero255 : Bytes255 (fun _ => 0) := fun _ => ⟨Int.le_refl 0, show (0 : Int) ≤ 255 by omega⟩

set_option maxRecDepth 100000 in
set_option maxHeartbeats 1000000 in
theorem leEnds_walk (n : Int) (w : World) :
    Calls Try.prog 4 #[.int .i64 n] w fun e w' => e = .returned (.bool true) ∧ Below w.heap.size w w' := by
  have m1 := and_ff n
  obtain ⟨m, hm0, hm⟩ : ∃ m : Nat, n % 256 % 40 = m ∧ m < 40 := ⟨(n % 256 % 40).toNat, by omega, by omega⟩
  have hmk := run_make_row' (P := Try.prog) 22 5 (.int .u8 0) 1 Try.underlying22 infoU8 rfl .i64 .i64 m (by omega) (by omega)
  go_enter Try.func4, Try.ntmps4
  go_wp2
  clear hmk m1 hm0
  go_loopw [4] (fun at' wr => ∃ i : Int, -3 ≤ i ∧ i ≤ m + 4 ∧ at' = .int .i64 i ∧ Own wr w.heap.size m zeroF ∧ Below w.heap.size w wr) (fun at' _ => ((m : Int) + 4 - intOf at').toNat)
  case atStart => exact ⟨-3, by omega, by omega, rfl, Own.of_row (World.rowIs_made _ _ _ _), (Below.refl _ _).alloc (Nat.le_refl _) _⟩
  case round =>
    obtain ⟨i, hi1, hi2, rfl, hown, hbel⟩ := hrel
    by_cases hlt : i ≤ m + 3
    · by_cases c0 : 0 ≤ i
      · obtain ⟨o, rfl⟩ := Int.eq_ofNat_of_zero_le c0
        have hrow : Row wr w.heap.size 0 m (fun _ => 0) := own_row hown fun _ _ => rfl
        by_cases c8 : o + 8 ≤ m
        · have d8 : (o : Int) + 8 ≤ m := by omega
          have d4 : (o : Int) + 4 ≤ m := by omega
          have d2 : (o : Int) + 2 ≤ m := by omega
          go_wp2_with fail
          refine (u16_yes _ _ _ _ _ o _ (by omega) (by omega) zero255 hrow).mono ?_
          rintro e w' ⟨rfl, rfl⟩
          go_wp2_with fail
          refine (u32_yes _ _ _ _ _ o _ (by omega) (by omega) zero255 hrow).mono ?_
          rintro e w' ⟨rfl, rfl⟩
          go_wp2_with fail
          refine (u64_yes _ _ _ _ _ o _ (by omega) (by omega) zero255 hrow).mono ?_
          rintro e w' ⟨rfl, rfl⟩
          go_wp2_with fail
          refine (put_yes _ _ _ _ o 8 0 _ (by omega) (by omega) (by omega) (by omega) hown (by omega) (by omega)).mono ?_
          rintro e w1 ⟨rfl, hown1, hg1⟩
          go_wp2_with fail
          refine (put_no _ _ _ _ _ _ _ (by omega) (by omega)).mono ?_
          rintro e w' ⟨rfl, rfl⟩
          go_wp2_with fail
          refine (put_no _ _ _ _ _ _ _ (by omega) (by omega)).mono ?_
          rintro e w' ⟨rfl, rfl⟩
          go_wp2
          go_roundw
          case rel => exact ⟨(o : Int) + 1, by omega, by omega, rfl, hown1.congr fun j _ => put_zero o 8 j, hbel.grown hg1 hbel.size (by rintro k h; injection h with h; omega)⟩
          case measure => simp [intOf]; omega
        · have d8 : ¬ (o : Int) + 8 ≤ m := by omega
          by_cases c4 : o + 4 ≤ m
          · have d4 : (o : Int) + 4 ≤ m := by omega
            have d2 : (o : Int) + 2 ≤ m := by omega
            go_wp2_with fail
            refine (u16_yes _ _ _ _ _ o _ (by omega) (by omega) zero255 hrow).mono ?_
            rintro e w' ⟨rfl, rfl⟩
            go_wp2_with fail
            refine (u32_yes _ _ _ _ _ o _ (by omega) (by omega) zero255 hrow).mono ?_
            rintro e w' ⟨rfl, rfl⟩
            go_wp2_with fail
            refine (u64_no _ _ _ _ _ (by omega) (by omega)).mono ?_
            rintro e w' ⟨rfl, rfl⟩
            go_wp2_with ((go_at_call 15; refine (put_no _ _ _ _ _ _ _ (by omega) (by omega)).mono ?_; rintro e w' ⟨rfl, rfl⟩))
            go_roundw
            case rel => exact ⟨(o : Int) + 1, by omega, by omega, rfl, hown, hbel⟩
            case measure => simp [intOf]; omega
          · have d4 : ¬ (o : Int) + 4 ≤ m := by omega
            by_cases c2 : o + 2 ≤ m
            · have d2 : (o : Int) + 2 ≤ m := by omega
              go_wp2_with fail
              refine (u16_yes _ _ _ _ _ o _ (by omega) (by omega) zero255 hrow).mono ?_
              rintro e w' ⟨rfl, rfl⟩
              go_wp2_with fail
              refine (u32_no _ _ _ _ _ (by omega) (by omega)).mono ?_
              rintro e w' ⟨rfl, rfl⟩
              go_wp2_with fail
              refine (u64_no _ _ _ _ _ (by omega) (by omega)).mono ?_
              rintro e w' ⟨rfl, rfl⟩
              go_wp2_with ((go_at_call 15; refine (put_no _ _ _ _ _ _ _ (by omega) (by omega)).mono ?_; rintro e w' ⟨rfl, rfl⟩))
              go_roundw
              case rel => exact ⟨(o : Int) + 1, by omega, by omega, rfl, hown, hbel⟩
              case measure => simp [intOf]; omega
            · have d2 : ¬ (o : Int) + 2 ≤ m := by omega
              go_wp2_with fail
              refine (u16_no _ _ _ _ _ (by omega) (by omega)).mono ?_
              rintro e w' ⟨rfl, rfl⟩
              go_wp2_with fail
              refine (u32_no _ _ _ _ _ (by omega) (by omega)).mono ?_
              rintro e w' ⟨rfl, rfl⟩
              go_wp2_with fail
              refine (u64_no _ _ _ _ _ (by omega) (by omega)).mono ?_
              rintro e w' ⟨rfl, rfl⟩
              go_wp2_with ((go_at_call 15; refine (put_no _ _ _ _ _ _ _ (by omega) (by omega)).mono ?_; rintro e w' ⟨rfl, rfl⟩))
              go_roundw
              case rel => exact ⟨(o : Int) + 1, by omega, by omega, rfl, hown, hbel⟩
              case measure => simp [intOf]; omega
      · go_wp2_with fail
        refine (u16_no _ _ _ _ _ (by omega) (by omega)).mono ?_
        rintro e w' ⟨rfl, rfl⟩
        go_wp2_with fail
        refine (u32_no _ _ _ _ _ (by omega) (by omega)).mono ?_
        rintro e w' ⟨rfl, rfl⟩
        go_wp2_with fail
        refine (u64_no _ _ _ _ _ (by omega) (by omega)).mono ?_
        rintro e w' ⟨rfl, rfl⟩
        go_wp2_with ((go_at_call 15; refine (put_no _ _ _ _ _ _ _ (by omega) (by omega)).mono ?_; rintro e w' ⟨rfl, rfl⟩))
        go_roundw
        case rel => exact ⟨i + 1, by omega, by omega, rfl, hown, hbel⟩
        case measure => simp [intOf]; omega
    · go_wp2_with (go_at_call 11; refine (awake1 _).mono ?_; rintro e w' ⟨rfl, hbel'⟩)
      go_ret
      exact ⟨rfl, hbel.trans (hbel'.mono hbel.size)⟩
end Go.Proofs.Ytclholeopgfakaa
