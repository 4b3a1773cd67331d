/- The document's Key: the same name as fold's. -/
import Derived.Test.YtclbbekdkljepaaFoldKey
namespace Go.Proofs.Ytclbbekdkljepaa
open Go.ChangeShapes Go.WideShapes Go.ChangeAt Go.RowKit
set_option linter.unusedVariables false

def dotK (S : ByteArray) (k : Nat) : Bool := (List.range k).any fun j => PlainAid.bt S j == 46
theorem dotK_zero (S : ByteArray) : dotK S 0 = false := rfl
theorem dotK_succ (S : ByteArray) (k : Nat) : dotK S (k + 1) = (dotK S k || (PlainAid.bt S k == 46)) := by
  unfold dotK; rw [List.range_succ, List.any_append]; simp
theorem dotK_iff (S : ByteArray) : dotK S S.size = true ↔ DotIn S := by
  unfold dotK DotIn
  rw [List.any_eq_true]
  constructor
  · rintro ⟨j, hj, h⟩; exact ⟨j, by simpa using hj, by simpa using h⟩
  · rintro ⟨j, hj, h⟩; exact ⟨j, by simpa using hj, by simpa using h⟩

set_option maxHeartbeats 1000000 in
theorem refKey_any (S T : ByteArray) (w : World) (hs : S.size ≤ 140737488355328) (hT : KeyOf S T) :
    Calls Try.prog 11 #[.string S] w fun e w' => e = .returned (.string T) ∧ Below w.heap.size w w' := by
  have hcv := fun (W : World) => run_bytes_of_string (P := Try.prog) W 9 35 5 S Try.underlying9 Try.underlying35 Try.underlying5
  have hcap := grownCap_ge w S.size 0 5
  have hown0 := own_bytes w S (grownCap w S.size 0 5) (bytesRow S (grownCap w S.size 0 5)).size ((bytesRow S (grownCap w S.size 0 5)).size + 1) (by rw [bytesRow_size S _ hcap]; exact hcap)
  have HO := Lib.hid hown0
  have HT := Lib.hid hT
  clear hown0 hT
  go_enter Try.func11, Try.ntmps11
  go_wp2
  clear hcv
  go_loopw [4, 5] (fun p i wr => ∃ k : Nat, k ≤ S.size ∧ i = .int .i64 k ∧ p = .bool (dotK S k) ∧ Own wr w.heap.size S.size (keyF S k) ∧ Below w.heap.size w wr) (fun _ i _ => S.size - (intOf i).toNat)
  case atStart => exact ⟨0, by omega, rfl, rfl, (Own.drew HO.out).congr fun j _ => (keyF_zero S j).symm, ((Below.refl _ _).alloc (Nat.le_refl _) _).drew⟩
  case round =>
    obtain ⟨k, hk, rfl, rfl, hown, hbel⟩ := hrel
    by_cases hlt : k < S.size
    · have hc := hown.cell hlt
      rw [keyF_at] at hc
      have hz := hown.frozen hlt
      have hb1 := (bt255 S k).1
      have hb2 := (bt255 S k).2
      have HOW := Lib.hid hown
      have HB := Lib.hid hbel
      have HD := Lib.hid (dotK_succ S k)
      clear hown hbel
      cases hp : dotK S k
      all_goals
        rw [hp] at HD
        clear hp
        by_cases hu : 65 ≤ PlainAid.bt S k ∧ PlainAid.bt S k ≤ 90
        · have hu1 := hu.1
          have hu2 := hu.2
          have h46 : (PlainAid.bt S k == 46) = false := beq_eq_false_iff_ne.2 (by omega)
          have h47 : (PlainAid.bt S k + 32 == 46) = false := beq_eq_false_iff_ne.2 (by omega)
          rw [h46] at HD
          have HU := Lib.hid (show lowF S k = PlainAid.bt S k + 32 by unfold lowF lowB; rw [if_pos hu])
          clear h46
          go_wp2
          go_roundw
          case rel => exact ⟨k + 1, by omega, by go_num, by rw [HD.out]; rfl, (HOW.out.set hlt _).congr fun j _ => keyF_up S k j _ HU.out, HB.out.setCell (Nat.le_refl _) _⟩
          case measure => simp [intOf]; omega
        · have HS := Lib.hid (show lowF S k = PlainAid.bt S k by unfold lowF lowB; rw [if_neg hu])
          by_cases hu1 : 65 ≤ PlainAid.bt S k
          · have hu2 : ¬ PlainAid.bt S k ≤ 90 := by omega
            have h46 : (PlainAid.bt S k == 46) = false := beq_eq_false_iff_ne.2 (by omega)
            rw [h46] at HD
            go_wp2
            go_roundw
            case rel => exact ⟨k + 1, by omega, by go_num, by rw [HD.out]; rfl, HOW.out.congr fun j _ => keyF_same S k j HS.out, HB.out⟩
            case measure => simp [intOf]; omega
          · cases h46 : (PlainAid.bt S k == 46)
            all_goals
              rw [h46] at HD
              go_wp2
              go_roundw
              case rel => exact ⟨k + 1, by omega, by go_num, by rw [HD.out]; rfl, HOW.out.congr fun j _ => keyF_same S k j HS.out, HB.out⟩
              case measure => simp [intOf]; omega
    · obtain rfl : k = S.size := by omega
      have hstr := fun (c : Nat) => show (convert 35 9 (.slice (some ⟨w.heap.size, 0, none⟩) S.size c)).run Try.prog wr = .ok (.string (lowT S)) wr from
        run_str (own_row (f' := lowF S) hown fun i hi => by unfold keyF; rw [if_pos hi])
      have hz2 : (lowT S).size ≤ 140737488355328 := by rw [lowT_size]; exact hs
      by_cases hd : DotIn S
      · have hdd : dotK S S.size = true := (dotK_iff S).2 hd
        rw [hdd]
        clear hdd
        go_wp2
        go_ret
        exact ⟨by rw [HT.out.1 hd]; rfl, hbel⟩
      · have hdd : dotK S S.size = false := by rw [Bool.eq_false_iff]; exact fun h => hd ((dotK_iff S).1 h)
        rw [hdd]
        clear hdd
        have hadd := fun (W : World) => run_string_add_sum (P := Try.prog) W (lowT S) dotDll (by have : dotDll.size = 4 := rfl; omega)
        unfold dotDll at hadd
        go_wp2
        go_ret
        exact ⟨by rw [HT.out.2 hd]; rfl, hbel⟩
end Go.Proofs.Ytclbbekdkljepaa
