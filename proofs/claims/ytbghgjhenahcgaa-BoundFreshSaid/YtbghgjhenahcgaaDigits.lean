/- The document's Digits, of numbers below a hundred. -/
import Derived.Test.YtbghgjhenahcgaaFoldKey
namespace Go.Proofs.Ytbghgjhenahcgaa
open Go.ChangeShapes Go.WideShapes Go.ChangeAt Go.RowKit
set_option linter.unusedVariables false

def D10 : ByteArray := ⟨#[48, 49, 50, 51, 52, 53, 54, 55, 56, 57]⟩
/-- A number's digits. -/
def dB (i : Nat) : ByteArray := if i < 10 then D10.extract i (i + 1) ++ ⟨#[]⟩ else D10.extract (i / 10) (i / 10 + 1) ++ (D10.extract (i % 10) (i % 10 + 1) ++ ⟨#[]⟩)

theorem slice_d10 (k : Nat) (hk : k < 10) (W : World) : (Instr.slice 9 (.string ⟨#[48, 49, 50, 51, 52, 53, 54, 55, 56, 57]⟩) (some (.int .i64 k)) (some (.int .i64 ((k : Int) + 1))) none).run Try.prog W = .ok (.string (D10.extract k (k + 1))) W := by
  have h := run_slice_string (P := Try.prog) W 9 D10 .i64 .i64 (k : Int) ((k : Int) + 1) Try.underlying9 (by omega) (by omega) (by have : D10.size = 10 := rfl; omega)
  have e : ((k : Int) + 1).toNat = k + 1 := by omega
  rw [e] at h
  exact h
theorem d10_size (k : Nat) (hk : k < 10) : (D10.extract k (k + 1)).size = 1 := by
  rw [ByteArray.size_extract]
  have : D10.size = 10 := rfl
  omega

set_option maxHeartbeats 1000000 in
theorem digits_any (i : Nat) (w : World) (hi : i < 100) : Calls Try.prog 5 #[.int .i64 i] w fun e w' => e = .returned (.string (dB i)) ∧ w = w' := by
  obtain ⟨q, hq⟩ : ∃ q : Nat, i / 10 = q := ⟨_, rfl⟩
  obtain ⟨r, hr⟩ : ∃ r : Nat, i % 10 = r := ⟨_, rfl⟩
  have HQ := Lib.hid hq
  have HR := Lib.hid hr
  have hr10 : r < 10 := by omega
  have hq10 : q < 10 := by omega
  clear hq hr
  go_enter Try.func5, Try.ntmps5
  go_wp2_with fail
  go_loop [0, 3] (fun n s => (n = .int .i64 i ∧ s = .string ⟨#[]⟩) ∨ (10 ≤ i ∧ n = .int .i64 q ∧ s = .string (D10.extract r (r + 1) ++ ⟨#[]⟩))) (fun n _ => (intOf n).toNat)
  case atStart => exact .inl ⟨rfl, rfl⟩
  case round =>
    rcases hrel with ⟨rfl, rfl⟩ | ⟨h10, rfl, rfl⟩
    · by_cases h : i < 10
      · have h1 : ¬ (9 : Int) < i := by omega
        have hm : (i : Int) % 10 = i := by omega
        have hz : (0 : Int) ≤ i := by omega
        have hs := slice_d10 i h
        have hsz := d10_size i h
        have hadd := fun (W : World) => run_string_add_sum (P := Try.prog) W (D10.extract i (i + 1)) ⟨#[]⟩ (by rw [hsz]; decide)
        have HD := Lib.hid (show dB i = D10.extract i (i + 1) ++ ⟨#[]⟩ by unfold dB; rw [if_pos h])
        clear hsz
        generalize D10.extract i (i + 1) = T at *
        generalize T ++ ⟨#[]⟩ = TT at *
        go_wp2_with fail
        go_ret
        exact ⟨by rw [HD.out]; rfl, rfl⟩
      · have h1 : (9 : Int) < i := by omega
        have hm : (i : Int) % 10 = r := by have := HR.out; omega
        have hqq : (i : Int) / 10 = q := by have := HQ.out; omega
        have hs := slice_d10 r hr10
        have hsz := d10_size r hr10
        have hadd := fun (W : World) => run_string_add_sum (P := Try.prog) W (D10.extract r (r + 1)) ⟨#[]⟩ (by rw [hsz]; decide)
        have HI := Lib.hid (show 10 ≤ i by omega)
        have HL := Lib.hid (show q < i by have := HQ.out; omega)
        clear hsz
        generalize D10.extract r (r + 1) = T at *
        generalize T ++ ⟨#[]⟩ = TT at *
        go_wp2_with fail
        go_round
        case rel => exact .inr ⟨HI.out, rfl, rfl⟩
        case measure => have := HL.out; simp [intOf]; omega
    · have h1 : ¬ (9 : Int) < q := by omega
      have hm : (q : Int) % 10 = q := by omega
      have hz : (0 : Int) ≤ q := by omega
      have hs := slice_d10 q hq10
      have hsz := d10_size q hq10
      have hsz2 : (D10.extract r (r + 1) ++ ⟨#[]⟩).size = 1 := by rw [ByteArray.size_append, d10_size r hr10]; rfl
      have hadd := fun (W : World) => run_string_add_sum (P := Try.prog) W (D10.extract q (q + 1)) (D10.extract r (r + 1) ++ ⟨#[]⟩) (by rw [hsz, hsz2]; decide)
      have HD := Lib.hid (show dB i = D10.extract q (q + 1) ++ (D10.extract r (r + 1) ++ ⟨#[]⟩) by unfold dB; rw [if_neg (by omega), HQ.out, HR.out])
      clear hsz hsz2
      generalize D10.extract r (r + 1) ++ ⟨#[]⟩ = T at *
      generalize D10.extract q (q + 1) = T2 at *
      generalize T2 ++ T = TT at *
      go_wp2_with fail
      go_ret
      exact ⟨by rw [HD.out]; rfl, rfl⟩
end Go.Proofs.Ytbghgjhenahcgaa
