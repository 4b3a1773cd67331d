/- Round, of package hdr and the document's. -/
import Derived.Test.YtplgdpjbkdagfaaGreatRow
namespace Go.Proofs.YtplgdpjbkdagfaaGreat
set_option maxRecDepth 100000
open Go.ChangeShapes Go.WideShapes Go.ChangeAt Go.RowKit
set_option linter.unusedVariables false
set_option linter.unusedSimpArgs false

/-- The least multiple of t (1 at least) that is not below n, n being 2^40 at most. -/
def roundS (n t : Int) : Int := if n < 1 then 0 else ((min n 1099511627776 - 1) / max t 1 + 1) * max t 1

theorem roundS_bd (n t : Int) (ht : t ≤ 9223372036854775807) : 0 ≤ roundS n t ∧ roundS n t ≤ 9223372036854775807 := by
  unfold roundS
  split
  · omega
  · obtain ⟨m, hm⟩ : ∃ m, min n 1099511627776 = m := ⟨_, rfl⟩
    obtain ⟨d, hd⟩ : ∃ d, max t 1 = d := ⟨_, rfl⟩
    rw [hm, hd]
    have h1 : 1 ≤ m := by omega
    have h2 : m ≤ 1099511627776 := by omega
    have d1 : 1 ≤ d := by omega
    have d2 : d ≤ 9223372036854775807 := by omega
    have e : (m - 1) / d * d ≤ m - 1 := Int.ediv_mul_le _ (by omega)
    have e0 : 0 ≤ (m - 1) / d := Int.ediv_nonneg (by omega) (by omega)
    have e00 : 0 ≤ (m - 1) / d * d := Int.mul_nonneg e0 (by omega)
    rw [Int.add_mul, Int.one_mul]
    by_cases c : m - 1 < d
    · rw [Int.ediv_eq_zero_of_lt (by omega) c]; omega
    · omega

theorem round_any (n t : Int) (w : World) (h0 : -9223372036854775808 ≤ n) (h1 : n ≤ 9223372036854775807) (t0 : -9223372036854775808 ≤ t) (t1 : t ≤ 9223372036854775807) :
    Calls Tryz.prog 106 #[.int .i64 n, .int .i64 t] w fun e w' => e = .returned (.int .i64 (roundS n t)) ∧ w = w' := by
  have hb := roundS_bd n t t1
  unfold roundS at hb ⊢
  by_cases c : n < 1
  · rw [if_pos c]
    go_enter Tryz.func106, Tryz.ntmps106
    go_wp2
    go_ret
    exact ⟨rfl, rfl⟩
  · rw [if_neg c] at hb ⊢
    obtain ⟨m, hm⟩ : ∃ m, min n 1099511627776 = m := ⟨_, rfl⟩
    obtain ⟨d, hd⟩ : ∃ d, max t 1 = d := ⟨_, rfl⟩
    rw [hm, hd] at hb ⊢
    have h1 : 1 ≤ m := by omega
    have h2 : m ≤ 1099511627776 := by omega
    have d1 : 1 ≤ d := by omega
    have d2 : d ≤ 9223372036854775807 := by omega
    obtain ⟨q, hq⟩ : ∃ q, (m - 1) / d = q := ⟨_, rfl⟩
    have hqt : Int.tdiv (m - 1) d = q := by rw [← hq]; exact Int.tdiv_eq_ediv_of_nonneg (by omega)
    have q0 : 0 ≤ q := by rw [← hq]; exact Int.ediv_nonneg (by omega) (by omega)
    have q1 : q ≤ 1099511627776 := by rw [← hq]; exact Int.le_trans (Int.ediv_le_self _ (by omega)) (by omega)
    rw [hq] at hb ⊢
    obtain ⟨r, hr⟩ : ∃ r, (q + 1) * d = r := ⟨_, rfl⟩
    rw [hr] at hb ⊢
    have hw : wrap64 r = r := by unfold wrap64; omega
    obtain ⟨b0, b1⟩ := hb
    have hw1 : wrap64 (q + 1) = q + 1 := by unfold wrap64; omega
    have hc : (n ≤ 1099511627776 ∧ m = n) ∨ (1099511627776 < n ∧ m = 1099511627776) := by omega
    have hcd : (1 ≤ t ∧ d = t) ∨ (t < 1 ∧ d = 1) := by omega
    rcases hc with ⟨n1, rfl⟩ | ⟨n1, rfl⟩ <;> rcases hcd with ⟨n2, rfl⟩ | ⟨n2, rfl⟩
    all_goals
      clear hm hd hqt
      try simp only [show (1099511627776 - 1 : Int) = 1099511627775 from rfl] at hq
      go_enter Tryz.func106, Tryz.ntmps106
      go_wp2
      go_ret
      first
      | exact ⟨rfl, rfl⟩
      | exact ⟨congrArg _ (congrArg (Value.int .i64) (by omega)), rfl⟩

theorem emod_up {m d : Int} (h1 : 1 ≤ m) (hd : 1 ≤ d) : ((m - 1) / d + 1) * d = if m % d = 0 then m else m - m % d + d := by
  have e := Int.mul_ediv_add_emod m d
  have m0 := Int.emod_nonneg m (show d ≠ 0 by omega)
  have m1 := Int.emod_lt_of_pos m (show 0 < d by omega)
  obtain ⟨q, hq⟩ : ∃ q, m / d = q := ⟨_, rfl⟩
  obtain ⟨r, hr⟩ : ∃ r, m % d = r := ⟨_, rfl⟩
  rw [hq, hr] at e
  rw [hr] at m0 m1 ⊢
  by_cases c : r = 0
  · rw [if_pos c]
    have hx : (m - 1) / d = q - 1 := by
      rw [show m - 1 = (d - 1) + d * (q - 1) by rw [Int.mul_sub, Int.mul_one]; omega, Int.add_mul_ediv_left _ _ (by omega), Int.ediv_eq_zero_of_lt (by omega) (by omega)]
      omega
    rw [hx, Int.sub_add_cancel, Int.mul_comm]
    omega
  · rw [if_neg c]
    have hx : (m - 1) / d = q := by
      rw [show m - 1 = (r - 1) + d * q by omega, Int.add_mul_ediv_left _ _ (by omega), Int.ediv_eq_zero_of_lt (by omega) (by omega)]
      omega
    rw [hx, Int.add_mul, Int.one_mul, Int.mul_comm]
    omega

theorem rround_any (n t : Int) (w : World) (h0 : -9223372036854775808 ≤ n) (h1 : n ≤ 9223372036854775807) (t0 : -9223372036854775808 ≤ t) (t1 : t ≤ 9223372036854775807) :
    Calls Tryz.prog 71 #[.int .i64 n, .int .i64 t] w fun e w' => e = .returned (.int .i64 (roundS n t)) ∧ w = w' := by
  have hb := roundS_bd n t t1
  unfold roundS at hb ⊢
  by_cases c : n < 1
  · rw [if_pos c]
    go_enter Tryz.func71, Tryz.ntmps71
    go_wp2
    go_ret
    exact ⟨rfl, rfl⟩
  · rw [if_neg c] at hb ⊢
    rw [emod_up (by omega) (by omega)] at hb ⊢
    obtain ⟨m, hm⟩ : ∃ m, min n 1099511627776 = m := ⟨_, rfl⟩
    obtain ⟨d, hd⟩ : ∃ d, max t 1 = d := ⟨_, rfl⟩
    rw [hm, hd] at hb ⊢
    have h1 : 1 ≤ m := by omega
    have h2 : m ≤ 1099511627776 := by omega
    have d1 : 1 ≤ d := by omega
    have d2 : d ≤ 9223372036854775807 := by omega
    have m0 := Int.emod_nonneg m (show d ≠ 0 by omega)
    have m1 := Int.emod_lt_of_pos m (show 0 < d by omega)
    have m2 : m % d ≤ m := by
      have e := Int.mul_ediv_add_emod m d
      have e2 := Int.mul_nonneg (show 0 ≤ d by omega) (Int.ediv_nonneg (show 0 ≤ m by omega) (show 0 ≤ d by omega))
      omega
    have hmt : Int.tmod m d = m % d := Int.tmod_eq_emod_of_nonneg (by omega)
    have hc : (n ≤ 1099511627776 ∧ m = n) ∨ (1099511627776 < n ∧ m = 1099511627776) := by omega
    have hcd : (1 ≤ t ∧ d = t) ∨ (t < 1 ∧ d = 1) := by omega
    obtain ⟨r, hr⟩ : ∃ r, m % d = r := ⟨_, rfl⟩
    rw [hr] at m0 m1 m2 hb hmt ⊢
    by_cases c0 : r = 0
    · have e0 : (r == 0) = true := by simp [c0]
      rw [if_pos c0]
      rcases hc with ⟨n1, rfl⟩ | ⟨n1, rfl⟩ <;> rcases hcd with ⟨n2, rfl⟩ | ⟨n2, rfl⟩
      all_goals
        clear hm hd hb c0
        go_enter Tryz.func71, Tryz.ntmps71
        go_wp2
        go_ret
        exact ⟨rfl, rfl⟩
    · have e0 : (r == 0) = false := by simpa using c0
      rw [if_neg c0] at hb ⊢
      rcases hc with ⟨n1, rfl⟩ | ⟨n1, rfl⟩ <;> rcases hcd with ⟨n2, rfl⟩ | ⟨n2, rfl⟩
      all_goals
        first
        | (exfalso; omega)
        | (clear hm hd c0
           go_enter Tryz.func71, Tryz.ntmps71
           go_wp2
           go_ret
           exact ⟨rfl, rfl⟩)
end Go.Proofs.YtplgdpjbkdagfaaGreat
