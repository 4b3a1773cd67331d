/- VmemFull. -/
import Derived.Test.YtlifaldbdjcgjaaVawake
namespace Go.Proofs.Ytlifaldbdjcgjaa
open Go.ChangeShapes Go.WideShapes Go.ChangeAt Go.RowKit
open Go.Maps (Keyed)
set_option linter.unusedVariables false

theorem and_255 (n : Int) : bits .and .i64 n 255 = n % 256 := i64_mask n 8 (by omega)

theorem askF1 {mp : Int → Option Pg} (h : mp 140737488355328 = none) : askS mp 1 2 1 140737488355328 1 = (1, 140737488355328, none) := by
  unfold askS
  rw [if_neg (by omega), show (140737488355328 : Int) - 140737488355328 % 4096 = 140737488355328 from rfl, h]
theorem askF2 {mp : Int → Option Pg} (h : mp 18446744073709547520 = none) : askS mp 1 2 2 18446744073709551615 2 = (1, 18446744073709551615, none) := by
  unfold askS
  rw [if_neg (by omega), show (18446744073709551615 : Int) - 18446744073709551615 % 4096 = 18446744073709547520 from rfl, h]

theorem setP_prot0 (p a : Int) (hp : 0 ≤ p ∧ p ≤ 15) : ∀ (k : Nat) x g, setP (fun _ => none) a p k x = some g → 0 ≤ g.prot ∧ g.prot ≤ 15
  | 0, x, g, h => by cases h
  | k + 1, x, g, h => by
    have h : upd (setP (fun _ => none) a p k) (a + k * 4096) _ x = some g := h
    by_cases e : x = a + k * 4096
    · rw [e, upd_same] at h; cases h; exact hp
    · rw [upd_other _ _ e] at h; exact setP_prot0 p a hp k x g h

set_option maxRecDepth 100000 in
theorem full_core (w : World) (n : Int) :
    Calls Try.prog 6 #[.int .i64 n] w fun e w' => e = .returned (.bool true) ∧ Below w.heap.size w w' := by
  have hR : ∀ k, k < w.heap.size → k < w.heap.size := fun _ h => h
  obtain ⟨K, hK⟩ : ∃ K : Nat, n % 256 = K := ⟨(n % 256).toNat, by omega⟩
  have hKb := (and_255 n).trans hK
  obtain ⟨N, hN⟩ : ∃ N : Nat, (K : Int) % 40 = N := ⟨K % 40, by omega⟩
  have hN40 : N < 40 := by omega
  clear hK
  go_enter Try.func6, Try.ntmps6
  go_wp2_with fail
  refine (newMem_any (· < w.heap.size) w N hR (by omega) (by omega)).mono ?_
  rintro e w1 ⟨M, rfl, h1, k1⟩
  have H1 := Lib.hid h1
  have K1 := Lib.hid k1
  clear h1 k1 hKb
  go_wp2_with fail
  refine (free_any (· < w.heap.size) w1 M 0 N _ H1.out).mono ?_
  rintro e w2 ⟨rfl, n2, rfl⟩
  have H2 := Lib.hid (H1.out.drewN n2)
  have K2 := Lib.hid (K1.out.trans (Kept.drewN _ w1 n2))
  clear H1 K1
  generalize w1.drewN n2 = W2 at *
  have hc := map_space (· < w.heap.size) W2 M 0 N (fun _ => none) 0 1 (N + 1) (by omega) ⟨by omega, by omega, by omega, by omega⟩ (by omega) (by omega) (fun _ _ => rfl) (by omega) H2.out
  simp only [Int.natCast_add, Int.natCast_one] at hc
  have HSP := Lib.hid hc
  clear hc
  have hz : ((N : Int) - ((0 : Nat) : Int)) = N := by omega
  go_wp2_with fail
  refine HSP.out.mono ?_
  rintro e w3 ⟨rfl, n3, rfl⟩
  have H3 := Lib.hid (H2.out.drewN n3)
  have K3 := Lib.hid (K2.out.trans (Kept.drewN _ W2 n3))
  clear H2 K2 HSP
  generalize W2.drewN n3 = W3 at *
  obtain ⟨mp, hmp⟩ : ∃ mp, mp = setP (fun _ => none) 0 1 N := ⟨_, rfl⟩
  have hpr : Hid (∀ x g, mp x = some g → 0 ≤ g.prot ∧ g.prot ≤ 15) := by rw [hmp]; exact setP_prot0 1 0 ⟨by omega, by omega⟩ N
  have hfar : Hid (∀ x : Int, 1000000 ≤ x → mp x = none) := fun x hx => by rw [hmp]; exact setP_out (fun _ => none) 0 1 x N (fun i hi => by omega)
  by_cases hN0 : 0 < N
  · go_wp2_with fail
    refine (map_core (· < w.heap.size) W3 M 0 N (fun _ => none) 0 1 N (by omega) ⟨by omega, by omega, by omega, by omega⟩ (by omega) (by omega) (fun _ _ => rfl) (by omega) H3.out).mono ?_
    rintro e w4 ⟨rfl, h4, k4⟩
    rw [← hmp] at h4
    have H4 := Lib.hid h4
    have K4 := Lib.hid (K3.out.trans k4)
    clear h4 k4 H3 K3 hmp
    go_wp2_with fail
    refine (free_any (· < w.heap.size) w4 M (0 + N) N _ H4.out).mono ?_
    rintro e w5 ⟨rfl, n5, rfl⟩
    have hzz : ((N : Int) - ((0 + N : Nat) : Int)) = 0 := by omega
    have H5 := Lib.hid (H4.out.drewN n5)
    have K5 := Lib.hid (K4.out.trans (Kept.drewN _ w4 n5))
    clear H4 K4
    generalize w4.drewN n5 = W5 at *
    go_wp2_with fail
    refine (map_space (· < w.heap.size) W5 M (0 + N) N mp 140737488351232 1 1 (by omega) ⟨by omega, by omega, by omega, by omega⟩ (by omega) (by omega) (fun i hi => hfar.out _ (by omega)) (by omega) H5.out).mono ?_
    rintro e w6 ⟨rfl, n6, rfl⟩
    have H6 := Lib.hid (H5.out.drewN n6)
    have K6 := Lib.hid (K5.out.trans (Kept.drewN _ W5 n6))
    clear H5 K5
    generalize W5.drewN n6 = W6 at *
    go_wp2_with fail
    refine (map_row W6 M 140737488355328 1 1 (by omega) (by omega) (by unfold RowOk; omega)).mono ?_
    rintro e w7 ⟨rfl, rfl⟩
    go_wp2_with fail
    have hc := read_no (· < w.heap.size) W6 M (0 + N) N mp 140737488355328 1 1 (by omega) (.inl (by omega)) (by omega) (by omega) (by omega) hpr.out (by rw [askF1 (hfar.out _ (by omega))]; decide) H6.out
    rw [askF1 (hfar.out _ (by omega))] at hc
    refine hc.mono ?_
    clear hc
    rintro e w8 ⟨rfl, h8, k8⟩
    obtain ⟨R9, s9, b9, h9⟩ := (show MemAt (· < w.heap.size) w8 M (0 + N) N mp from h8).block (.cells #[.int .i64 1, .int .u64 140737488355328] 45)
    have H9 := Lib.hid h9
    have S9 := Lib.hid s9
    have K9 := Lib.hid ((K6.out.trans k8).alloc hR (.cells #[.int .i64 1, .int .u64 140737488355328] 45))
    have B9 := Lib.hid b9
    have O9 := Lib.hid (own_fault w8 1 140737488355328 45)
    clear h8 k8 s9 b9 h9 K6 H6
    go_wp2_with fail
    generalize w8.alloc (.cells #[.int .i64 1, .int .u64 140737488355328] 45) = W9 at *
    have hc := read_no R9 W9 M (0 + N) N mp 18446744073709551615 2 2 (by omega) (.inr ⟨hfar.out _ (by omega), by omega⟩) (by omega) (by omega) (by omega) hpr.out (by rw [askF2 (hfar.out _ (by omega))]; decide) H9.out
    rw [askF2 (hfar.out _ (by omega))] at hc
    refine hc.mono ?_
    clear hc
    rintro e w10 ⟨rfl, h10, k10⟩
    have K11 := Lib.hid ((K9.out.trans (k10.mono S9.out)).alloc hR (.cells #[.int .i64 1, .int .u64 18446744073709551615] 45))
    have O11 := Lib.hid (And.intro (own_fault w10 1 18446744073709551615 45) ((k10.own O9.out B9.out).alloc (.cells #[.int .i64 1, .int .u64 18446744073709551615] 45)))
    clear h10 k10 K9 S9 H9 O9 B9
    go_wp2_with fail
    generalize w10.alloc (.cells #[.int .i64 1, .int .u64 18446744073709551615] 45) = W11 at *
    refine (newMem_big (· < W11.heap.size) W11 5000 (fun _ h => h) (by omega) (by omega)).mono ?_
    rintro e w12 ⟨M2, rfl, h12, k12⟩
    have H12 := Lib.hid h12
    have K12 := Lib.hid (K11.out.trans (k12.mono (fun k hk => Nat.lt_of_lt_of_le hk K11.out.size)))
    have f10 := (k12.own O11.out.2 O11.out.2.1).cell (i := 0) (by omega)
    have f11 := (k12.own O11.out.2 O11.out.2.1).cell (i := 1) (by omega)
    have f20 := (k12.own O11.out.1 O11.out.1.1).cell (i := 0) (by omega)
    simp only [if_pos, if_neg, Nat.one_ne_zero, if_true, if_false] at f10 f11 f20
    have hz2 : ((1024 : Int) - ((0 : Nat) : Int)) = 1024 := by omega
    clear h12 k12 K11 O11
    go_wp2_with fail
    refine (map_row w12 M 1 1 1 (by omega) (by omega) (by unfold RowOk; omega)).mono ?_
    rintro e w13 ⟨rfl, rfl⟩
    go_wp2_with fail
    refine (map_row w12 M 1048576 0 1 (by omega) (by omega) (by unfold RowOk; omega)).mono ?_
    rintro e w13 ⟨rfl, rfl⟩
    go_wp2_with fail
    refine (map_prot w12 M 1048576 1 16 (by omega) (by unfold RowOk; omega) (by omega)).mono ?_
    rintro e w13 ⟨rfl, rfl⟩
    go_wp2_with fail
    refine (free_any _ w12 M2 0 1024 _ H12.out).mono ?_
    rintro e w14 ⟨rfl, n14, rfl⟩
    go_wp2_with fail
    refine (awake3_any _).mono ?_
    rintro e w15 ⟨rfl, hb15⟩
    have hb16 := (below_drewN (K12.out.below (fun k hk => hk)) n14).trans (hb15.mono (K12.out.size))
    clear hb15
    go_wp2
    go_ret
    exact ⟨rfl, by go_grown⟩
  · have hmp2 : mp = fun _ => none := by rw [hmp, show N = 0 by omega]; rfl
    have H4 : Hid (MemAt (· < w.heap.size) W3 M 0 N mp) := by rw [hmp2]; exact H3.out
    clear H3 hmp2 hmp
    go_wp2_with fail
    refine (free_any (· < w.heap.size) W3 M 0 N _ H4.out).mono ?_
    rintro e w5 ⟨rfl, n5, rfl⟩
    have hzz : ((N : Int) - ((0 : Nat) : Int)) = 0 := by omega
    have H5 := Lib.hid (H4.out.drewN n5)
    have K5 := Lib.hid (K3.out.trans (Kept.drewN _ W3 n5))
    clear H4 K3 hz
    generalize W3.drewN n5 = W5 at *
    go_wp2_with fail
    refine (map_space (· < w.heap.size) W5 M 0 N mp 140737488351232 1 1 (by omega) ⟨by omega, by omega, by omega, by omega⟩ (by omega) (by omega) (fun i hi => hfar.out _ (by omega)) (by omega) H5.out).mono ?_
    rintro e w6 ⟨rfl, n6, rfl⟩
    have H6 := Lib.hid (H5.out.drewN n6)
    have K6 := Lib.hid (K5.out.trans (Kept.drewN _ W5 n6))
    clear H5 K5
    generalize W5.drewN n6 = W6 at *
    go_wp2_with fail
    refine (map_row W6 M 140737488355328 1 1 (by omega) (by omega) (by unfold RowOk; omega)).mono ?_
    rintro e w7 ⟨rfl, rfl⟩
    go_wp2_with fail
    have hc := read_no (· < w.heap.size) W6 M 0 N mp 140737488355328 1 1 (by omega) (.inl (by omega)) (by omega) (by omega) (by omega) hpr.out (by rw [askF1 (hfar.out _ (by omega))]; decide) H6.out
    rw [askF1 (hfar.out _ (by omega))] at hc
    refine hc.mono ?_
    clear hc
    rintro e w8 ⟨rfl, h8, k8⟩
    obtain ⟨R9, s9, b9, h9⟩ := (show MemAt (· < w.heap.size) w8 M 0 N mp from h8).block (.cells #[.int .i64 1, .int .u64 140737488355328] 45)
    have H9 := Lib.hid h9
    have S9 := Lib.hid s9
    have K9 := Lib.hid ((K6.out.trans k8).alloc hR (.cells #[.int .i64 1, .int .u64 140737488355328] 45))
    have B9 := Lib.hid b9
    have O9 := Lib.hid (own_fault w8 1 140737488355328 45)
    clear h8 k8 s9 b9 h9 K6 H6
    go_wp2_with fail
    generalize w8.alloc (.cells #[.int .i64 1, .int .u64 140737488355328] 45) = W9 at *
    have hc := read_no R9 W9 M 0 N mp 18446744073709551615 2 2 (by omega) (.inr ⟨hfar.out _ (by omega), by omega⟩) (by omega) (by omega) (by omega) hpr.out (by rw [askF2 (hfar.out _ (by omega))]; decide) H9.out
    rw [askF2 (hfar.out _ (by omega))] at hc
    refine hc.mono ?_
    clear hc
    rintro e w10 ⟨rfl, h10, k10⟩
    have K11 := Lib.hid ((K9.out.trans (k10.mono S9.out)).alloc hR (.cells #[.int .i64 1, .int .u64 18446744073709551615] 45))
    have O11 := Lib.hid (And.intro (own_fault w10 1 18446744073709551615 45) ((k10.own O9.out B9.out).alloc (.cells #[.int .i64 1, .int .u64 18446744073709551615] 45)))
    clear h10 k10 K9 S9 H9 O9 B9
    go_wp2_with fail
    generalize w10.alloc (.cells #[.int .i64 1, .int .u64 18446744073709551615] 45) = W11 at *
    refine (newMem_big (· < W11.heap.size) W11 5000 (fun _ h => h) (by omega) (by omega)).mono ?_
    rintro e w12 ⟨M2, rfl, h12, k12⟩
    have H12 := Lib.hid h12
    have K12 := Lib.hid (K11.out.trans (k12.mono (fun k hk => Nat.lt_of_lt_of_le hk K11.out.size)))
    have f10 := (k12.own O11.out.2 O11.out.2.1).cell (i := 0) (by omega)
    have f11 := (k12.own O11.out.2 O11.out.2.1).cell (i := 1) (by omega)
    have f20 := (k12.own O11.out.1 O11.out.1.1).cell (i := 0) (by omega)
    simp only [if_pos, if_neg, Nat.one_ne_zero, if_true, if_false] at f10 f11 f20
    have hz2 : ((1024 : Int) - ((0 : Nat) : Int)) = 1024 := by omega
    clear h12 k12 K11 O11
    go_wp2_with fail
    refine (map_row w12 M 1 1 1 (by omega) (by omega) (by unfold RowOk; omega)).mono ?_
    rintro e w13 ⟨rfl, rfl⟩
    go_wp2_with fail
    refine (map_row w12 M 1048576 0 1 (by omega) (by omega) (by unfold RowOk; omega)).mono ?_
    rintro e w13 ⟨rfl, rfl⟩
    go_wp2_with fail
    refine (map_prot w12 M 1048576 1 16 (by omega) (by unfold RowOk; omega) (by omega)).mono ?_
    rintro e w13 ⟨rfl, rfl⟩
    go_wp2_with fail
    refine (free_any _ w12 M2 0 1024 _ H12.out).mono ?_
    rintro e w14 ⟨rfl, n14, rfl⟩
    go_wp2_with fail
    refine (awake3_any _).mono ?_
    rintro e w15 ⟨rfl, hb15⟩
    have hb16 := (below_drewN (K12.out.below (fun k hk => hk)) n14).trans (hb15.mono (K12.out.size))
    clear hb15
    go_wp2
    go_ret
    exact ⟨rfl, by go_grown⟩
end Go.Proofs.Ytlifaldbdjcgjaa
