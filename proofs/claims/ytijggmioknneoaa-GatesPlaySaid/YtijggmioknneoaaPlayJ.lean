/- law 23: GatesPlay: Clear and Free, where there are such. -/
import Derived.Test.YtijggmioknneoaaPlayI
namespace Go.Proofs.Ytijggmioknneoaa
open Go.ChangeShapes Go.WideShapes Go.ChangeAt Go.RowKit
set_option linter.unusedVariables false
set_option linter.unusedSimpArgs false
set_option maxRecDepth 100000

set_option maxHeartbeats 8000000 in
theorem act_clear_yes (R : Nat → Prop) (w0 w : World) (s C B n D : Nat) (v : Int → Nat → Int) (u r : Nat → Int) (o : OpV) (v0 v4 v7 : Value) (k : Nat) (x vv : Int) (inn : Bool) (HP : Hid (Play R w0 w s C B n v u r)) (HA : Hid (Agrees v u)) (hn : n ≤ 90)
    (HD : Hid (R D ∧ D ≠ C ∧ D ≠ B ∧ w0.heap.size ≤ D)) (HF : Hid (∀ j y, (opC o)[j]? = some y → w.cell? ⟨D, j, none⟩ = some y)) (hk0 : 0 < k) (hk4 : k < 4) (Q : Exit → Act → World → Prop) (a : Act)
    (ha : Has 246 [0, 3, 4, 5, 6, 7, 8, 9, 10, 11, 12, 13, 88] [v0, .pointer (some ⟨s, 0, none⟩), v4, .pointer (some ⟨C, 0, none⟩), .pointer (some ⟨B, 0, none⟩), v7, .pointer (some ⟨D, 0, none⟩), .int .i64 k, .int .i64 x, .bool inn, .bool true, .int .u64 vv, .int .i64 2] a) (hK : ∀ a' w' n' v' u' r', Has 246 [0, 3, 4, 5, 6, 7] [v0, .pointer (some ⟨s, 0, none⟩), v4, .pointer (some ⟨C, 0, none⟩), .pointer (some ⟨B, 0, none⟩), v7] a' → n' ≤ n + 1 → Play R w0 w' s C B n' v' u' r' → Agrees v' u' → Q .normal a' w') : actP.wp Try.prog Q a w := by
  obtain ⟨u0, rfl⟩ := topen_0_3_4_5_6_7_8_9_10_11_12_13_88 ha
  clear ha
  have HK := Lib.hid hK
  clear hK
  conv => arg 2; whnf
  have HG := Lib.hid (clear_any R w s n v k (wf_k (by omega)) HP.out.slots)
  go_wp2_with fail
  refine HG.out.mono ?_
  rintro e w1 ⟨rfl, h1, k1⟩
  have HP1 := Lib.hid (HP.out.turned h1 k1)
  clear h1 k1
  have kI : (k : Int) < 4 := by omega
  have HT := Lib.hid (HP1.out.wthere hk4)
  have HP2 := Lib.hid (HP1.out.rowWant hk4)
  have HA2 := Lib.hid (HA.out.clear k)
  go_wp2_with (first | (refine wpList_store_mid rfl 31 _ _ rfl B (k * 32) (Array.replicate 32 (.int .u64 0)) ?_ ?_ HT.out sz32 one32 ?_; (first | rfl | (simp [Act.eval, Act.put]; done)); (first | rfl | (simp [Act.eval, Act.put]; done))) | fail)
  refine HK.out _ _ _ _ _ _ ⟨rfl, rfl, rfl⟩ (by omega) HP2.out HA2.out
set_option maxHeartbeats 8000000 in
theorem act_free_yes (R : Nat → Prop) (w0 w : World) (s C B n D : Nat) (v : Int → Nat → Int) (u r : Nat → Int) (o : OpV) (v0 v4 v7 : Value) (i : Nat) (t vv : Int) (inn ow : Bool) (HP : Hid (Play R w0 w s C B n v u r)) (HA : Hid (Agrees v u)) (hn : n ≤ 90)
    (HD : Hid (R D ∧ D ≠ C ∧ D ≠ B ∧ w0.heap.size ≤ D)) (HF : Hid (∀ j y, (opC o)[j]? = some y → w.cell? ⟨D, j, none⟩ = some y)) (hi : i < 32) (Q : Exit → Act → World → Prop) (a : Act)
    (ha : Has 246 [0, 3, 4, 5, 6, 7, 8, 9, 10, 11, 12, 13, 88] [v0, .pointer (some ⟨s, 0, none⟩), v4, .pointer (some ⟨C, 0, none⟩), .pointer (some ⟨B, 0, none⟩), v7, .pointer (some ⟨D, 0, none⟩), .int .i64 t, .int .i64 i, .bool inn, .bool ow, .int .u64 vv, .int .i64 3] a) (hK : ∀ a' w' n' v' u' r', Has 246 [0, 3, 4, 5, 6, 7] [v0, .pointer (some ⟨s, 0, none⟩), v4, .pointer (some ⟨C, 0, none⟩), .pointer (some ⟨B, 0, none⟩), v7] a' → n' ≤ n + 1 → Play R w0 w' s C B n' v' u' r' → Agrees v' u' → Q .normal a' w') : actP.wp Try.prog Q a w := by
  obtain ⟨u0, rfl⟩ := topen_0_3_4_5_6_7_8_9_10_11_12_13_88 ha
  clear ha
  have HK := Lib.hid hK
  clear hK
  conv => arg 2; whnf
  have HG := Lib.hid (free_yes R w s n i v hi HP.out.slots)
  go_wp2_with fail
  refine HG.out.mono ?_
  rintro e w1 ⟨rfl, h1, k1⟩
  have HP1 := Lib.hid (HP.out.turned h1 k1)
  have HA1 := Lib.hid (HA.out.free i)
  clear h1 k1
  have iI : (i : Int) < 32 := by omega
  have i0 : (0 : Int) ≤ i := by omega
  go_wp2_with fail
  refine wp_loopS 246 [0, 3, 4, 5, 6, 7, 10] (fun n' sl' wx => ∃ k : Nat, n' = 4 - k ∧ k ≤ 4 ∧ sl' 14 = .int .i64 k ∧ Play R w0 wx s C B n (freeV v i) (tabF u i k) r) 4 ⟨rfl, rfl, rfl⟩ ⟨0, rfl, by omega, rfl, by rw [tabF_zero]; exact HP1.out⟩ ?_
  intro gk a' wr hS hR J1 K1 hJ1 hK1
  have HJ1 := Lib.hid hJ1
  clear hJ1
  obtain ⟨u3, hu, rfl⟩ := lopen_0_3_4_5_6_7_10 hS _ _ _ _ _ _ _ rfl
  rw [hu] at hR
  clear hu hS
  obtain ⟨k, hgk, hk, h14, hp⟩ := hR
  rw [h14]
  subst hgk
  clear h14
  have HP2 := Lib.hid hp
  clear hp
  by_cases hlt : k < 4
  · have hkI : (k : Int) < 4 := by omega
    have hc := HP2.out.wcell2 hlt hi
    have hz := HP2.out.wfree hlt hi
    have HP3 := Lib.hid (HP2.out.setWant (j := 32 * k + i) (by omega) 0)
    rw [tabF_succ u hi k, show 32 * k + i = k * 32 + i by omega] at HP3
    go_wp2_with fail
    refine Handed.intro (4 - (k + 1)) (by omega) ?_
    refine HJ1.out _ _ _ ⟨⟨rfl, rfl, rfl⟩, k + 1, rfl, by omega, by first | rfl | go_num, HP3.out⟩
  · obtain rfl : k = 4 := by omega
    go_wp2_with fail
    refine HK.out _ _ _ _ _ _ ⟨rfl, rfl, rfl⟩ (by omega) HP2.out HA1.out
end Go.Proofs.Ytijggmioknneoaa
