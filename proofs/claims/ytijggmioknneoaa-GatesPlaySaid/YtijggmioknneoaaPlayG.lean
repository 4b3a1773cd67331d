/- law 23: GatesPlay: the look behind each act. -/
import Derived.Test.YtijggmioknneoaaPlayF
namespace Go.Proofs.Ytijggmioknneoaa
open Go.ChangeShapes Go.WideShapes Go.ChangeAt Go.RowKit
set_option linter.unusedVariables false
set_option linter.unusedSimpArgs false
set_option maxRecDepth 100000

set_option maxHeartbeats 8000000 in
theorem play_tail (R : Nat → Prop) (w0 w : World) (s C B n : Nat) (v : Int → Nat → Int) (u r : Nat → Int) (v0 v4 v5 v7 : Value) (HP : Hid (Play R w0 w s C B n v u r)) (HA : Hid (Agrees v u)) (Q : Exit → Act → World → Prop) (a : Act)
    (ha : Has 246 [0, 3, 4, 5, 6, 7] [v0, .pointer (some ⟨s, 0, none⟩), v4, v5, .pointer (some ⟨B, 0, none⟩), v7] a) (hK : ∀ a' w', Has 246 [0, 3, 4, 5, 6, 7] [v0, .pointer (some ⟨s, 0, none⟩), v4, v5, .pointer (some ⟨B, 0, none⟩), v7] a' → Play R w0 w' s C B n v u r → Q .normal a' w') : tailP.wp Try.prog Q a w := by
  obtain ⟨u0, rfl⟩ := topen_0_3_4_5_6_7 ha
  clear ha
  have HK := Lib.hid hK
  clear hK
  conv => arg 2; whnf
  go_wp2_with fail
  refine wp_loopS 246 [0, 3, 4, 5, 6, 7] (fun n' sl' wx => ∃ k : Nat, n' = 4 - k ∧ 1 ≤ k ∧ k ≤ 4 ∧ sl' 18 = .int .i64 k ∧ Play R w0 wx s C B n v u r) 3 ⟨rfl, rfl, rfl⟩ ⟨1, rfl, by omega, by omega, rfl, HP.out⟩ ?_
  intro gk a' wr hS hR J1 K1 hJ1 hK1
  have HJ1 := Lib.hid hJ1
  clear hJ1
  obtain ⟨u3, hu, rfl⟩ := lopen_0_3_4_5_6_7 hS _ _ _ _ _ _ rfl
  rw [hu] at hR
  clear hu hS
  obtain ⟨k, hgk, hk0, hk, h18, hp⟩ := hR
  rw [h18]
  subst hgk
  clear h18
  replace HP := Lib.hid hp
  clear hp
  by_cases hlt : k < 4
  · have hkI : (k : Int) < 4 := by omega
    have HK1 := Lib.hid hK1
    clear hK1
    go_wp2_with fail
    refine wp_loopS 246 [0, 3, 4, 5, 6, 7, 18] (fun n' sl' wx => ∃ q : Nat, n' = 32 - q ∧ q ≤ 32 ∧ sl' 19 = .int .i64 q ∧ Play R w0 wx s C B n v u r) 32 ⟨rfl, rfl, rfl⟩ ⟨0, rfl, by omega, rfl, HP.out⟩ ?_
    intro gq a' wr2 hS hR J2 K2 hJ2 hK2
    have HJ2 := Lib.hid hJ2
    clear hJ2
    obtain ⟨u4, hu, rfl⟩ := lopen_0_3_4_5_6_7_18 hS _ _ _ _ _ _ _ rfl
    rw [hu] at hR
    clear hu hS
    obtain ⟨q, hgq, hq, h19, hp⟩ := hR
    rw [h19]
    subst hgq
    clear h19
    replace HP := Lib.hid hp
    clear hp
    by_cases hql : q < 32
    · have hqI : (q : Int) < 32 := by omega
      have HG := Lib.hid (fun W (hW : ∃ d, W = wr2.drewN d) => show Calls Try.prog 10 #[.pointer (some ⟨s, 0, none⟩), .int .i64 k, .int .i64 q] W fun e w' => e = .returned (.int .u64 (u (32 * k + q))) ∧ W = w' from by
        obtain ⟨d, rfl⟩ := hW
        have := get_any R (wr2.drewN d) s n v k q (wf_k (by omega)) (HP.out.drewN d).slots
        rw [HA.out.get (by omega) hlt hql] at this
        exact this)
      go_upto_region 66 with (fail)
      have HS := Lib.hid (show ∃ d, wr2.drew = wr2.drewN d from ⟨1, rfl⟩)
      refine wp_region_noPanic ?_
      refine wp_region_K (fun W => ∃ d, W = wr2.drewN d) (fun _ => True) 99 (by kernel_rfl) ?_
      refine wpAnyK_take (i := 0) (oi := ?_) (v := ?_) ?_ (by kernel_rfl) (by kernel_rfl) (by kernel_rfl) (fun _ _ _ h => h) (by decide) ?_ HS.out (fun _ => trivial) ?_
      rotate_left 2
      · (simp only [List.getElem?_toArray, List.getElem?_cons_succ, List.getElem?_cons_zero]; rfl)
      · (first | exact Or.inr ⟨by rfl, rfl⟩ | (refine Or.inl ⟨by rfl, ?_⟩; intro W hSw; clear hSw; go_simp; try with_reducible rfl))
      try simp only [Act.put, List.setIfInBounds_toArray, List.set_cons_zero, List.set_cons_succ]
      refine wpAnyK_take (i := 1) (oi := ?_) (v := ?_) ?_ (by kernel_rfl) (by kernel_rfl) (by kernel_rfl) (fun _ _ _ h => h) (by decide) ?_ HS.out (fun _ => trivial) ?_
      rotate_left 2
      · (simp only [List.getElem?_toArray, List.getElem?_cons_succ, List.getElem?_cons_zero]; rfl)
      · (first | exact Or.inr ⟨by rfl, rfl⟩ | (refine Or.inl ⟨by rfl, ?_⟩; intro W hSw; clear hSw; go_simp; try with_reducible rfl))
      try simp only [Act.put, List.setIfInBounds_toArray, List.set_cons_zero, List.set_cons_succ]
      refine wpAnyK_take (i := 2) (oi := ?_) (v := ?_) ?_ (by kernel_rfl) (by kernel_rfl) (by kernel_rfl) (fun _ _ _ h => h) (by decide) ?_ HS.out (fun _ => trivial) ?_
      rotate_left 2
      · (simp only [List.getElem?_toArray, List.getElem?_cons_succ, List.getElem?_cons_zero]; rfl)
      · (first | exact Or.inr ⟨by rfl, rfl⟩ | (refine Or.inl ⟨by rfl, ?_⟩; intro W hSw; clear hSw; go_simp; try with_reducible rfl))
      try simp only [Act.put, List.setIfInBounds_toArray, List.set_cons_zero, List.set_cons_succ]
      refine wpAnyK_takeQ (i := 3) (oi := ?_) (v := .int .u64 (u (32 * k + q))) ?_ (by kernel_rfl) (by kernel_rfl) (by kernel_rfl) (fun _ _ _ h => h) (by decide) ?_ HS.out (fun _ => trivial) ?_
      rotate_left 1
      · (simp only [List.getElem?_toArray, List.getElem?_cons_succ, List.getElem?_cons_zero]; rfl)
      · refine ⟨by rfl, fun W hW => ⟨10, #[.pointer (some ⟨s, 0, none⟩), .int .i64 k, .int .i64 q], ?_, HG.out W hW⟩⟩
        first | kernel_rfl | (go_simp; done) | rfl
      try simp only [Act.put, List.setIfInBounds_toArray, List.set_cons_zero, List.set_cons_succ]
      refine wpAnyK_take (i := 4) (oi := ?_) (v := ?_) ?_ (by kernel_rfl) (by kernel_rfl) (by kernel_rfl) (fun _ _ _ h => h) (by decide) ?_ HS.out (fun _ => trivial) ?_
      rotate_left 2
      · (simp only [List.getElem?_toArray, List.getElem?_cons_succ, List.getElem?_cons_zero]; rfl)
      · (first | exact Or.inr ⟨by rfl, rfl⟩ | (refine Or.inl ⟨by rfl, ?_⟩; intro W hSw; clear hSw; go_simp; try with_reducible rfl))
      try simp only [Act.put, List.setIfInBounds_toArray, List.set_cons_zero, List.set_cons_succ]
      refine wpAnyK_take (i := 5) (oi := ?_) (v := ?_) ?_ (by kernel_rfl) (by kernel_rfl) (by kernel_rfl) (fun _ _ _ h => h) (by decide) ?_ HS.out (fun _ => trivial) ?_
      rotate_left 2
      · (simp only [List.getElem?_toArray, List.getElem?_cons_succ, List.getElem?_cons_zero]; rfl)
      · (first | exact Or.inr ⟨by rfl, rfl⟩ | (refine Or.inl ⟨by rfl, ?_⟩; intro W hSw; clear hSw; go_simp; try with_reducible rfl))
      try simp only [Act.put, List.setIfInBounds_toArray, List.set_cons_zero, List.set_cons_succ]
      refine wpAnyK_take (i := 6) (oi := ?_) (v := ?_) ?_ (by kernel_rfl) (by kernel_rfl) (by kernel_rfl) (fun _ _ _ h => h) (by decide) ?_ HS.out (fun _ => trivial) ?_
      rotate_left 2
      · (simp only [List.getElem?_toArray, List.getElem?_cons_succ, List.getElem?_cons_zero]; rfl)
      · (first | exact Or.inr ⟨by rfl, rfl⟩ | (refine Or.inl ⟨by rfl, ?_⟩; intro W hSw; clear hSw; go_simp; try with_reducible rfl))
      try simp only [Act.put, List.setIfInBounds_toArray, List.set_cons_zero, List.set_cons_succ]
      refine wpAnyK_take (i := 7) (oi := ?_) (v := ?_) ?_ (by kernel_rfl) (by kernel_rfl) (by kernel_rfl) (fun _ _ _ h => h) (by decide) ?_ HS.out (fun _ => trivial) ?_
      rotate_left 2
      · (simp only [List.getElem?_toArray, List.getElem?_cons_succ, List.getElem?_cons_zero]; rfl)
      · (first | exact Or.inr ⟨by rfl, rfl⟩ | (refine Or.inl ⟨by rfl, ?_⟩; intro W hSw; clear hSw; go_simp; try with_reducible rfl))
      try simp only [Act.put, List.setIfInBounds_toArray, List.set_cons_zero, List.set_cons_succ]
      refine wpAnyK_take (i := 8) (oi := ?_) (v := ?_) ?_ (by kernel_rfl) (by kernel_rfl) (by kernel_rfl) (fun _ _ _ h => h) (by decide) ?_ HS.out (fun _ => trivial) ?_
      rotate_left 2
      · (simp only [List.getElem?_toArray, List.getElem?_cons_succ, List.getElem?_cons_zero]; rfl)
      · (first | exact Or.inr ⟨by rfl, rfl⟩ | (refine Or.inl ⟨by rfl, ?_⟩; intro W hSw; obtain ⟨d, hd⟩ := id hSw; have hc2 := (HP.out.drewN d).wcell2 hlt hql; rw [← hd] at hc2; clear hd; clear hSw; go_simp; try with_reducible rfl))
      try simp only [Act.put, List.setIfInBounds_toArray, List.set_cons_zero, List.set_cons_succ]
      refine wpAnyK_take (i := 9) (oi := ?_) (v := ?_) ?_ (by kernel_rfl) (by kernel_rfl) (by kernel_rfl) (fun _ _ _ h => h) (by decide) ?_ HS.out (fun _ => trivial) ?_
      rotate_left 2
      · (simp only [List.getElem?_toArray, List.getElem?_cons_succ, List.getElem?_cons_zero]; rfl)
      · (first | exact Or.inr ⟨by rfl, rfl⟩ | (refine Or.inl ⟨by rfl, ?_⟩; intro W hSw; clear hSw; go_simp; try with_reducible rfl))
      try simp only [Act.put, List.setIfInBounds_toArray, List.set_cons_zero, List.set_cons_succ]
      refine wpAnyK_done (by kernel_rfl) ?_ _
      refine NoPanic.normal ?_
      have HP9 := Lib.hid HP.out.drew
      go_wp2_with fail
      refine Handed.intro (32 - (q + 1)) (by omega) ?_
      refine HJ2.out _ _ _ ⟨⟨rfl, rfl, rfl⟩, q + 1, rfl, by omega, by first | rfl | go_num, HP9.out⟩
    · obtain rfl : q = 32 := by omega
      go_wp2_with fail
      refine HK1.out _ _ (Handed.intro (4 - (k + 1)) (by omega) ?_)
      refine HJ1.out _ _ _ ⟨⟨rfl, rfl, rfl⟩, k + 1, rfl, by omega, by omega, by first | rfl | go_num, HP.out⟩
  · obtain rfl : k = 4 := by omega
    go_wp2_with fail
    refine HK.out _ _ ⟨rfl, rfl, rfl⟩ HP.out
end Go.Proofs.Ytijggmioknneoaa
