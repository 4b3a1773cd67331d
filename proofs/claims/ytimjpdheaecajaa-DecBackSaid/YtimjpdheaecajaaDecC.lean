/- package dec: a prefix read, whatever it is; the registers behind a code. -/
import Derived.Test.YtimjpdheaecajaaDecB
namespace Go.Proofs.Ytimjpdheaecajaa
open Go.ChangeShapes Go.WideShapes Go.ChangeAt Go.RowKit
set_option linter.unusedVariables false

theorem grown_of_below {w w' : World} {row : Option Nat} (h : Below w.heap.size w w') : w.grownBy w' row := ⟨h.os, h.tape, h.output, h.size, fun i hi _ => h.block i hi⟩

theorem nat_beq_true {a b : Nat} (h : a = b) : ((a : Int) == (b : Int)) = true := beq_iff_eq.mpr (by omega)
theorem nat_beq_false {a b : Nat} (h : ¬ a = b) : ((a : Int) == (b : Int)) = false := beq_eq_false_iff_ne.mpr (by omega)
theorem nat_bne_true {a b : Nat} (h : ¬ a = b) : ((a : Int) != (b : Int)) = true := bne_iff_ne.mpr (by omega)
theorem nat_bne_zero (n : Nat) : ((n : Int) != 0) = decide (n ≠ 0) := by rw [Bool.eq_iff_iff, bne_iff_ne, decide_eq_true_iff]; omega

theorem pr_any (p : Pre) (bs : List Nat) (x : InsV) (A : Option Addr) (cap B : Nat) (w : World) (p1 : p.base ≤ 255) (p2 : p.bitA ≤ 255) (p3 : p.bitB ≤ 255) (hb : Bn bs) (hl : bs.length ≤ 9223372036854775807)
    (hs : SlB w A bs.length (bF bs)) (hx : InsAt w B x) (xa : x.a = 0) (xb : x.b = 0) :
    Calls Try.prog 19 #[.agg #[.int .u8 p.base, .int .u8 p.bitA, .int .u8 p.bitB, .bool p.spare], .slice A bs.length cap, .pointer (some ⟨B, 0, none⟩)] w fun e w' =>
      e = .returned (.tuple #[.int .i64 (preRead p bs).n, .int .i64 (preRead p bs).fit]) ∧ w.grownBy w' (some B) ∧ InsAt w' B { x with a := (preRead p bs).a, b := (preRead p bs).b } := by
  have e0 : ({ x with a := 0, b := 0 } : InsV) = x := by
    cases x
    simp only at xa xb
    subst xa xb
    rfl
  by_cases c0 : p.base = 0
  · have e : preRead p bs = ⟨0, 2, 0, 0⟩ := by unfold preRead; rw [if_pos c0]
    rw [e, c0]
    refine (pr_zero p.bitA p.bitB p.spare A bs.length cap B w).mono ?_
    rintro e w' ⟨rfl, hw⟩
    exact ⟨rfl, grown_of_below hw, by rw [e0]; exact Own.below hx hw hx.1⟩
  · have h0 : ((p.base : Int) == 0) = false := nat_beq_false (b := 0) c0
    match bs, hb, hl, hs with
    | [], hb, hl, hs =>
      have e : preRead p [] = ⟨0, 1, 0, 0⟩ := by unfold preRead; rw [if_neg c0]
      rw [e]
      refine (pr_nil p.base p.bitA p.bitB p.spare A cap B w h0).mono ?_
      rintro e w' ⟨rfl, hw⟩
      exact ⟨rfl, grown_of_below hw, by rw [e0]; exact Own.below hx hw hx.1⟩
    | v :: r, hb, hl, hs =>
      have hv : v ≤ 255 := hb v (by simp)
      obtain ⟨bb, off, rfl, hlt, hrow⟩ : ∃ b off, A = some ⟨b, off, none⟩ ∧ b < w.heap.size ∧ Row w b off (v :: r).length (bF (v :: r)) := by
        rcases hs with h | h
        · simp at h
        · exact h
      have hcell : w.cell? ⟨bb, off, none⟩ = some (.int .u8 v) := hrow 0 (by simp)
      have hor : bits .or .u8 (p.bitA : Int) (p.bitB : Int) = ((p.bitA ||| p.bitB : Nat) : Int) := by
        rw [u8_or _ _ (by omega) (by omega) (by omega) (by omega)]; rfl
      have hor2 : p.bitA ||| p.bitB < 2 ^ 8 := Nat.or_lt_two_pow (by omega) (by omega)
      have hm : bits .andNot .u8 (v : Int) (bits .or .u8 (p.bitA : Int) (p.bitB : Int)) = ((v &&& (255 - (p.bitA ||| p.bitB)) : Nat) : Int) := by
        rw [hor]; exact u8_andNot_nat _ _ (by omega) (by omega)
      have ha : bits .and .u8 (v : Int) (p.bitA : Int) = ((v &&& p.bitA : Nat) : Int) := u8_and_nat _ _ (by omega) (by omega)
      have hb' : bits .and .u8 (v : Int) (p.bitB : Int) = ((v &&& p.bitB : Nat) : Int) := u8_and_nat _ _ (by omega) (by omega)
      by_cases c1 : v &&& (255 - (p.bitA ||| p.bitB)) = p.base
      · by_cases c2 : p.spare = true ∧ v = p.base
        · have e : preRead p (v :: r) = ⟨0, 2, 0, 0⟩ := by simp only [preRead]; rw [if_neg c0, if_pos (.inr c2), if_pos c2.1]
          rw [e, c2.1]
          refine (pr_left p.base p.bitA p.bitB v bb off _ cap B w h0 (by simp) hl hlt hcell (by rw [hm, c1]) c2.2).mono ?_
          rintro e w' ⟨rfl, hw⟩
          exact ⟨rfl, grown_of_below hw, by rw [e0]; exact Own.below hx hw hx.1⟩
        · have e : preRead p (v :: r) = ⟨1, 2, if v &&& p.bitA ≠ 0 then 8 else 0, if v &&& p.bitB ≠ 0 then 8 else 0⟩ := by
            simp only [preRead]
            rw [if_neg c0, if_neg (by rintro (h | h); exact h c1; exact c2 h)]
          rw [e]
          refine (pr_yes p.base p.bitA p.bitB v p.spare (decide (v &&& p.bitA ≠ 0)) (decide (v &&& p.bitB ≠ 0)) x bb off _ cap B w h0 (by simp) hl hlt hcell (by rw [hm, c1])
            (fun h => nat_beq_false fun h' => c2 ⟨h, h'⟩) (by rw [ha]; exact nat_bne_zero _) (by rw [hb']; exact nat_bne_zero _) hx xa xb).mono ?_
          rintro e w' ⟨rfl, hw, hi⟩
          refine ⟨rfl, hw, ?_⟩
          simpa using hi
      · have e : preRead p (v :: r) = if p.spare then ⟨0, 2, 0, 0⟩ else ⟨0, 0, 0, 0⟩ := by simp only [preRead]; rw [if_neg c0, if_pos (.inl c1)]
        rw [e]
        refine (pr_not p.base p.bitA p.bitB v _ p.spare bb off _ cap B w h0 (by simp) hl hlt hcell hm (nat_beq_false c1) (nat_bne_true c1)).mono ?_
        rintro e w' ⟨rfl, hw⟩
        refine ⟨?_, grown_of_below hw, ?_⟩
        · cases p.spare <;> rfl
        · have : ({ x with a := (if p.spare = true then (⟨0, 2, 0, 0⟩ : Rd) else ⟨0, 0, 0, 0⟩).a, b := (if p.spare = true then (⟨0, 2, 0, 0⟩ : Rd) else ⟨0, 0, 0, 0⟩).b } : InsV) = x := by
            cases p.spare <;> exact e0
          rw [this]; exact Own.below hx hw hx.1

set_option maxHeartbeats 1000000 in
theorem regs_any (g o B v : Nat) (F : Form) (x : InsV) (w : World) (hF : F.Ok) (hf : FormAt w g o F) (hv : v ≤ 255) (hg : g ≠ B) (hx : InsAt w B x) (xa : x.a ≤ 8) (xb : x.b ≤ 8) :
    Calls Try.prog 26 #[.pointer (some ⟨g, o, none⟩), .int .u8 v, .pointer (some ⟨B, 0, none⟩)] w fun e w' =>
      e = .returned (.bool (regsRead F v x.a x.b).1) ∧ w.grownBy w' (some B) ∧ InsAt w' B { x with a := (regsRead F v x.a x.b).2.1, b := (regsRead F v x.a x.b).2.2 } := by
  have HF := Lib.hid hF
  have HX := Lib.hid hx
  have hB := hx.1
  have hlt := hf.lt
  have c5 := hf.c5
  have c6 := hf.c6
  have x1 : w.cell? ⟨B, 1, none⟩ = some (.int .i64 x.a) := hx.cell (i := 1) (by omega)
  have x2 : w.cell? ⟨B, 2, none⟩ = some (.int .i64 x.b) := hx.cell (i := 2) (by omega)
  have f1 := hx.frozen (i := 1) (by omega)
  have f2 := hx.frozen (i := 2) (by omega)
  have HA := Lib.hid (fun W (h : FormAt W g o F) => hasA_any g o F W hF h)
  have HB := Lib.hid (fun W (h : FormAt W g o F) => hasB_any g o F W hF h)
  have HFM := Lib.hid hf
  have hg' := hg.symm
  have q1 : bits .and .u8 ((v : Int) / 8) 7 = ((v / 8 &&& 7 : Nat) : Int) := by
    have := u8_and_nat (v / 8) 7 (by omega) (by omega)
    simpa using this
  have kA : v / 8 &&& 7 ≤ 7 := Nat.and_le_right
  obtain ⟨k, hk⟩ : ∃ k, v / 8 &&& 7 = k := ⟨_, rfl⟩
  have n1 : bits .andNot .u8 (v : Int) 56 = ((v &&& 199 : Nat) : Int) := u8_andNot_nat v 56 (by omega) (by omega)
  have hv1 : v &&& 199 ≤ 255 := Nat.le_trans Nat.and_le_left hv
  obtain ⟨v1, hv1e⟩ : ∃ u, v &&& 199 = u := ⟨_, rfl⟩
  rw [hk] at q1 kA
  rw [hv1e] at n1 hv1
  have m0 : bits .and .u8 (v : Int) 7 = ((v &&& 7 : Nat) : Int) := u8_and_nat v 7 (by omega) (by omega)
  have m1 : bits .and .u8 (v1 : Int) 7 = ((v1 &&& 7 : Nat) : Int) := u8_and_nat v1 7 (by omega) (by omega)
  have n0 : bits .andNot .u8 (v : Int) 7 = ((v &&& 248 : Nat) : Int) := u8_andNot_nat v 7 (by omega) (by omega)
  have n2 : bits .andNot .u8 (v1 : Int) 7 = ((v1 &&& 248 : Nat) : Int) := u8_andNot_nat v1 7 (by omega) (by omega)
  have kB0 : v &&& 7 ≤ 7 := Nat.and_le_right
  have kB1 : v1 &&& 7 ≤ 7 := Nat.and_le_right
  obtain ⟨j0, hj0⟩ : ∃ u, v &&& 7 = u := ⟨_, rfl⟩
  obtain ⟨j1, hj1⟩ : ∃ u, v1 &&& 7 = u := ⟨_, rfl⟩
  obtain ⟨y0, hy0⟩ : ∃ u, v &&& 248 = u := ⟨_, rfl⟩
  obtain ⟨y1, hy1⟩ : ∃ u, v1 &&& 248 = u := ⟨_, rfl⟩
  rw [hj0] at m0 kB0
  rw [hj1] at m1 kB1
  rw [hy0] at n0
  rw [hy1] at n2
  have b0 : bits .and .i64 ((x.b + j0 : Nat) : Int) 7 = ((x.b + j0 : Nat) : Int) % 8 := i64_mask _ 3 (by omega)
  have b1 : bits .and .i64 ((x.b + j1 : Nat) : Int) 7 = ((x.b + j1 : Nat) : Int) % 8 := i64_mask _ 3 (by omega)
  have bN : ∀ n : Nat, ((n : Int) % 8 == 4) = ((n &&& 7) == 4) := fun n => by
    rw [show n &&& 7 = n % 8 from Nat.and_two_pow_sub_one_eq_mod n 3, Bool.eq_iff_iff, beq_iff_eq, beq_iff_eq]; omega
  have BN := Lib.hid bN
  have HB0 := Lib.hid b0
  have HB1 := Lib.hid b1
  clear bN b0 b1
  have E : regsRead F v x.a x.b = ((if hasB F.regs then (if hasA F.regs then y1 else y0) else (if hasA F.regs then v1 else v)) == F.ext && !(F.regs == 4 && (((if hasB F.regs then (if hasA F.regs then x.b + j1 else x.b + j0) else x.b)) &&& 7) == 4),
      if hasA F.regs then x.a + k else x.a, if hasB F.regs then (if hasA F.regs then x.b + j1 else x.b + j0) else x.b) := by
    simp only [regsRead, hk, hv1e]
    cases hasA F.regs <;> cases hasB F.regs <;> simp [hj0, hj1, hy0, hy1]
  rw [E]
  clear E hf hx hF hk hv1e hj0 hj1 hy0 hy1
  cases eA : hasA F.regs <;> cases eB : hasB F.regs
  · -- 0 0
    have R4 : F.regs ≠ 4 := by rintro h; rw [h] at eA eB; revert eA eB; decide
    have r4 : ((F.regs : Int) == 4) = false := nat_beq_false (b := 4) R4
    have R4' : (F.regs == 4) = false := by simpa using R4
    by_cases D : v = F.ext
    · have d : ((v : Int) == (F.ext : Int)) = true := nat_beq_true D
      have d' : (v == F.ext) = true := by simpa using D
      simp only [if_true, if_false, Bool.false_eq_true, d', Bool.true_and]
      simp only [R4', Bool.false_and, Bool.not_false]
      go_enter Try.func26, Try.ntmps26
      go_wp2_with fail
      refine (HA.out _ HFM.out).mono ?_
      rintro e u ⟨rfl, rfl⟩
      rw [eA]
      go_wp2_with fail
      refine (HB.out _ HFM.out).mono ?_
      rintro e u ⟨rfl, rfl⟩
      rw [eB]
      go_wp2
      go_ret
      exact ⟨rfl, World.grownBy.refl _ _, HX.out⟩
    · have d : ((v : Int) == (F.ext : Int)) = false := nat_beq_false D
      have d' : (v == F.ext) = false := by simpa using D
      simp only [if_true, if_false, Bool.false_eq_true, d', Bool.false_and]
      go_enter Try.func26, Try.ntmps26
      go_wp2_with fail
      refine (HA.out _ HFM.out).mono ?_
      rintro e u ⟨rfl, rfl⟩
      rw [eA]
      go_wp2_with fail
      refine (HB.out _ HFM.out).mono ?_
      rintro e u ⟨rfl, rfl⟩
      rw [eB]
      go_wp2
      go_ret
      exact ⟨rfl, World.grownBy.refl _ _, HX.out⟩
  · -- 0 1
    have R4 : F.regs ≠ 4 := by rintro h; rw [h] at eA eB; revert eA eB; decide
    have r4 : ((F.regs : Int) == 4) = false := nat_beq_false (b := 4) R4
    have R4' : (F.regs == 4) = false := by simpa using R4
    by_cases D : y0 = F.ext
    · have d : ((y0 : Int) == (F.ext : Int)) = true := nat_beq_true D
      have d' : (y0 == F.ext) = true := by simpa using D
      simp only [if_true, if_false, Bool.false_eq_true, d', Bool.true_and]
      simp only [R4', Bool.false_and, Bool.not_false]
      go_enter Try.func26, Try.ntmps26
      go_wp2_with fail
      refine (HA.out _ HFM.out).mono ?_
      rintro e u ⟨rfl, rfl⟩
      rw [eA]
      go_wp2_with fail
      refine (HB.out _ HFM.out).mono ?_
      rintro e u ⟨rfl, rfl⟩
      rw [eB]
      go_wp2
      go_ret
      exact ⟨rfl, set_grown w B 2 _, InsAt.b HX.out (x.b + j0)⟩
    · have d : ((y0 : Int) == (F.ext : Int)) = false := nat_beq_false D
      have d' : (y0 == F.ext) = false := by simpa using D
      simp only [if_true, if_false, Bool.false_eq_true, d', Bool.false_and]
      go_enter Try.func26, Try.ntmps26
      go_wp2_with fail
      refine (HA.out _ HFM.out).mono ?_
      rintro e u ⟨rfl, rfl⟩
      rw [eA]
      go_wp2_with fail
      refine (HB.out _ HFM.out).mono ?_
      rintro e u ⟨rfl, rfl⟩
      rw [eB]
      go_wp2
      go_ret
      exact ⟨rfl, set_grown w B 2 _, InsAt.b HX.out (x.b + j0)⟩
  · -- 1 0
    have R4 : F.regs ≠ 4 := by rintro h; rw [h] at eA eB; revert eA eB; decide
    have r4 : ((F.regs : Int) == 4) = false := nat_beq_false (b := 4) R4
    have R4' : (F.regs == 4) = false := by simpa using R4
    by_cases D : v1 = F.ext
    · have d : ((v1 : Int) == (F.ext : Int)) = true := nat_beq_true D
      have d' : (v1 == F.ext) = true := by simpa using D
      simp only [if_true, if_false, Bool.false_eq_true, d', Bool.true_and]
      simp only [R4', Bool.false_and, Bool.not_false]
      go_enter Try.func26, Try.ntmps26
      go_wp2_with fail
      refine (HA.out _ HFM.out).mono ?_
      rintro e u ⟨rfl, rfl⟩
      rw [eA]
      go_wp2_with fail
      refine (HB.out _ (HFM.out.grown (set_grown w B 1 _) (by simpa using hg))).mono ?_
      rintro e u ⟨rfl, rfl⟩
      rw [eB]
      go_wp2
      go_ret
      exact ⟨rfl, set_grown w B 1 _, InsAt.a HX.out (x.a + k)⟩
    · have d : ((v1 : Int) == (F.ext : Int)) = false := nat_beq_false D
      have d' : (v1 == F.ext) = false := by simpa using D
      simp only [if_true, if_false, Bool.false_eq_true, d', Bool.false_and]
      go_enter Try.func26, Try.ntmps26
      go_wp2_with fail
      refine (HA.out _ HFM.out).mono ?_
      rintro e u ⟨rfl, rfl⟩
      rw [eA]
      go_wp2_with fail
      refine (HB.out _ (HFM.out.grown (set_grown w B 1 _) (by simpa using hg))).mono ?_
      rintro e u ⟨rfl, rfl⟩
      rw [eB]
      go_wp2
      go_ret
      exact ⟨rfl, set_grown w B 1 _, InsAt.a HX.out (x.a + k)⟩
  · -- 1 1
    by_cases D : y1 = F.ext
    · have d : ((y1 : Int) == (F.ext : Int)) = true := nat_beq_true D
      have d' : (y1 == F.ext) = true := by simpa using D
      simp only [if_true, if_false, Bool.false_eq_true, d', Bool.true_and]
      by_cases R : F.regs = 4
      · have r : ((F.regs : Int) == 4) = true := nat_beq_true (b := 4) R
        have r' : (F.regs == 4) = true := by simpa using R
        cases M : (((x.b + j1) &&& 7) == 4)
        all_goals
          have hM := (BN.out (x.b + j1)).trans M
          rw [← HB1.out, Int.natCast_add] at hM
          simp only [r', Bool.true_and, Bool.not_false, Bool.not_true]
          go_enter Try.func26, Try.ntmps26
          go_wp2_with fail
          refine (HA.out _ HFM.out).mono ?_
          rintro e u ⟨rfl, rfl⟩
          rw [eA]
          go_wp2_with fail
          refine (HB.out _ (HFM.out.grown (set_grown w B 1 _) (by simpa using hg))).mono ?_
          rintro e u ⟨rfl, rfl⟩
          rw [eB]
          go_wp2
          go_ret
          exact ⟨rfl, set_set_grown w B 1 2 _ _, InsAt.b (InsAt.a HX.out (x.a + k)) (x.b + j1)⟩
      · have r : ((F.regs : Int) == 4) = false := nat_beq_false (b := 4) R
        have r' : (F.regs == 4) = false := by simpa using R
        simp only [r', Bool.false_and, Bool.not_false]
        go_enter Try.func26, Try.ntmps26
        go_wp2_with fail
        refine (HA.out _ HFM.out).mono ?_
        rintro e u ⟨rfl, rfl⟩
        rw [eA]
        go_wp2_with fail
        refine (HB.out _ (HFM.out.grown (set_grown w B 1 _) (by simpa using hg))).mono ?_
        rintro e u ⟨rfl, rfl⟩
        rw [eB]
        go_wp2
        go_ret
        exact ⟨rfl, set_set_grown w B 1 2 _ _, InsAt.b (InsAt.a HX.out (x.a + k)) (x.b + j1)⟩
    · have d : ((y1 : Int) == (F.ext : Int)) = false := nat_beq_false D
      have d' : (y1 == F.ext) = false := by simpa using D
      simp only [if_true, if_false, Bool.false_eq_true, d', Bool.false_and]
      go_enter Try.func26, Try.ntmps26
      go_wp2_with fail
      refine (HA.out _ HFM.out).mono ?_
      rintro e u ⟨rfl, rfl⟩
      rw [eA]
      go_wp2_with fail
      refine (HB.out _ (HFM.out.grown (set_grown w B 1 _) (by simpa using hg))).mono ?_
      rintro e u ⟨rfl, rfl⟩
      rw [eB]
      go_wp2
      go_ret
      exact ⟨rfl, set_set_grown w B 1 2 _ _, InsAt.b (InsAt.a HX.out (x.a + k)) (x.b + j1)⟩
end Go.Proofs.Ytimjpdheaecajaa
