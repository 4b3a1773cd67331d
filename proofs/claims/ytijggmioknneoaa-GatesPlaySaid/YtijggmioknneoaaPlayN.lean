/- law 23: GatesPlay: any gate; any act. -/
import Derived.Test.YtijggmioknneoaaPlayM
namespace Go.Proofs.Ytijggmioknneoaa
open Go.ChangeShapes Go.WideShapes Go.ChangeAt Go.RowKit
set_option linter.unusedVariables false
set_option linter.unusedSimpArgs false
set_option maxRecDepth 100000

theorem gate_any (R : Nat → Prop) (w0 w : World) (s C B n D P : Nat) (v : Int → Nat → Int) (u r : Nat → Int) (t x g ov : Int) (v0 v4 v7 : Value) (HP : Hid (Play R w0 w s C B n v u r)) (HA : Hid (Agrees v u)) (hn : n ≤ 90) (hr0 : r 0 = 7) (hr1 : r 1 = IntKind.u64.wrap x) (hr2 : r 2 = ov)
    (HD : Hid (R D ∧ D ≠ C ∧ D ≠ B ∧ w0.heap.size ≤ D)) (HF : Hid (w.cell? ⟨D, 4, none⟩ = some (.int .u64 ov))) (HP0 : Hid (R P ∧ P ≠ C ∧ P ≠ B ∧ w0.heap.size ≤ P ∧ P ≠ D)) (HPC : Hid (w.cell? ⟨P, 0, none⟩ = some (.slice none 0 0))) (HPZ : Hid (w.frozen? ⟨P, 0, none⟩ = false))
    (hg : g = 32 ∨ g = 33 ∨ g = 34 ∨ g = 35) (ht0 : -9223372036854775808 ≤ t) (ht : t ≤ 3) (hx0 : -9223372036854775808 ≤ x) (hx1 : x ≤ 9223372036854775807) (Q : Exit → Act → World → Prop) (a : Act)
    (ha : Has 246 [0, 3, 4, 5, 6, 7, 8, 9, 10, 11, 12, 13, 15, 16] [v0, .pointer (some ⟨s, 0, none⟩), v4, .pointer (some ⟨C, 0, none⟩), .pointer (some ⟨B, 0, none⟩), v7, .pointer (some ⟨D, 0, none⟩), .int .i64 t, .int .i64 x, .bool (decide (0 < t ∧ 0 ≤ x ∧ x < 32)), .bool (decide (0 < t ∧ t < 4)), .int .u64 (getV v t x), .int .i64 g, .pointer (some ⟨P, 0, none⟩)] a) (hK : ∀ a' w' n' v' u' r', Has 246 [0, 3, 4, 5, 6, 7] [v0, .pointer (some ⟨s, 0, none⟩), v4, .pointer (some ⟨C, 0, none⟩), .pointer (some ⟨B, 0, none⟩), v7] a' → n' ≤ n + 1 → Play R w0 w' s C B n' v' u' r' → Agrees v' u' → Q .normal a' w') : (dropS 5 gateP).wp Try.prog Q a w := by
  rcases hg with rfl | rfl | rfl | rfl
  · exact gate_say R w0 w s C B n D P v u r ov v0 v4 v7 t x _ _ _ HP HA hn hr0 hr1 hr2 HD HF HP0 HPC HPZ Q a ha hK
  · exact gate_get R w0 w s C B n D P v u r ov v0 v4 v7 t x _ _ HP HA hn hr0 hr1 hr2 HD HF HP0 HPC HPZ (wf_i64' ht0 (by omega)) hx0 hx1 Q a ha hK
  · by_cases c : 0 < t ∧ 0 ≤ x ∧ x < 32
    · obtain ⟨k, rfl⟩ : ∃ k : Nat, t = k := ⟨t.toNat, by omega⟩
      obtain ⟨i, rfl⟩ : ∃ i : Nat, x = i := ⟨x.toNat, by omega⟩
      rw [show decide (0 < (k : Int) ∧ 0 ≤ (i : Int) ∧ (i : Int) < 32) = true from decide_eq_true c, show decide (0 < (k : Int) ∧ (k : Int) < 4) = true from decide_eq_true (by omega)] at ha
      exact gate_set_yes R w0 w s C B n D P v u r ov v0 v4 v7 k i _ HP HA hn hr0 hr1 hr2 HD HF HP0 HPC HPZ (by omega) (by omega) (by omega) Q a ha hK
    · rw [show decide (0 < t ∧ 0 ≤ x ∧ x < 32) = false from decide_eq_false c] at ha
      exact gate_set_no R w0 w s C B n D P v u r ov v0 v4 v7 t x _ _ HP HA hn hr0 hr1 hr2 HD HF HP0 HPC HPZ c hx0 hx1 Q a ha hK
  · exact gate_none R w0 w s C B n D P v u r ov v0 v4 v7 t x _ _ _ HP HA hn hr0 hr1 hr2 HD HF HP0 HPC HPZ Q a ha hK
theorem shapeG : gateP = (headS gateP).seq ((headS (dropS 1 gateP)).seq ((headS (dropS 2 gateP)).seq ((headS (dropS 3 gateP)).seq ((headS (dropS 4 gateP)).seq (dropS 5 gateP))))) := by kernel_rfl
noncomputable def e0P : Code := inElse (dropS 1 actP)
noncomputable def e1P : Code := inElse (dropS 1 e0P)
noncomputable def e2P : Code := inElse (dropS 1 e1P)
noncomputable def t0P : Code := inThen (dropS 1 actP)
noncomputable def t1P : Code := inThen (dropS 1 e0P)
noncomputable def t2P : Code := inThen (dropS 1 e1P)
noncomputable def t3P : Code := inThen (dropS 1 e2P)
theorem shapeAct : actP = (headS actP).seq (.cond (.tmp 167) t0P ((headS e0P).seq (.cond (.tmp 187) t1P ((headS e1P).seq (.cond (.tmp 195) t2P ((headS e2P).seq (.cond (.tmp 204) t3P gateP))))))) := by kernel_rfl
/-- What lies at D and at P. -/
structure CDP (w : World) (D P : Nat) (ov : Int) : Prop where
  d : w.cell? ⟨D, 4, none⟩ = some (.int .u64 ov)
  p : w.cell? ⟨P, 0, none⟩ = some (.slice none 0 0)
  z : w.frozen? ⟨P, 0, none⟩ = false
theorem CDP.set {w : World} {D P C j : Nat} {ov : Int} {x : Value} (h : CDP w D P ov) (hD : D ≠ C) (hP : P ≠ C) : CDP (w.setCell ⟨C, j, none⟩ x) D P ov :=
  ⟨(World.cell?_setCell_other w _ _ _ (fun e => hD (by injection e with e _; exact e.symm))).trans h.d, (World.cell?_setCell_other w _ _ _ (fun e => hP (by injection e with e _; exact e.symm))).trans h.p, by rw [World.frozen?_setCell]; exact h.z⟩
theorem Play.cellAlloc {w : World} {o : Obj} {D j : Nat} {y : Value} (h : w.cell? ⟨D, j, none⟩ = some y) : (w.alloc o).cell? ⟨D, j, none⟩ = some y := by
  rw [World.cell?_alloc_lt _ _ _ (World.block_lt_of_cell? w _ h)]; exact h
set_option maxHeartbeats 8000000 in
theorem act_gate (R : Nat → Prop) (w0 w : World) (s C B n D : Nat) (v : Int → Nat → Int) (u r : Nat → Int) (o : OpV) (v0 v4 v7 : Value) (t x : Int) (inn ow : Bool) (HP : Hid (Play R w0 w s C B n v u r)) (HA : Hid (Agrees v u)) (hn : n ≤ 90)
    (HD : Hid (R D ∧ D ≠ C ∧ D ≠ B ∧ w0.heap.size ≤ D)) (HF : Hid (∀ j y, (opC o)[j]? = some y → w.cell? ⟨D, j, none⟩ = some y)) (HI : Hid (inn = decide (0 < t ∧ 0 ≤ x ∧ x < 32))) (HO : Hid (ow = decide (0 < t ∧ t < 4))) (hk : o.kind ≠ 0 ∧ o.kind ≠ 1 ∧ o.kind ≠ 2 ∧ o.kind ≠ 3) (ht0 : -9223372036854775808 ≤ t) (ht : t ≤ 3) (hx0 : -9223372036854775808 ≤ x) (hx1 : x ≤ 9223372036854775807) (Q : Exit → Act → World → Prop) (a : Act)
    (ha : Has 246 [0, 3, 4, 5, 6, 7, 8, 9, 10, 11, 12, 13, 88] [v0, .pointer (some ⟨s, 0, none⟩), v4, .pointer (some ⟨C, 0, none⟩), .pointer (some ⟨B, 0, none⟩), v7, .pointer (some ⟨D, 0, none⟩), .int .i64 t, .int .i64 x, .bool inn, .bool ow, .int .u64 (getV v t x), .int .i64 o.kind] a) (hK : ∀ a' w' n' v' u' r', Has 246 [0, 3, 4, 5, 6, 7] [v0, .pointer (some ⟨s, 0, none⟩), v4, .pointer (some ⟨C, 0, none⟩), .pointer (some ⟨B, 0, none⟩), v7] a' → n' ≤ n + 1 → Play R w0 w' s C B n' v' u' r' → Agrees v' u' → Q .normal a' w') : actP.wp Try.prog Q a w := by
  obtain ⟨u0, rfl⟩ := topen_0_3_4_5_6_7_8_9_10_11_12_13_88 ha
  clear ha
  have HK := Lib.hid hK
  clear hK
  have HGA := Lib.hid (gate_any)
  have f3 := HF.out 3 _ rfl
  have f4 := HF.out 4 _ rfl
  have hDl := HP.out.slots.lt D HD.out.1
  have hCl := HP.out.slots.lt C HP.out.rC
  have hBl := HP.out.slots.lt B HP.out.rB
  have hsz := HP.out.kept.size
  have a3 := and_3
  have q0 : (o.kind == 0) = false := by simpa using hk.1
  have q1 : (o.kind == 1) = false := by simpa using hk.2.1
  have q2 : (o.kind == 2) = false := by simpa using hk.2.2.1
  have q3 : (o.kind == 3) = false := by simpa using hk.2.2.2
  rw [shapeAct, shapeG]
  generalize dropS 5 gateP = S5 at *
  generalize t0P = T0 at *
  generalize t1P = T1 at *
  generalize t2P = T2 at *
  generalize t3P = T3 at *
  conv => arg 2; arg 1; whnf
  conv => arg 2; arg 2; arg 3; arg 1; whnf
  conv => arg 2; arg 2; arg 3; arg 2; arg 3; arg 1; whnf
  conv => arg 2; arg 2; arg 3; arg 2; arg 3; arg 2; arg 3; arg 1; whnf
  conv => arg 2; arg 2; arg 3; arg 2; arg 3; arg 2; arg 3; arg 2; arg 3; arg 1; whnf
  conv => arg 2; arg 2; arg 3; arg 2; arg 3; arg 2; arg 3; arg 2; arg 3; arg 2; arg 1; whnf
  conv => arg 2; arg 2; arg 3; arg 2; arg 3; arg 2; arg 3; arg 2; arg 3; arg 2; arg 2; arg 1; whnf
  conv => arg 2; arg 2; arg 3; arg 2; arg 3; arg 2; arg 3; arg 2; arg 3; arg 2; arg 2; arg 2; arg 1; whnf
  conv => arg 2; arg 2; arg 3; arg 2; arg 3; arg 2; arg 3; arg 2; arg 3; arg 2; arg 2; arg 2; arg 2; arg 1; whnf
  obtain ⟨w1, hw1⟩ : ∃ w1, w.alloc (.cells #[.slice none 0 0] 39) = w1 := ⟨_, rfl⟩
  have HP1 := Lib.hid (show Play (fun k => R k ∨ k = w.heap.size) w0 w1 s C B n v u r from by rw [← hw1]; exact HP.out.alloc _)
  have hcp : w1.cell? ⟨w.heap.size, 0, none⟩ = some (.slice none 0 0) := by rw [← hw1]; simp [go_sem]
  have hzp : w1.frozen? ⟨w.heap.size, 0, none⟩ = false := by rw [← hw1]; simp [go_sem]
  have hd4 : w1.cell? ⟨D, 4, none⟩ = some (.int .u64 o.v) := by rw [← hw1]; exact Play.cellAlloc f4
  have HE := Lib.hid hw1
  clear hw1
  have HC1 := Lib.hid (show CDP w1 D w.heap.size o.v from ⟨hd4, hcp, hzp⟩)
  have hPC : w.heap.size ≠ C := by omega
  clear hcp hzp hd4 f4
  go_upto_region 25 with (fail)
  refine (congrArg _ HE.out).mpr ?_
  obtain ⟨P, hP⟩ : ∃ P, w.heap.size = P := ⟨_, rfl⟩
  rw [hP] at HP1 HC1 hPC ⊢
  have HPP := Lib.hid (show P ≠ C ∧ P ≠ B ∧ w0.heap.size ≤ P ∧ P ≠ D from ⟨by omega, by omega, by omega, by omega⟩)
  have HSZ := Lib.hid (And.intro hP (And.intro hDl (And.intro hCl (And.intro hBl hsz))))
  have HHP := Lib.hid hP
  clear hP hDl hCl hBl hsz HE
  have HS1 := Lib.hid (setReg_any w1 C 0 r 7 (by omega) HP1.out.cpu)
  have HP2 := Lib.hid (HP1.out.setReg (i := 0) (by omega) 7)
  have HC2 := Lib.hid (HC1.out.set HD.out.2.1 hPC (j := 1 + 0) (x := .int .u64 7))
  go_wp2_with fail
  refine HS1.out.mono ?_
  rintro e w2 ⟨rfl, rfl⟩
  generalize w1.setCell ⟨C, 1 + 0, none⟩ (.int .u64 7) = w2 at *
  clear HS1 HP1 HC1
  have HS1 := Lib.hid (setReg_any w2 C 1 _ (IntKind.u64.wrap x) (by omega) HP2.out.cpu)
  have HP3 := Lib.hid (HP2.out.setReg (i := 1) (by omega) (IntKind.u64.wrap x))
  have HC3 := Lib.hid (HC2.out.set HD.out.2.1 hPC (j := 1 + 1) (x := .int .u64 (IntKind.u64.wrap x)))
  go_wp2_with fail
  refine HS1.out.mono ?_
  rintro e w3 ⟨rfl, rfl⟩
  generalize w2.setCell ⟨C, 1 + 1, none⟩ (.int .u64 (IntKind.u64.wrap x)) = w3 at *
  clear HS1 HP2 HC2
  have HS1 := Lib.hid (setReg_any w3 C 2 _ o.v (by omega) HP3.out.cpu)
  have HP4 := Lib.hid (HP3.out.setReg (i := 2) (by omega) o.v)
  have HC4 := Lib.hid (HC3.out.set HD.out.2.1 hPC (j := 1 + 2) (x := .int .u64 o.v))
  have f4 := HC3.out.d
  go_wp2_with fail
  refine HS1.out.mono ?_
  rintro e w4 ⟨rfl, rfl⟩
  generalize w3.setCell ⟨C, 1 + 2, none⟩ (.int .u64 o.v) = w4 at *
  clear HS1 HP3 HC3 f4
  go_wp2_with fail
  refine HGA.out (fun k => R k ∨ k = P) w0 w4 s C B n D P v u _ t x (32 + o.gate % 4) o.v v0 v4 v7 HP4 HA hn rfl rfl rfl (Lib.hid ⟨.inl HD.out.1, HD.out.2⟩) (Lib.hid HC4.out.d) (Lib.hid ⟨.inr rfl, HPP.out⟩) (Lib.hid HC4.out.p) (Lib.hid HC4.out.z) (by omega) ht0 ht hx0 hx1 _ _ (by rw [← HI.out, ← HO.out]; exact ⟨rfl, rfl, rfl⟩) ?_
  intro a' w' n' v' u' r' ha' hn' hp' hA'
  have hp2 := hp'.weaken (R := R) (fun k hk => .inl hk) HP.out.r0 HP.out.rC HP.out.rB
  refine HK.out _ _ _ _ _ _ ha' hn' hp2 hA'
end Go.Proofs.Ytijggmioknneoaa
