/- RoomTells: the walk. -/
import Derived.Test.YtlifaldbdjcgjaaRomF
namespace Go.Proofs.Ytlifaldbdjcgjaa
open Go.ChangeShapes Go.WideShapes Go.ChangeAt Go.RowKit
set_option linter.unusedVariables false
set_option linter.unusedSimpArgs false
set_option maxRecDepth 100000

theorem least_of {P : Nat → Prop} : ∀ n, (∃ X, X < n ∧ P X) → ∃ X, X < n ∧ P X ∧ ∀ q, q < X → ¬ P q
  | 0, ⟨X, h, _⟩ => by omega
  | n + 1, ⟨X, h, hp⟩ => by
    by_cases c : ∃ Y, Y < n ∧ P Y
    · obtain ⟨Y, h1, h2, h3⟩ := least_of n c
      exact ⟨Y, by omega, h2, h3⟩
    · have : X = n := by
        rcases Nat.lt_or_ge X n with h1 | h1
        · exact absurd ⟨X, h1, hp⟩ c
        · omega
      subst this
      exact ⟨X, by omega, hp, fun q hq hpq => c ⟨q, hq, hpq⟩⟩
theorem pis_any {R : Nat → Prop} {w : World} {M m : Nat} {mp : Int → Option Pg} {L : List RPg} (H : MemAt R w M m 1024 mp) (hrel : RelP mp L) (a : Nat) (n : Int) (ha : a < 18446744073709551616) :
    Calls Try.prog 15 #[.pointer (some ⟨M, 0, none⟩), .int .u64 a, .int .i64 n] w fun e w' => (e = .returned (.bool true) ∧ RoomR L a n ∨ e = .returned (.bool false) ∧ ¬ RoomR L a n) ∧ Below w.heap.size w w' := by
  by_cases h : RoomR L a n
  · obtain ⟨k, rfl⟩ : ∃ k : Nat, n = (k : Int) := ⟨n.toNat, by have := h.2.2.1.2.1; omega⟩
    refine (is_yes R w M m 1024 mp a k ((room_iff hrel a k).mpr h) H).mono ?_
    rintro e w' ⟨rfl, j, rfl⟩
    exact ⟨.inl ⟨rfl, h⟩, below_dr w j⟩
  · refine (is_no R w M m 1024 mp a n (by omega) (by omega) (fun h2 => h ((room_iff hrel a n).mp h2)) H).mono ?_
    rintro e w' ⟨rfl, j, rfl⟩
    exact ⟨.inr ⟨rfl, h⟩, below_dr w j⟩
theorem pfind_any {R : Nat → Prop} {w : World} {M m : Nat} {mp : Int → Option Pg} {L : List RPg} (H : MemAt R w M m 1024 mp) (hrel : RelP mp L) (n : Int) :
    Calls Try.prog 14 #[.pointer (some ⟨M, 0, none⟩), .int .i64 n] w fun e w' =>
      ((∃ X : Nat, e = .returned (.tuple #[.int .u64 (65536 * (X + 1) : Nat), .bool true]) ∧ X < 255 ∧ FitR L n X ∧ ∀ q, q < X → ¬ FitR L n q) ∨ (e = .returned (.tuple #[.int .u64 0, .bool false]) ∧ ∀ q, q < 255 → ¬ FitR L n q)) ∧ Below w.heap.size w w' := by
  by_cases hn : n < 1 ∨ 1024 < n
  · refine (find_bad w M n hn).mono ?_
    rintro e w' ⟨rfl, rfl⟩
    refine ⟨.inr ⟨rfl, fun q hq h => ?_⟩, Below.refl _ _⟩
    have h1 := h.1.2.2.1.2.1
    have h2 := h.1.2.2.1.2.2.1
    omega
  · obtain ⟨k, rfl⟩ : ∃ k : Nat, n = (k : Int) := ⟨n.toNat, by omega⟩
    have hroom : ∀ q : Nat, RoomOk mp (65536 * ((q : Int) + 1)) k ↔ RoomR L (65536 * (q + 1)) k := fun q => by
      have h := room_iff hrel (65536 * (q + 1)) k
      rwa [show ((65536 * (q + 1) : Nat) : Int) = 65536 * ((q : Int) + 1) by omega] at h
    by_cases hx : ∃ X, X < 255 ∧ FitR L k X
    · obtain ⟨X, h1, h2, h3⟩ := least_of 255 hx
      have hlow : 65536 * (X + 1) + k * 4096 ≤ 16777216 := by have := h2.2; omega
      refine (find_yes R w M m 1024 mp k X (by omega) (by omega) ((hroom X).mpr h2.1) hlow (fun q hq h => h3 q hq ⟨(hroom q).mp h, by omega⟩) H).mono ?_
      rintro e w' ⟨rfl, j, rfl⟩
      refine ⟨.inl ⟨X, ?_, h1, h2, h3⟩, below_dr w j⟩
      rw [show ((65536 * (X + 1) : Nat) : Int) = 65536 * ((X : Int) + 1) by omega]
    · refine (find_no R w M m 1024 mp k (by omega) (by omega) (fun q hq h => hx ⟨q, by omega, (hroom q).mp h, by omega⟩) H).mono ?_
      rintro e w' ⟨rfl, j, rfl⟩
      exact ⟨.inr ⟨rfl, fun q hq h => hx ⟨q, hq, h⟩⟩, below_dr w j⟩

/-- The numbers lie there. -/
def NumsU (w : World) (A : Option Addr) (n : Nat) (f : Nat → Nat) : Prop := n = 0 ∨ ∃ b off, A = some ⟨b, off, none⟩ ∧ b < w.heap.size ∧ ∀ i, i < n → w.cell? ⟨b, off + i, none⟩ = some (.int .u64 (f i))
theorem NumsU.below {w w' : World} {A : Option Addr} {n : Nat} {f : Nat → Nat} (h : NumsU w A n f) (hb : Below w.heap.size w w') : NumsU w' A n f := by
  rcases h with h | ⟨b, off, hA, hlt, hc⟩
  · exact .inl h
  · exact .inr ⟨b, off, hA, Nat.lt_of_lt_of_le hlt hb.size, fun i hi => (hb.cell (p := ⟨b, _, none⟩) hlt).trans (hc i hi)⟩
theorem u64m (x k : Nat) (hx : x < 18446744073709551616) (hk : k < 64) : bits .and .u64 (x : Int) ((2 ^ k - 1 : Nat) : Int) = ((x % 2 ^ k : Nat) : Int) := by
  have hp : 2 ^ k ≤ 2 ^ 63 := Nat.pow_le_pow_right (by omega) (by omega)
  rw [u64_and_nat x (2 ^ k - 1) hx (by omega), Nat.and_two_pow_sub_one_eq_mod]

set_option maxHeartbeats 8000000 in
theorem rtells_any (A : Option Addr) (len cap : Nat) (f : Nat → Nat) (at0 : Nat) (n0 : Int) (w : World) (hs : NumsU w A len f) (hf : ∀ i, f i < 18446744073709551616) (hl : len ≤ 9223372036854775807) (hat : at0 < 18446744073709551616) :
    Calls Try.prog 5 #[.slice A len cap, .int .u64 at0, .int .i64 n0] w fun e w' => e = .returned (.bool true) ∧ Below w.heap.size w w' := by
  have HS := Lib.hid hs
  have HF := Lib.hid hf
  have hR : ∀ k, k < w.heap.size → k < w.heap.size := fun _ h => h
  clear hs hf
  go_enter Try.func5, Try.ntmps5
  go_wp2_with fail
  refine (newMem_any (· < w.heap.size) w 1024 hR (by omega) (by omega)).mono ?_
  rintro e w1 ⟨M, rfl, h1, k1⟩
  have H1 := Lib.hid h1
  have K1 := Lib.hid k1
  clear h1 k1
  go_wp2_with fail
  refine (rnew_any w1).mono ?_
  rintro e w2 ⟨B, rfl, hr, hrow0, hB1, hB2, hb⟩
  obtain ⟨R, HBO⟩ : ∃ R, Hid (Both w w2 M B 0 (fun _ => none) [] R) := by
    refine ⟨fun k => k < w.heap.size ∨ (w1.heap.size ≤ k ∧ k < w2.heap.size), Lib.hid ?_⟩
    have hsz := K1.out.size
    have hbw : Below w.heap.size w w2 := by
      have h2 : Below w.heap.size w w1 := ⟨K1.out.os, K1.out.tape, K1.out.output, hsz, fun k hk => K1.out.block k hk⟩
      exact h2.trans (hb.mono hsz)
    exact ⟨H1.out.more hb, fun k hk => .inl hk, .inr ⟨hB1, hB2⟩, ⟨none, 0, 0, hrow0, fun b hb2 => by simp at hb2⟩, hr, hbw.os, hbw.tape, hbw.output, hbw.size, hbw.block⟩
  have HB0 := Lib.hid (show w.heap.size ≤ B from Nat.le_trans K1.out.size hB1)
  clear hr hrow0 hB1 hB2 hb H1 K1 hR
  go_wp2_with fail
  refine (awake4_any _).mono ?_
  rintro e w3 ⟨rfl, hw3⟩
  have HBO3 := Lib.hid (HBO.out.below hw3)
  clear hw3 HBO
  -- MARKA
  go_wp2_with fail
  go_loopw [9, 10, 11] (fun v9 _ _ wr => ∃ (i m : Nat) (mp : Int → Option Pg) (L : List RPg) (R : Nat → Prop), i ≤ len ∧ i ≤ 30 ∧ v9 = .int .i64 i ∧ m ≤ 16 * i ∧ L.length ≤ 16 * i ∧ Hid (Both w wr M B m mp L R) ∧ Hid (RelP mp L ∧ RiseP L)) (fun v9 _ _ _ => len - (intOf v9).toNat)
  case atStart => exact ⟨0, 0, _, [], R, Nat.zero_le _, by omega, rfl, by omega, by simp, HBO3, Lib.hid ⟨fun x => ⟨fun _ => rfl, fun _ => rfl⟩, List.Pairwise.nil, fun y hy => by simp at hy⟩⟩
  case round =>
    obtain ⟨i, m, mp, L, R', hi, hi30, rfl, hm16, hL16, HBB, HRR⟩ := hrel
    clear HBO3
    by_cases hlt : i < len ∧ i < 30
    · obtain ⟨hl1, hl2⟩ := hlt
      have hin : (i : Int) < (len : Int) := by omega
      have hi3 : (i : Int) < 30 := by omega
      rcases HS.out with h0 | ⟨b, off, rfl, hb, hc⟩
      · omega
      have q0 := (HBB.out.bel.cell (p := ⟨b, off + i, none⟩) hb).trans (hc i hl1)
      have hfi := HF.out i
      obtain ⟨x, hx⟩ : ∃ x, f i = x := ⟨_, rfl⟩
      rw [hx] at q0 hfi
      have m0 := u64m x 10 hfi (by omega)
      obtain ⟨d, hd⟩ : ∃ d, x % 2 ^ 10 = d := ⟨_, rfl⟩
      rw [hd] at m0
      have m0' : bits .and .u64 (x : Int) 1023 = (d : Int) := m0
      obtain ⟨X, hX⟩ : ∃ X, d * 4096 = X := ⟨_, rfl⟩
      have hd10 : d < 1024 := by omega
      have eX : (d : Int) * 4096 = (X : Int) := by omega
      have wX : IntKind.u64.wrap (X : Int) = (X : Int) := by rw [IntKind.wrap_u64]; omega
      obtain ⟨y, hy⟩ : ∃ y, x / 1048576 = y := ⟨_, rfl⟩
      have ey : (x : Int) / 1048576 = (y : Int) := by omega
      have m1 := u64m y 4 (by omega) (by omega)
      obtain ⟨p, hp⟩ : ∃ p, y % 2 ^ 4 = p := ⟨_, rfl⟩
      rw [hp] at m1
      have m1' : bits .and .u64 (y : Int) 15 = (p : Int) := m1
      obtain ⟨N, hN⟩ : ∃ N, p + 1 = N := ⟨_, rfl⟩
      have eN : (p : Int) + 1 = (N : Int) := by omega
      have wp : IntKind.i64.wrap (p : Int) = (p : Int) := by rw [IntKind.wrap_i64]; omega
      have wN : IntKind.i64.wrap (N : Int) = (N : Int) := by rw [IntKind.wrap_i64]; omega
      have hra : RangeP X N := ⟨by omega, by omega, by omega, by omega, by omega⟩
      have hro : RowOk X N := ⟨by omega, by omega, by omega, by omega⟩
      have HLI := Lib.hid (And.intro hl1 (And.intro hl2 (And.intro hm16 (And.intro hL16 (show N ≤ 16 by omega)))))
      have HRA := Lib.hid hra
      have HRO := Lib.hid hro
      have hX0 : (0 : Int) ≤ X := by omega
      clear hb hc hx hfi m0 m1 hd hX hd10 hy hp hN hra hro hl1 hl2 hm16 hL16 hi hi30
      by_cases ht : ∃ j, j < N ∧ hasP L (X + j * 4096) = true
      · have HT := Lib.hid ht
        have HMT := Lib.hid (map_taken R' _ M m 1024 mp X 1 N hX0 HRO.out (by omega) (by omega) (by
          obtain ⟨j, hj, h1⟩ := ht
          refine ⟨j, hj, fun h2 => ?_⟩
          have h3 := (HRR.out.1 (X + j * 4096)).mp (by rw [← h2]; congr 1)
          rw [h1] at h3
          cases h3) HBB.out.mem)
        clear ht
        go_wp2_with fail
        refine HMT.out.mono ?_
        rintro e w4 ⟨rfl, k4, rfl⟩
        have HB4 := Lib.hid (HBB.out.below (below_dr wr k4))
        have HRT := Lib.hid (rmap_taken _ B L X N HB4.out.ref HRR.out.2 HRA.out HT.out)
        generalize wr.drewN k4 = w4 at *
        clear HMT q0
        go_wp2_with fail
        refine HRT.out.mono ?_
        rintro e w5 ⟨rfl, hb5⟩
        have HB5 := Lib.hid (HB4.out.below hb5)
        clear hb5 HRT HB4
        go_wp2_with fail
        go_roundw
        case rel => exact ⟨i + 1, m, mp, L, R', by have := HLI.out; omega, by have := HLI.out; omega, by simp, by have := HLI.out; omega, by have := HLI.out; omega, HB5, HRR⟩
        case measure =>
          have := HLI.out
          simp [intOf]
          omega
      · have hfree : ∀ j, j < N → hasP L (X + j * 4096) = false := fun j hj => by
          rcases hh : hasP L (X + j * 4096) with _ | _
          · rfl
          · exact absurd ⟨j, hj, hh⟩ ht
        have HFR := Lib.hid hfree
        have HMC := Lib.hid (map_core R' _ M m 1024 mp X 1 N hX0 HRO.out (by omega) (by omega) (fun j hj => by
          have h3 := (HRR.out.1 (X + j * 4096)).mpr (hfree j hj)
          rw [← h3]; congr 1) (by have := HLI.out; omega) HBB.out.mem)
        clear ht hfree
        go_wp2_with fail
        refine HMC.out.mono ?_
        rintro e w4 ⟨rfl, hm4, hk4⟩
        have HB4 := Lib.hid (HBB.out.prog hm4 hk4)
        have HRF := Lib.hid (rmap_free _ B L X N HB4.out.ref HRR.out.2 HRA.out HFR.out (by have := HLI.out; omega))
        clear hm4 hk4 HMC q0
        go_wp2_with fail
        refine HRF.out.mono ?_
        rintro e w5 ⟨rfl, hr5, hg5, hn5⟩
        have HB5 := Lib.hid (HB4.out.refd HB0.out hr5 hg5 hn5)
        have HR5 := Lib.hid (show RelP (setP mp X 1 N) (insP L X N page0R) ∧ RiseP (insP L X N page0R) from ⟨HRR.out.1.ins X N page0R, insP_rise HRR.out.2 HRA.out.1 (by have := HRA.out.2.2.2.2; omega) HFR.out⟩)
        clear hr5 hg5 hn5 HRF HB4
        go_wp2_with fail
        go_roundw
        case rel => exact ⟨i + 1, m + N, _, _, _, by have := HLI.out; omega, by have := HLI.out; omega, by simp, by have := HLI.out; omega, by have := HLI.out; rw [insP_len]; omega, HB5, HR5⟩
        case measure =>
          have := HLI.out
          simp [intOf]
          omega
    · rename World => wr0
      by_cases hin : i < len
      · have hin' : (i : Int) < (len : Int) := by omega
        have hi3 : ¬ (i : Int) < 30 := by omega
        go_wp2_with fail
        go_loopw [1, 2, 12, 13, 14, 15, 16] (fun v1 v2 v12 _ _ _ _ wr => ∃ (q a : Nat) (n : Int), q ≤ 3 ∧ v12 = .int .i64 q ∧ v1 = .int .u64 a ∧ v2 = .int .i64 n ∧ a < 18446744073709551616 ∧ Hid (Both w wr M B m mp L R')) (fun _ _ v12 _ _ _ _ _ => 3 - (intOf v12).toNat)
        case atStart => exact ⟨0, at0, n0, by omega, rfl, rfl, rfl, hat, HBB⟩
        case round =>
          obtain ⟨q, a, n, hq, rfl, rfl, rfl, ha, HBC⟩ := hrel
          clear HBB
          by_cases hlt2 : q < 3
          · have hq3 : (q : Int) < 3 := by omega
            have HQ := Lib.hid hlt2
            have HA := Lib.hid ha
            have m2 := u64m a 6 ha (by omega)
            obtain ⟨d, hd⟩ : ∃ d, a % 2 ^ 6 = d := ⟨_, rfl⟩
            rw [hd] at m2
            have m2' : bits .and .u64 (a : Int) 63 = (d : Int) := m2
            obtain ⟨a2, ha2⟩ : ∃ a2, d * 65536 = a2 := ⟨_, rfl⟩
            have ea2 : (d : Int) * 65536 = (a2 : Int) := by omega
            have wa2 : IntKind.u64.wrap (a2 : Int) = (a2 : Int) := by rw [IntKind.wrap_u64]; omega
            have HA2 := Lib.hid (show a2 < 18446744073709551616 by omega)
            have m3 : bits .and .i64 n 63 = n % 64 := i64_mask n 6 (by omega)
            obtain ⟨n2, hn2⟩ : ∃ n2 : Int, n % 64 = n2 := ⟨_, rfl⟩
            rw [hn2] at m3
            have wn2 : IntKind.i64.wrap (n2 + 1) = n2 + 1 := by rw [IntKind.wrap_i64]; omega
            have HI1 := Lib.hid (fun W (hW : Below wr.heap.size wr W) => pis_any ((HBC.out.below hW).mem) HRR.out.1 a n ha)
            have HI2 := Lib.hid (fun W (hW : Below wr.heap.size wr W) => ris_any W B L a n ((HBC.out.below hW).ref) HRR.out.2 ha)
            have HF1 := Lib.hid (fun W (hW : Below wr.heap.size wr W) => pfind_any ((HBC.out.below hW).mem) HRR.out.1 n)
            have HF2 := Lib.hid (fun W (hW : Below wr.heap.size wr W) => rroom_any W B L n ((HBC.out.below hW).ref) HRR.out.2)
            have HI3 := Lib.hid (fun W z (hz : z < 18446744073709551616) (hW : Below wr.heap.size wr W) => pis_any ((HBC.out.below hW).mem) HRR.out.1 z n hz)
            clear hd ha2 m2 hn2 hlt2 hq ha
            go_wp2_with fail
            refine (HI1.out _ (Below.refl _ _)).mono ?_
            rintro e w4 ⟨hv1, hw4⟩
            have HW4 := Lib.hid hw4
            clear hw4 HI1
            obtain ⟨r1, he1, hr1⟩ : ∃ r1 : Bool, e = .returned (.bool r1) ∧ (r1 = true ↔ RoomR L a n) := by
              rcases hv1 with ⟨h1, h2⟩ | ⟨h1, h2⟩
              · exact ⟨true, h1, ⟨fun _ => h2, fun _ => rfl⟩⟩
              · exact ⟨false, h1, ⟨fun h => (by cases h), fun h => absurd h h2⟩⟩
            subst he1
            have HR1 := Lib.hid hr1
            clear hv1 hr1
            go_wp2_with fail
            refine (HI2.out _ HW4.out).mono ?_
            rintro e w5 ⟨hv1, hw5⟩
            have HW5 := Lib.hid (HW4.out.trans (hw5.mono HW4.out.size))
            clear hw5 HI2 HW4
            obtain rfl : e = .returned (.bool r1) := by
              rcases hv1 with ⟨h1, h2⟩ | ⟨h1, h2⟩
              · rw [h1, HR1.out.mpr h2]
              · rcases hr : r1 with _ | _
                · exact h1
                · exact absurd (HR1.out.mp hr) h2
            clear hv1 HR1
            go_wp2_with fail
            refine (HF1.out _ HW5.out).mono ?_
            rintro e w6 ⟨hv1, hw6⟩
            have HW6 := Lib.hid (HW5.out.trans (hw6.mono HW5.out.size))
            clear hw6 HF1 HW5
            rcases hv1 with ⟨X, rfl, hX, hfit, hmin⟩ | ⟨rfl, hnone⟩
            · have HX := Lib.hid (And.intro hX (And.intro hfit hmin))
              obtain ⟨z, hz⟩ : ∃ z, 65536 * (X + 1) = z := ⟨_, rfl⟩
              have HZ := Lib.hid hz
              have hzb : z < 18446744073709551616 := by omega
              have HI4 := Lib.hid (fun W hW => HI3.out W z hzb hW)
              have HRZ := Lib.hid (show RoomR L z n from by rw [← hz]; exact hfit.1)
              rw [hz]
              clear hX hfit hmin hz HI3 hzb
              go_wp2_with fail
              refine (HF2.out _ HW6.out).mono ?_
              rintro e w7 ⟨hv1, hw7⟩
              have HW7 := Lib.hid (HW6.out.trans (hw7.mono HW6.out.size))
              clear hw7 HF2 HW6
              obtain rfl : e = .returned (.tuple #[.int .u64 z, .bool true]) := by
                rcases hv1 with ⟨X', h1, h2, h3, h4⟩ | ⟨h1, h2⟩
                · obtain ⟨g1, g2, g3⟩ := HX.out
                  have hXX : X' = X := by
                    rcases Nat.lt_trichotomy X' X with h | h | h
                    · exact absurd h3 (g3 X' h)
                    · exact h
                    · exact absurd g2 (h4 X h)
                  rw [h1, hXX, HZ.out]
                · exact absurd HX.out.2.1 (h2 X HX.out.1)
              clear hv1 HX HZ
              go_wp2_with fail
              refine (HI4.out _ HW7.out).mono ?_
              rintro e w8 ⟨hv1, hw8⟩
              have HW8 := Lib.hid (HW7.out.trans (hw8.mono HW7.out.size))
              clear hw8 HI4 HW7
              obtain rfl : e = .returned (.bool true) := by
                rcases hv1 with ⟨h1, h2⟩ | ⟨h1, h2⟩
                · exact h1
                · exact absurd HRZ.out h2
              clear hv1 HRZ
              have HB8 := Lib.hid (HBC.out.below HW8.out)
              clear HW8
              go_wp2_with fail
              go_roundw
              case rel => exact ⟨q + 1, a2, n2 + 1, by have := HQ.out; omega, by simp, rfl, rfl, HA2.out, HB8⟩
              case measure =>
                have := HQ.out
                simp [intOf]
                omega
            · have HX := Lib.hid hnone
              clear hnone HI3
              go_wp2_with fail
              refine (HF2.out _ HW6.out).mono ?_
              rintro e w7 ⟨hv1, hw7⟩
              have HW7 := Lib.hid (HW6.out.trans (hw7.mono HW6.out.size))
              clear hw7 HF2 HW6
              obtain rfl : e = .returned (.tuple #[.int .u64 0, .bool false]) := by
                rcases hv1 with ⟨X', h1, h2, h3, h4⟩ | ⟨h1, h2⟩
                · exact absurd h3 (HX.out X' h2)
                · exact h1
              clear hv1 HX
              have HB8 := Lib.hid (HBC.out.below HW7.out)
              clear HW7
              go_wp2_with fail
              go_roundw
              case rel => exact ⟨q + 1, a2, n2 + 1, by have := HQ.out; omega, by simp, rfl, rfl, HA2.out, HB8⟩
              case measure =>
                have := HQ.out
                simp [intOf]
                omega
          · obtain rfl : q = 3 := by omega
            have HBE := Lib.hid HBC.out.bel
            go_wp2_with fail
            go_ret
            exact ⟨rfl, HBE.out⟩
      · have hin' : ¬ (i : Int) < (len : Int) := by omega
        go_wp2_with fail
        go_loopw [1, 2, 12, 13, 14, 15, 16] (fun v1 v2 v12 _ _ _ _ wr => ∃ (q a : Nat) (n : Int), q ≤ 3 ∧ v12 = .int .i64 q ∧ v1 = .int .u64 a ∧ v2 = .int .i64 n ∧ a < 18446744073709551616 ∧ Hid (Both w wr M B m mp L R')) (fun _ _ v12 _ _ _ _ _ => 3 - (intOf v12).toNat)
        case atStart => exact ⟨0, at0, n0, by omega, rfl, rfl, rfl, hat, HBB⟩
        case round =>
          obtain ⟨q, a, n, hq, rfl, rfl, rfl, ha, HBC⟩ := hrel
          clear HBB
          by_cases hlt2 : q < 3
          · have hq3 : (q : Int) < 3 := by omega
            have HQ := Lib.hid hlt2
            have HA := Lib.hid ha
            have m2 := u64m a 6 ha (by omega)
            obtain ⟨d, hd⟩ : ∃ d, a % 2 ^ 6 = d := ⟨_, rfl⟩
            rw [hd] at m2
            have m2' : bits .and .u64 (a : Int) 63 = (d : Int) := m2
            obtain ⟨a2, ha2⟩ : ∃ a2, d * 65536 = a2 := ⟨_, rfl⟩
            have ea2 : (d : Int) * 65536 = (a2 : Int) := by omega
            have wa2 : IntKind.u64.wrap (a2 : Int) = (a2 : Int) := by rw [IntKind.wrap_u64]; omega
            have HA2 := Lib.hid (show a2 < 18446744073709551616 by omega)
            have m3 : bits .and .i64 n 63 = n % 64 := i64_mask n 6 (by omega)
            obtain ⟨n2, hn2⟩ : ∃ n2 : Int, n % 64 = n2 := ⟨_, rfl⟩
            rw [hn2] at m3
            have wn2 : IntKind.i64.wrap (n2 + 1) = n2 + 1 := by rw [IntKind.wrap_i64]; omega
            have HI1 := Lib.hid (fun W (hW : Below wr.heap.size wr W) => pis_any ((HBC.out.below hW).mem) HRR.out.1 a n ha)
            have HI2 := Lib.hid (fun W (hW : Below wr.heap.size wr W) => ris_any W B L a n ((HBC.out.below hW).ref) HRR.out.2 ha)
            have HF1 := Lib.hid (fun W (hW : Below wr.heap.size wr W) => pfind_any ((HBC.out.below hW).mem) HRR.out.1 n)
            have HF2 := Lib.hid (fun W (hW : Below wr.heap.size wr W) => rroom_any W B L n ((HBC.out.below hW).ref) HRR.out.2)
            have HI3 := Lib.hid (fun W z (hz : z < 18446744073709551616) (hW : Below wr.heap.size wr W) => pis_any ((HBC.out.below hW).mem) HRR.out.1 z n hz)
            clear hd ha2 m2 hn2 hlt2 hq ha
            go_wp2_with fail
            refine (HI1.out _ (Below.refl _ _)).mono ?_
            rintro e w4 ⟨hv1, hw4⟩
            have HW4 := Lib.hid hw4
            clear hw4 HI1
            obtain ⟨r1, he1, hr1⟩ : ∃ r1 : Bool, e = .returned (.bool r1) ∧ (r1 = true ↔ RoomR L a n) := by
              rcases hv1 with ⟨h1, h2⟩ | ⟨h1, h2⟩
              · exact ⟨true, h1, ⟨fun _ => h2, fun _ => rfl⟩⟩
              · exact ⟨false, h1, ⟨fun h => (by cases h), fun h => absurd h h2⟩⟩
            subst he1
            have HR1 := Lib.hid hr1
            clear hv1 hr1
            go_wp2_with fail
            refine (HI2.out _ HW4.out).mono ?_
            rintro e w5 ⟨hv1, hw5⟩
            have HW5 := Lib.hid (HW4.out.trans (hw5.mono HW4.out.size))
            clear hw5 HI2 HW4
            obtain rfl : e = .returned (.bool r1) := by
              rcases hv1 with ⟨h1, h2⟩ | ⟨h1, h2⟩
              · rw [h1, HR1.out.mpr h2]
              · rcases hr : r1 with _ | _
                · exact h1
                · exact absurd (HR1.out.mp hr) h2
            clear hv1 HR1
            go_wp2_with fail
            refine (HF1.out _ HW5.out).mono ?_
            rintro e w6 ⟨hv1, hw6⟩
            have HW6 := Lib.hid (HW5.out.trans (hw6.mono HW5.out.size))
            clear hw6 HF1 HW5
            rcases hv1 with ⟨X, rfl, hX, hfit, hmin⟩ | ⟨rfl, hnone⟩
            · have HX := Lib.hid (And.intro hX (And.intro hfit hmin))
              obtain ⟨z, hz⟩ : ∃ z, 65536 * (X + 1) = z := ⟨_, rfl⟩
              have HZ := Lib.hid hz
              have hzb : z < 18446744073709551616 := by omega
              have HI4 := Lib.hid (fun W hW => HI3.out W z hzb hW)
              have HRZ := Lib.hid (show RoomR L z n from by rw [← hz]; exact hfit.1)
              rw [hz]
              clear hX hfit hmin hz HI3 hzb
              go_wp2_with fail
              refine (HF2.out _ HW6.out).mono ?_
              rintro e w7 ⟨hv1, hw7⟩
              have HW7 := Lib.hid (HW6.out.trans (hw7.mono HW6.out.size))
              clear hw7 HF2 HW6
              obtain rfl : e = .returned (.tuple #[.int .u64 z, .bool true]) := by
                rcases hv1 with ⟨X', h1, h2, h3, h4⟩ | ⟨h1, h2⟩
                · obtain ⟨g1, g2, g3⟩ := HX.out
                  have hXX : X' = X := by
                    rcases Nat.lt_trichotomy X' X with h | h | h
                    · exact absurd h3 (g3 X' h)
                    · exact h
                    · exact absurd g2 (h4 X h)
                  rw [h1, hXX, HZ.out]
                · exact absurd HX.out.2.1 (h2 X HX.out.1)
              clear hv1 HX HZ
              go_wp2_with fail
              refine (HI4.out _ HW7.out).mono ?_
              rintro e w8 ⟨hv1, hw8⟩
              have HW8 := Lib.hid (HW7.out.trans (hw8.mono HW7.out.size))
              clear hw8 HI4 HW7
              obtain rfl : e = .returned (.bool true) := by
                rcases hv1 with ⟨h1, h2⟩ | ⟨h1, h2⟩
                · exact h1
                · exact absurd HRZ.out h2
              clear hv1 HRZ
              have HB8 := Lib.hid (HBC.out.below HW8.out)
              clear HW8
              go_wp2_with fail
              go_roundw
              case rel => exact ⟨q + 1, a2, n2 + 1, by have := HQ.out; omega, by simp, rfl, rfl, HA2.out, HB8⟩
              case measure =>
                have := HQ.out
                simp [intOf]
                omega
            · have HX := Lib.hid hnone
              clear hnone HI3
              go_wp2_with fail
              refine (HF2.out _ HW6.out).mono ?_
              rintro e w7 ⟨hv1, hw7⟩
              have HW7 := Lib.hid (HW6.out.trans (hw7.mono HW6.out.size))
              clear hw7 HF2 HW6
              obtain rfl : e = .returned (.tuple #[.int .u64 0, .bool false]) := by
                rcases hv1 with ⟨X', h1, h2, h3, h4⟩ | ⟨h1, h2⟩
                · exact absurd h3 (HX.out X' h2)
                · exact h1
              clear hv1 HX
              have HB8 := Lib.hid (HBC.out.below HW7.out)
              clear HW7
              go_wp2_with fail
              go_roundw
              case rel => exact ⟨q + 1, a2, n2 + 1, by have := HQ.out; omega, by simp, rfl, rfl, HA2.out, HB8⟩
              case measure =>
                have := HQ.out
                simp [intOf]
                omega
          · obtain rfl : q = 3 := by omega
            have HBE := Lib.hid HBC.out.bel
            go_wp2_with fail
            go_ret
            exact ⟨rfl, HBE.out⟩
end Go.Proofs.Ytlifaldbdjcgjaa
