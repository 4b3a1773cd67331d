/- RoomGaps. -/
import Derived.Test.YtlifaldbdjcgjaaRoom
import Derived.Test.YtlifaldbdjcgjaaMask
namespace Go.Proofs.Ytlifaldbdjcgjaa
open Go.ChangeShapes Go.WideShapes Go.ChangeAt Go.RowKit
open Go.Maps (Keyed)
set_option linter.unusedVariables false
set_option linter.unusedSimpArgs false

theorem setP_in (mp : Int → Option Pg) (a p : Int) : ∀ (k i : Nat), i < k → setP mp a p k (a + i * 4096) = some ⟨p, fun _ => 0⟩
  | 0, i, hi => by omega
  | k + 1, i, hi => by
    show upd (setP mp a p k) (a + k * 4096) _ (a + i * 4096) = _
    by_cases e : i = k
    · subst e; rw [upd_same]
    · rw [upd_other _ _ (by omega)]
      exact setP_in mp a p k i (by omega)

theorem setP_out (mp : Int → Option Pg) (a p x : Int) : ∀ (k : Nat), (∀ i : Nat, i < k → x ≠ a + i * 4096) → setP mp a p k x = mp x
  | 0, _ => rfl
  | k + 1, h => by
    show upd (setP mp a p k) (a + k * 4096) _ x = _
    rw [upd_other _ _ (h k (by omega))]
    exact setP_out mp a p x k (fun i hi => h i (by omega))

theorem roomOk_empty {a n : Int} (h1 : a % 65536 = 0) (h2 : 65536 ≤ a) (h3 : 1 ≤ n) (h4 : n ≤ 1024) (h5 : a + n * 4096 ≤ 140737488355328) : RoomOk (fun _ => none) a n := ⟨h1, h2, h3, h4, h5, fun _ _ => rfl⟩

set_option maxRecDepth 100000 in
set_option maxHeartbeats 1000000 in
theorem awake4_any (w : World) : Calls Try.prog 16 #[] w fun e w' => e = .returned (.bool true) ∧ Below w.heap.size w w' := by
  have hR : ∀ k, k < w.heap.size → k < w.heap.size := fun _ h => h
  go_enter Try.func16, Try.ntmps16
  go_wp2_with fail
  refine (newMem_any (· < w.heap.size) w 4 hR (by omega) (by omega)).mono ?_
  rintro e w1 ⟨M, rfl, h1, k1⟩
  have H1 := Lib.hid h1
  have K1 := Lib.hid k1
  clear h1 k1
  go_wp2_with fail
  refine (find_yes (· < w.heap.size) w1 M 0 4 _ 1 0 (by omega) (by omega) (roomOk_empty (by omega) (by omega) (by omega) (by omega) (by omega)) (by omega) (fun q hq => by omega) H1.out).mono ?_
  rintro e w2 ⟨rfl, n2, rfl⟩
  have H2 := Lib.hid (H1.out.drewN n2)
  have K2 := Lib.hid (show Kept (· < w.heap.size) w (w1.drewN n2) from K1.out.trans ⟨rfl, rfl, rfl, Nat.le_refl _, fun _ _ => rfl⟩)
  clear H1 K1
  generalize w1.drewN n2 = W2 at *
  go_wp2_with fail
  refine (map_core (· < w.heap.size) W2 M 0 4 _ 65536 1 1 (by omega) ⟨by omega, by omega, by omega, by omega⟩ (by omega) (by omega) (fun _ _ => rfl) (by omega) H2.out).mono ?_
  rintro e w3 ⟨rfl, h3, k3⟩
  have H3 := Lib.hid h3
  have K3 := Lib.hid (K2.out.trans k3)
  clear h3 k3 H2 K2
  have hin := Lib.hid (setP_in (fun _ => none) 65536 1 1 0 (by omega))
  have hout := Lib.hid (setP_out (fun _ => none) 65536 1)
  go_wp2_with fail
  refine (find_yes (· < w.heap.size) w3 M _ 4 _ 2 1 (by omega) (by omega) ⟨by omega, by omega, by omega, by omega, by omega, fun i hi => hout.out _ 1 (fun j hj => by omega)⟩ (by omega) (fun q hq h => ?_) H3.out).mono ?_
  · obtain rfl : q = 0 := by omega
    have := h.2.2.2.2.2 0 (by omega)
    have h0 := hin.out
    simp at this h0
    rw [this] at h0
    cases h0
  rintro e w4 ⟨rfl, n4, rfl⟩
  have H4 := Lib.hid (H3.out.drewN n4)
  have K4 := Lib.hid (show Kept (· < w.heap.size) w (w3.drewN n4) from K3.out.trans ⟨rfl, rfl, rfl, Nat.le_refl _, fun _ _ => rfl⟩)
  clear H3 K3
  generalize w3.drewN n4 = W4 at *
  go_wp2_with fail
  refine (is_yes (· < w.heap.size) W4 M _ 4 _ 131072 1 ⟨by omega, by omega, by omega, by omega, by omega, fun i hi => hout.out _ 1 (fun j hj => by omega)⟩ H4.out).mono ?_
  rintro e w5 ⟨rfl, n5, rfl⟩
  have H5 := Lib.hid (H4.out.drewN n5)
  have K5 := Lib.hid (show Kept (· < w.heap.size) w (W4.drewN n5) from K4.out.trans ⟨rfl, rfl, rfl, Nat.le_refl _, fun _ _ => rfl⟩)
  clear H4 K4
  generalize W4.drewN n5 = W5 at *
  go_wp2_with fail
  refine (is_no (· < w.heap.size) W5 M _ 4 _ 65536 1 (by omega) (by omega) (fun h => ?_) H5.out).mono ?_
  · have := h.2.2.2.2.2 0 (by omega)
    have h0 := hin.out
    simp at this h0
    rw [this] at h0
    cases h0
  rintro e w6 ⟨rfl, n6, rfl⟩
  have K6 := (show Kept (· < w.heap.size) w (W5.drewN n6) from K5.out.trans ⟨rfl, rfl, rfl, Nat.le_refl _, fun _ _ => rfl⟩)
  have hb := K6.below (fun _ h => h)
  clear K6 K5 H5 hin hout
  go_wp2
  go_ret
  exact ⟨rfl, by go_grown⟩

/-- n integers f from a place on. -/
def RowI (w : World) (b off n : Nat) (f : Nat → Int) : Prop := ∀ i, i < n → w.cell? ⟨b, off + i, none⟩ = some (.int .i64 (f i))
/-- A slice of n integers f that came in. -/
def SlI (w : World) (A : Option Addr) (n : Nat) (f : Nat → Int) : Prop := n = 0 ∨ ∃ b off, A = some ⟨b, off, none⟩ ∧ b < w.heap.size ∧ RowI w b off n f
theorem SlI.keptR {R : Nat → Prop} {w0 w : World} {A : Option Addr} {n : Nat} {f : Nat → Int} (h : SlI w0 A n f) (hk : Kept R w0 w) (hR : ∀ k, k < w0.heap.size → R k) : SlI w A n f := by
  rcases h with h | ⟨b, off, hA, hlt, hr⟩
  · exact .inl h
  · exact .inr ⟨b, off, hA, Nat.lt_of_lt_of_le hlt hk.size, fun i hi => (hk.cell (p := ⟨b, off + i, none⟩) (hR b hlt)).trans (hr i hi)⟩

/-- How far the law's loop has come: the next place is unit c; want is v, if some gap was wide enough. -/
structure Gaps (mp : Int → Option Pg) (n c v : Nat) : Prop where
  free : ∀ a : Int, 65536 * c ≤ a → mp a = none
  one : 1 ≤ c
  none : v = 0 → ∀ u : Nat, 1 ≤ u → u < c → ∃ i : Nat, i < n ∧ mp (65536 * u + i * 4096) ≠ none
  some : v ≠ 0 → (∀ u : Nat, 1 ≤ u → u < v → ∃ i : Nat, i < n ∧ mp (65536 * u + i * 4096) ≠ Option.none) ∧ (∀ i : Nat, i < n → mp (65536 * v + i * 4096) = Option.none) ∧ 65536 * v + n * 4096 ≤ 65536 * c

/-- The unit that is wanted behind a gap of g units. -/
def wantOf (n c v g : Nat) : Nat := if v = 0 ∧ n ≤ 16 * g then c else v

theorem Gaps.step {mp : Int → Option Pg} {n c v : Nat} (h : Gaps mp n c v) (g : Nat) (p : Int) (hn : 1 ≤ n) (hn2 : n ≤ 32) : Gaps (setP mp (65536 * (c + g : Nat)) p 16) n (c + g + 1) (wantOf n c v g) := by
  have hout : ∀ x : Int, x < 65536 * (c + g : Nat) → setP mp (65536 * (c + g : Nat)) p 16 x = mp x := fun x hx => setP_out mp _ p x 16 (fun i hi => by omega)
  have hin : ∀ i : Nat, i < 16 → setP mp (65536 * (c + g : Nat)) p 16 (65536 * (c + g : Nat) + i * 4096) ≠ Option.none := fun i hi => by rw [setP_in mp _ p 16 i hi]; simp
  have keep : ∀ x : Int, mp x ≠ Option.none → setP mp (65536 * (c + g : Nat)) p 16 x ≠ Option.none := fun x hx => by
    rw [hout x]
    · exact hx
    · refine Classical.byContradiction fun hc => hx (h.free x (by omega))
  have gapfull : ∀ u : Nat, c ≤ u → u < c + g + 1 → ¬ n ≤ 16 * g → ∃ i : Nat, i < n ∧ setP mp (65536 * (c + g : Nat)) p 16 (65536 * u + i * 4096) ≠ Option.none := fun u h1 h2 h3 => by
    refine ⟨16 * (c + g - u), by omega, ?_⟩
    rw [show (65536 * (u : Int) + ((16 * (c + g - u) : Nat) : Int) * 4096) = 65536 * (c + g : Nat) + ((0 : Nat) : Int) * 4096 by omega]
    exact hin 0 (by omega)
  refine ⟨fun a ha => ?_, by omega, fun hv u h1 h2 => ?_, fun hv => ?_⟩
  · rw [setP_out mp _ p a 16 (fun i hi => by omega)]
    exact h.free a (by omega)
  · unfold wantOf at hv
    split at hv
    · have := h.one; omega
    · rename_i hc
      have hv0 : v = 0 := hv
      by_cases hu : u < c
      · obtain ⟨i, hi, hm⟩ := h.none hv0 u h1 hu
        exact ⟨i, hi, keep _ hm⟩
      · exact gapfull u (by omega) h2 (fun hle => hc ⟨hv0, hle⟩)
  · unfold wantOf at hv ⊢
    split
    · rename_i hc
      refine ⟨fun u h1 h2 => ?_, fun i hi => ?_, by omega⟩
      · obtain ⟨i, hi, hm⟩ := h.none hc.1 u h1 h2
        exact ⟨i, hi, keep _ hm⟩
      · rw [hout _ (by omega)]
        exact h.free _ (by omega)
    · rename_i hc
      rw [if_neg hc] at hv
      obtain ⟨h1, h2, h3⟩ := h.some hv
      refine ⟨fun u a1 a2 => ?_, fun i hi => ?_, by omega⟩
      · obtain ⟨i, hi, hm⟩ := h1 u a1 a2
        exact ⟨i, hi, keep _ hm⟩
      · rw [hout _ (by omega)]
        exact h2 i hi

theorem and_3 (n : Int) : bits .and .i64 n 3 = n % 4 := i64_mask n 2 (by omega)
theorem and_31 (n : Int) : bits .and .i64 n 31 = n % 32 := i64_mask n 5 (by omega)

set_option maxRecDepth 100000 in
set_option maxHeartbeats 4000000 in
theorem gaps_core (w : World) (A : Option Addr) (len cap : Nat) (f : Nat → Int) (n : Int) (hl : len ≤ 9223372036854775807) (hs : SlI w A len f) :
    Calls Try.prog 3 #[.slice A len cap, .int .i64 n] w fun e w' => e = .returned (.bool true) ∧ Below w.heap.size w w' := by
  have hR : ∀ k, k < w.heap.size → k < w.heap.size := fun _ h => h
  obtain ⟨K, hK⟩ : ∃ K : Nat, n % 32 = K := ⟨(n % 32).toNat, by omega⟩
  have hKb := (and_31 n).trans hK
  have hK32 : K < 32 := by omega
  clear hK
  go_enter Try.func3, Try.ntmps3
  go_wp2_with fail
  refine (newMem_any (· < w.heap.size) w 1024 hR (by omega) (by omega)).mono ?_
  rintro e w1 ⟨M, rfl, h1, k1⟩
  have H1 := Lib.hid h1
  have K1 := Lib.hid k1
  have HS := Lib.hid hs
  clear h1 k1 hs
  go_wp2_with fail
  go_loopw [6, 7, 8] (fun at_ want o wr => ∃ (i c v m : Nat) (mp : Int → Option Pg), i ≤ len ∧ i ≤ 12 ∧ o = .int .i64 i ∧ c ≤ 1 + 4 * i ∧ v ≤ 49 ∧ m = 16 * i ∧ at_ = .int .u64 (65536 * (c : Int)) ∧ want = .int .u64 (65536 * (v : Int)) ∧ Gaps mp (K + 1) c v ∧ MemAt (· < w.heap.size) wr M m 1024 mp ∧ Kept (· < w.heap.size) w wr) (fun _ _ o _ => len - (intOf o).toNat)
  case atStart => exact ⟨0, 1, 0, 0, fun _ => none, by omega, by omega, rfl, by omega, by omega, rfl, rfl, rfl, ⟨fun _ _ => rfl, by omega, fun _ u h1 h2 => by omega, fun h => by omega⟩, H1.out, K1.out⟩
  case round =>
    obtain ⟨i, c, v, m, mp, hi, hi12, rfl, hc, hv49, rfl, rfl, rfl, hg, hm, hk⟩ := hrel
    have HG := Lib.hid hg
    have HM := Lib.hid hm
    have HK := Lib.hid hk
    have hc1 := hg.one
    clear hg hm hk H1 K1
    by_cases hlt : i < len ∧ i < 12
    · obtain ⟨hlt, hlt12⟩ := hlt
      obtain ⟨b, off, rfl, hbl, hr⟩ : ∃ b off, A = some ⟨b, off, none⟩ ∧ b < w.heap.size ∧ RowI w b off len f := by
        rcases HS.out with h | h
        · omega
        · exact h
      have hcq := (HK.out.cell (p := ⟨b, off + i, none⟩) hbl).trans (hr i hlt)
      clear hr
      obtain ⟨G, hG⟩ : ∃ G : Nat, f i % 4 = G := ⟨(f i % 4).toNat, by omega⟩
      have hGb := (and_3 (f i)).trans hG
      have hG4 : G ≤ 3 := by omega
      clear hG
      by_cases hv : v = 0
      · by_cases hw : K + 1 ≤ 16 * G
        · have e1 : ((65536 : Int) * v == 0) = true := by rw [beq_iff_eq]; omega
          have e2 : decide ((K : Int) + 1 ≤ 16 * G) = true := decide_eq_true (by omega)
          go_wp2_with fail
          rw [show (65536 * (c : Int) + G * 65536) = 65536 * ((c + G : Nat) : Int) by omega]
          refine (map_core (· < w.heap.size) wr M (16 * i) 1024 mp _ 1 16 (by omega) ⟨by omega, by omega, by omega, by omega⟩ (by omega) (by omega) (fun q hq => HG.out.free _ (by omega)) (by omega) HM.out).mono ?_
          rintro e w2 ⟨rfl, h2, k2⟩
          have H2 := Lib.hid h2
          have K2 := Lib.hid (HK.out.trans k2)
          have HST := Lib.hid (HG.out.step G 1 (by omega) (by omega))
          clear h2 k2 HM HK
          go_wp2
          go_roundw
          case rel => exact ⟨i + 1, c + G + 1, wantOf (K + 1) c v G, 16 * i + 16, _, by omega, by omega, by go_num, by omega, by unfold wantOf; split <;> omega, by omega, ret_u64 (by omega), ret_u64 (by unfold wantOf; rw [if_pos ⟨hv, hw⟩]), HST.out, H2.out, K2.out⟩
          case measure => simp [intOf]; omega

        · have e1 : ((65536 : Int) * v == 0) = true := by rw [beq_iff_eq]; omega
          have e2 : decide ((K : Int) + 1 ≤ 16 * G) = false := decide_eq_false (by omega)
          go_wp2_with fail
          rw [show (65536 * (c : Int) + G * 65536) = 65536 * ((c + G : Nat) : Int) by omega]
          refine (map_core (· < w.heap.size) wr M (16 * i) 1024 mp _ 1 16 (by omega) ⟨by omega, by omega, by omega, by omega⟩ (by omega) (by omega) (fun q hq => HG.out.free _ (by omega)) (by omega) HM.out).mono ?_
          rintro e w2 ⟨rfl, h2, k2⟩
          have H2 := Lib.hid h2
          have K2 := Lib.hid (HK.out.trans k2)
          have HST := Lib.hid (HG.out.step G 1 (by omega) (by omega))
          clear h2 k2 HM HK
          go_wp2
          go_roundw
          case rel => exact ⟨i + 1, c + G + 1, wantOf (K + 1) c v G, 16 * i + 16, _, by omega, by omega, by go_num, by omega, by unfold wantOf; split <;> omega, by omega, ret_u64 (by omega), ret_u64 (by unfold wantOf; rw [if_neg (fun h => hw h.2)]; omega), HST.out, H2.out, K2.out⟩
          case measure => simp [intOf]; omega

      · have e1 : ((65536 : Int) * v == 0) = false := by rw [beq_eq_false_iff_ne]; omega
        go_wp2_with fail
        rw [show (65536 * (c : Int) + G * 65536) = 65536 * ((c + G : Nat) : Int) by omega]
        refine (map_core (· < w.heap.size) wr M (16 * i) 1024 mp _ 1 16 (by omega) ⟨by omega, by omega, by omega, by omega⟩ (by omega) (by omega) (fun q hq => HG.out.free _ (by omega)) (by omega) HM.out).mono ?_
        rintro e w2 ⟨rfl, h2, k2⟩
        have H2 := Lib.hid h2
        have K2 := Lib.hid (HK.out.trans k2)
        have HST := Lib.hid (HG.out.step G 1 (by omega) (by omega))
        clear h2 k2 HM HK
        go_wp2
        go_roundw
        case rel => exact ⟨i + 1, c + G + 1, wantOf (K + 1) c v G, 16 * i + 16, _, by omega, by omega, by go_num, by omega, by unfold wantOf; split <;> omega, by omega, ret_u64 (by omega), ret_u64 (by unfold wantOf; rw [if_neg (fun h => hv h.1)]), HST.out, H2.out, K2.out⟩
        case measure => simp [intOf]; omega

    · have hor : len ≤ i ∨ (i < len ∧ 12 ≤ i) := by omega
      clear hlt HS
      by_cases hv : v = 0
      · have e1 : ((65536 : Int) * v == 0) = true := by rw [beq_iff_eq]; omega
        have HU := Lib.hid (HG.out.none hv)
        have HF := Lib.hid (fun (q : Nat) (hq : q < K + 1) => HG.out.free (65536 * (c : Int) + q * 4096) (by omega))
        rcases hor with hx | ⟨hx, hx'⟩
        all_goals
          go_wp2_with fail
          rw [show ((K : Int) + 1) = ((K + 1 : Nat) : Int) by omega]
          refine (find_yes (· < w.heap.size) wr M (16 * i) 1024 mp (K + 1) (c - 1) (by omega) (by omega) ⟨by omega, by omega, by omega, by omega, by omega, fun q hq => by rw [show (65536 * (((c - 1 : Nat) : Int) + 1)) = 65536 * (c : Int) by omega]; exact HF.out q (by omega)⟩ (by omega) (fun q hq h => by obtain ⟨j, hj, hm⟩ := HU.out (q + 1) (by omega) (by omega); exact hm (by have := h.2.2.2.2.2 j (by omega); rw [show (65536 * ((q + 1 : Nat) : Int)) = 65536 * ((q : Int) + 1) by omega]; exact this)) HM.out).mono ?_
          rintro e w2 ⟨rfl, n2, rfl⟩
          rw [show (65536 * (((c - 1 : Nat) : Int) + 1)) = 65536 * (c : Int) by omega]
          have H2 := Lib.hid (HM.out.drewN n2)
          have K2 := Lib.hid (show Kept (· < w.heap.size) w (wr.drewN n2) from HK.out.trans ⟨rfl, rfl, rfl, Nat.le_refl _, fun _ _ => rfl⟩)
          clear HM HK
          generalize wr.drewN n2 = W2 at *
          go_wp2_with fail
          rw [show ((K : Int) + 1) = ((K + 1 : Nat) : Int) by omega]
          refine (is_yes (· < w.heap.size) W2 M _ 1024 mp _ (K + 1) ⟨by omega, by omega, by omega, by omega, by omega, fun q hq => HF.out q (by omega)⟩ H2.out).mono ?_
          rintro e w3 ⟨rfl, n3, rfl⟩
          have K3 := Lib.hid (show Kept (· < w.heap.size) w (W2.drewN n3) from K2.out.trans ⟨rfl, rfl, rfl, Nat.le_refl _, fun _ _ => rfl⟩)
          clear H2 K2
          generalize W2.drewN n3 = W3 at *
          go_wp2_with fail
          refine (awake4_any _).mono ?_
          rintro e w4 ⟨rfl, hb4⟩
          have hb5 := (K3.out.below (fun _ h => h)).trans (hb4.mono K3.out.size)
          clear hb4 K3
          go_wp2
          go_ret
          exact ⟨rfl, by go_grown⟩

      · have e1 : ((65536 : Int) * v == 0) = false := by rw [beq_eq_false_iff_ne]; omega
        obtain ⟨u1, u2, u3⟩ := HG.out.some hv
        have HU := Lib.hid u1
        have HF := Lib.hid u2
        clear u1 u2
        rcases hor with hx | ⟨hx, hx'⟩
        all_goals
          go_wp2_with fail
          rw [show ((K : Int) + 1) = ((K + 1 : Nat) : Int) by omega]
          refine (find_yes (· < w.heap.size) wr M (16 * i) 1024 mp (K + 1) (v - 1) (by omega) (by omega) ⟨by omega, by omega, by omega, by omega, by omega, fun q hq => by rw [show (65536 * (((v - 1 : Nat) : Int) + 1)) = 65536 * (v : Int) by omega]; exact HF.out q (by omega)⟩ (by omega) (fun q hq h => by obtain ⟨j, hj, hm⟩ := HU.out (q + 1) (by omega) (by omega); exact hm (by have := h.2.2.2.2.2 j (by omega); rw [show (65536 * ((q + 1 : Nat) : Int)) = 65536 * ((q : Int) + 1) by omega]; exact this)) HM.out).mono ?_
          rintro e w2 ⟨rfl, n2, rfl⟩
          rw [show (65536 * (((v - 1 : Nat) : Int) + 1)) = 65536 * (v : Int) by omega]
          have H2 := Lib.hid (HM.out.drewN n2)
          have K2 := Lib.hid (show Kept (· < w.heap.size) w (wr.drewN n2) from HK.out.trans ⟨rfl, rfl, rfl, Nat.le_refl _, fun _ _ => rfl⟩)
          clear HM HK
          generalize wr.drewN n2 = W2 at *
          go_wp2_with fail
          rw [show ((K : Int) + 1) = ((K + 1 : Nat) : Int) by omega]
          refine (is_yes (· < w.heap.size) W2 M _ 1024 mp _ (K + 1) ⟨by omega, by omega, by omega, by omega, by omega, fun q hq => HF.out q (by omega)⟩ H2.out).mono ?_
          rintro e w3 ⟨rfl, n3, rfl⟩
          have K3 := Lib.hid (show Kept (· < w.heap.size) w (W2.drewN n3) from K2.out.trans ⟨rfl, rfl, rfl, Nat.le_refl _, fun _ _ => rfl⟩)
          clear H2 K2
          generalize W2.drewN n3 = W3 at *
          go_wp2_with fail
          refine (awake4_any _).mono ?_
          rintro e w4 ⟨rfl, hb4⟩
          have hb5 := (K3.out.below (fun _ h => h)).trans (hb4.mono K3.out.size)
          clear hb4 K3
          go_wp2
          go_ret
          exact ⟨rfl, by go_grown⟩

end Go.Proofs.Ytlifaldbdjcgjaa
