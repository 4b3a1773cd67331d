/- VmemGuards: the law. -/
import Derived.Test.YtlifaldbdjcgjaaVguardsA
import Derived.Test.YtlifaldbdjcgjaaVspansA
namespace Go.Proofs.Ytlifaldbdjcgjaa
open Go.ChangeShapes Go.WideShapes Go.ChangeAt Go.RowKit
open Go.Maps (Keyed)
set_option linter.unusedVariables false

/-- The first k pages are there. -/
structure Built (mp : Int → Option Pg) (k : Nat) (d : Nat → Int) : Prop where
  page : ∀ i : Nat, i < k → ∃ g, mp (4096 * ((i : Int) + 1)) = some g ∧ g.prot = 7 + 8 * d i
  prot : ∀ x g, mp x = some g → 0 ≤ g.prot ∧ g.prot ≤ 15
  free : ∀ i : Int, 4096 * ((k : Int) + 1) ≤ i → mp i = none

def bitOf (which : Int) (i : Nat) : Int := which / 2 ^ i % 2
theorem and_bit (which : Int) (i : Nat) : bits .and .i64 (which / 2 ^ i) 1 = bitOf which i := i64_mask _ 1 (by omega)
theorem bitOf_01 (which : Int) (i : Nat) : 0 ≤ bitOf which i ∧ bitOf which i ≤ 1 := by unfold bitOf; omega

theorem Built.next {mp : Int → Option Pg} {k : Nat} {d : Nat → Int} (h : Built mp k d) (p : Int) (hp : p = 7 + 8 * d k) (h0 : 0 ≤ p ∧ p ≤ 15) : Built (setP mp (4096 * ((k : Int) + 1)) p 1) (k + 1) d := by
  have e : setP mp (4096 * ((k : Int) + 1)) p 1 = upd mp (4096 * ((k : Int) + 1)) (some ⟨p, fun _ => 0⟩) := by
    show upd mp (4096 * ((k : Int) + 1) + ((0 : Nat) : Int) * 4096) _ = _
    rw [show 4096 * ((k : Int) + 1) + ((0 : Nat) : Int) * 4096 = 4096 * ((k : Int) + 1) by omega]
  rw [e]
  refine ⟨fun i hi => ?_, fun x g hx => ?_, fun i hi => ?_⟩
  · by_cases c : i = k
    · subst c; exact ⟨_, upd_same _ _ _, hp⟩
    · obtain ⟨g, h1, h2⟩ := h.page i (by omega)
      exact ⟨g, by rw [upd_other _ _ (by omega)]; exact h1, h2⟩
  · by_cases c : x = 4096 * ((k : Int) + 1)
    · rw [c, upd_same] at hx; cases hx; exact h0
    · rw [upd_other _ _ c] at hx; exact h.prot x g hx
  · rw [upd_other _ _ (by omega)]
    exact h.free i (by omega)

theorem cnt_snoc (d : Nat → Int) (a : Int) (k : Nat) (h0 : 0 ≤ a) (h : a ≤ k) (hk : k < 3) : cnt d a k = cnt d a ((k : Int) - 1) + d k := by
  unfold cnt
  rcases (by omega : k = 0 ∨ k = 1 ∨ k = 2) with rfl | rfl | rfl <;> (repeat' split) <;> simp_all <;> omega

set_option maxRecDepth 100000 in
set_option maxHeartbeats 4000000 in
theorem guards_core (w : World) (which at' n' kind : Int) :
    Calls Try.prog 7 #[.int .i64 which, .int .i64 at', .int .i64 n', .int .i64 kind] w fun e w' => e = .returned (.bool true) ∧ Below w.heap.size w w' := by
  have hR : ∀ k, k < w.heap.size → k < w.heap.size := fun _ h => h
  obtain ⟨K, hK⟩ : ∃ K : Nat, at' % 65536 = K := ⟨(at' % 65536).toNat, by omega⟩
  have hKb := (and_65535 at').trans hK
  obtain ⟨T, hT⟩ : ∃ T : Nat, (K : Int) % 12288 = T := ⟨K % 12288, by omega⟩
  have hT3 : T < 12288 := by omega
  obtain ⟨J, hJ⟩ : ∃ J : Nat, n' % 65536 = J := ⟨(n' % 65536).toNat, by omega⟩
  have hJb := (and_65535 n').trans hJ
  obtain ⟨L, hLm⟩ : ∃ L : Nat, J % (12288 - T) = L := ⟨_, rfl⟩
  have hL : Int.tmod (J : Int) (12288 - (T : Int)) = L := by rw [show (12288 - (T : Int)) = ((12288 - T : Nat) : Int) by omega, ← hLm]; rfl
  have hL2 : T + (L + 1) ≤ 12288 := by
    have := Nat.mod_lt J (show 0 < 12288 - T by omega)
    omega
  clear hLm hK hJ
  have hwb := and_bit which
  go_enter Try.func7, Try.ntmps7
  go_wp2_with fail
  refine (newMem_any (· < w.heap.size) w 3 hR (by omega) (by omega)).mono ?_
  rintro e w1 ⟨M, rfl, h1, k1⟩
  have H1 := Lib.hid h1
  have K1 := Lib.hid k1
  clear h1 k1
  go_wp2_with fail
  go_loopw [10] (fun o wr => ∃ i : Nat, i ≤ 3 ∧ o = .int .i64 i ∧ ∃ mp, MemAt (· < w.heap.size) wr M i 3 mp ∧ Built mp i (bitOf which) ∧ Kept (· < w.heap.size) w wr) (fun o _ => 3 - (intOf o).toNat)
  case atStart => exact ⟨0, by omega, rfl, _, H1.out, ⟨fun i hi => by omega, fun x g h => by (cases h), fun _ _ => rfl⟩, K1.out⟩
  case round =>
    obtain ⟨i, hi, rfl, mp, hm, hb, hk⟩ := hrel
    have HM := Lib.hid hm
    have HK := Lib.hid hk
    have HB := Lib.hid hb
    clear hm hk hb
    have hb01 := bitOf_01 which i
    by_cases hlt : i < 3
    · by_cases c : bitOf which i = 1
      all_goals
        go_wp2_with fail
        refine (map_core (· < w.heap.size) wr M i 3 mp (4096 * ((i : Int) + 1)) _ 1 (by omega) ⟨by omega, by omega, by omega, by omega⟩ (by omega) (by omega) (fun j hj => HB.out.free _ (by omega)) (by omega) HM.out).mono ?_
        rintro e w2 ⟨rfl, h2, k2⟩
        have H2 := Lib.hid h2
        have K2 := Lib.hid (HK.out.trans k2)
        clear h2 k2
        go_wp2_with fail
        go_roundw
        case rel => exact ⟨i + 1, by omega, by go_num, _, H2.out, HB.out.next _ (by omega) (by omega), K2.out⟩
        case measure => simp [intOf]; omega
    · obtain rfl : i = 3 := by omega
      clear hb01 hlt hi
      have HG : Hid (G3 mp (bitOf which)) := ⟨fun i => bitOf_01 which i, fun i hi => HB.out.page i hi, HB.out.prot⟩
      clear HB H1 K1
      go_wp2_with fail
      obtain ⟨P, hP⟩ : ∃ P : Nat, (T : Int) / 4096 = P := ⟨T / 4096, by omega⟩
      obtain ⟨Q, hQ⟩ : ∃ Q : Nat, ((T : Int) + (L + 1) - 1) / 4096 = Q := ⟨(T + L) / 4096, by omega⟩
      obtain ⟨C, hC⟩ : ∃ C : Nat, cnt (bitOf which) P Q = C := ⟨(cnt (bitOf which) P Q).toNat, by have := cnt_bound (bitOf which) (bitOf_01 which) P Q; omega⟩
      have hC3 := (cnt_bound (bitOf which) (bitOf_01 which) P Q).2
      rw [hC] at hC3
      have HCC := Lib.hid hC
      have HPQ := Lib.hid (And.intro hP hQ)
      clear hC
      go_loopw [12, 13] (fun l o w2 => ∃ i : Nat, P ≤ i ∧ i ≤ Q + 1 ∧ o = .int .i64 i ∧ l = .int .i64 (cnt (bitOf which) P ((i : Int) - 1)) ∧ w2 = wr) (fun _ o _ => 3 - (intOf o).toNat)
      case atStart => exact ⟨P, by omega, by omega, by simp [hP], by rw [cnt_end _ _ _ (by omega)], rfl⟩
      case round =>
        obtain ⟨i, hi, hi2, rfl, rfl, rfl⟩ := hrel
        have hb1 := bitOf_01 which i
        have hb2 := cnt_bound (bitOf which) (bitOf_01 which) P ((i : Int) - 1)
        obtain ⟨hb10, hb11⟩ := hb1
        obtain ⟨hb20, hb21⟩ := hb2
        by_cases hlt : i ≤ Q
        · have hs := Lib.hid (cnt_snoc (bitOf which) P i (by omega) (by omega) (by omega))
          go_wp2_with fail
          go_roundw
          case rel => exact ⟨i + 1, by omega, by omega, by go_num, by rw [show ((i + 1 : Nat) : Int) - 1 = i by omega, hs.out], by first | rfl | trivial⟩
          case measure => simp [intOf]; omega
        · obtain rfl : i = Q + 1 := by omega
          have hQ1 : cnt (bitOf which) P (((Q + 1 : Nat) : Int) - 1) = C := by rw [show ((Q + 1 : Nat) : Int) - 1 = Q by omega]; exact HCC.out
          rw [hQ1]
          clear hb20 hb21 hb10 hb11 hi hi2 hQ1
          go_wp2_with fail
          have hdd : decide ((Q : Int) + 1 ≤ Q) = false := decide_eq_false (by omega)
          simp only [hT, hdd, Int.natCast_add, Int.natCast_one, Int.cast_ofNat_Int]
          clear hlt hwb hP hQ hT hdd
          go_loopw [14] (fun o w2 => ∃ i : Nat, i ≤ C + 1 ∧ o = .int .i64 i ∧ (∃ mp, MemAt (· < w.heap.size) w2 M 3 3 mp ∧ (i ≤ C → ∃ d, G3 mp d ∧ cnt d P Q = (C : Int) - i)) ∧ Kept (· < w.heap.size) w w2) (fun o _ => 5 - (intOf o).toNat)
          case atStart => exact ⟨0, by omega, rfl, ⟨_, HM.out, fun _ => ⟨_, HG.out, by rw [HCC.out]; simp⟩⟩, HK.out⟩
          case round =>
            obtain ⟨i, hi, rfl, hm, hk⟩ := hrel
            have HK2 := Lib.hid hk
            have HMM := Lib.hid hm
            clear hm hk HM HG HK
            by_cases hlt : i ≤ C
            · obtain ⟨mp, hm, hd⟩ := HMM.out
              obtain ⟨d, hg, hcn⟩ := hd hlt
              have HPR := Lib.hid hg.prot
              obtain ⟨R2, s2, b2, h2⟩ := hm.block (.cells #[.int .i64 0, .int .u64 0] 45)
              have H2 := Lib.hid h2
              have S2 := Lib.hid s2
              have B2 := Lib.hid b2
              have O2 := Lib.hid (own_fault wr 0 0 45)
              have K2 := Lib.hid (HK2.out.alloc hR (.cells #[.int .i64 0, .int .u64 0] 45))
              have HB2 : Hid (¬ wr.heap.size < w.heap.size) := by have := HK2.out.size; exact fun h => by omega
              have HG := Lib.hid hg
              have HCN := Lib.hid hcn
              obtain ⟨kd, hkd⟩ : ∃ kd, bits .and .i64 kind 3 = kd := ⟨_, rfl⟩
              have hL1 : ((L + 1 : Nat) : Int) = (L : Int) + 1 := by omega
              clear hm hd hg hcn h2 s2 b2
              by_cases c0 : kd = 0
              · subst c0
                have ht := ask3 HG.out 1 2 (by omega) (L + 1) T (L + 1) (by omega) (by omega) (by omega) (by omega)
                have hc := read_q R2 _ M 3 3 mp (4096 + T) (L + 1) (by omega) (by omega) (by omega) HPR.out H2.out
                rw [HPQ.out.1, HPQ.out.2] at ht
                unfold Told at ht
                obtain ⟨r, hr⟩ : ∃ r, askS mp 1 2 (L + 1) (4096 + T) (L + 1) = r := ⟨_, rfl⟩
                rw [hL1] at hc
                rw [hr] at ht hc
                clear hr
                obtain ⟨r1, r2, r3⟩ := r
                simp only [HCN.out] at ht
                rcases ht with ⟨q1, q2⟩ | ⟨q1, q2, d', q3, q4, q5⟩
                · obtain ⟨rfl, rfl, rfl⟩ : r1 = 0 ∧ r2 = 0 ∧ r3 = none := by simpa using q2
                  have hiC : i = C := by omega
                  subst hiC
                  have HC := Lib.hid hc
                  clear hc q1 q2
                  go_wp2_with fail
                  refine HC.out.mono ?_
                  rintro e w3 ⟨v, rfl, h3, k3⟩
                  have H3 := Lib.hid h3
                  have K3 := Lib.hid (K2.out.trans (k3.mono S2.out))
                  have HO3 := Lib.hid (k3.own O2.out B2.out)
                  have o0 := HO3.out.cell (i := 0) (by omega)
                  have o1 := HO3.out.cell (i := 1) (by omega)
                  have z0 := HO3.out.frozen (i := 0) (by omega)
                  have z1 := HO3.out.frozen (i := 1) (by omega)
                  simp only [if_pos, if_neg, Nat.one_ne_zero] at o0 o1
                  clear h3 k3
                  go_wp2_with fail
                  go_roundw
                  case rel => exact ⟨i + 1, by omega, by go_num, ⟨_, ((H3.out.setFar B2.out _).setFar B2.out _).weaken S2.out, fun h => by omega⟩, (K3.out.setCell HB2.out _).setCell HB2.out _⟩
                  case measure => simp [intOf]; omega
                · subst q2
                  have hiC : i < C := by omega
                  have HC := Lib.hid hc
                  have Q4 := Lib.hid q4
                  have Q5 := Lib.hid q5
                  clear hc q1 q3 q4 q5 hlt
                  go_wp2_with fail
                  refine HC.out.mono ?_
                  rintro e w3 ⟨v, rfl, h3, k3⟩
                  have H3 := Lib.hid h3
                  have K3 := Lib.hid (K2.out.trans (k3.mono S2.out))
                  have HO3 := Lib.hid (k3.own O2.out B2.out)
                  have o0 := HO3.out.cell (i := 0) (by omega)
                  have o1 := HO3.out.cell (i := 1) (by omega)
                  have z0 := HO3.out.frozen (i := 0) (by omega)
                  have z1 := HO3.out.frozen (i := 1) (by omega)
                  simp only [if_pos, if_neg, Nat.one_ne_zero] at o0 o1
                  clear h3 k3
                  go_wp2_with fail
                  go_roundw
                  case rel => exact ⟨i + 1, by omega, by go_num, ⟨_, ((H3.out.setFar B2.out _).setFar B2.out _).weaken S2.out, fun _ => ⟨d', Q4.out, by rw [Q5.out]; omega⟩⟩, (K3.out.setCell HB2.out _).setCell HB2.out _⟩
                  case measure => simp [intOf]; omega
              · by_cases c1 : kd = 1
                · subst c1
                  have ht := ask3 HG.out 4 4 (by omega) (L + 1) T (L + 1) (by omega) (by omega) (by omega) (by omega)
                  have hc := run_q R2 _ M 3 3 mp (4096 + T) (L + 1) (by omega) (by omega) (by omega) HPR.out H2.out
                  rw [HPQ.out.1, HPQ.out.2] at ht
                  unfold Told at ht
                  obtain ⟨r, hr⟩ : ∃ r, askS mp 4 4 (L + 1) (4096 + T) (L + 1) = r := ⟨_, rfl⟩
                  rw [hL1] at hc
                  rw [hr] at ht hc
                  clear hr
                  obtain ⟨r1, r2, r3⟩ := r
                  simp only [HCN.out] at ht
                  rcases ht with ⟨q1, q2⟩ | ⟨q1, q2, d', q3, q4, q5⟩
                  · obtain ⟨rfl, rfl, rfl⟩ : r1 = 0 ∧ r2 = 0 ∧ r3 = none := by simpa using q2
                    have hiC : i = C := by omega
                    subst hiC
                    have HC := Lib.hid hc
                    clear hc q1 q2
                    go_wp2_with fail
                    refine HC.out.mono ?_
                    rintro e w3 ⟨v, rfl, h3, k3⟩
                    have H3 := Lib.hid h3
                    have K3 := Lib.hid (K2.out.trans (k3.mono S2.out))
                    have HO3 := Lib.hid (k3.own O2.out B2.out)
                    have o0 := HO3.out.cell (i := 0) (by omega)
                    have o1 := HO3.out.cell (i := 1) (by omega)
                    have z0 := HO3.out.frozen (i := 0) (by omega)
                    have z1 := HO3.out.frozen (i := 1) (by omega)
                    simp only [if_pos, if_neg, Nat.one_ne_zero] at o0 o1
                    clear h3 k3
                    go_wp2_with fail
                    go_roundw
                    case rel => exact ⟨i + 1, by omega, by go_num, ⟨_, ((H3.out.setFar B2.out _).setFar B2.out _).weaken S2.out, fun h => by omega⟩, (K3.out.setCell HB2.out _).setCell HB2.out _⟩
                    case measure => simp [intOf]; omega
                  · subst q2
                    have hiC : i < C := by omega
                    have HC := Lib.hid hc
                    have Q4 := Lib.hid q4
                    have Q5 := Lib.hid q5
                    clear hc q1 q3 q4 q5 hlt
                    go_wp2_with fail
                    refine HC.out.mono ?_
                    rintro e w3 ⟨v, rfl, h3, k3⟩
                    have H3 := Lib.hid h3
                    have K3 := Lib.hid (K2.out.trans (k3.mono S2.out))
                    have HO3 := Lib.hid (k3.own O2.out B2.out)
                    have o0 := HO3.out.cell (i := 0) (by omega)
                    have o1 := HO3.out.cell (i := 1) (by omega)
                    have z0 := HO3.out.frozen (i := 0) (by omega)
                    have z1 := HO3.out.frozen (i := 1) (by omega)
                    simp only [if_pos, if_neg, Nat.one_ne_zero] at o0 o1
                    clear h3 k3
                    go_wp2_with fail
                    go_roundw
                    case rel => exact ⟨i + 1, by omega, by go_num, ⟨_, ((H3.out.setFar B2.out _).setFar B2.out _).weaken S2.out, fun _ => ⟨d', Q4.out, by rw [Q5.out]; omega⟩⟩, (K3.out.setCell HB2.out _).setCell HB2.out _⟩
                    case measure => simp [intOf]; omega
                · go_wp2_with (at_make; refine wpList_make_bytes _ rfl (.tmp 73) (.tmp 73) 43 rfl 5 (.int .u8 0) 1 (by kernel_rfl) (by kernel_rfl) rfl .i64 .i64 (L + 1) (by simp [Act.eval, Act.put]) (by simp [Act.eval, Act.put]) (by omega) (by omega) ?_; intro w1 hw1 ho1)
                  have h4 := H2.out.more hw1
                  obtain ⟨R3, hR3⟩ : ∃ R3 : Nat → Prop, R3 = fun k => R2 k ∨ ((wr.alloc (.cells #[.int .i64 0, .int .u64 0] 45)).heap.size ≤ k ∧ k < w1.heap.size) := ⟨_, rfl⟩
                  rw [← hR3] at h4
                  have hsz : (wr.alloc (.cells #[.int .i64 0, .int .u64 0] 45)).heap.size = wr.heap.size + 1 := by simp
                  have HG3 : Hid (R3 (wr.heap.size + 1)) := by rw [hR3]; exact .inr ⟨by rw [hsz]; exact Nat.le_refl _, by have := ho1.1; rwa [hsz] at this⟩
                  have HS3 : Hid (∀ k, R2 k → R3 k) := by rw [hR3]; exact fun k hk => .inl hk
                  have K4 := Lib.hid (K2.out.trans (Kept.of_below hw1 (fun k hk => Nat.lt_of_lt_of_le (hR k hk) K2.out.size)))
                  have HOF := Lib.hid (O2.out.below hw1 (by simp))
                  rw [hsz] at ho1
                  have HO1 := Lib.hid ho1
                  have H4 := Lib.hid h4
                  clear h4 hw1 ho1 hR3 hsz
                  have ht := ask3 HG.out 2 3 (by omega) (L + 1) T (L + 1) (by omega) (by omega) (by omega) (by omega)
                  have hc := write_q R3 w1 M 3 3 mp (4096 + T) (some ⟨wr.heap.size + 1, 0, none⟩) (L + 1) (L + 1) (fun _ => 0) (by omega) (by omega) (by omega) (by omega) (by omega) (.inr ⟨_, 0, rfl, HG3.out, fun j hj => by rw [Nat.zero_add]; exact HO1.out.cell hj⟩) HPR.out H4.out
                  rw [HPQ.out.1, HPQ.out.2] at ht
                  unfold Told at ht
                  obtain ⟨r, hr⟩ : ∃ r, askS mp 2 3 (L + 1) (4096 + T) (L + 1) = r := ⟨_, rfl⟩
                  unfold wroteM at hc
                  rw [hL1] at hc
                  rw [hr] at ht hc
                  clear hr
                  obtain ⟨r1, r2, r3⟩ := r
                  simp only [HCN.out] at ht
                  rcases ht with ⟨q1, q2⟩ | ⟨q1, q2, d', q3, q4, q5⟩
                  · obtain ⟨rfl, rfl, rfl⟩ : r1 = 0 ∧ r2 = 0 ∧ r3 = none := by simpa using q2
                    have hiC : i = C := by omega
                    subst hiC
                    have HC := Lib.hid hc
                    clear hc q1 q2
                    go_wp2_with fail
                    refine HC.out.mono ?_
                    rintro e w3 ⟨rfl, h3, k3⟩
                    have H3 := Lib.hid h3
                    have K3 := Lib.hid (K4.out.trans (k3.mono (fun k hk => HS3.out k (S2.out k hk))))
                    have HO3 := Lib.hid (k3.own HOF.out (HS3.out _ B2.out))
                    have o0 := HO3.out.cell (i := 0) (by omega)
                    have o1 := HO3.out.cell (i := 1) (by omega)
                    have z0 := HO3.out.frozen (i := 0) (by omega)
                    have z1 := HO3.out.frozen (i := 1) (by omega)
                    simp only [if_pos, if_neg, Nat.one_ne_zero] at o0 o1
                    clear h3 k3
                    go_wp2_with fail
                    go_roundw
                    case rel => exact ⟨i + 1, by omega, by go_num, ⟨_, ((H3.out.setFar (HS3.out _ B2.out) _).setFar (HS3.out _ B2.out) _).weaken (fun k hk => HS3.out k (S2.out k hk)), fun h => by omega⟩, (K3.out.setCell HB2.out _).setCell HB2.out _⟩
                    case measure => simp [intOf]; omega
                  · subst q2
                    have hiC : i < C := by omega
                    have HC := Lib.hid hc
                    have Q4 := Lib.hid q4
                    have Q5 := Lib.hid q5
                    clear hc q1 q3 q4 q5 hlt
                    go_wp2_with fail
                    refine HC.out.mono ?_
                    rintro e w3 ⟨rfl, h3, k3⟩
                    have H3 := Lib.hid h3
                    have K3 := Lib.hid (K4.out.trans (k3.mono (fun k hk => HS3.out k (S2.out k hk))))
                    have HO3 := Lib.hid (k3.own HOF.out (HS3.out _ B2.out))
                    have o0 := HO3.out.cell (i := 0) (by omega)
                    have o1 := HO3.out.cell (i := 1) (by omega)
                    have z0 := HO3.out.frozen (i := 0) (by omega)
                    have z1 := HO3.out.frozen (i := 1) (by omega)
                    simp only [if_pos, if_neg, Nat.one_ne_zero] at o0 o1
                    clear h3 k3
                    go_wp2_with fail
                    go_roundw
                    case rel => exact ⟨i + 1, by omega, by go_num, ⟨_, ((H3.out.setFar (HS3.out _ B2.out) _).setFar (HS3.out _ B2.out) _).weaken (fun k hk => HS3.out k (S2.out k hk)), fun _ => ⟨d', Q4.out, by rw [Q5.out]; omega⟩⟩, (K3.out.setCell HB2.out _).setCell HB2.out _⟩
                    case measure => simp [intOf]; omega
            · obtain rfl : i = C + 1 := by omega
              go_wp2_with fail
              refine (awake3_any wr).mono ?_
              rintro e w9 ⟨rfl, hb⟩
              have hb2 := (HK2.out.below (fun k hk => hk)).trans (hb.mono HK2.out.size)
              clear hb
              go_wp2
              go_ret
              exact ⟨rfl, by go_grown⟩
end Go.Proofs.Ytlifaldbdjcgjaa
