/- VmemSpans: the law, case G. -/
import Derived.Test.YtlifaldbdjcgjaaVspansA
namespace Go.Proofs.Ytlifaldbdjcgjaa
open Go.ChangeShapes Go.WideShapes Go.ChangeAt Go.RowKit
open Go.Maps (Keyed)
set_option linter.unusedVariables false
set_option linter.unusedSimpArgs false
set_option maxRecDepth 100000 in
set_option maxHeartbeats 4000000 in
theorem spans_G (w : World) (at' : Int) (A : Option Addr) (len cap : Nat) (h : Nat → Int) (hl : len ≤ cap) (hc : cap ≤ 9223372036854775807) (hs : SlB w A len h) (h9 : ¬ 9000 < len) (hl0 : ¬ len = 0) (hcase : ∀ K T : Nat, at' % 65536 = K → K % (12289 - len) = T → 4096 < T + len ∧ T < 8192) :
    Calls Try.prog 9 #[.int .i64 at', .slice A len cap, .bool true] w fun e w' => e = .returned (.bool true) ∧ Below w.heap.size w w' := by
  have hR : ∀ k, k < w.heap.size → k < w.heap.size := fun _ h => h
  have HS := Lib.hid hs
  clear hs
  obtain ⟨K, hK⟩ : ∃ K : Nat, at' % 65536 = K := ⟨(at' % 65536).toNat, by omega⟩
  have hKb := (and_65535 at').trans hK
  have hD : (12289 - (len : Int)) = ((12289 - len : Nat) : Int) := by omega
  obtain ⟨T, hTm⟩ : ∃ T : Nat, K % (12289 - len) = T := ⟨_, rfl⟩
  have hT : Int.tmod (K : Int) (12289 - (len : Int)) = T := by rw [hD, ← hTm]; rfl
  have hT2 : T + len ≤ 12288 := by
    have := Nat.mod_lt K (show 0 < 12289 - len by omega)
    omega
  have HTM := Lib.hid hTm
  clear hTm
  have hcc := hcase K T hK HTM.out
  clear hK hD hcase
  go_enter Try.func9, Try.ntmps9
  go_wp2_with fail
  refine (newMem_any (· < w.heap.size) w 3 hR (by omega) (by omega)).mono ?_
  rintro e w1 ⟨M, rfl, h1, k1⟩
  have H1 := Lib.hid h1
  have K1 := Lib.hid k1
  clear h1 k1
  obtain ⟨c0, c2⟩ := hcc
  have d3 : ¬ (T : Int) + (len : Int) ≤ 4096 := by omega
  have d4 : ¬ (8192 : Int) ≤ (T : Int) := by omega
  have d1 : decide ((T : Int) + (len : Int) ≤ 4096) = false := decide_eq_false (by omega)
  have d2 : decide ((8192 : Int) ≤ (T : Int)) = false := decide_eq_false (by omega)
  have d5 : ((len : Int) == 0) = false := by simp; omega
  go_wp2_with fail
  refine (map_core (· < w.heap.size) w1 M 0 3 _ 4096 0 3 (by omega) ⟨by omega, by omega, by omega, by omega⟩ (by omega) (by omega) (fun _ _ => rfl) (by omega) H1.out).mono ?_
  rintro e w2 ⟨rfl, h2, k2⟩
  have H2 := Lib.hid h2
  have K2 := Lib.hid (K1.out.trans k2)
  clear h2 k2 H1 K1
  go_wp2_with fail
  refine (unmap_yes (· < w.heap.size) w2 M (0 + 3) 3 _ 8192 1 (by omega) ⟨by omega, by omega, by omega, by omega⟩ (fun i hi => by rw [show (8192 : Int) + i * 4096 = 4096 * (((1 : Nat) : Int) + 1) by omega, setP_three 1 (by omega)]; simp) H2.out).mono ?_
  rintro e W4 ⟨rfl, h4, k4⟩
  have H4 : Hid (MemAt (· < w.heap.size) W4 M (0 + 3 - 1) 3 (mpS true)) := by rw [mpS]; exact h4
  have K4 := Lib.hid (K2.out.trans k4)
  clear h4 k4 H2 K2
  go_wp2_with fail
  refine (poke_no (· < w.heap.size) W4 M (0 + 3 - 1) 3 (mpS true) (4096 + T) A len cap (by omega) (by omega) (by omega) (spans_out T len (by omega) (by omega) (by omega)) H4.out).mono ?_
  rintro e w5 ⟨rfl, n5, rfl⟩
  have H5 : Hid (MemAt (· < w.heap.size) (W4.drewN n5) M (0 + 3 - 1) 3 (mpT true false T len h)) := H4.out.drewN n5
  have K5 := Lib.hid (K4.out.trans (Kept.drewN _ W4 n5))
  clear H4 K4
  generalize W4.drewN n5 = W5 at *
  go_wp2_with fail
  try simp only [d1, d2, d5]
  clear d1 d2 d3 d4
  go_loopw [9] (fun o wr => ∃ i : Nat, i ≤ 3 ∧ o = .int .i64 i ∧ MemAt (· < w.heap.size) wr M (0 + 3 - 1) 3 (mpT true false T len h) ∧ Kept (· < w.heap.size) w wr) (fun o _ => 3 - (intOf o).toNat)
  case atStart => exact ⟨0, by omega, rfl, H5.out, K5.out⟩
  case round =>
    obtain ⟨i, hi, rfl, hm, hk⟩ := hrel
    have HM := Lib.hid hm
    have HK := Lib.hid hk
    clear hm hk H5 K5
    by_cases hlt : i < 3
    · by_cases hi1 : i = 1
      · subst hi1
        go_wp2_with fail
        refine (peek_no (· < w.heap.size) wr M (0 + 3 - 1) 3 (mpT true false T len h) (4096 * (((1 : Nat) : Int) + 1)) 4096 (by omega) (by omega) (by omega) (mpT_out false T len h) HM.out).mono ?_
        rintro e w6 ⟨rfl, n6, rfl⟩
        have HM6 := Lib.hid (HM.out.drewN n6)
        have HK6 := Lib.hid (HK.out.trans (Kept.drewN _ wr n6))
        clear HM HK
        generalize wr.drewN n6 = W6 at *
        go_wp2_with fail
        go_loopw [12] (fun o w7 => o = .int .i64 0 ∧ w7 = W6) (fun o _ => 0)
        case atStart => exact ⟨rfl, rfl⟩
        case round =>
          obtain ⟨rfl, rfl⟩ := hrel
          go_wp2
          go_roundw
          case rel => exact ⟨2, by omega, rfl, HM6.out, HK6.out⟩
          case measure => simp [intOf]
      · have HI1 := Lib.hid hi1
        have hi2 : ((i : Int) == 1) = false := by simp; omega
        go_wp2_with fail
        refine (peek_yes (· < w.heap.size) wr M (0 + 3 - 1) 3 (mpT true false T len h) (4096 * ((i : Int) + 1)) 4096 (by omega) (by omega) (by omega) (mpT_in true false T len h i hlt (fun h => HI1.out h.2)) HM.out).mono ?_
        rintro e w6 ⟨rfl, hb6, ho6⟩
        have HM6 := Lib.hid (HM.out.below hb6)
        have HK6 := Lib.hid (HK.out.trans (Kept.of_below hb6 (fun k hk => Nat.lt_of_lt_of_le hk HK.out.size)))
        have HO6 := Lib.hid ho6
        clear hb6 ho6
        go_wp2_with fail
        clear hi2 hi1
        go_loopw [12] (fun o w7 => ∃ k : Nat, k ≤ 4096 ∧ o = .int .i64 k ∧ w7 = w6) (fun o _ => 4096 - (intOf o).toNat)
        case atStart => exact ⟨0, by omega, rfl, rfl⟩
        case round =>
          obtain ⟨k, hk, rfl, rfl⟩ := hrel
          by_cases hk2 : k < 4096
          · have hx := HO6.out.cell (i := k) hk2
            rw [mpT_byte true false T len h i hlt (fun h => HI1.out h.2) k hk2] at hx
            rw [if_neg (fun h => by cases h.1)] at hx
            go_wp2_with fail
            go_roundw
            case rel => exact ⟨k + 1, by omega, by go_num, by first | rfl | trivial⟩
            case measure => simp [intOf]; omega
          · obtain rfl : k = 4096 := by omega
            go_wp2
            go_roundw
            case rel => exact ⟨i + 1, by omega, by go_num, HM6.out, HK6.out⟩
            case measure => simp [intOf]; omega
    · obtain rfl : i = 3 := by omega
      go_wp2_with fail
      refine (awake3_any wr).mono ?_
      rintro e w9 ⟨rfl, hb⟩
      have hb2 := (HK.out.below (fun k hk => hk)).trans (hb.mono HK.out.size)
      clear hb
      go_wp2
      go_ret
      exact ⟨rfl, by go_grown⟩
end Go.Proofs.Ytlifaldbdjcgjaa
