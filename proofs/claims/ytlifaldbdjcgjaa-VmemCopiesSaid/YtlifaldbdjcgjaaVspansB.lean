/- VmemSpans: the law, case B. -/
import Derived.Test.YtlifaldbdjcgjaaVspansA
namespace Go.Proofs.Ytlifaldbdjcgjaa
open Go.ChangeShapes Go.WideShapes Go.ChangeAt Go.RowKit
open Go.Maps (Keyed)
set_option linter.unusedVariables false
set_option linter.unusedSimpArgs false
set_option maxRecDepth 100000 in
set_option maxHeartbeats 4000000 in
theorem spans_B (w : World) (at' : Int) (A : Option Addr) (cap : Nat) (h : Nat → Int) (hc : cap ≤ 9223372036854775807) (hs : SlB w A 0 h)  :
    Calls Try.prog 9 #[.int .i64 at', .slice A 0 cap, .bool false] w fun e w' => e = .returned (.bool true) ∧ Below w.heap.size w w' := by
  have hR : ∀ k, k < w.heap.size → k < w.heap.size := fun _ h => h
  have HS := Lib.hid hs
  clear hs
  obtain ⟨K, hK⟩ : ∃ K : Nat, at' % 65536 = K := ⟨(at' % 65536).toNat, by omega⟩
  have hKb := (and_65535 at').trans hK
  have hD : (12289 - ((0 : Nat) : Int)) = ((12289 - 0 : Nat) : Int) := by omega
  obtain ⟨T, hTm⟩ : ∃ T : Nat, K % (12289 - 0) = T := ⟨_, rfl⟩
  have hT : Int.tmod (K : Int) (12289 - ((0 : Nat) : Int)) = T := by rw [hD, ← hTm]; rfl
  have hT2 : T + 0 ≤ 12288 := by
    have := Nat.mod_lt K (show 0 < 12289 - 0 by omega)
    omega
  have HTM := Lib.hid hTm
  clear hTm
  clear hK hD
  go_enter Try.func9, Try.ntmps9
  go_wp2_with fail
  refine (newMem_any (· < w.heap.size) w 3 hR (by omega) (by omega)).mono ?_
  rintro e w1 ⟨M, rfl, h1, k1⟩
  have H1 := Lib.hid h1
  have K1 := Lib.hid k1
  clear h1 k1
  have hT0 : (K : Int) % 12289 = T := by have h := HTM.out; simp only [Nat.sub_zero] at h; omega
  have hT3 : T ≤ 12288 := hT2
  go_wp2_with fail
  refine (map_core (· < w.heap.size) w1 M 0 3 _ 4096 0 3 (by omega) ⟨by omega, by omega, by omega, by omega⟩ (by omega) (by omega) (fun _ _ => rfl) (by omega) H1.out).mono ?_
  rintro e w2 ⟨rfl, h2, k2⟩
  have H2 := Lib.hid h2
  have K2 := Lib.hid (K1.out.trans k2)
  clear h2 k2 H1 K1
  have H4 : Hid (MemAt (· < w.heap.size) w2 M (0 + 3) 3 (mpS false)) := by rw [mpS]; exact H2.out
  have K4 := K2
  clear H2 K2
  generalize w2 = W4 at *
  go_wp2_with fail
  refine (poke_yes (· < w.heap.size) W4 M (0 + 3) 3 (mpS false) (4096 + T) A 0 cap h (by omega) (by omega) (by omega) (by omega) hc (spans_in false T 0 (by omega) (.inl rfl)) (by
      rcases HS.out with h | ⟨b, off, rfl, hbl, hr⟩
      · exact .inl h
      · exact .inr ⟨b, off, rfl, hbl, fun j hj => (K4.out.cell (p := ⟨b, off + j, none⟩) hbl).trans (hr j hj)⟩) H4.out).mono ?_
  rintro e w5 ⟨rfl, h5, k5⟩
  have H5 : Hid (MemAt (· < w.heap.size) w5 M (0 + 3) 3 (mpT false true T 0 h)) := h5
  have K5 := Lib.hid (K4.out.trans k5)
  clear h5 k5 H4 K4
  go_wp2_with fail
  go_loopw [9] (fun o wr => ∃ i : Nat, i ≤ 3 ∧ o = .int .i64 i ∧ MemAt (· < w.heap.size) wr M (0 + 3) 3 (mpT false true T 0 h) ∧ Kept (· < w.heap.size) w wr) (fun o _ => 3 - (intOf o).toNat)
  case atStart => exact ⟨0, by omega, rfl, H5.out, K5.out⟩
  case round =>
    obtain ⟨i, hi, rfl, hm, hk⟩ := hrel
    have HM := Lib.hid hm
    have HK := Lib.hid hk
    clear hm hk H5 K5
    by_cases hlt : i < 3
    · go_wp2_with fail
      refine (peek_yes (· < w.heap.size) wr M (0 + 3) 3 (mpT false true T 0 h) (4096 * ((i : Int) + 1)) 4096 (by omega) (by omega) (by omega) (mpT_in false true T 0 h i hlt (fun h => by cases h.1)) HM.out).mono ?_
      rintro e w6 ⟨rfl, hb6, ho6⟩
      have HM6 := Lib.hid (HM.out.below hb6)
      have HK6 := Lib.hid (HK.out.trans (Kept.of_below hb6 (fun k hk => Nat.lt_of_lt_of_le hk HK.out.size)))
      have HO6 := Lib.hid ho6
      clear hb6 ho6
      go_wp2_with fail
      go_loopw [12] (fun o w7 => ∃ k : Nat, k ≤ 4096 ∧ o = .int .i64 k ∧ w7 = w6) (fun o _ => 4096 - (intOf o).toNat)
      case atStart => exact ⟨0, by omega, rfl, rfl⟩
      case round =>
        obtain ⟨k, hk, rfl, rfl⟩ := hrel
        by_cases hk2 : k < 4096
        · have hx := HO6.out.cell (i := k) hk2
          rw [mpT_byte false true T 0 h i hlt (fun h => by cases h.1) k hk2] at hx
          rw [if_neg (fun h => by omega)] at hx
          have hcc : (4096 * (i : Int) + k - T < 0) ∨ (0 ≤ 4096 * (i : Int) + k - T) := by omega
          rcases hcc with c1 | c1
          all_goals
            go_wp2_with fail
            go_roundw
            case rel => exact ⟨k + 1, by omega, by go_num, by first | rfl | trivial⟩
            case measure => simp [intOf]; omega
        · obtain rfl : k = 4096 := by omega
          go_wp2
          go_roundw
          case rel => exact ⟨i + 1, by omega, by go_num, HM6.out, HK6.out⟩
          case measure => simp [intOf]; omega
    · obtain rfl : i = 3 := by omega
      go_wp2_with fail
      refine (awake3_any wr).mono ?_
      rintro e w9 ⟨rfl, hb⟩
      have hb2 := (HK.out.below (fun k hk => hk)).trans (hb.mono HK.out.size)
      clear hb
      go_wp2
      go_ret
      exact ⟨rfl, by go_grown⟩
end Go.Proofs.Ytlifaldbdjcgjaa
