/- The walk of FoldWays. -/
import Derived.Test.YtciglnfdpcgffaaDoorFoldNumbers
namespace Go.Proofs.YtciglnfdpcgffaaDoor
open Go.ChangeShapes Go.WideShapes Go.ChangeAt Go.RowKit
set_option linter.unusedVariables false

theorem lastDot_name (D R : ByteArray) (h : ∀ i, i < R.size → PlainAid.bt R i ≠ 46) : LastDot ((D ++ ⟨#[46]⟩) ++ R) D R D.size := by
  have e : (D ++ ⟨#[46]⟩) ++ R = D ++ (⟨#[46]⟩ ++ R) := ByteArray.append_assoc
  have hz : ((⟨#[46]⟩ : ByteArray) ++ R).size = R.size + 1 := by
    rw [ByteArray.size_append, show (⟨#[46]⟩ : ByteArray).size = 1 from rfl]; omega
  have hz2 : (D ++ (⟨#[46]⟩ ++ R)).size = D.size + (R.size + 1) := by rw [ByteArray.size_append, hz]
  rw [e]
  refine ⟨by rw [hz2]; omega, ?_, ?_, extract_left D _, ?_⟩
  · rw [bt_cat, if_neg (by omega), Nat.sub_self, bt_cat, if_pos (by decide)]; decide
  · intro j h1 h2
    rw [hz2] at h2
    rw [bt_cat, if_neg (by omega), bt_cat, if_neg (by rw [show (⟨#[46]⟩ : ByteArray).size = 1 from rfl]; omega), show (⟨#[46]⟩ : ByteArray).size = 1 from rfl]
    exact h _ (by omega)
  · have := extract_right D (⟨#[46]⟩ ++ R) 1 (by omega)
    rw [this]
    have k := extract_right ⟨#[46]⟩ R 0 (by omega)
    rw [show (⟨#[46]⟩ : ByteArray).size + 0 = 1 from rfl] at k
    rw [k, extract_all]

theorem frozen_row3 {w : World} {b : Nat} {cs : Array Value} {t : TypeId} (h : w.heap[b]? = some (.cells cs t (0, 0))) (k : Nat) : w.frozen? ⟨b, k, none⟩ = false := by
  simp [World.frozen?, h]

set_option maxRecDepth 100000 in
set_option maxHeartbeats 4000000 in
theorem foldWays_walk (D S : ByteArray) (n : Int) (w : World) (hD : D.size ≤ 9223372036854775807) (hS : S.size ≤ 9223372036854775807) (htab : Lib.TabIs Tryd.prog w "internal/strconv.uint64pow10" .u64 Lib.pow10Tab) :
    Calls Tryd.prog 4 #[.string D, .string S, .int .i64 n] w fun e w' => e = .returned (.bool true) ∧ Below w.heap.size w w' := by
  by_cases hok : OkName D
  rotate_left
  · have HO := Lib.hid (fun W => ok_no D W hD hok)
    clear hok htab
    go_enter Tryd.func4, Tryd.ntmps4
    go_wp2_with (first | (go_fit (HO.out _); rintro e w1 ⟨rfl, rfl⟩) | (go_at_call 8; refine (awake2 _).mono ?_; rintro e w7 ⟨rfl, hb7⟩))
    go_ret
    exact ⟨rfl, hb7⟩
  have m1 : bits .and .i64 n 65535 = n % 65536 := i64_mask n 16 (by omega)
  obtain ⟨m, hm0, hm⟩ : ∃ m : Nat, n % 65536 = m ∧ m < 65536 := ⟨(n % 65536).toNat, by omega, by omega⟩
  rw [hm0] at m1
  have hD40 := hok.2.1
  have HO := Lib.hid (fun W => ok_yes D W hok)
  have HTX := Lib.hid (fun W (hb : Below w.heap.size w W) => text_ord D ⟨#[]⟩ m W (by omega) (by omega) (fun W' hb' => itoa_tab m W' (by omega) (Lib.tabBelow_of_tabIs htab W' (hb.trans (hb'.mono hb.size)))))
  have hz := decT_le6 (show m < 1000000 by omega)
  have HSP := Lib.hid (fun W : World => split_ord _ D (decT m) D.size W (by rw [ByteArray.size_append, ByteArray.size_append]; have : (⟨#[46, 35]⟩ : ByteArray).size = 2 := rfl; omega) (lastDot_ord D (decT m) (dig_nodot m)) hok (decT_ord (by omega)))
  rw [decT_num] at HSP
  have HOK := Lib.hid hok
  clear hm0 hm htab hok hD hz
  generalize decT m = T at *
  go_enter Tryd.func4, Tryd.ntmps4
  go_upto_region 5 with (first | (go_fit (HO.out _); rintro e w1 ⟨rfl, rfl⟩) | (go_fit (HTX.out _ (Below.refl _ _)); rintro e w1 ⟨rfl, hb1⟩) | (go_fit (HSP.out _); rintro e w2 ⟨rfl, hb2⟩))
  clear m1
  have HN := Lib.hid (heap_alloc_new w2 (.cells #[.string ByteArray.empty, .int .i64 m, .bool true] 24))
  have hB : w.heap.size ≤ w2.heap.size := Nat.le_trans hb1.size hb2.size
  have hlt : w2.heap.size < (w2.alloc (.cells #[.string ByteArray.empty, .int .i64 m, .bool true] 24)).heap.size := by simp
  have hbV := (hb1.trans (hb2.mono hb1.size)).alloc (show w.heap.size ≤ w2.heap.size from hB) (.cells #[.string ByteArray.empty, .int .i64 m, .bool true] 24)
  have HB := Lib.hid hbV
  have HL := Lib.hid hlt
  have HG := Lib.hid hB
  clear hb1 hb2 hbV hlt hB HO HTX HSP
  generalize w2.alloc (.cells #[.string ByteArray.empty, .int .i64 m, .bool true] 24) = V at *
  generalize w2.heap.size = G at *
  have g0 := cell_row3 HN.out 0 (show 0 < 3 by omega)
  have g1 := cell_row3 HN.out 1 (show 1 < 3 by omega)
  have g2 := cell_row3 HN.out 2 (show 2 < 3 by omega)
  go_wp2_with fail
  clear g0 g1 g2
  have gb := PlainAid.get_bt S
  go_loop [10, 11] (fun v10 v11 => ∃ (k : Nat) (p : Bool), k ≤ S.size ∧ v11 = .int .i64 k ∧ v10 = .bool p ∧ (p = false → ∀ i, i < k → PlainAid.bt S i ≠ 46)) (fun _ v11 => S.size - (intOf v11).toNat)
  case atStart => exact ⟨0, false, by omega, rfl, rfl, fun _ i hi => by omega⟩
  case round =>
    obtain ⟨k, p, hk, rfl, rfl, hp⟩ := hrel
    have HP := Lib.hid hp
    clear hp
    by_cases hlt : k < S.size
    · cases p
      · by_cases h46 : PlainAid.bt S k = 46
        · go_wp2
          go_round
          case rel => exact ⟨k + 1, true, by omega, by go_num, rfl, fun h => by cases h⟩
          case measure => simp [intOf]; omega
        · have H46 := Lib.hid h46
          have h46' : (PlainAid.bt S k == 46) = false := by simp [h46]
          clear h46
          go_wp2
          go_round
          case rel =>
            refine ⟨k + 1, false, by omega, by go_num, rfl, fun _ i hi => ?_⟩
            by_cases e : i = k
            · subst e; exact H46.out
            · exact HP.out rfl i (by omega)
          case measure => simp [intOf]; omega
      · go_wp2
        go_round
        case rel => exact ⟨k + 1, true, by omega, by go_num, rfl, fun h => by cases h⟩
        case measure => simp [intOf]; omega
    · obtain rfl : k = S.size := by omega
      clear gb hk hlt
      by_cases hsy : OkSym S
      rotate_left
      · have HO := Lib.hid (fun W => symok_no S W hS hsy)
        clear hsy
        go_wp2_with (first | (go_fit (HO.out _); rintro e w1 ⟨rfl, rfl⟩) | (go_at_call 8; refine (awake2 _).mono ?_; rintro e w7 ⟨rfl, hb7⟩))
        go_ret
        exact ⟨rfl, HB.out.trans (hb7.mono HB.out.size)⟩
      have HO := Lib.hid (fun W => symok_yes S W hsy)
      cases p
      rotate_left
      · clear hsy HP
        go_wp2_with (first | (go_fit (HO.out _); rintro e w1 ⟨rfl, rfl⟩) | (go_at_call 8; refine (awake2 _).mono ?_; rintro e w7 ⟨rfl, hb7⟩))
        go_ret
        exact ⟨rfl, HB.out.trans (hb7.mono HB.out.size)⟩
      have hS60 := hsy.2.1
      have HTX := Lib.hid (fun W => text_name D S 0 W (by omega) (by omega))
      have HSP := Lib.hid (fun W : World => split_sym _ D S D.size W (by rw [ByteArray.size_append, ByteArray.size_append]; have : (⟨#[46]⟩ : ByteArray).size = 1 := rfl; omega) (lastDot_name D S (HP.out rfl)) HOK.out hsy)
      clear hsy HP
      go_upto_region 14 with (go_fit (HO.out _); rintro e w1 ⟨rfl, rfl⟩)
      go_wp2_with fail
      refine (HTX.out _).mono ?_
      rintro e w3 ⟨rfl, hb3⟩
      go_wp2_with fail
      refine (HSP.out _).mono ?_
      rintro e w4 ⟨rfl, hb4⟩
      have hb := hb3.trans (hb4.mono hb3.size)
      have HX := Lib.hid hb
      have hg := (hb.block G HL.out).trans HN.out
      clear hb3 hb4 hb HTX HSP HN
      have c0 := cell_row3 hg 0 (show 0 < 3 by omega)
      have c1 := cell_row3 hg 1 (show 1 < 3 by omega)
      have c2 := cell_row3 hg 2 (show 2 < 3 by omega)
      have z0 := frozen_row3 hg 0
      have z1 := frozen_row3 hg 1
      have z2 := frozen_row3 hg 2
      clear hg
      go_upto_region 15 with fail
      obtain ⟨W, hW⟩ : ∃ W, W = ((w4.setCell ⟨G, 0, none⟩ (.string S)).setCell ⟨G, 1, none⟩ (.int .i64 0)).setCell ⟨G, 2, none⟩ (.bool false) := ⟨_, rfl⟩
      rw [← hW]
      have hbW : Below w.heap.size w W := by
        rw [hW]
        exact (((HB.out.trans (HX.out.mono HB.out.size)).setCell (p := ⟨G, 0, none⟩) HG.out _).setCell (p := ⟨G, 1, none⟩) HG.out _).setCell (p := ⟨G, 2, none⟩) HG.out _
      have k0 : W.cell? ⟨G, 0, none⟩ = some (.string S) := by rw [hW]; simp [c0, go_sem]
      have k1 : W.cell? ⟨G, 1, none⟩ = some (.int .i64 0) := by rw [hW]; simp [c1, go_sem]
      have k2 : W.cell? ⟨G, 2, none⟩ = some (.bool false) := by rw [hW]; simp [c2, go_sem]
      have HBW := Lib.hid hbW
      clear hW hbW c0 c1 c2 z0 z1 z2 HB HX HG HL
      go_wp2_with (first | (go_at_call 8; refine (awake2 _).mono ?_; rintro e w7 ⟨rfl, hb7⟩))
      go_ret
      exact ⟨rfl, HBW.out.trans (hb7.mono HBW.out.size)⟩
end Go.Proofs.YtciglnfdpcgffaaDoor
