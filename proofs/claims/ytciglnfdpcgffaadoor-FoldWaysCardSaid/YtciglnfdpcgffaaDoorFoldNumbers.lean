/- The walk of FoldNumbers. -/
import Derived.Test.YtciglnfdpcgffaaDoorFoldText
import Derived.Deep.DeepFit
import Derived.Laws.Rows
namespace Go.Proofs.YtciglnfdpcgffaaDoor
open Go.ChangeShapes Go.WideShapes Go.ChangeAt Go.RowKit
set_option linter.unusedVariables false

theorem decT_ord {n : Nat} (h : n ≤ 65535) : OrdOk (decT n) :=
  ⟨decT_pos n, decT_five (by omega), fun c => Classical.byContradiction fun k => by
      have h1 := decT_pos n
      by_cases e : 1 ≤ n
      · exact decT_lead e c
      · obtain rfl : n = 0 := by omega
        exact k (by rw [decT_small (by omega), digT_size]), fun i hi => decT_dig n i hi, by rw [decT_num]; omega⟩
theorem decT_noord {n : Nat} (h : 65535 < n) : ¬ OrdOk (decT n) := fun k => by
  have := k.num
  rw [decT_num] at this; omega
def zeroT : ByteArray := ⟨#[48]⟩
theorem zero_noord (n : Nat) : ¬ OrdOk (zeroT ++ decT n) := fun k => by
  have h := decT_pos n
  have e := k.lead (by rw [bt_cat, if_pos (show 0 < zeroT.size by decide)]; decide)
  rw [ByteArray.size_append, show zeroT.size = 1 from rfl] at e; omega
theorem nil_noord : ¬ OrdOk ByteArray.empty := fun k => by have := k.pos; simp at this
def minusT : ByteArray := ⟨#[45, 49]⟩
theorem minus_noord : ¬ OrdOk minusT := fun k => by
  have := (k.dig 0 (by decide)).1
  revert this; decide

theorem extract_all (B : ByteArray) : B.extract 0 B.size = B := by
  apply ByteArray.ext
  simp

/-- A way's last point: "D.#R" of a text R without points. -/
theorem lastDot_ord (D R : ByteArray) (h : ∀ i, i < R.size → PlainAid.bt R i ≠ 46) : LastDot ((D ++ ⟨#[46, 35]⟩) ++ R) D (hashT ++ R) D.size := by
  have e : (D ++ ⟨#[46, 35]⟩) ++ R = D ++ (⟨#[46]⟩ ++ (hashT ++ R)) := by
    rw [ByteArray.append_assoc, show (⟨#[46, 35]⟩ : ByteArray) = ⟨#[46]⟩ ++ hashT from by decide, ByteArray.append_assoc]
  have hz : ((⟨#[46]⟩ : ByteArray) ++ (hashT ++ R)).size = R.size + 2 := by
    rw [ByteArray.size_append, hash_size, show (⟨#[46]⟩ : ByteArray).size = 1 from rfl]; omega
  have hz2 : (D ++ (⟨#[46]⟩ ++ (hashT ++ R))).size = D.size + (R.size + 2) := by rw [ByteArray.size_append, hz]
  rw [e]
  refine ⟨by rw [hz2]; omega, ?_, ?_, extract_left D _, ?_⟩
  · rw [bt_cat, if_neg (by omega), Nat.sub_self, bt_cat, if_pos (by decide)]; decide
  · intro j h1 h2
    rw [hz2] at h2
    rw [bt_cat, if_neg (by omega), bt_cat, if_neg (by rw [show (⟨#[46]⟩ : ByteArray).size = 1 from rfl]; omega), show (⟨#[46]⟩ : ByteArray).size = 1 from rfl, bt_cat]
    by_cases c : j - D.size - 1 < hashT.size
    · rw [if_pos c, show j - D.size - 1 = 0 by have : hashT.size = 1 := rfl; omega]; decide
    · rw [if_neg c]; exact h _ (by have : hashT.size = 1 := rfl; omega)
  · have := extract_right D (⟨#[46]⟩ ++ (hashT ++ R)) 1 (by omega)
    rw [this]
    have k := extract_right ⟨#[46]⟩ (hashT ++ R) 0 (by omega)
    rw [show (⟨#[46]⟩ : ByteArray).size + 0 = 1 from rfl] at k
    rw [k, extract_all]


theorem dig_nodot (n : Nat) : ∀ i, i < (decT n).size → PlainAid.bt (decT n) i ≠ 46 := fun i hi => by have := (decT_dig n i hi).1; omega
theorem way1 (n : Nat) : LastDot (⟨#[97, 46, 35]⟩ ++ decT n) ⟨#[97]⟩ (hashT ++ decT n) 1 := by
  have := lastDot_ord ⟨#[97]⟩ (decT n) (dig_nodot n)
  rwa [show (⟨#[97]⟩ : ByteArray) ++ ⟨#[46, 35]⟩ = ⟨#[97, 46, 35]⟩ from by decide] at this
theorem way2 (n : Nat) : LastDot (⟨#[97, 46, 35, 48]⟩ ++ decT n) ⟨#[97]⟩ (hashT ++ (zeroT ++ decT n)) 1 := by
  have := lastDot_ord ⟨#[97]⟩ (zeroT ++ decT n) (fun i hi => by
    rw [bt_cat]
    by_cases c : i < zeroT.size
    · rw [if_pos c, show i = 0 by have : zeroT.size = 1 := rfl; omega]; decide
    · rw [if_neg c]; exact dig_nodot n _ (by rw [ByteArray.size_append] at hi; omega))
  rwa [show (⟨#[97]⟩ : ByteArray) ++ ⟨#[46, 35]⟩ = ⟨#[97, 46, 35]⟩ from by decide, ← ByteArray.append_assoc, show (⟨#[97, 46, 35]⟩ : ByteArray) ++ zeroT = ⟨#[97, 46, 35, 48]⟩ from by decide] at this
theorem way3 : LastDot ⟨#[97, 46, 35]⟩ ⟨#[97]⟩ (hashT ++ ByteArray.empty) 1 := by
  have := lastDot_ord ⟨#[97]⟩ ByteArray.empty (fun i hi => by simp at hi)
  rwa [show ((⟨#[97]⟩ : ByteArray) ++ ⟨#[46, 35]⟩) ++ ByteArray.empty = ⟨#[97, 46, 35]⟩ from by decide] at this
theorem way4 : LastDot ⟨#[97, 46, 35, 45, 49]⟩ ⟨#[97]⟩ (hashT ++ minusT) 1 := by
  have := lastDot_ord ⟨#[97]⟩ minusT (by decide)
  rwa [show ((⟨#[97]⟩ : ByteArray) ++ ⟨#[46, 35]⟩) ++ minusT = ⟨#[97, 46, 35, 45, 49]⟩ from by decide] at this

theorem cell_row3 {w : World} {b : Nat} {cs : Array Value} {t : TypeId} {f : Nat × Nat} (h : w.heap[b]? = some (.cells cs t f)) (k : Nat) (hk : k < cs.size) : w.cell? ⟨b, k, none⟩ = some cs[k] := by
  simp [World.cell?, h, hk]

theorem text_a0 (w : World) : Calls Tryd.prog 7 #[.string ⟨#[97]⟩, .agg #[.string ⟨#[]⟩, .int .i64 0, .bool true]] w fun e w' => e = .returned (.string ⟨#[97, 46, 35, 48]⟩) ∧ Below w.heap.size w w' := by
  have k := text_ord ⟨#[97]⟩ ⟨#[]⟩ 0 w (by decide) (by omega) (fun W _ => itoa_small 0 W (by omega))
  rwa [show ((⟨#[97]⟩ : ByteArray) ++ ⟨#[46, 35]⟩) ++ decT 0 = ⟨#[97, 46, 35, 48]⟩ from by rw [decT_small (by omega)]; decide] at k

set_option maxRecDepth 100000 in
set_option maxHeartbeats 4000000 in
theorem foldNumbers_walk (n : Int) (z : Bool) (w : World) :
    Calls Tryd.prog 3 #[.int .i64 n, .bool z] w fun e w' => e = .returned (.bool true) ∧ Below w.heap.size w w' := by
  have m1 : bits .and .i64 n 262143 = n % 262144 := i64_mask n 18 (by omega)
  obtain ⟨m, hm0, hm⟩ : ∃ m : Nat, n % 262144 = m ∧ m < 262144 := ⟨(n % 262144).toNat, by omega, by omega⟩
  rw [hm0] at m1
  have HD := Lib.hid (fun W => digits_any m W (by omega))
  have hz := decT_le6 (show m < 1000000 by omega)
  have ha1 := fun (W : World) => run_string_add_sum (P := Tryd.prog) W ⟨#[97, 46, 35]⟩ (decT m) (by have : (⟨#[97, 46, 35]⟩ : ByteArray).size = 3 := rfl; omega)
  have ha2 := fun (W : World) => run_string_add_sum (P := Tryd.prog) W ⟨#[97, 46, 35, 48]⟩ (decT m) (by have : (⟨#[97, 46, 35, 48]⟩ : ByteArray).size = 4 := rfl; omega)
  have H1 := Lib.hid (fun (c : m ≤ 65535) (W : World) => split_ord _ _ _ 1 W (by rw [ByteArray.size_append]; have : (⟨#[97, 46, 35]⟩ : ByteArray).size = 3 := rfl; omega) (way1 m) lit_aok (decT_ord c))
  have H1' := Lib.hid (fun (c : 65535 < m) (W : World) => split_noord _ _ _ 1 W (by rw [ByteArray.size_append]; have : (⟨#[97, 46, 35]⟩ : ByteArray).size = 3 := rfl; omega) (way1 m) lit_aok (decT_noord c))
  have H2 := Lib.hid (fun (W : World) => split_noord _ _ _ 1 W (by rw [ByteArray.size_append]; have : (⟨#[97, 46, 35, 48]⟩ : ByteArray).size = 4 := rfl; omega) (way2 m) lit_aok (zero_noord m))
  have H3 := Lib.hid (fun (W : World) => split_noord _ _ _ 1 W (by decide) way3 lit_aok nil_noord)
  have H4 := Lib.hid (fun (W : World) => split_noord _ _ _ 1 W (by decide) way4 lit_aok minus_noord)
  rw [decT_num] at H1
  clear hm0 hm
  generalize decT m = T at *
  go_enter Tryd.func3, Tryd.ntmps3
  go_upto_region 3 with (go_fit (HD.out _); rintro e w1 ⟨rfl, hb1⟩)
  clear m1
  by_cases c : m ≤ 65535
  · have HS := Lib.hid (H1.out c)
    have c1 : decide ((m : Int) ≤ 65535) = true := decide_eq_true (by omega)
    clear H1 H1' c
    go_upto_region 4 with (go_fit (HS.out _); rintro e w2 ⟨rfl, hb2⟩)
    have HN := Lib.hid (heap_alloc_new w2 (.cells #[.string ByteArray.empty, .int .i64 m, .bool true] 24))
    have hB : w.heap.size ≤ w2.heap.size := Nat.le_trans hb1.size hb2.size
    have hlt : w2.heap.size < (w2.alloc (.cells #[.string ByteArray.empty, .int .i64 m, .bool true] 24)).heap.size := by simp
    have hbV := (hb1.trans (hb2.mono hb1.size)).alloc (show w.heap.size ≤ w2.heap.size from hB) (.cells #[.string ByteArray.empty, .int .i64 m, .bool true] 24)
    have HB := Lib.hid hbV
    have HL := Lib.hid hlt
    clear hb1 hb2 hbV hlt hB
    generalize w2.alloc (.cells #[.string ByteArray.empty, .int .i64 m, .bool true] 24) = V at *
    generalize w2.heap.size = G at *
    go_upto_region 5 with (go_fit (H2.out _); rintro e w3 ⟨rfl, hb3⟩)
    have HB3 := Lib.hid (((Below.refl V.heap.size V).trans hb3).alloc hb3.size (.cells #[.string ByteArray.empty, .int .i64 0, .bool false] 24))
    clear hb3
    generalize w3.alloc (.cells #[.string ByteArray.empty, .int .i64 0, .bool false] 24) = V3 at *
    generalize w3.heap.size = G3 at *
    go_upto_region 6 with (go_fit (H3.out _); rintro e w4 ⟨rfl, hb4⟩)
    have HB4 := Lib.hid ((HB3.out.trans (hb4.mono HB3.out.size)).alloc (Nat.le_trans HB3.out.size hb4.size) (.cells #[.string ByteArray.empty, .int .i64 0, .bool false] 24))
    clear hb4 HB3
    generalize w4.alloc (.cells #[.string ByteArray.empty, .int .i64 0, .bool false] 24) = V4 at *
    generalize w4.heap.size = G4 at *
    go_upto_region 7 with (go_fit (H4.out _); rintro e w5 ⟨rfl, hb5⟩)
    have HB5 := Lib.hid ((HB4.out.trans (hb5.mono HB4.out.size)).alloc (Nat.le_trans HB4.out.size hb5.size) (.cells #[.string ByteArray.empty, .int .i64 0, .bool false] 24))
    clear hb5 HB4
    generalize w5.alloc (.cells #[.string ByteArray.empty, .int .i64 0, .bool false] 24) = V5 at *
    generalize w5.heap.size = G5 at *
    have hg := (HB5.out.block G HL.out).trans HN.out
    have g0 := cell_row3 hg 0 (show 0 < 3 by omega)
    have g1 := cell_row3 hg 1 (show 1 < 3 by omega)
    have g2 := cell_row3 hg 2 (show 2 < 3 by omega)
    have HBW := Lib.hid (HB.out.trans (HB5.out.mono HB.out.size))
    clear hg HB HB5 HN HL H2 H3 H4 HD HS
    go_upto_region 9 with fail
    cases z
    · go_wp2_with (first | (go_at_call 8; refine (awake2 _).mono ?_; rintro e w6 ⟨rfl, hb6⟩))
      go_ret
      exact ⟨rfl, HBW.out.trans (hb6.mono HBW.out.size)⟩
    · have HT := Lib.hid text_a0
      go_wp2_with (first | (go_fit (HT.out _); rintro e w6 ⟨rfl, hb6⟩) | (go_at_call 8; refine (awake2 _).mono ?_; rintro e w7 ⟨rfl, hb7⟩))
      go_ret
      have h6 := HBW.out.trans (hb6.mono HBW.out.size)
      exact ⟨rfl, h6.trans (hb7.mono h6.size)⟩
  · have HS := Lib.hid (H1'.out (by omega))
    have c1 : decide ((m : Int) ≤ 65535) = false := decide_eq_false (by omega)
    clear H1 H1' c
    go_upto_region 4 with (go_fit (HS.out _); rintro e w2 ⟨rfl, hb2⟩)
    have hB : w.heap.size ≤ w2.heap.size := Nat.le_trans hb1.size hb2.size
    have hbV := (hb1.trans (hb2.mono hb1.size)).alloc (show w.heap.size ≤ w2.heap.size from hB) (.cells #[.string ByteArray.empty, .int .i64 0, .bool false] 24)
    have HB := Lib.hid hbV
    clear hb1 hb2 hbV hB
    generalize w2.alloc (.cells #[.string ByteArray.empty, .int .i64 0, .bool false] 24) = V at *
    generalize w2.heap.size = G at *
    go_upto_region 5 with (go_fit (H2.out _); rintro e w3 ⟨rfl, hb3⟩)
    have HB3 := Lib.hid (((Below.refl V.heap.size V).trans hb3).alloc hb3.size (.cells #[.string ByteArray.empty, .int .i64 0, .bool false] 24))
    clear hb3
    generalize w3.alloc (.cells #[.string ByteArray.empty, .int .i64 0, .bool false] 24) = V3 at *
    generalize w3.heap.size = G3 at *
    go_upto_region 6 with (go_fit (H3.out _); rintro e w4 ⟨rfl, hb4⟩)
    have HB4 := Lib.hid ((HB3.out.trans (hb4.mono HB3.out.size)).alloc (Nat.le_trans HB3.out.size hb4.size) (.cells #[.string ByteArray.empty, .int .i64 0, .bool false] 24))
    clear hb4 HB3
    generalize w4.alloc (.cells #[.string ByteArray.empty, .int .i64 0, .bool false] 24) = V4 at *
    generalize w4.heap.size = G4 at *
    go_upto_region 7 with (go_fit (H4.out _); rintro e w5 ⟨rfl, hb5⟩)
    have HB5 := Lib.hid ((HB4.out.trans (hb5.mono HB4.out.size)).alloc (Nat.le_trans HB4.out.size hb5.size) (.cells #[.string ByteArray.empty, .int .i64 0, .bool false] 24))
    clear hb5 HB4
    generalize w5.alloc (.cells #[.string ByteArray.empty, .int .i64 0, .bool false] 24) = V5 at *
    generalize w5.heap.size = G5 at *
    have HBW := Lib.hid (HB.out.trans (HB5.out.mono HB.out.size))
    clear HB HB5 H2 H3 H4 HD HS
    go_upto_region 9 with fail
    cases z
    · go_wp2_with (first | (go_at_call 8; refine (awake2 _).mono ?_; rintro e w6 ⟨rfl, hb6⟩))
      go_ret
      exact ⟨rfl, HBW.out.trans (hb6.mono HBW.out.size)⟩
    · have HT := Lib.hid text_a0
      go_wp2_with (first | (go_fit (HT.out _); rintro e w6 ⟨rfl, hb6⟩) | (go_at_call 8; refine (awake2 _).mono ?_; rintro e w7 ⟨rfl, hb7⟩))
      go_ret
      have h6 := HBW.out.trans (hb6.mono HBW.out.size)
      exact ⟨rfl, h6.trans (hb7.mono h6.size)⟩
end Go.Proofs.YtciglnfdpcgffaaDoor
