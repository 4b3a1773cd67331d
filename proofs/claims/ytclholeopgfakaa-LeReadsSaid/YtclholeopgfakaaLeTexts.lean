/- The walk of the law LeTexts. -/
import Derived.Test.YtclholeopgfakaaTail
namespace Go.Proofs.Ytclholeopgfakaa
open Go.ChangeShapes Go.WideShapes Go.ChangeAt Go.RowKit

theorem strF_bt (s : ByteArray) : strF (PlainAid.bt s) 0 s.size = s := by
  apply ByteArray.ext
  apply Array.toList_inj.1
  unfold strF
  rw [strOfNums_data, List.map_map]
  apply List.ext_getElem?
  intro i
  rcases Nat.lt_or_ge i s.size with hi | hi
  · have hi' : i < s.data.size := hi
    simp only [List.getElem?_map, List.getElem?_range hi, Option.map_some, Function.comp_apply, Nat.zero_add, Array.getElem?_toList, Array.getElem?_eq_getElem hi']
    unfold PlainAid.bt
    rw [dif_pos hi]
    simp
    rfl
  · rw [List.getElem?_eq_none (by simpa using hi), List.getElem?_eq_none (by simpa using hi)]

set_option maxRecDepth 100000 in
set_option maxHeartbeats 1000000 in
theorem leTexts_walk (A : Option Addr) (len cap : Nat) (f : Nat → Int) (s : ByteArray) (w : World) (hl : len ≤ cap) (hm : cap ≤ 9223372036854775807) (hb : Bytes255 f) (hs : SlB w A len f) (ws : s.size ≤ 9223372036854775807) :
    Calls Try.prog 5 #[.slice A len cap, .string s] w fun e w' => e = .returned (.bool true) ∧ Below w.heap.size w w' := by
  by_cases h100 : 100 < len
  · have h100' : (100 : Int) < len := by omega
    go_enter Try.func5, Try.ntmps5
    go_wp2_with (go_at_call 11; refine (awake1 _).mono ?_; rintro e w' ⟨rfl, hbel⟩)
    go_ret
    exact ⟨rfl, hbel⟩
  by_cases s100 : 100 < s.size
  · have h100' : ¬ (100 : Int) < len := by omega
    have s100' : (100 : Int) < s.size := by omega
    go_enter Try.func5, Try.ntmps5
    go_wp2_with (go_at_call 11; refine (awake1 _).mono ?_; rintro e w' ⟨rfl, hbel⟩)
    go_ret
    exact ⟨rfl, hbel⟩
  have h100' : ¬ (100 : Int) < len := by omega
  have s100' : ¬ (100 : Int) < s.size := by omega
  have gb := PlainAid.get_bt s
  by_cases hz : ∃ z, z < s.size ∧ PlainAid.bt s z = 0 ∧ ∀ i, i < z → PlainAid.bt s i ≠ 0
  · obtain ⟨z, hzs, hz0, hzn⟩ := hz
    have HZ := Lib.hid hz0
    clear hz0
    go_enter Try.func5, Try.ntmps5
    go_wp2
    go_loop [5] (fun i => ∃ k : Nat, k ≤ z ∧ i = .int .i64 k) (fun i => z - (intOf i).toNat)
    case atStart => exact ⟨0, by omega, rfl⟩
    case round =>
      obtain ⟨k, hk, rfl⟩ := hrel
      by_cases hlt : k < z
      · have hf : (PlainAid.bt s k == 0) = false := by simpa using hzn k hlt
        go_wp2
        go_round
        case rel => exact ⟨k + 1, by omega, by go_num⟩
        case measure => simp [intOf]; omega
      · obtain rfl : k = z := by omega
        have hf : (PlainAid.bt s k == 0) = true := by simpa using HZ.out
        go_wp2_with (go_at_call 11; refine (awake1 _).mono ?_; rintro e w' ⟨rfl, hbel⟩)
        go_ret
        exact ⟨rfl, hbel⟩
  · have hn : ∀ i, i < s.size → PlainAid.bt s i ≠ 0 := by
      intro i
      induction i using Nat.strongRecOn with
      | ind i ih => exact fun hi h0 => hz ⟨i, hi, h0, fun j hj => ih j hj (by omega)⟩
    clear hz
    go_enter Try.func5, Try.ntmps5
    go_wp2
    go_loop [5] (fun i => ∃ k : Nat, k ≤ s.size ∧ i = .int .i64 k) (fun i => s.size - (intOf i).toNat)
    case atStart => exact ⟨0, by omega, rfl⟩
    case round =>
      obtain ⟨k, hk, rfl⟩ := hrel
      by_cases hlt : k < s.size
      · have hf : (PlainAid.bt s k == 0) = false := by simpa using hn k hlt
        go_wp2
        go_round
        case rel => exact ⟨k + 1, by omega, by go_num⟩
        case measure => simp [intOf]; omega
      · obtain rfl : k = s.size := by omega
        clear gb
        have hs1 := hs.below ((Below.refl w.heap.size w).alloc (Nat.le_refl _) (.cells #[] 5))
        go_wp2_with (first
          | (at_builtin; refine wpList_appV rfl (.tmp 33) (.tmp 34) _ rfl w.heap.size _ 0 f rfl (ownB_made w _ (Nat.le_refl _) f) _ rfl len f (src_sl hs1) (by omega) (by simp) ?_; intro v1 w1 hown1 hg1 hat1)
          | (at_builtin; refine wpList_appV rfl (.tmp 35) (.tmp 36) _ rfl w.heap.size v1 (0 + len) _ rfl hown1 _ rfl s.size (PlainAid.bt s) (src_str s) (by omega) (Nat.le_trans (by simp) hg1.size) ?_; intro v2 w2 hown2 hg2 hat2)
          | (at_builtin; refine wpList_appB rfl (.tmp 37) (.tmp 38) _ rfl w.heap.size v2 (0 + len + s.size) _ rfl (OwnB.below hown2 ((Below.refl _ _).alloc (Nat.le_refl _) _)) _ rfl 1 (litF [0]) (src_sl (.inr ⟨w2.heap.size, 0, rfl, by simp, row_lit [0] rfl⟩)) (by omega) (by omega) (Nat.le_trans (Nat.le_trans (Nat.le_trans (by simp) hg1.size) hg2.size) (by simp)) ?_; intro g c3 w3 hown3 hg3 hat3)
          | fail)
        have hb1 : Below w.heap.size w w1 := below_own ((Below.refl _ _).alloc (Nat.le_refl _) _) (Nat.le_refl _) (ownB_made w _ (Nat.le_refl _) f) hg1
        have hb2 : Below w.heap.size w w2 := below_own hb1 (Nat.le_refl _) hown1 hg2
        have hb3 : Below w.heap.size w w3 := below_own (hb2.alloc hb2.size _) (Nat.le_refl _) (OwnB.below hown2 ((Below.refl _ _).alloc (Nat.le_refl _) _)) hg3
        obtain ⟨G, hG⟩ : ∃ G, G = catF (0 + len + s.size) (catF (0 + len) (catF 0 f f) (PlainAid.bt s)) (litF [0]) := ⟨_, rfl⟩
        rw [← hG] at hown3
        obtain ⟨_, _, hc1, hc2, hown⟩ := hown3.own (by omega)
        unfold maxLen at hc2
        have hr : Row w3 g 0 (len + s.size + 1) G := (own_row hown fun _ _ => rfl).less (by omega)
        have g1 : ∀ i, i < s.size → G (len + i) = PlainAid.bt s i := by
          intro i hi
          rw [hG]; unfold catF
          rw [if_pos (by omega), if_neg (by omega)]
          congr 1; omega
        have g0 : G (len + s.size) = 0 := by
          rw [hG]; unfold catF
          rw [if_neg (by omega), show len + s.size - (0 + len + s.size) = 0 by omega]
          rfl
        have es : strF G len s.size = s := (strF_congr (f' := PlainAid.bt s) (o' := 0) fun i hi => by rw [g1 i hi, Nat.zero_add]).trans (strF_bt s)
        clear hG hown1 hown2 hown3 hown hg1 hg2 hg3 hat1 hat2 hat3 hb1 hb2 hs hs1
        have gn : ∀ i, i < s.size → G (len + i) ≠ 0 := fun i hi => by rw [g1 i hi]; exact hn i hi
        refine (text_yes g 0 _ c3 G len s.size _ _ (by omega) (by omega) (by omega) (.inr (Int.le_refl _)) g0 gn hr).mono ?_
        rintro e w' ⟨rfl, rfl⟩
        have HG := Lib.hid g0
        clear g0
        by_cases hz : s.size = 0
        · have hz' : ((s.size : Int) == 0) = true := by simp [hz]
          have HZ := Lib.hid hz
          clear hz
          go_wp2_with fail
          refine (text_yes g 0 _ c3 G len 0 _ _ (by omega) (by omega) (by omega) (.inl rfl) (by have := HG.out; rw [HZ.out] at this; exact this) (by omega) hr).mono ?_
          rintro e w' ⟨rfl, rfl⟩
          go_wp2_with fail
          refine (text_out _ _ _ _ _ _ (by omega) (by have := HZ.out; omega)).mono ?_
          rintro e w' ⟨rfl, rfl⟩
          go_wp2_with (go_at_call 11; refine (awake1 _).mono ?_; rintro e w' ⟨rfl, hbel⟩)
          go_ret
          exact ⟨rfl, hb3.trans (hbel.mono hb3.size)⟩
        · have hz' : ((s.size : Int) == 0) = false := by simp [hz]
          go_wp2_with fail
          refine (text_no g 0 _ c3 G len _ _ (by omega) (by omega) (by omega) (fun i hi hk => gn i (by omega)) hr).mono ?_
          rintro e w' ⟨rfl, rfl⟩
          go_wp2_with fail
          refine (text_no g 0 (len + s.size) c3 G len _ _ (by omega) (by omega) (by omega) (fun i hi hk => gn i (by omega)) (hr.less (by omega))).mono ?_
          rintro e w' ⟨rfl, rfl⟩
          go_wp2_with (go_at_call 11; refine (awake1 _).mono ?_; rintro e w' ⟨rfl, hbel⟩)
          go_ret
          exact ⟨rfl, hb3.trans (hbel.mono hb3.size)⟩
end Go.Proofs.Ytclholeopgfakaa
