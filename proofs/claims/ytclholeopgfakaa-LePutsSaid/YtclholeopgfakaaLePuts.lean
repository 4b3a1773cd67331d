/- The walk of the law LePuts. -/
import Derived.Test.YtclholeopgfakaaRefPut
import Derived.Deep.RegionWith
namespace Go.Proofs.Ytclholeopgfakaa
open Go.ChangeShapes Go.WideShapes Go.ChangeAt Go.RowKit
set_option linter.unusedVariables false

set_option maxRecDepth 100000 in
set_option maxHeartbeats 4000000 in
theorem lePuts_walk (A : Option Addr) (len cap : Nat) (f : Nat → Int) (at' n v : Int) (w : World) (hl : len ≤ cap) (hm : cap ≤ 9223372036854775807) (hb : Bytes255 f) (hs : SlB w A len f) (v0 : 0 ≤ v) (v1 : v ≤ 18446744073709551615) :
    Calls Try.prog 7 #[.slice A len cap, .int .i64 at', .int .i64 n, .int .u64 v] w fun e w' => e = .returned (.bool true) ∧ Below w.heap.size w w' := by
  by_cases h300 : 300 < len
  · have h300' : (300 : Int) < len := by omega
    go_enter Try.func7, Try.ntmps7
    go_wp2_with (go_at_call 11; refine (awake1 _).mono ?_; rintro e w' ⟨rfl, hbel⟩)
    go_ret
    exact ⟨rfl, hbel⟩
  have h300' : ¬ (300 : Int) < len := by omega
  obtain ⟨S, hS, hSs, hSb, hcv⟩ : ∃ S, S = strF f 0 len ∧ S.size = len ∧ (∀ i, i < len → PlainAid.bt S i = f i) ∧ ∀ W, Keeps w W → (convert 22 9 (.slice A len cap)).run Try.prog W = .ok (.string S) W := by
    refine ⟨strF f 0 len, rfl, strF_size f 0 len, fun i hi => by rw [bt_strF hb hi, Nat.zero_add], fun W hW => ?_⟩
    rcases hs with rfl | ⟨b, off, rfl, hlt, hr⟩
    · rw [run_str0]; rfl
    · exact run_str (hW.row hr hlt)
  have HSS := Lib.hid hSs
  have HS := Lib.hid hS
  have HSB := Lib.hid hSb
  clear hS hSs hSb hb
  go_enter Try.func7, Try.ntmps7
  go_wp2
  go_loopw [1, 2, 9] (fun x y i wr => ∃ (k : Nat) (a m : Int), k ≤ 2 ∧ x = .int .i64 a ∧ y = .int .i64 m ∧ i = .int .i64 k ∧ Below w.heap.size w wr) (fun _ _ i _ => 2 - (intOf i).toNat)
  case atStart => exact ⟨0, at', n, by omega, rfl, rfl, rfl, Below.refl _ _⟩
  case round =>
    obtain ⟨k, a, m, hk, rfl, rfl, rfl, hbel⟩ := hrel
    by_cases hlt : k < 2
    · have m1 := and_ffff a
      have m2 := and_7 m
      have hs0 : SlB (wr.alloc (.cells #[] 5)) A len f := by
        rcases hs with hs | ⟨b, off, hA, hlt, hr⟩
        · exact .inl hs
        · have hb2 := hbel.alloc hbel.size (.cells #[] 5)
          exact .inr ⟨b, off, hA, Nat.lt_of_lt_of_le hlt hb2.size, hr.below hb2 hlt⟩
      go_wp2_with (at_builtin; refine wpList_appS rfl (.tmp 21) (.tmp 22) _ rfl wr.heap.size _ 0 f rfl (ownB_made wr _ (Nat.le_refl _) f) _ rfl len f (src_sl hs0) (by omega) (by simp) ?_; intro A1 c1 w1 hown1 hg1; have kk := Keeps.below (Keeps.self w) (below_own (hbel.alloc hbel.size _) hbel.size (ownB_made wr _ (Nat.le_refl _) f) hg1))
      have hbel1 : Below w.heap.size w w1 := below_own (hbel.alloc hbel.size _) hbel.size (ownB_made wr _ (Nat.le_refl _) f) hg1
      rw [catF_zero, Nat.zero_add] at hown1
      obtain ⟨hc1, hc2, hA1⟩ := hown1.slice
      unfold maxLen at hc2
      obtain ⟨cl, hcl⟩ : ∃ cl : Nat, min (max m 0) 8 = (cl : Int) := ⟨(min (max m 0) 8).toNat, by omega⟩
      have HCL := Lib.hid hcl
      clear hcl hs0 hg1 hown1
      by_cases hC : 1 ≤ m ∧ m ≤ 8 ∧ 0 ≤ a ∧ a ≤ len - m
      · obtain ⟨o, rfl⟩ := Int.eq_ofNat_of_zero_le hC.2.2.1
        obtain ⟨p, rfl⟩ := Int.eq_ofNat_of_zero_le (show 0 ≤ m by omega)
        have hop : o + p ≤ len := by omega
        rcases hA1 with hA1 | ⟨g, rfl, hg0, hown1⟩
        · omega
        go_wp2_with fail
        refine (rput_yes S o p v _ (by have := HSS.out; omega) (by omega) (by omega) (by have := HSS.out; omega) v0 v1).mono ?_
        rintro e w2 ⟨rfl, hbel2⟩
        have hown2 := hown1.below hbel2 hown1.1
        have hT : strF (putI (PlainAid.bt S) o v p) 0 S.size = strF (putI f o v p) 0 len := by
          rw [HSS.out]
          exact strF_congr fun i hi => by
            unfold putI; split
            · rfl
            · exact HSB.out _ (by omega)
        rw [hT]
        clear hT hown1 hcv
        go_wp2_with fail
        go_region_with (first | (go_at_call 15; refine (put_yes g len c1 _ o p v _ (by omega) (by omega) (by omega) hop (Own.drew hown2) v0 v1).mono ?_; rintro e w3 ⟨rfl, hown3, hg3⟩; have s1 := (fun (W : World) (hW : Keeps w3 W) (c : Nat) => run_str (cap := c) (hW.row (own_row (f' := putI f o v p) hown3 (fun i hi => putF_int f o v p i)) hown3.1)); have q1 := Keeps.self w3) | (go_at_call 20; refine (bytes_any v p cl _ v0 v1 HCL.out).mono ?_; rintro e w4 ⟨rfl, hown4, hbel4⟩; have s2 := (fun (W : World) (hW : Keeps w4 W) (c : Nat) => run_str (cap := c) (hW.row (own_row (f' := byteOf v) hown4 (fun i hi => by unfold leF; rw [if_pos hi])) hown4.1)); have q2 := Keeps.self w4) | (go_at_call 21; refine (rbytes_any v p cl _ v0 v1 HCL.out).mono ?_; rintro e w5 ⟨rfl, hbel5⟩; have q3 := Keeps.below (Keeps.self _) hbel5))
        all_goals go_wp2
        all_goals go_roundw
        all_goals first
          | (case rel =>
              have hbel3 : Below w.heap.size w w3 := (((hbel1.trans (hbel2.mono hbel1.size)).drew).grown hg3 (Nat.le_trans hbel1.size hbel2.size) (fun k' hk' => by injection hk' with hk'; have := hbel.size; omega))
              have hbel5' : Below w.heap.size w w5 := (hbel3.trans (hbel4.mono hbel3.size)).trans (hbel5.mono (Nat.le_trans hbel3.size hbel4.size))
              exact ⟨k + 1, _, _, by omega, rfl, rfl, by go_num, hbel5'⟩)
          | (case measure => simp [intOf]; omega)
      · have hA2 : SlB w1 A1 len f := by
          rcases hA1 with h0 | ⟨g, hA, _, ho⟩
          · exact .inl h0
          · exact .inr ⟨g, 0, hA, ho.1, own_row ho fun _ _ => rfl⟩
        have s1 := fun (W : World) (hW : Keeps w1 W) (c : Nat) => show (convert 22 9 (.slice A1 len c)).run Try.prog W = .ok (.string S) W from by
          rw [HS.out]
          rcases hA2 with h0 | ⟨b, off, hA, hlt, hr⟩
          · subst h0; rw [run_str0]; rfl
          · subst hA; exact run_str (hW.row hr hlt)
        have k1 := Keeps.self w1
        have k2 := Keeps.drew w1
        clear hcv hA1 hA2
        go_wp2_with fail
        refine (rput_no S a m v _ (by have := HSS.out; omega) (by have := HSS.out; omega)).mono ?_
        rintro e w' ⟨rfl, rfl⟩
        go_wp2_with fail
        go_region_with (first | (go_at_call 15; refine (put_no _ _ _ _ _ _ _ (by omega) hC).mono ?_; rintro e w' ⟨rfl, rfl⟩) | (go_at_call 20; refine (bytes_any v m cl _ v0 v1 HCL.out).mono ?_; rintro e w4 ⟨rfl, hown4, hbel4⟩; have s2 := (fun (W : World) (hW : Keeps w4 W) (c : Nat) => run_str (cap := c) (hW.row (own_row (f' := byteOf v) hown4 (fun i hi => by unfold leF; rw [if_pos hi])) hown4.1)); simp at s2; have q2 := Keeps.self w4) | (go_at_call 21; refine (rbytes_any v m cl _ v0 v1 HCL.out).mono ?_; rintro e w5 ⟨rfl, hbel5⟩; have q3 := Keeps.below (Keeps.self _) hbel5))
        all_goals go_wp2
        all_goals go_roundw
        all_goals first
          | (case rel =>
              have hbel3 := hbel1.drew
              have hbel5' : Below w.heap.size w w5 := (hbel3.trans (hbel4.mono hbel3.size)).trans (hbel5.mono (Nat.le_trans hbel3.size hbel4.size))
              exact ⟨k + 1, _, _, by omega, rfl, rfl, by go_num, hbel5'⟩)
          | (case measure => simp [intOf]; omega)
    · obtain rfl : k = 2 := by omega
      go_wp2_with (go_at_call 11; refine (awake1 _).mono ?_; rintro e w' ⟨rfl, hbel'⟩)
      go_ret
      exact ⟨rfl, hbel.trans (hbel'.mono hbel.size)⟩
end Go.Proofs.Ytclholeopgfakaa
