/- RelBases. -/
import Derived.Test.YtcommphfjkggkaaRelMath3
import Derived.Test.YtcommphfjkggkaaRelAwake
import Derived.Test.YtcommphfjkggkaaRef1
import Derived.Deep.RegionHeld3
import Derived.Deep.DeepFit
import Derived.BigQuiet
namespace Go.Proofs.Ytcommphfjkggkaa
open Go.ChangeShapes Go.WideShapes Go.ChangeAt Go.RowKit
set_option linter.unusedVariables false

theorem u64_32 (v : Int) (h0 : 0 ≤ v) (h1 : v < 18446744073709551616) : bits .and .u64 v 4294967295 = v % 4294967296 := by
  rw [u64_and _ _ (by omega) (by omega) (by omega) (by omega)]
  have e : (4294967295 : Int).toNat = 2 ^ 32 - 1 := rfl
  rw [e, Nat.and_two_pow_sub_one_eq_mod]
  omega

/-- A new slice of bytes, read as a text. -/
theorem ResB.str {w0 w W : World} {A : Option Addr} {n cap : Nat} {f g : Nat → Int} (h : ResB w0 w A n cap f) (hW : Keeps w W) (hfg : ∀ i, i < n → f i = g i) (hn : 0 < n) :
    (convert 22 9 (.slice A n cap)).run Try.prog W = .ok (.string (strF g 0 n)) W := by
  obtain ⟨b, rfl, _, ho⟩ : ∃ b, A = some ⟨b, 0, none⟩ ∧ w0.heap.size ≤ b ∧ Own w b n (fun i => .int .u8 (f i)) := by
    rcases h.2.2 with h | h
    · omega
    · exact h
  exact run_str (hW.row (own_row ho (fun i hi => by rw [hfg i hi])) ho.1)

theorem ResB.below {w0 w w' : World} {A : Option Addr} {n cap : Nat} {f : Nat → Int} (h : ResB w0 w A n cap f) (hb : Below w.heap.size w w') : ResB w0 w' A n cap f := by
  refine ⟨h.1, h.2.1, ?_⟩
  rcases h.2.2 with h | ⟨g, h1, h2, h3⟩
  · exact .inl h
  · exact .inr ⟨g, h1, h2, h3.below hb h3.1⟩

/-- One byte of a slice. -/
theorem ResB.cell {w0 w : World} {A : Option Addr} {n cap : Nat} {f : Nat → Int} (h : ResB w0 w A n cap f) (hn : 0 < n) : ∃ b, A = some ⟨b, 0, none⟩ ∧ b < w.heap.size ∧ ∀ i, i < n → w.cell? ⟨b, i, none⟩ = some (.int .u8 (f i)) := by
  rcases h.2.2 with h | ⟨g, h1, h2, h3⟩
  · omega
  · exact ⟨g, h1, h3.1, fun i hi => h3.cell hi⟩

set_option maxRecDepth 100000 in
set_option maxHeartbeats 4000000 in
theorem bases_walk (A : Option Addr) (n cap : Nat) (f : Nat → Int) (L : Option Addr) (l : List Site) (lc : Nat) (x y : Int) (w : World) (hl : n ≤ cap) (hb : Bytes255 f) (hs : SlB w A n f)
    (hL : SlT relC 2 w L l) (hll : l.length ≤ 9223372036854775807) (x0 : 0 ≤ x) (x1 : x ≤ 18446744073709551615) (y0 : 0 ≤ y) (y1 : y ≤ 18446744073709551615) :
    Calls Try.prog 5 #[.slice A n cap, .slice L l.length lc, .int .u64 x, .int .u64 y] w fun e w' => e = .returned (.bool true) ∧ Below w.heap.size w w' := by
  by_cases hn : n < 8 ∨ 300 < n
  · have HA := Lib.hid (awake10_any w)
    rcases (by omega : ((n : Int) < 8) ∨ (¬ (n : Int) < 8 ∧ 300 < (n : Int))) with h | ⟨h, h'⟩
    all_goals
      go_enter Try.func5, Try.ntmps5
      go_wp2_with fail
      go_fit HA.out
      rintro e w' ⟨rfl, hb⟩
      go_wp2_with fail
      go_ret
      exact ⟨rfl, hb⟩
  · have HB := Lib.hid hb
    have HS := Lib.hid hs
    have HC := Lib.hid (apart_any L l lc n w hL hll (by omega) (by omega))
    have hn0 : ¬ (n : Int) < 8 := by omega
    have hn1 : ¬ 300 < (n : Int) := by omega
    have HN := Lib.hid (show 8 ≤ n ∧ n ≤ 300 by omega)
    clear hb hs hL hn
    go_enter Try.func5, Try.ntmps5
    go_wp2_with fail
    go_fit HC.out
    rintro e w1 ⟨own, A1, cap1, rfl, hown, hapt, hb1⟩
    have HAPT := Lib.hid hapt
    have HOW1 := Lib.hid hown
    have HB1 := Lib.hid hb1
    have hol := hapt.len
    have HK := Lib.hid (show ∀ z ∈ own, -9223372036854775808 ≤ z.2 ∧ z.2 ≤ 9223372036854775807 from fun z hz => by have h1 := hapt.kinds z hz; have h2 := hapt.low z hz; omega)
    clear hown hapt hb1 HC
    have HS1 := Lib.hid (HS.out.below HB1.out)
    have HP := Lib.hid (apply_any A n cap f A1 own cap1 x w1 hl (by omega) HB.out HS1.out (HOW1.out.sl relC_len) (by omega) HK.out x0 (by omega))
    go_wp2_with fail
    go_fit HP.out
    rintro e w2 ⟨A2, cap2, rfl, hr2, hb2⟩
    have HR2 := Lib.hid hr2
    have HB2 := Lib.hid (HB1.out.trans (hb2.mono HB1.out.size))
    have HOW2 := Lib.hid (HOW1.out.below hb2)
    have HS2 := Lib.hid (HS1.out.below hb2)
    clear hr2 HP
    have HQ := Lib.hid (apply_any A n cap f A1 own cap1 y w2 hl (by omega) HB.out HS2.out (HOW2.out.sl relC_len) (by omega) HK.out y0 (by omega))
    go_wp2_with fail
    go_fit HQ.out
    rintro e w3 ⟨A3, cap3, rfl, hr3, hb3⟩
    have HR3 := Lib.hid hr3
    have HR23 := Lib.hid (HR2.out.below hb3)
    have HB3 := Lib.hid (HB2.out.trans (hb3.mono HB2.out.size))
    have HOW3 := Lib.hid (HOW2.out.below hb3)
    have HS3 := Lib.hid (HS2.out.below hb3)
    have hcp2 := HR23.out.1
    clear hr3 HQ hb2 hb3 HS1 HOW1 HS2 HOW2 HR2
    have hz : 0 ≤ (-x) % 18446744073709551616 ∧ (-x) % 18446744073709551616 ≤ 18446744073709551615 := by omega
    have hxz : (x + (-x) % 18446744073709551616) % 18446744073709551616 = 0 := by omega
    have HXZ := Lib.hid hxz
    have hwz : IntKind.u64.wrap (-x) = (-x) % 18446744073709551616 := by rw [IntKind.wrap_u64]
    have HZ := Lib.hid (apply_any A2 n cap2 (applyI n x f own) A1 own cap1 ((-x) % 18446744073709551616) w3 hcp2 (by omega) (applyI255 own HB.out) HR23.out.sl (HOW3.out.sl relC_len) (by omega) HK.out hz.1 (by omega))
    clear hxz hcp2
    generalize (-x) % 18446744073709551616 = z at *
    have hp := HR23.out
    go_upto_region 6 with (go_fit HZ.out; rintro e w4 ⟨A4, cap4, rfl, hr4, hb4⟩)
    have HR4 := Lib.hid hr4
    have HR24 := Lib.hid (HR23.out.below hb4)
    have HR34 := Lib.hid (HR3.out.below hb4)
    have HB4 := Lib.hid (HB3.out.trans (hb4.mono HB3.out.size))
    have HOW4 := Lib.hid (HOW3.out.below hb4)
    have HS4 := Lib.hid (HS3.out.below hb4)
    clear hp hr4 HZ hb4 HS3 HOW3 HR3 HR23 HB1 HB2 HB3
    have HD := Lib.hid (apply_any A n cap f A1 own cap1 0 w4.drew hl (by omega) HB.out HS4.out (HOW4.out.sl relC_len) (by omega) HK.out (by omega) (by omega))
    obtain ⟨S, hS⟩ : ∃ S, strF f 0 n = S := ⟨_, rfl⟩
    have s1 : ∀ (W : World) (hW : Keeps w4 W), (convert 22 9 (.slice A4 n cap4)).run Try.prog W = .ok (.string S) W := fun W hW => by
      rw [← hS]; exact HR4.out.str hW (fun i hi => apply_undo own HB.out HAPT.out.kinds HAPT.out.far HXZ.out i) (by omega)
    have s2 : ∀ (W : World) (hW : Keeps w4 W), (convert 22 9 (.slice A n cap)).run Try.prog W = .ok (.string S) W := fun W hW => by
      rw [← hS]
      rcases HS4.out with h | ⟨b, off, ha, hlt, hr⟩
      · omega
      · subst ha; exact run_str (hW.row hr hlt)
    have k1 := Keeps.self w4
    have k2 := Keeps.drew w4
    have HSS := Lib.hid hS
    have HN0 := Lib.hid (show 0 < n by omega)
    have g1 : ((n : Int) != (n : Int)) = false := by simp
    have g2 : (S.toList == S.toList) = true := by simp
    clear hS hz hwz hn0 hn1 hl
    go_cut [77] from 24 (fun v wx => v = .bool false ∧ Below w4.heap.size w4 wx)
    case first =>
      refine wp_region_noPanic ?_
      refine wp_region_held_drew (S := fun W' => Keeps w4 W') (by kernel_rfl) ?_ (fun hHeld => ?_)
      · (first | exact k4 | exact k2 | exact k1 | fail)
      refine wpAnyH_take (i := 0) (oi := ?_) (v := ?_) ?_ (by kernel_rfl) (by kernel_rfl) (by kernel_rfl) (fun _ _ _ h => h) ?_ (by assumption) ?_
      rotate_left 2
      · (simp only [List.getElem?_toArray, List.getElem?_cons_succ, List.getElem?_cons_zero]; rfl)
      · (refine Or.inl ⟨by rfl, ?_⟩; intro w hSw; (try dsimp only at hSw); go_simp; try with_reducible rfl)
      try simp only [Act.put, List.setIfInBounds_toArray, List.set_cons_zero, List.set_cons_succ]
      refine wpAnyH_take (i := 1) (oi := ?_) (v := ?_) ?_ (by kernel_rfl) (by kernel_rfl) (by kernel_rfl) (fun _ _ _ h => h) ?_ (by assumption) ?_
      rotate_left 2
      · (simp only [List.getElem?_toArray, List.getElem?_cons_succ, List.getElem?_cons_zero]; rfl)
      · (refine Or.inl ⟨by rfl, ?_⟩; intro w hSw; (try dsimp only at hSw); go_simp; try with_reducible rfl)
      try simp only [Act.put, List.setIfInBounds_toArray, List.set_cons_zero, List.set_cons_succ]
      refine wpAnyH_take (i := 2) (oi := ?_) (v := ?_) ?_ (by kernel_rfl) (by kernel_rfl) (by kernel_rfl) (fun _ _ _ h => h) ?_ (by assumption) ?_
      rotate_left 2
      · (simp only [List.getElem?_toArray, List.getElem?_cons_succ, List.getElem?_cons_zero]; rfl)
      · (refine Or.inl ⟨by rfl, ?_⟩; intro w hSw; (try dsimp only at hSw); go_simp; try with_reducible rfl)
      try simp only [Act.put, List.setIfInBounds_toArray, List.set_cons_zero, List.set_cons_succ]
      refine wpAnyH_take (i := 3) (oi := ?_) (v := ?_) ?_ (by kernel_rfl) (by kernel_rfl) (by kernel_rfl) (fun _ _ _ h => h) ?_ (by assumption) ?_
      rotate_left 2
      · (simp only [List.getElem?_toArray, List.getElem?_cons_succ, List.getElem?_cons_zero]; rfl)
      · (refine Or.inl ⟨by rfl, ?_⟩; intro w hSw; (try dsimp only at hSw); go_simp; try with_reducible rfl)
      try simp only [Act.put, List.setIfInBounds_toArray, List.set_cons_zero, List.set_cons_succ]
      refine wpAnyH_take (i := 4) (oi := ?_) (v := ?_) ?_ (by kernel_rfl) (by kernel_rfl) (by kernel_rfl) (fun _ _ _ h => h) ?_ (by assumption) ?_
      rotate_left 2
      · (simp only [List.getElem?_toArray, List.getElem?_cons_succ, List.getElem?_cons_zero]; rfl)
      · (refine Or.inl ⟨by rfl, ?_⟩; intro w hSw; (try dsimp only at hSw); go_simp; try with_reducible rfl)
      try simp only [Act.put, List.setIfInBounds_toArray, List.set_cons_zero, List.set_cons_succ]
      refine wpAnyH_take (i := 5) (oi := ?_) (v := ?_) ?_ (by kernel_rfl) (by kernel_rfl) (by kernel_rfl) (fun _ _ _ h => h) ?_ (by assumption) ?_
      rotate_left 2
      · (simp only [List.getElem?_toArray, List.getElem?_cons_succ, List.getElem?_cons_zero]; rfl)
      · (refine Or.inl ⟨by rfl, ?_⟩; intro w hSw; (try dsimp only at hSw); go_simp; try with_reducible rfl)
      try simp only [Act.put, List.setIfInBounds_toArray, List.set_cons_zero, List.set_cons_succ]
      refine wpAnyH_take (i := 6) (oi := ?_) (v := ?_) ?_ (by kernel_rfl) (by kernel_rfl) (by kernel_rfl) (fun _ _ _ h => h) ?_ (by assumption) ?_
      rotate_left 2
      · (simp only [List.getElem?_toArray, List.getElem?_cons_succ, List.getElem?_cons_zero]; rfl)
      · (refine Or.inl ⟨by rfl, ?_⟩; intro w hSw; (try dsimp only at hSw); go_simp; try with_reducible rfl)
      try simp only [Act.put, List.setIfInBounds_toArray, List.set_cons_zero, List.set_cons_succ]
      refine wpAnyH_take (i := 7) (oi := ?_) (v := ?_) ?_ (by kernel_rfl) (by kernel_rfl) (by kernel_rfl) (fun _ _ _ h => h) ?_ (by assumption) ?_
      rotate_left 2
      · (simp only [List.getElem?_toArray, List.getElem?_cons_succ, List.getElem?_cons_zero]; rfl)
      · (refine Or.inl ⟨by rfl, ?_⟩; intro w hSw; (try dsimp only at hSw); go_simp; try with_reducible rfl)
      try simp only [Act.put, List.setIfInBounds_toArray, List.set_cons_zero, List.set_cons_succ]
      refine wpAnyH_take (i := 8) (oi := ?_) (v := ?_) ?_ (by kernel_rfl) (by kernel_rfl) (by kernel_rfl) (fun _ _ _ h => h) ?_ (by assumption) ?_
      rotate_left 2
      · (simp only [List.getElem?_toArray, List.getElem?_cons_succ, List.getElem?_cons_zero]; rfl)
      · (refine Or.inl ⟨by rfl, ?_⟩; intro w hSw; (try dsimp only at hSw); go_simp; try with_reducible rfl)
      try simp only [Act.put, List.setIfInBounds_toArray, List.set_cons_zero, List.set_cons_succ]
      refine wpAnyH_take (i := 9) (oi := ?_) (v := ?_) ?_ (by kernel_rfl) (by kernel_rfl) (by kernel_rfl) (fun _ _ _ h => h) ?_ (by assumption) ?_
      rotate_left 2
      · (simp only [List.getElem?_toArray, List.getElem?_cons_succ, List.getElem?_cons_zero]; rfl)
      · (refine Or.inl ⟨by rfl, ?_⟩; intro w hSw; (try dsimp only at hSw); go_simp; try with_reducible rfl)
      try simp only [Act.put, List.setIfInBounds_toArray, List.set_cons_zero, List.set_cons_succ]
      refine wpAnyH_take (i := 10) (oi := ?_) (v := ?_) ?_ (by kernel_rfl) (by kernel_rfl) (by kernel_rfl) (fun _ _ _ h => h) ?_ (by assumption) ?_
      rotate_left 2
      · (simp only [List.getElem?_toArray, List.getElem?_cons_succ, List.getElem?_cons_zero]; rfl)
      · (refine Or.inl ⟨by rfl, ?_⟩; intro w hSw; (try dsimp only at hSw); go_simp; try with_reducible rfl)
      try simp only [Act.put, List.setIfInBounds_toArray, List.set_cons_zero, List.set_cons_succ]
      refine wpAnyH_take (i := 11) (oi := ?_) (v := ?_) ?_ (by kernel_rfl) (by kernel_rfl) (by kernel_rfl) (fun _ _ _ h => h) ?_ (by assumption) ?_
      rotate_left 2
      · (simp only [List.getElem?_toArray, List.getElem?_cons_succ, List.getElem?_cons_zero]; rfl)
      · (refine Or.inl ⟨by rfl, ?_⟩; intro w hSw; (try dsimp only at hSw); go_simp; try with_reducible rfl)
      try simp only [Act.put, List.setIfInBounds_toArray, List.set_cons_zero, List.set_cons_succ]
      refine wpAnyH_take (i := 12) (oi := ?_) (v := ?_) ?_ (by kernel_rfl) (by kernel_rfl) (by kernel_rfl) (fun _ _ _ h => h) ?_ (by assumption) ?_
      rotate_left 2
      · (simp only [List.getElem?_toArray, List.getElem?_cons_succ, List.getElem?_cons_zero]; rfl)
      · (refine Or.inl ⟨by rfl, ?_⟩; intro w hSw; (try dsimp only at hSw); go_simp; try with_reducible rfl)
      try simp only [Act.put, List.setIfInBounds_toArray, List.set_cons_zero, List.set_cons_succ]
      refine wpAnyH_take (i := 13) (oi := ?_) (v := ?_) ?_ (by kernel_rfl) (by kernel_rfl) (by kernel_rfl) (fun _ _ _ h => h) ?_ (by assumption) ?_
      rotate_left 2
      · (simp only [List.getElem?_toArray, List.getElem?_cons_succ, List.getElem?_cons_zero]; rfl)
      · (refine Or.inl ⟨by rfl, ?_⟩; intro w hSw; (try dsimp only at hSw); go_simp; try with_reducible rfl)
      try simp only [Act.put, List.setIfInBounds_toArray, List.set_cons_zero, List.set_cons_succ]
      refine wpAnyH_take (i := 14) (oi := ?_) (v := ?_) ?_ (by kernel_rfl) (by kernel_rfl) (by kernel_rfl) (fun _ _ _ h => h) ?_ (by assumption) ?_
      rotate_left 2
      · (simp only [List.getElem?_toArray, List.getElem?_cons_succ, List.getElem?_cons_zero]; rfl)
      · (refine Or.inl ⟨by rfl, ?_⟩; intro w hSw; (try dsimp only at hSw); go_simp; try with_reducible rfl)
      try simp only [Act.put, List.setIfInBounds_toArray, List.set_cons_zero, List.set_cons_succ]
      refine wpAnyH_take (i := 15) (oi := ?_) (v := ?_) ?_ (by kernel_rfl) (by kernel_rfl) (by kernel_rfl) (fun _ _ _ h => h) ?_ (by assumption) ?_
      rotate_left 2
      · (simp only [List.getElem?_toArray, List.getElem?_cons_succ, List.getElem?_cons_zero]; rfl)
      · (refine Or.inl ⟨by rfl, ?_⟩; intro w hSw; (try dsimp only at hSw); go_simp; try with_reducible rfl)
      try simp only [Act.put, List.setIfInBounds_toArray, List.set_cons_zero, List.set_cons_succ]
      refine wpAnyH_take (i := 16) (oi := ?_) (v := ?_) ?_ (by kernel_rfl) (by kernel_rfl) (by kernel_rfl) (fun _ _ _ h => h) ?_ (by assumption) ?_
      rotate_left 2
      · (simp only [List.getElem?_toArray, List.getElem?_cons_succ, List.getElem?_cons_zero]; rfl)
      · (refine Or.inl ⟨by rfl, ?_⟩; intro w hSw; (try dsimp only at hSw); go_simp; try with_reducible rfl)
      try simp only [Act.put, List.setIfInBounds_toArray, List.set_cons_zero, List.set_cons_succ]
      refine wpAnyH_take (i := 17) (oi := ?_) (v := ?_) ?_ (by kernel_rfl) (by kernel_rfl) (by kernel_rfl) (fun _ _ _ h => h) ?_ (by assumption) ?_
      rotate_left 2
      · (simp only [List.getElem?_toArray, List.getElem?_cons_succ, List.getElem?_cons_zero]; rfl)
      · (refine Or.inl ⟨by rfl, ?_⟩; intro w hSw; (try dsimp only at hSw); go_simp; try with_reducible rfl)
      try simp only [Act.put, List.setIfInBounds_toArray, List.set_cons_zero, List.set_cons_succ]
      refine wpAnyH_take (i := 18) (oi := ?_) (v := ?_) ?_ (by kernel_rfl) (by kernel_rfl) (by kernel_rfl) (fun _ _ _ h => h) ?_ (by assumption) ?_
      rotate_left 2
      · (simp only [List.getElem?_toArray, List.getElem?_cons_succ, List.getElem?_cons_zero]; rfl)
      · (refine Or.inl ⟨by rfl, ?_⟩; intro w hSw; (try dsimp only at hSw); go_simp; try with_reducible rfl)
      try simp only [Act.put, List.setIfInBounds_toArray, List.set_cons_zero, List.set_cons_succ]
      refine wpAnyH_take (i := 19) (oi := ?_) (v := ?_) ?_ (by kernel_rfl) (by kernel_rfl) (by kernel_rfl) (fun _ _ _ h => h) ?_ (by assumption) ?_
      rotate_left 2
      · (simp only [List.getElem?_toArray, List.getElem?_cons_succ, List.getElem?_cons_zero]; rfl)
      · (refine Or.inl ⟨by rfl, ?_⟩; intro w hSw; (try dsimp only at hSw); go_simp; try with_reducible rfl)
      try simp only [Act.put, List.setIfInBounds_toArray, List.set_cons_zero, List.set_cons_succ]
      refine wpAnyH_take (i := 20) (oi := ?_) (v := ?_) ?_ (by kernel_rfl) (by kernel_rfl) (by kernel_rfl) (fun _ _ _ h => h) ?_ (by assumption) ?_
      rotate_left 2
      · (simp only [List.getElem?_toArray, List.getElem?_cons_succ, List.getElem?_cons_zero]; rfl)
      · (refine Or.inl ⟨by rfl, ?_⟩; intro w hSw; (try dsimp only at hSw); go_simp; try with_reducible rfl)
      try simp only [Act.put, List.setIfInBounds_toArray, List.set_cons_zero, List.set_cons_succ]
      refine wpAnyH_take (i := 21) (oi := ?_) (v := ?_) ?_ (by kernel_rfl) (by kernel_rfl) (by kernel_rfl) (fun _ _ _ h => h) ?_ (by assumption) ?_
      rotate_left 2
      · (simp only [List.getElem?_toArray, List.getElem?_cons_succ, List.getElem?_cons_zero]; rfl)
      · (refine Or.inl ⟨by rfl, ?_⟩; intro w hSw; (try dsimp only at hSw); go_simp; try with_reducible rfl)
      try simp only [Act.put, List.setIfInBounds_toArray, List.set_cons_zero, List.set_cons_succ]
      refine wpAnyH_take (i := 24) (oi := ?_) (v := ?_) ?_ (by kernel_rfl) (by kernel_rfl) (by kernel_rfl) (fun _ _ _ h => h) ?_ (by assumption) ?_
      rotate_left 2
      · (simp only [List.getElem?_toArray, List.getElem?_cons_succ, List.getElem?_cons_zero]; rfl)
      · (refine Or.inl ⟨by rfl, ?_⟩; intro w hSw; (try dsimp only at hSw); go_simp; try with_reducible rfl)
      try simp only [Act.put, List.setIfInBounds_toArray, List.set_cons_zero, List.set_cons_succ]
      refine wpAnyH_take (i := 25) (oi := ?_) (v := ?_) ?_ (by kernel_rfl) (by kernel_rfl) (by kernel_rfl) (fun _ _ _ h => h) ?_ (by assumption) ?_
      rotate_left 2
      · (simp only [List.getElem?_toArray, List.getElem?_cons_succ, List.getElem?_cons_zero]; rfl)
      · (refine Or.inl ⟨by rfl, ?_⟩; intro w hSw; (try dsimp only at hSw); go_simp; try with_reducible rfl)
      try simp only [Act.put, List.setIfInBounds_toArray, List.set_cons_zero, List.set_cons_succ]
      refine wpAnyH_ready (rs := [22]) (by kernel_rfl) (by simp) ?_
      refine AllReadyH.cons (i := 22) rfl (fun K hK => ?_) ?_
      · go_simp
        (first | (go_at_call 13; refine HD.out.mono ?_; rintro e w5 ⟨A5, cap5, rfl, hr5, hb5⟩; have s3 : ∀ (W : World) (hW : Keeps w5 W), (convert 22 9 (.slice A5 n cap5)).run Try.prog W = .ok (.string S) W := fun W hW => (by rw [← HSS.out]; exact hr5.str hW (fun i hi => apply_nought own HB.out HAPT.out.kinds HAPT.out.far i) HN0.out); have k3 := Keeps.self w5; have k4 := Keeps.below k2 hb5; have HB5 := Lib.hid hb5; clear hr5 hb5))
        refine hK.out _ _ ?_ (fun hHeld => ?_)
        · (first | exact k4 | exact k2 | exact k1 | fail)
        clear hK K
        refine wpAnyH_ready (rs := [23]) (by kernel_rfl) (by simp) ?_
        refine AllReadyH.cons (i := 23) rfl (fun K hK => ?_) ?_
        · go_simp
          refine hK.out _ _ ?_ (fun hHeld => ?_)
          · (first | exact k4 | exact k2 | exact k1 | fail)
          clear hK K
          refine wpAnyH_take (i := 26) (oi := ?_) (v := ?_) ?_ (by kernel_rfl) (by kernel_rfl) (by kernel_rfl) (fun _ _ _ h => h) ?_ (by assumption) ?_
          rotate_left 2
          · (simp only [List.getElem?_toArray, List.getElem?_cons_succ, List.getElem?_cons_zero]; rfl)
          · (refine Or.inl ⟨by rfl, ?_⟩; intro w hSw; (try dsimp only at hSw); go_simp; try with_reducible rfl)
          try simp only [Act.put, List.setIfInBounds_toArray, List.set_cons_zero, List.set_cons_succ]
          refine wpAnyH_take (i := 27) (oi := ?_) (v := ?_) ?_ (by kernel_rfl) (by kernel_rfl) (by kernel_rfl) (fun _ _ _ h => h) ?_ (by assumption) ?_
          rotate_left 2
          · (simp only [List.getElem?_toArray, List.getElem?_cons_succ, List.getElem?_cons_zero]; rfl)
          · (refine Or.inl ⟨by rfl, ?_⟩; intro w hSw; (try dsimp only at hSw); go_simp; try with_reducible rfl)
          try simp only [Act.put, List.setIfInBounds_toArray, List.set_cons_zero, List.set_cons_succ]
          refine wpAnyH_done (by kernel_rfl) ?_ _
          refine NoPanic.normal ?_
          (go_wp2_with fail; go_meet; case rel => exact ⟨rfl, (Below.refl _ w4).drew.trans HB5.out⟩)
        exact AllReadyH.nil
      exact AllReadyH.nil
    case rest =>
      obtain ⟨rfl, hbw⟩ := hcut
      have HBW := Lib.hid (HB4.out.trans (hbw.mono HB4.out.size))
      obtain ⟨p2, rfl, hp2, hpc⟩ := (HR24.out.below hbw).cell HN0.out
      obtain ⟨p3, rfl, hp3, hqc⟩ := (HR34.out.below hbw).cell HN0.out
      have HCP0 := Lib.hid (fun (W : World) (hW : Keeps wc W) => (HR24.out.below hbw).str hW (fun i _ => rfl) HN0.out)
      have HCQ0 := Lib.hid (fun (W : World) (hW : Keeps wc W) => (HR34.out.below hbw).str hW (fun i _ => rfl) HN0.out)
      obtain ⟨pb, ob, rfl, hpb, hbc⟩ : ∃ b off, A = some ⟨b, off, none⟩ ∧ b < wc.heap.size ∧ ∀ i, i < n → wc.cell? ⟨b, off + i, none⟩ = some (.int .u8 (f i)) := by
        rcases HS4.out.below hbw with h | ⟨b, off, ha, hlt, hr⟩
        · have := HN0.out; omega
        · exact ⟨b, off, ha, hlt, hr⟩
      have HOWC := Lib.hid ((HOW4.out.below hbw).sl relC_len)
      have HPC := Lib.hid (And.intro hp2 hpc)
      have HQC := Lib.hid (And.intro hp3 hqc)
      have HBC := Lib.hid (And.intro hpb hbc)
      obtain ⟨Sp, hSp⟩ : ∃ Sp, strF (applyI n x f own) 0 n = Sp := ⟨_, rfl⟩
      obtain ⟨Sq, hSq⟩ : ∃ Sq, strF (applyI n y f own) 0 n = Sq := ⟨_, rfl⟩
      rw [hSp] at HCP0
      rw [hSq] at HCQ0
      have hszp : Sp.size = n := by rw [← hSp]; exact strF_size _ _ _
      have hszq : Sq.size = n := by rw [← hSq]; exact strF_size _ _ _
      have HSP := Lib.hid hSp
      have HSQ := Lib.hid hSq
      obtain ⟨hn8, hn300⟩ := HN.out
      clear hbw hp2 hpc hp3 hqc hpb hbc hSp hSq HD HR4 HR24 HR34 HS4 HOW4 HXZ s1 s2 k1 k2 g1 g2
      go_wp2_with (at_make; refine wpList_make_bytes _ rfl (.tmp 79) (.tmp 79) 40 rfl 4 (.bool false) 1 (by kernel_rfl) (by kernel_rfl) rfl .i64 .i64 n (by simp [Act.eval, Act.put]) (by simp [Act.eval, Act.put]) (by omega) (by omega) ?_; intro w6 hw6 ho6)
      have HW6 := Lib.hid hw6
      have HO6 := Lib.hid ho6
      clear hw6 ho6
      go_loopw [14] (fun o wr => ∃ (i : Nat) (tk : Nat → Bool), i ≤ own.length ∧ o = .int .i64 i ∧ Own wr wc.heap.size n (fun q => .bool (tk q)) ∧ Marks tk (own.take i) ∧ Below wc.heap.size wc wr) (fun o _ => own.length - (intOf o).toNat)
      case atStart => exact ⟨0, fun _ => false, by omega, rfl, HO6.out, Marks.nil, HW6.out⟩
      case round =>
        obtain ⟨i, tk, hi, rfl, htk, hmk, hbr⟩ := hrel
        have HTK := Lib.hid htk
        have HMK := Lib.hid hmk
        have HBR := Lib.hid hbr
        clear htk hmk hbr HO6 HW6
        by_cases hlt : i < own.length
        · obtain ⟨b1, off1, rfl, hbl1, q0, q1⟩ := (HOWC.out.below HBR.out).site hlt
          have HMEM := Lib.hid (List.getElem_mem hlt)
          have HX := Lib.hid (HAPT.out.kinds _ (List.getElem_mem hlt))
          have HCP := Lib.hid (fun (W : World) (hW : Keeps wr W) => HCP0.out W (show Keeps wc W from ⟨Nat.le_trans HBR.out.size hW.1, fun p hp => (hW.2 p (Nat.lt_of_lt_of_le hp HBR.out.size)).trans (HBR.out.cell hp)⟩))
          have HCQ := Lib.hid (fun (W : World) (hW : Keeps wr W) => HCQ0.out W (show Keeps wc W from ⟨Nat.le_trans HBR.out.size hW.1, fun p hp => (hW.2 p (Nat.lt_of_lt_of_le hp HBR.out.size)).trans (HBR.out.cell hp)⟩))
          obtain ⟨z, hz⟩ : ∃ z, own[i] = z := ⟨_, rfl⟩
          have HEQ := Lib.hid hz
          rw [hz] at q0 q1 HMEM HX
          clear hz
          obtain ⟨k, r⟩ := z
          simp only at q0 q1
          obtain ⟨R, rfl⟩ : ∃ R : Nat, r = R := ⟨r.toNat, by have := HX.out.2.1; simp only at this; omega⟩
          have hz0 : (0 : Int) ≤ (i : Int) := by omega
          have hzl : (i : Int) < (own.length : Int) := by omega
          rcases (show k = 3 ∨ k = 10 from HX.out.1) with rfl | rfl
          · have e13 : ((3 : Int) == 10) = false := rfl
            have hin : R + 4 ≤ n := by have := HX.out.2.2; simp [relLen] at this; omega
            have hvp : rdF (PlainAid.bt Sp) R 4 = (rdF f R 4 + x) % 4294967296 := by
              have h1 := applyI_at (n := n) (d := x) own f HAPT.out.kinds HAPT.out.far _ HMEM.out
              have h2 : rdF (PlainAid.bt Sp) R 4 = rdF (applyI n x f own) R 4 := rdF_congr _ _ (fun j hj => by rw [← HSP.out, bt_strF (applyI255 own HB.out) (by omega), Nat.zero_add])
              rw [h2]; exact h1
            have hvq : rdF (PlainAid.bt Sq) R 4 = (rdF f R 4 + y) % 4294967296 := by
              have h1 := applyI_at (n := n) (d := y) own f HAPT.out.kinds HAPT.out.far _ HMEM.out
              have h2 : rdF (PlainAid.bt Sq) R 4 = rdF (applyI n y f own) R 4 := rdF_congr _ _ (fun j hj => by rw [← HSQ.out, bt_strF (applyI255 own HB.out) (by omega), Nat.zero_add])
              rw [h2]; exact h1
            have hrb := rdF_bd f HB.out 4 R
            generalize rdF f R 4 = V at hvp hvq hrb
            have HNP := Lib.hid (fun W : World => (rnum_yes Sp R 4 W (by rw [hszp]; omega) (by omega) (by rw [hszp]; omega)).mono fun e w' h => And.intro h.1 h.2.symm)
            have HNQ := Lib.hid (fun W : World => (rnum_yes Sq R 4 W (by rw [hszq]; omega) (by omega) (by rw [hszq]; omega)).mono fun e w' h => And.intro h.1 h.2.symm)
            rw [hvp] at HNP
            rw [hvq] at HNQ
            obtain ⟨D, hD⟩ : ∃ D, (x - y) % 18446744073709551616 = D := ⟨_, rfl⟩
            have d2 : IntKind.u64.wrap (x - y) = D := by rw [IntKind.wrap_u64]; exact hD
            obtain ⟨D1, hD1⟩ : ∃ D1, ((V + x) % 4294967296 - (V + y) % 4294967296) % 18446744073709551616 = D1 := ⟨_, rfl⟩
            have d1 : IntKind.u64.wrap ((V + x) % 4294967296 - (V + y) % 4294967296) = D1 := by rw [IntKind.wrap_u64]; exact hD1
            have d3 : bits .and .u64 D1 4294967295 = D % 4294967296 := by rw [u64_32 _ (by omega) (by omega)]; omega
            have d4 : bits .and .u64 D 4294967295 = D % 4294967296 := u64_32 _ (by omega) (by omega)
            have dd : (D % 4294967296 != D % 4294967296) = false := by simp
            generalize (V + x) % 4294967296 = vp at *
            generalize (V + y) % 4294967296 = vq at *
            clear hvp hvq hrb hD hD1
            have HIN := Lib.hid hin
            have s1 : ∀ d : Nat, (convert 22 9 (.slice (some ⟨p2, 0, none⟩) n cap2)).run Try.prog (wr.drewN d) = .ok (.string Sp) (wr.drewN d) := fun d => HCP.out _ (Keeps.drewN wr d)
            go_wp2_with fail
            go_quiet ((go_at_call 14; exact Calls.quiet_of_same (HNP.out _)))
            go_wp2_with fail
            have q0b : (wr.drewN nq).cell? _ = _ := q0
            have q1b : (wr.drewN nq).cell? _ = _ := q1
            have HKB : Hid (Keeps wr (wr.drewN nq)) := Lib.hid (Keeps.drewN wr nq)
            have HTKB : Hid (Own (wr.drewN nq) wc.heap.size n (fun q => .bool (tk q))) := Lib.hid HTK.out
            have HBRB : Hid (Below wc.heap.size wc (wr.drewN nq)) := Lib.hid (belD HBR.out nq)
            clear q0 q1 s1
            generalize wr.drewN nq = wrb at *
            have s2 : ∀ d : Nat, (convert 22 9 (.slice (some ⟨p3, 0, none⟩) n cap3)).run Try.prog (wrb.drewN d) = .ok (.string Sq) (wrb.drewN d) := fun d => HCQ.out _ ⟨HKB.out.1, fun p hp => HKB.out.2 p hp⟩
            go_quiet ((go_at_call 14; exact Calls.quiet_of_same (HNQ.out _)))
            go_wp2_with fail
            clear s2 d1 d2 dd q0b q1b d3 d4
            go_loopw [22] (fun o wr2 => ∃ k : Nat, k ≤ 4 ∧ o = .int .i64 k ∧ Own wr2 wc.heap.size n (fun q => .bool (setT tk R (R + k) q)) ∧ Below wc.heap.size wc wr2) (fun o _ => 4 - (intOf o).toNat)
            case atStart => exact ⟨0, by omega, rfl, Own.congr (show Own (wrb.drewN _) wc.heap.size n _ from HTKB.out) (fun q _ => by simp only [setT]; congr 1; by_cases hq : (R : Int) ≤ q <;> simp <;> omega), belD HBRB.out _⟩
            case round =>
              obtain ⟨k, hk, rfl, hto, hbk⟩ := hrel
              have HTO := Lib.hid hto
              have HBK := Lib.hid hbk
              by_cases hlk : k < 4
              · obtain ⟨b4, off4, e4, hbl4, r0, r1⟩ := (HOWC.out.below HBK.out).site hlt
                injection e4 with e4
                injection e4 with e4 e5
                subst e4 e5
                rw [HEQ.out] at r1
                have ct := HTO.out.cell (i := R + k) (by omega)
                have cz := HTO.out.frozen (i := R + k) (by omega)
                have i0 : (0 : Int) ≤ (R : Int) + k := by omega
                have i1 : (R : Int) + k < (n : Int) := by omega
                have i2 : IntKind.i64.wrap ((R : Int) + k) = (R : Int) + k := by rw [IntKind.wrap_i64]; omega
                have i3 : ((R : Int) + k).toNat = R + k := by omega
                clear hto hbk r0
                go_wp2_with fail
                go_roundw
                case rel => exact ⟨k + 1, by omega, by go_num, (HTO.out.set (show R + k < n by omega) (.bool true)).congr (fun q hq => by
                    by_cases e : q = R + k
                    · subst e; simp [setT]; omega
                    · simp only [if_neg e, setT]; rw [show decide ((q : Int) < (R : Int) + (k : Int)) = decide ((q : Int) < (R : Int) + ((k + 1 : Nat) : Int)) by rw [decide_eq_decide]; omega]), HBK.out.setCell (Nat.le_refl _) _⟩
                case measure => simp [intOf]; omega
              · obtain rfl : k = 4 := by omega
                clear hto hbk
                go_wp2_with fail
                go_roundw
                case rel => exact ⟨i + 1, _, by omega, by go_num, HTO.out, by rw [List.take_succ_eq_append_getElem hlt, HEQ.out]; exact HMK.out.add 3 _ (by omega) (by simp [relLen]) (by simp; omega), HBK.out⟩
                case measure => simp [intOf]; omega
          · have e13 : ((10 : Int) == 10) = true := rfl
            have hin : R + 8 ≤ n := by have := HX.out.2.2; simp [relLen] at this; omega
            have hvp : rdF (PlainAid.bt Sp) R 8 = (rdF f R 8 + x) % 18446744073709551616 := by
              have h1 := applyI_at (n := n) (d := x) own f HAPT.out.kinds HAPT.out.far _ HMEM.out
              have h2 : rdF (PlainAid.bt Sp) R 8 = rdF (applyI n x f own) R 8 := rdF_congr _ _ (fun j hj => by rw [← HSP.out, bt_strF (applyI255 own HB.out) (by omega), Nat.zero_add])
              rw [h2]; exact h1
            have hvq : rdF (PlainAid.bt Sq) R 8 = (rdF f R 8 + y) % 18446744073709551616 := by
              have h1 := applyI_at (n := n) (d := y) own f HAPT.out.kinds HAPT.out.far _ HMEM.out
              have h2 : rdF (PlainAid.bt Sq) R 8 = rdF (applyI n y f own) R 8 := rdF_congr _ _ (fun j hj => by rw [← HSQ.out, bt_strF (applyI255 own HB.out) (by omega), Nat.zero_add])
              rw [h2]; exact h1
            have hrb := rdF_bd f HB.out 8 R
            generalize rdF f R 8 = V at hvp hvq hrb
            have HNP := Lib.hid (fun W : World => (rnum_yes Sp R 8 W (by rw [hszp]; omega) (by omega) (by rw [hszp]; omega)).mono fun e w' h => And.intro h.1 h.2.symm)
            have HNQ := Lib.hid (fun W : World => (rnum_yes Sq R 8 W (by rw [hszq]; omega) (by omega) (by rw [hszq]; omega)).mono fun e w' h => And.intro h.1 h.2.symm)
            rw [hvp] at HNP
            rw [hvq] at HNQ
            obtain ⟨D, hD⟩ : ∃ D, (x - y) % 18446744073709551616 = D := ⟨_, rfl⟩
            have d2 : IntKind.u64.wrap (x - y) = D := by rw [IntKind.wrap_u64]; exact hD
            have d1 : IntKind.u64.wrap ((V + x) % 18446744073709551616 - (V + y) % 18446744073709551616) = D := by rw [IntKind.wrap_u64]; omega
            have dd : (D != D) = false := by simp
            generalize (V + x) % 18446744073709551616 = vp at *
            generalize (V + y) % 18446744073709551616 = vq at *
            clear hvp hvq hrb hD 
            have HIN := Lib.hid hin
            have s1 : ∀ d : Nat, (convert 22 9 (.slice (some ⟨p2, 0, none⟩) n cap2)).run Try.prog (wr.drewN d) = .ok (.string Sp) (wr.drewN d) := fun d => HCP.out _ (Keeps.drewN wr d)
            go_wp2_with fail
            go_quiet ((go_at_call 14; exact Calls.quiet_of_same (HNP.out _)))
            go_wp2_with fail
            have q0b : (wr.drewN nq).cell? _ = _ := q0
            have q1b : (wr.drewN nq).cell? _ = _ := q1
            have HKB : Hid (Keeps wr (wr.drewN nq)) := Lib.hid (Keeps.drewN wr nq)
            have HTKB : Hid (Own (wr.drewN nq) wc.heap.size n (fun q => .bool (tk q))) := Lib.hid HTK.out
            have HBRB : Hid (Below wc.heap.size wc (wr.drewN nq)) := Lib.hid (belD HBR.out nq)
            clear q0 q1 s1
            generalize wr.drewN nq = wrb at *
            have s2 : ∀ d : Nat, (convert 22 9 (.slice (some ⟨p3, 0, none⟩) n cap3)).run Try.prog (wrb.drewN d) = .ok (.string Sq) (wrb.drewN d) := fun d => HCQ.out _ ⟨HKB.out.1, fun p hp => HKB.out.2 p hp⟩
            go_quiet ((go_at_call 14; exact Calls.quiet_of_same (HNQ.out _)))
            go_wp2_with fail
            clear s2 d1 d2 dd q0b q1b 
            go_loopw [22] (fun o wr2 => ∃ k : Nat, k ≤ 8 ∧ o = .int .i64 k ∧ Own wr2 wc.heap.size n (fun q => .bool (setT tk R (R + k) q)) ∧ Below wc.heap.size wc wr2) (fun o _ => 8 - (intOf o).toNat)
            case atStart => exact ⟨0, by omega, rfl, Own.congr (show Own (wrb.drewN _) wc.heap.size n _ from HTKB.out) (fun q _ => by simp only [setT]; congr 1; by_cases hq : (R : Int) ≤ q <;> simp <;> omega), belD HBRB.out _⟩
            case round =>
              obtain ⟨k, hk, rfl, hto, hbk⟩ := hrel
              have HTO := Lib.hid hto
              have HBK := Lib.hid hbk
              by_cases hlk : k < 8
              · obtain ⟨b4, off4, e4, hbl4, r0, r1⟩ := (HOWC.out.below HBK.out).site hlt
                injection e4 with e4
                injection e4 with e4 e5
                subst e4 e5
                rw [HEQ.out] at r1
                have ct := HTO.out.cell (i := R + k) (by omega)
                have cz := HTO.out.frozen (i := R + k) (by omega)
                have i0 : (0 : Int) ≤ (R : Int) + k := by omega
                have i1 : (R : Int) + k < (n : Int) := by omega
                have i2 : IntKind.i64.wrap ((R : Int) + k) = (R : Int) + k := by rw [IntKind.wrap_i64]; omega
                have i3 : ((R : Int) + k).toNat = R + k := by omega
                clear hto hbk r0
                go_wp2_with fail
                go_roundw
                case rel => exact ⟨k + 1, by omega, by go_num, (HTO.out.set (show R + k < n by omega) (.bool true)).congr (fun q hq => by
                    by_cases e : q = R + k
                    · subst e; simp [setT]; omega
                    · simp only [if_neg e, setT]; rw [show decide ((q : Int) < (R : Int) + (k : Int)) = decide ((q : Int) < (R : Int) + ((k + 1 : Nat) : Int)) by rw [decide_eq_decide]; omega]), HBK.out.setCell (Nat.le_refl _) _⟩
                case measure => simp [intOf]; omega
              · obtain rfl : k = 8 := by omega
                clear hto hbk
                go_wp2_with fail
                go_roundw
                case rel => exact ⟨i + 1, _, by omega, by go_num, HTO.out, by rw [List.take_succ_eq_append_getElem hlt, HEQ.out]; exact HMK.out.add 10 _ (by omega) (by simp [relLen]) (by simp; omega), HBK.out⟩
                case measure => simp [intOf]; omega
        · obtain rfl : i = own.length := by omega
          rw [List.take_length] at HMK
          have HPR := Lib.hid (fun j (hj : j < n) => (HBR.out.cell HPC.out.1).trans (HPC.out.2 j hj))
          have HQR := Lib.hid (fun j (hj : j < n) => (HBR.out.cell HQC.out.1).trans (HQC.out.2 j hj))
          have HBRR := Lib.hid (fun j (hj : j < n) => (HBR.out.cell HBC.out.1).trans (HBC.out.2 j hj))
          go_wp2_with fail
          go_loopw [23] (fun o wr2 => ∃ j : Nat, j ≤ n ∧ o = .int .i64 j ∧ ∃ d, wr2 = wr.drewN d) (fun o _ => n - (intOf o).toNat)
          case atStart => exact ⟨0, by omega, rfl, 0, rfl⟩
          case round =>
            obtain ⟨j, hj, rfl, hd⟩ := hrel
            have HDD := Lib.hid hd
            have j0 : (0 : Int) ≤ (j : Int) := by omega
            by_cases hlj : j < n
            · have jl : (j : Int) < (n : Int) := by omega
              have c1 : wr.cell? ⟨wc.heap.size, j, none⟩ = some (.bool (tk j)) := by obtain ⟨d, rfl⟩ := hd; exact HTK.out.cell hlj
              have c2 : wr.cell? ⟨p2, j, none⟩ = some (.int .u8 (applyI n x f own j)) := by obtain ⟨d, rfl⟩ := hd; exact HPR.out j hlj
              have c3 : wr.cell? ⟨p3, j, none⟩ = some (.int .u8 (applyI n y f own j)) := by obtain ⟨d, rfl⟩ := hd; exact HQR.out j hlj
              have c4 : wr.cell? ⟨pb, ob + j, none⟩ = some (.int .u8 (f j)) := by obtain ⟨d, rfl⟩ := hd; exact HBRR.out j hlj
              clear hd
              cases hT : tk j with
              | true =>
                rw [hT] at c1
                clear hT
                go_wp2_with fail
                go_quiet (fail)
                go_wp2_with fail
                go_roundw
                case rel => exact ⟨j + 1, by omega, by go_num, by obtain ⟨d, rfl⟩ := HDD.out; exact ⟨_, by rw [World.drewN_drewN]⟩⟩
                case measure => simp [intOf]; omega
              | false =>
                rw [hT] at c1
                have hno : ∀ z ∈ own, (j : Int) < z.2 ∨ z.2 + relLen z.1 ≤ j := fun z hz => by
                  have h1 := mt (HMK.out.mark j).2 (by rw [hT]; simp)
                  have h2 : ¬ (z.2 ≤ (j : Int) ∧ (j : Int) < z.2 + relLen z.1) := fun h => h1 ⟨z, hz, h⟩
                  omega
                rw [applyI_ne own f hno] at c2 c3
                generalize f j = v at *
                have vv : (v != v) = false := by simp
                clear hT hno
                go_wp2_with fail
                go_quiet (fail)
                go_wp2_with fail
                go_roundw
                case rel => exact ⟨j + 1, by omega, by go_num, by obtain ⟨d, rfl⟩ := HDD.out; exact ⟨_, by rw [World.drewN_drewN]⟩⟩
                case measure => simp [intOf]; omega
            · obtain rfl : j = n := by omega
              clear hd
              go_wp2_with fail
              go_fit (awake10_any wr)
              rintro e w9 ⟨rfl, hb9⟩
              have HB9 : Below w.heap.size w w9 := by
                obtain ⟨d, rfl⟩ := HDD.out
                have h1 := HBW.out.trans ((belD HBR.out d).mono HBW.out.size)
                exact h1.trans (hb9.mono h1.size)
              clear hb9
              go_wp2_with fail
              go_ret
              exact ⟨rfl, HB9⟩
end Go.Proofs.Ytcommphfjkggkaa
