/- RelForms. -/
import Derived.Test.YtcommphfjkggkaaRelAwake
import Derived.Test.YtcommphfjkggkaaBl2
import Derived.Deep.Cut
import Derived.Deep.RegionHeld3
import Derived.Deep.DrawnRows
namespace Go.Proofs.Ytcommphfjkggkaa
open Go.ChangeShapes Go.WideShapes Go.ChangeAt Go.RowKit
set_option linter.unusedVariables false

def rfRow : List Int := [0, 0, 0, 0, 12, 0, 0, 0, 8, 160, 0, 0]
/-- The row and the directory with one thing wrong. -/
def rfBad : Nat → List Int × Int × Int
  | 0 => (rfRow.set 4 4, 64, 12)
  | 1 => (rfRow.set 4 10, 64, 12)
  | 2 => (rfRow.set 4 16, 64, 12)
  | 3 => (rfRow.set 0 1, 64, 12)
  | 4 => (rfRow.set 9 80, 64, 12)
  | 5 => ((rfRow.set 8 70).set 9 160, 64, 12)
  | 6 => (rfRow, 64, 11)
  | _ => (rfRow, 70, 12)
theorem rf_good : parseS 76 (litF (List.replicate 64 0 ++ rfRow)) 64 12 = some [(10, 8)] := by decide +kernel
theorem rf_bad (k : Nat) (h : k < 8) : parseS 76 (litF (List.replicate 64 0 ++ (rfBad k).1)) (rfBad k).2.1 (rfBad k).2.2 = none := by
  rcases (by omega : k = 0 ∨ k = 1 ∨ k = 2 ∨ k = 3 ∨ k = 4 ∨ k = 5 ∨ k = 6 ∨ k = 7) with rfl | rfl | rfl | rfl | rfl | rfl | rfl | rfl <;> decide +kernel

theorem bel_app0 {W2 w3 : World} {v : Value} (hv : ∀ k, v.ownBlock = some k → W2.heap.size ≤ k) (hg : (W2.alloc (.cells #[] 5)).drew.grownBy w3 v.ownBlock) : Below W2.heap.size W2 w3 :=
  (((Below.refl W2.heap.size W2).alloc (Nat.le_refl _) (.cells #[] 5)).drew).trans ⟨hg.os, hg.tape, hg.output, hg.size, fun k hk => hg.block k (by simp; omega) (fun e => by have := hv k e.symm; omega)⟩
theorem bel_app1 {W2 w3 : World} {v : Value} (hv : ∀ k, v.ownBlock = some k → W2.heap.size ≤ k) (hg : (W2.drew.alloc (.cells #[] 5)).grownBy w3 v.ownBlock) : Below W2.heap.size W2 w3 :=
  (((Below.refl W2.heap.size W2).alloc (Nat.le_refl _) (.cells #[] 5)).drew).trans ⟨hg.os, hg.tape, hg.output, hg.size, fun k hk => hg.block k (by simp; omega) (fun e => by have := hv k e.symm; omega)⟩

theorem parse_bl {w : World} {base n cap : Nat} {A : Option Addr} {bs : List Int} {r s : Int} {res : Option (List Site)} (hown : OwnBL w base (.slice A n cap) bs) (hB : Bs bs) (h : parseS bs.length (litF bs) r s = res) (hn : bs.length ≤ 100000)
    (r0 : -9223372036854775808 ≤ r) (r1 : r ≤ 9223372036854775807) (s0 : -9223372036854775808 ≤ s) (s1 : s ≤ 9223372036854775807) :
    Calls Try.prog 9 #[.slice A n cap, .agg #[.int .i64 r, .int .i64 s]] w fun e w' => ParseR w w' res e := by
  obtain ⟨h1, h2, _, h4, _⟩ := hown.slice
  subst h1
  subst h
  exact parse_any A _ cap (litF bs) r s w h2 (by omega) hB.lit h4 r0 r1 s0 s1
theorem rf_bs (k : Nat) (h : k < 8) : Bs (List.replicate 64 0 ++ (rfBad k).1) := by
  have h : ∀ b ∈ List.replicate 64 0 ++ (rfBad k).1, 0 ≤ b ∧ b ≤ 255 := by
    rcases (by omega : k = 0 ∨ k = 1 ∨ k = 2 ∨ k = 3 ∨ k = 4 ∨ k = 5 ∨ k = 6 ∨ k = 7) with rfl | rfl | rfl | rfl | rfl | rfl | rfl | rfl <;> decide +kernel
  exact h

set_option maxRecDepth 100000 in
set_option maxHeartbeats 4000000 in
theorem forms_core (w : World) (which : Int) : Calls Try.prog 3 #[.int .i64 which] w fun e w' => e = .returned (.bool true) ∧ Below w.heap.size w w' := by
  obtain ⟨K, hK⟩ : ∃ K : Nat, which % 8 = K := ⟨(which % 8).toNat, by omega⟩
  have hKb := (and_7 which).trans hK
  have hK8 : K < 8 := by omega
  clear hK
  go_enter Try.func3, Try.ntmps3
  go_upto_region 4 with (at_make; refine wpList_make_bl rfl _ _ rfl w.heap.size .i64 .i64 64 rfl rfl (by omega) (by simp) ?_; intro w1 hw1 hb1 hs1; have HS1 := Lib.hid hs1; clear hs1)
  have hs1 := HS1.out
  have hsz : ((w1.alloc (.cells (rfRow.map (Value.int .u8)).toArray 5)).alloc (.cells #[.int .i64 64, .int .i64 12] 24)).heap.size = w1.heap.size + 1 + 1 := by simp
  have HWB := Lib.hid ((hw1.alloc (.cells (rfRow.map (Value.int .u8)).toArray 5)).alloc (.cells #[.int .i64 64, .int .i64 12] 24))
  have HRB := Lib.hid ((OwnBL.new w1 w1.heap.size (Nat.le_refl _) rfRow (by decide)).alloc (.cells #[.int .i64 64, .int .i64 12] 24))
  have HD := Lib.hid (own_two (w1.alloc (.cells (rfRow.map (Value.int .u8)).toArray 5)) (.int .i64 64) (.int .i64 12) 24)
  have HB := Lib.hid ((hb1.alloc (by rw [hs1]; omega) (.cells (rfRow.map (Value.int .u8)).toArray 5)).alloc (by simp; omega) (.cells #[.int .i64 64, .int .i64 12] 24))
  clear hw1 hb1 hs1
  have hX : (w1.alloc (.cells (rfRow.map (Value.int .u8)).toArray 5)).heap.size = w1.heap.size + 1 := by simp
  rw [hX] at HD
  have HSZ := Lib.hid hsz
  clear hsz hX
  generalize hW2 : (w1.alloc (.cells #[.int .u8 0, .int .u8 0, .int .u8 0, .int .u8 0, .int .u8 12, .int .u8 0, .int .u8 0, .int .u8 0, .int .u8 8, .int .u8 160, .int .u8 0, .int .u8 0] 5)).alloc (.cells #[.int .i64 64, .int .i64 12] 24) = W2
  have hW3 : (w1.alloc (.cells (rfRow.map (Value.int .u8)).toArray 5)).alloc (.cells #[.int .i64 64, .int .i64 12] 24) = W2 := hW2
  rw [hW3] at HWB HRB HD HB HSZ
  clear hW2 hW3
  have HS := Lib.hid (show ∀ W, Below W2.heap.size W2 W → W.cell? ⟨w1.heap.size + 1, 0, none⟩ = some (.int .i64 64) ∧ W.cell? ⟨w1.heap.size + 1, 1, none⟩ = some (.int .i64 12) ∧ Below W2.heap.size W2 W from fun W hb => by
    have h := HD.out.below hb HD.out.1
    have h0 := h.cell (i := 0) (by omega)
    have h1 := h.cell (i := 1) (by omega)
    simp only [if_pos, if_neg, Nat.one_ne_zero] at h0 h1
    exact ⟨h0, h1, hb⟩)
  have hp1 := Lib.hid (parse_any)
  go_region_held3 (fun W => W.cell? ⟨w1.heap.size + 1, 0, none⟩ = some (.int .i64 64) ∧ W.cell? ⟨w1.heap.size + 1, 1, none⟩ = some (.int .i64 12) ∧ Below W2.heap.size W2 W)
    (first | exact HS.out _ hbb5 | exact HS.out _ ((Below.refl W2.heap.size W2).drew) | exact HS.out _ (((Below.refl W2.heap.size W2).alloc (Nat.le_refl _) (.cells #[] 5)).drew) | exact HS.out _ hbb4 | exact HS.out _ hbb3 | fail)
    (first
     | ((refine step_appBL (by rfl) (.tmp 14) (.tmp 15) 22 (by rfl) W2.heap.size (.slice (some ⟨W2.heap.size, 0, none⟩) 0 0) [] (by rfl) (OwnBL.made0 W2 W2.heap.size (Nat.le_refl _)) _ (by rfl) (List.replicate 64 0) (src_own (HWB.out.alloc (.cells #[] 5))) (by simp) (by simp) ?_; intro A3 cap3 w3 hown3 hg3 hat3; have hbb3 : Below W2.heap.size W2 w3 := by first | exact bel_app0 (fun k hk => by injection hk with hk; rw [← hk]; exact Nat.le_refl _) hg3 | exact bel_app1 (fun k hk => by injection hk with hk; rw [← hk]; exact Nat.le_refl _) hg3))
     | ((refine step_appBL (by rfl) (.tmp 16) (.tmp 17) 22 (by rfl) W2.heap.size _ ([] ++ List.replicate 64 0) (by rfl) hown3 _ (by rfl) rfRow (src_own (HRB.out.below hbb3)) (by decide) hbb3.size ?_; intro A4 cap4 w4 hown4 hg4 hat4; have hbb4 : Below W2.heap.size W2 w4 := hown3.grew hbb3 (Nat.le_refl _) hbb3.size hg4))
     | (go_at_call 9; refine (parse_bl (bs := List.replicate 64 0 ++ rfRow) (base := W2.heap.size) hown4 (rf_bs 6 (by omega)) rf_good (by decide) (by omega) (by omega) (by omega) (by omega)).mono ?_; rintro e w5 ⟨⟨A5, cap5, rfl, hown5⟩, hb5⟩; have hbb5 : Below W2.heap.size W2 w5 := hbb4.trans (hb5.mono hbb4.size))
     | fail)
  have HWB5 := Lib.hid (HWB.out.below hbb5)
  have HRB5 := Lib.hid (HRB.out.below hbb5)
  have HD5 := Lib.hid (HD.out.below hbb5 HD.out.1)
  have HL5 := Lib.hid (hown5.sl relC_len)
  have HLN := Lib.hid (show ∀ b, A5.map (·.block) = some b → b ≠ w1.heap.size ∧ b ≠ w1.heap.size + 1 from fun b hb => by
    have h := hown5.lt b (by cases A5 with | none => cases hb | some a => simpa [Value.ownBlock] using hb)
    have := hbb4.size; have := HSZ.out; omega)
  have HB5 := Lib.hid (HB.out.trans (hbb5.mono HB.out.size))
  have HZ5 := Lib.hid (show w1.heap.size + 1 + 1 ≤ w5.heap.size by have := hbb5.size; have := HSZ.out; omega)
  have o0 := HD5.out.cell (i := 0) (by omega)
  have o1 := HD5.out.cell (i := 1) (by omega)
  have z0 := HD5.out.frozen (i := 0) (by omega)
  have z1 := HD5.out.frozen (i := 1) (by omega)
  simp only [if_pos, if_neg, Nat.one_ne_zero] at o0 o1
  have hrow : Own w5 w1.heap.size 12 (fun i => .int .u8 (litF rfRow i)) := by
    rcases HRB5.out.slice.2.2.2.2 with h | ⟨g, hg, _, h⟩
    · cases h
    · injection hg with hg
      injection hg with hg
      rw [hg]; exact h
  have q0 := hrow.cell (i := 0) (by omega)
  have q4 := hrow.cell (i := 4) (by omega)
  have q8 := hrow.cell (i := 8) (by omega)
  have q9 := hrow.cell (i := 9) (by omega)
  have y0 := hrow.frozen (i := 0) (by omega)
  have y4 := hrow.frozen (i := 4) (by omega)
  have y8 := hrow.frozen (i := 8) (by omega)
  have y9 := hrow.frozen (i := 9) (by omega)
  simp only [show litF rfRow 0 = 0 from rfl, show litF rfRow 4 = 12 from rfl, show litF rfRow 8 = 8 from rfl, show litF rfRow 9 = 160 from rfl] at q0 q4 q8 q9
  rename_i hSS
  clear hown3 hg3 hat3 hown4 hg4 hat4 hown5 hb5 hbb3 hbb4 hbb5 hrow hSS hp1 HS HSZ HWB HRB HD HB
  rcases (by omega : K = 0 ∨ K = 1 ∨ K = 2 ∨ K = 3 ∨ K = 4 ∨ K = 5 ∨ K = 6 ∨ K = 7) with rfl | rfl | rfl | rfl | rfl | rfl | rfl | rfl
  · go_upto_region 21 with fail
    have HWB6 := Lib.hid (HWB5.out.of_block (w' := w5.setCell ⟨w1.heap.size, 4, none⟩ (.int .u8 4)) (fun k hk => Below.heap_setCell _ _ _ _ (by injection hk with hk; subst hk; have := HS1.out; simp; omega)))
    have HRB6 := Lib.hid (show OwnBL _ w1.heap.size (.slice (some ⟨w1.heap.size, 0, none⟩) 12 12) (rfBad 0).1 from (HRB5.out.stored 4 4).1)
    have HD6 := Lib.hid ((HD5.out.of_block (w' := w5.setCell ⟨w1.heap.size, 4, none⟩ (.int .u8 4)) (Below.heap_setCell _ _ _ _ (by simp)) (by simp [World.setCell])).congr (f' := fun i => if i = 0 then .int .i64 64 else .int .i64 12) (fun i hi => by rcases (by omega : i = 0 ∨ i = 1) with rfl | rfl <;> rfl))
    have HB6 := Lib.hid (HB5.out.setCell (p := ⟨w1.heap.size, 4, none⟩) (by simp; have := HS1.out; omega) (.int .u8 4))
    have HL6 := Lib.hid (HL5.out.keep (w' := w5.setCell ⟨w1.heap.size, 4, none⟩ (.int .u8 4)) (by simp [World.setCell]) (fun b hb => Below.heap_setCell _ _ _ _ (HLN.out b hb).1))
    have HZ6 := Lib.hid (show w1.heap.size + 1 + 1 ≤ (w5.setCell ⟨w1.heap.size, 4, none⟩ (.int .u8 4)).heap.size by have := HZ5.out; simpa [World.setCell] using this)
    have HP := Lib.hid (rf_bad 0 (by omega))
    have HBS := Lib.hid (rf_bs 0 (by omega))
    have HRL := Lib.hid (show (rfBad 0).1.length = 12 from rfl)
    simp only [show (rfBad 0).2.1 = 64 from rfl, show (rfBad 0).2.2 = 12 from rfl] at HP
    generalize (rfBad 0).1 = row at *
    generalize (w5.setCell ⟨w1.heap.size, 4, none⟩ (.int .u8 4)) = W2 at *
    clear HWB5 HRB5 HD5 HL5 HB5 HZ5 o0 o1 z0 z1 q0 q4 q8 q9 y0 y4 y8 y9
    have hq : (List.replicate 64 (0 : Int) ++ row).length = 76 := by rw [List.length_append, HRL.out]; rfl
    have HPQ : Hid (parseS (List.replicate 64 (0 : Int) ++ row).length (litF (List.replicate 64 0 ++ row)) 64 12 = none) := by rw [hq]; exact HP.out
    have HQ := Lib.hid hq
    clear hq
    have HS := Lib.hid (show ∀ W, Below W2.heap.size W2 W → W.cell? ⟨w1.heap.size + 1, 0, none⟩ = some (.int .i64 64) ∧ W.cell? ⟨w1.heap.size + 1, 1, none⟩ = some (.int .i64 12) ∧ Below W2.heap.size W2 W from fun W hb => by
      have h := HD6.out.below hb HD6.out.1
      have h0 := h.cell (i := 0) (by omega)
      have h1 := h.cell (i := 1) (by omega)
      simp only [if_pos, if_neg, Nat.one_ne_zero] at h0 h1
      exact ⟨h0, h1, hb⟩)
    go_region_held3 (fun W => W.cell? ⟨w1.heap.size + 1, 0, none⟩ = some (.int .i64 64) ∧ W.cell? ⟨w1.heap.size + 1, 1, none⟩ = some (.int .i64 12) ∧ Below W2.heap.size W2 W)
      (first | exact HS.out _ hbb5 | exact HS.out _ ((Below.refl W2.heap.size W2).drew) | exact HS.out _ (((Below.refl W2.heap.size W2).alloc (Nat.le_refl _) (.cells #[] 5)).drew) | exact HS.out _ hbb4 | exact HS.out _ hbb3 | fail)
      (first
       | ((refine step_appBL (by rfl) (.tmp 56) (.tmp 57) 22 (by rfl) W2.heap.size (.slice (some ⟨W2.heap.size, 0, none⟩) 0 0) [] (by rfl) (OwnBL.made0 W2 W2.heap.size (Nat.le_refl _)) _ (by rfl) (List.replicate 64 0) (src_own (HWB6.out.alloc (.cells #[] 5))) (by simp) (by simp) ?_; intro A3 cap3 w3 hown3 hg3 hat3; have hbb3 : Below W2.heap.size W2 w3 := by first | exact bel_app0 (fun k hk => by injection hk with hk; rw [← hk]; exact Nat.le_refl _) hg3 | exact bel_app1 (fun k hk => by injection hk with hk; rw [← hk]; exact Nat.le_refl _) hg3))
       | ((refine step_appBL (by rfl) (.tmp 58) (.tmp 59) 22 (by rfl) W2.heap.size _ ([] ++ List.replicate 64 0) (by rfl) hown3 _ (by rfl) row (src_own (HRB6.out.below hbb3)) (by rw [HRL.out]; decide) hbb3.size ?_; intro A4 cap4 w4 hown4 hg4 hat4; have hbb4 : Below W2.heap.size W2 w4 := hown3.grew hbb3 (Nat.le_refl _) hbb3.size hg4))
       | (go_at_call 9; refine (parse_bl (bs := List.replicate 64 0 ++ row) (base := W2.heap.size) hown4 HBS.out HPQ.out (by rw [HQ.out]; decide) (by omega) (by omega) (by omega) (by omega)).mono ?_; rintro e w6 ⟨rfl, hb5⟩; have hbb5 : Below W2.heap.size W2 w6 := hbb4.trans (hb5.mono hbb4.size))
       | fail)
    rename_i hSS
    have hL := HL6.out.below hbb5
    obtain ⟨b, off, rfl, _, q0, q1⟩ := hL.site (i := 0) (by simp)
    simp only [List.getElem_cons_zero, Nat.zero_mul, Nat.add_zero] at q0 q1
    have HB7 := Lib.hid (HB6.out.trans (hbb5.mono HB6.out.size))
    clear hL hown3 hg3 hat3 hown4 hg4 hat4 hb5 hbb3 hbb4 hbb5 hSS
    go_wp2_with fail
    go_fit (awake10_any w6)
    rintro e w7 ⟨rfl, hb7⟩
    have HB8 := Lib.hid (HB7.out.trans (hb7.mono HB7.out.size))
    clear hb7
    go_wp2_with fail
    go_ret
    exact ⟨rfl, HB8.out⟩
  · go_upto_region 21 with fail
    have HWB6 := Lib.hid (HWB5.out.of_block (w' := w5.setCell ⟨w1.heap.size, 4, none⟩ (.int .u8 10)) (fun k hk => Below.heap_setCell _ _ _ _ (by injection hk with hk; subst hk; have := HS1.out; simp; omega)))
    have HRB6 := Lib.hid (show OwnBL _ w1.heap.size (.slice (some ⟨w1.heap.size, 0, none⟩) 12 12) (rfBad 1).1 from (HRB5.out.stored 4 10).1)
    have HD6 := Lib.hid ((HD5.out.of_block (w' := w5.setCell ⟨w1.heap.size, 4, none⟩ (.int .u8 10)) (Below.heap_setCell _ _ _ _ (by simp)) (by simp [World.setCell])).congr (f' := fun i => if i = 0 then .int .i64 64 else .int .i64 12) (fun i hi => by rcases (by omega : i = 0 ∨ i = 1) with rfl | rfl <;> rfl))
    have HB6 := Lib.hid (HB5.out.setCell (p := ⟨w1.heap.size, 4, none⟩) (by simp; have := HS1.out; omega) (.int .u8 10))
    have HL6 := Lib.hid (HL5.out.keep (w' := w5.setCell ⟨w1.heap.size, 4, none⟩ (.int .u8 10)) (by simp [World.setCell]) (fun b hb => Below.heap_setCell _ _ _ _ (HLN.out b hb).1))
    have HZ6 := Lib.hid (show w1.heap.size + 1 + 1 ≤ (w5.setCell ⟨w1.heap.size, 4, none⟩ (.int .u8 10)).heap.size by have := HZ5.out; simpa [World.setCell] using this)
    have HP := Lib.hid (rf_bad 1 (by omega))
    have HBS := Lib.hid (rf_bs 1 (by omega))
    have HRL := Lib.hid (show (rfBad 1).1.length = 12 from rfl)
    simp only [show (rfBad 1).2.1 = 64 from rfl, show (rfBad 1).2.2 = 12 from rfl] at HP
    generalize (rfBad 1).1 = row at *
    generalize (w5.setCell ⟨w1.heap.size, 4, none⟩ (.int .u8 10)) = W2 at *
    clear HWB5 HRB5 HD5 HL5 HB5 HZ5 o0 o1 z0 z1 q0 q4 q8 q9 y0 y4 y8 y9
    have hq : (List.replicate 64 (0 : Int) ++ row).length = 76 := by rw [List.length_append, HRL.out]; rfl
    have HPQ : Hid (parseS (List.replicate 64 (0 : Int) ++ row).length (litF (List.replicate 64 0 ++ row)) 64 12 = none) := by rw [hq]; exact HP.out
    have HQ := Lib.hid hq
    clear hq
    have HS := Lib.hid (show ∀ W, Below W2.heap.size W2 W → W.cell? ⟨w1.heap.size + 1, 0, none⟩ = some (.int .i64 64) ∧ W.cell? ⟨w1.heap.size + 1, 1, none⟩ = some (.int .i64 12) ∧ Below W2.heap.size W2 W from fun W hb => by
      have h := HD6.out.below hb HD6.out.1
      have h0 := h.cell (i := 0) (by omega)
      have h1 := h.cell (i := 1) (by omega)
      simp only [if_pos, if_neg, Nat.one_ne_zero] at h0 h1
      exact ⟨h0, h1, hb⟩)
    go_region_held3 (fun W => W.cell? ⟨w1.heap.size + 1, 0, none⟩ = some (.int .i64 64) ∧ W.cell? ⟨w1.heap.size + 1, 1, none⟩ = some (.int .i64 12) ∧ Below W2.heap.size W2 W)
      (first | exact HS.out _ hbb5 | exact HS.out _ ((Below.refl W2.heap.size W2).drew) | exact HS.out _ (((Below.refl W2.heap.size W2).alloc (Nat.le_refl _) (.cells #[] 5)).drew) | exact HS.out _ hbb4 | exact HS.out _ hbb3 | fail)
      (first
       | ((refine step_appBL (by rfl) (.tmp 56) (.tmp 57) 22 (by rfl) W2.heap.size (.slice (some ⟨W2.heap.size, 0, none⟩) 0 0) [] (by rfl) (OwnBL.made0 W2 W2.heap.size (Nat.le_refl _)) _ (by rfl) (List.replicate 64 0) (src_own (HWB6.out.alloc (.cells #[] 5))) (by simp) (by simp) ?_; intro A3 cap3 w3 hown3 hg3 hat3; have hbb3 : Below W2.heap.size W2 w3 := by first | exact bel_app0 (fun k hk => by injection hk with hk; rw [← hk]; exact Nat.le_refl _) hg3 | exact bel_app1 (fun k hk => by injection hk with hk; rw [← hk]; exact Nat.le_refl _) hg3))
       | ((refine step_appBL (by rfl) (.tmp 58) (.tmp 59) 22 (by rfl) W2.heap.size _ ([] ++ List.replicate 64 0) (by rfl) hown3 _ (by rfl) row (src_own (HRB6.out.below hbb3)) (by rw [HRL.out]; decide) hbb3.size ?_; intro A4 cap4 w4 hown4 hg4 hat4; have hbb4 : Below W2.heap.size W2 w4 := hown3.grew hbb3 (Nat.le_refl _) hbb3.size hg4))
       | (go_at_call 9; refine (parse_bl (bs := List.replicate 64 0 ++ row) (base := W2.heap.size) hown4 HBS.out HPQ.out (by rw [HQ.out]; decide) (by omega) (by omega) (by omega) (by omega)).mono ?_; rintro e w6 ⟨rfl, hb5⟩; have hbb5 : Below W2.heap.size W2 w6 := hbb4.trans (hb5.mono hbb4.size))
       | fail)
    rename_i hSS
    have hL := HL6.out.below hbb5
    obtain ⟨b, off, rfl, _, q0, q1⟩ := hL.site (i := 0) (by simp)
    simp only [List.getElem_cons_zero, Nat.zero_mul, Nat.add_zero] at q0 q1
    have HB7 := Lib.hid (HB6.out.trans (hbb5.mono HB6.out.size))
    clear hL hown3 hg3 hat3 hown4 hg4 hat4 hb5 hbb3 hbb4 hbb5 hSS
    go_wp2_with fail
    go_fit (awake10_any w6)
    rintro e w7 ⟨rfl, hb7⟩
    have HB8 := Lib.hid (HB7.out.trans (hb7.mono HB7.out.size))
    clear hb7
    go_wp2_with fail
    go_ret
    exact ⟨rfl, HB8.out⟩
  · go_upto_region 21 with fail
    have HWB6 := Lib.hid (HWB5.out.of_block (w' := w5.setCell ⟨w1.heap.size, 4, none⟩ (.int .u8 16)) (fun k hk => Below.heap_setCell _ _ _ _ (by injection hk with hk; subst hk; have := HS1.out; simp; omega)))
    have HRB6 := Lib.hid (show OwnBL _ w1.heap.size (.slice (some ⟨w1.heap.size, 0, none⟩) 12 12) (rfBad 2).1 from (HRB5.out.stored 4 16).1)
    have HD6 := Lib.hid ((HD5.out.of_block (w' := w5.setCell ⟨w1.heap.size, 4, none⟩ (.int .u8 16)) (Below.heap_setCell _ _ _ _ (by simp)) (by simp [World.setCell])).congr (f' := fun i => if i = 0 then .int .i64 64 else .int .i64 12) (fun i hi => by rcases (by omega : i = 0 ∨ i = 1) with rfl | rfl <;> rfl))
    have HB6 := Lib.hid (HB5.out.setCell (p := ⟨w1.heap.size, 4, none⟩) (by simp; have := HS1.out; omega) (.int .u8 16))
    have HL6 := Lib.hid (HL5.out.keep (w' := w5.setCell ⟨w1.heap.size, 4, none⟩ (.int .u8 16)) (by simp [World.setCell]) (fun b hb => Below.heap_setCell _ _ _ _ (HLN.out b hb).1))
    have HZ6 := Lib.hid (show w1.heap.size + 1 + 1 ≤ (w5.setCell ⟨w1.heap.size, 4, none⟩ (.int .u8 16)).heap.size by have := HZ5.out; simpa [World.setCell] using this)
    have HP := Lib.hid (rf_bad 2 (by omega))
    have HBS := Lib.hid (rf_bs 2 (by omega))
    have HRL := Lib.hid (show (rfBad 2).1.length = 12 from rfl)
    simp only [show (rfBad 2).2.1 = 64 from rfl, show (rfBad 2).2.2 = 12 from rfl] at HP
    generalize (rfBad 2).1 = row at *
    generalize (w5.setCell ⟨w1.heap.size, 4, none⟩ (.int .u8 16)) = W2 at *
    clear HWB5 HRB5 HD5 HL5 HB5 HZ5 o0 o1 z0 z1 q0 q4 q8 q9 y0 y4 y8 y9
    have hq : (List.replicate 64 (0 : Int) ++ row).length = 76 := by rw [List.length_append, HRL.out]; rfl
    have HPQ : Hid (parseS (List.replicate 64 (0 : Int) ++ row).length (litF (List.replicate 64 0 ++ row)) 64 12 = none) := by rw [hq]; exact HP.out
    have HQ := Lib.hid hq
    clear hq
    have HS := Lib.hid (show ∀ W, Below W2.heap.size W2 W → W.cell? ⟨w1.heap.size + 1, 0, none⟩ = some (.int .i64 64) ∧ W.cell? ⟨w1.heap.size + 1, 1, none⟩ = some (.int .i64 12) ∧ Below W2.heap.size W2 W from fun W hb => by
      have h := HD6.out.below hb HD6.out.1
      have h0 := h.cell (i := 0) (by omega)
      have h1 := h.cell (i := 1) (by omega)
      simp only [if_pos, if_neg, Nat.one_ne_zero] at h0 h1
      exact ⟨h0, h1, hb⟩)
    go_region_held3 (fun W => W.cell? ⟨w1.heap.size + 1, 0, none⟩ = some (.int .i64 64) ∧ W.cell? ⟨w1.heap.size + 1, 1, none⟩ = some (.int .i64 12) ∧ Below W2.heap.size W2 W)
      (first | exact HS.out _ hbb5 | exact HS.out _ ((Below.refl W2.heap.size W2).drew) | exact HS.out _ (((Below.refl W2.heap.size W2).alloc (Nat.le_refl _) (.cells #[] 5)).drew) | exact HS.out _ hbb4 | exact HS.out _ hbb3 | fail)
      (first
       | ((refine step_appBL (by rfl) (.tmp 56) (.tmp 57) 22 (by rfl) W2.heap.size (.slice (some ⟨W2.heap.size, 0, none⟩) 0 0) [] (by rfl) (OwnBL.made0 W2 W2.heap.size (Nat.le_refl _)) _ (by rfl) (List.replicate 64 0) (src_own (HWB6.out.alloc (.cells #[] 5))) (by simp) (by simp) ?_; intro A3 cap3 w3 hown3 hg3 hat3; have hbb3 : Below W2.heap.size W2 w3 := by first | exact bel_app0 (fun k hk => by injection hk with hk; rw [← hk]; exact Nat.le_refl _) hg3 | exact bel_app1 (fun k hk => by injection hk with hk; rw [← hk]; exact Nat.le_refl _) hg3))
       | ((refine step_appBL (by rfl) (.tmp 58) (.tmp 59) 22 (by rfl) W2.heap.size _ ([] ++ List.replicate 64 0) (by rfl) hown3 _ (by rfl) row (src_own (HRB6.out.below hbb3)) (by rw [HRL.out]; decide) hbb3.size ?_; intro A4 cap4 w4 hown4 hg4 hat4; have hbb4 : Below W2.heap.size W2 w4 := hown3.grew hbb3 (Nat.le_refl _) hbb3.size hg4))
       | (go_at_call 9; refine (parse_bl (bs := List.replicate 64 0 ++ row) (base := W2.heap.size) hown4 HBS.out HPQ.out (by rw [HQ.out]; decide) (by omega) (by omega) (by omega) (by omega)).mono ?_; rintro e w6 ⟨rfl, hb5⟩; have hbb5 : Below W2.heap.size W2 w6 := hbb4.trans (hb5.mono hbb4.size))
       | fail)
    rename_i hSS
    have hL := HL6.out.below hbb5
    obtain ⟨b, off, rfl, _, q0, q1⟩ := hL.site (i := 0) (by simp)
    simp only [List.getElem_cons_zero, Nat.zero_mul, Nat.add_zero] at q0 q1
    have HB7 := Lib.hid (HB6.out.trans (hbb5.mono HB6.out.size))
    clear hL hown3 hg3 hat3 hown4 hg4 hat4 hb5 hbb3 hbb4 hbb5 hSS
    go_wp2_with fail
    go_fit (awake10_any w6)
    rintro e w7 ⟨rfl, hb7⟩
    have HB8 := Lib.hid (HB7.out.trans (hb7.mono HB7.out.size))
    clear hb7
    go_wp2_with fail
    go_ret
    exact ⟨rfl, HB8.out⟩
  · go_upto_region 21 with fail
    have HWB6 := Lib.hid (HWB5.out.of_block (w' := w5.setCell ⟨w1.heap.size, 0, none⟩ (.int .u8 1)) (fun k hk => Below.heap_setCell _ _ _ _ (by injection hk with hk; subst hk; have := HS1.out; simp; omega)))
    have HRB6 := Lib.hid (show OwnBL _ w1.heap.size (.slice (some ⟨w1.heap.size, 0, none⟩) 12 12) (rfBad 3).1 from (HRB5.out.stored 0 1).1)
    have HD6 := Lib.hid ((HD5.out.of_block (w' := w5.setCell ⟨w1.heap.size, 0, none⟩ (.int .u8 1)) (Below.heap_setCell _ _ _ _ (by simp)) (by simp [World.setCell])).congr (f' := fun i => if i = 0 then .int .i64 64 else .int .i64 12) (fun i hi => by rcases (by omega : i = 0 ∨ i = 1) with rfl | rfl <;> rfl))
    have HB6 := Lib.hid (HB5.out.setCell (p := ⟨w1.heap.size, 0, none⟩) (by simp; have := HS1.out; omega) (.int .u8 1))
    have HL6 := Lib.hid (HL5.out.keep (w' := w5.setCell ⟨w1.heap.size, 0, none⟩ (.int .u8 1)) (by simp [World.setCell]) (fun b hb => Below.heap_setCell _ _ _ _ (HLN.out b hb).1))
    have HZ6 := Lib.hid (show w1.heap.size + 1 + 1 ≤ (w5.setCell ⟨w1.heap.size, 0, none⟩ (.int .u8 1)).heap.size by have := HZ5.out; simpa [World.setCell] using this)
    have HP := Lib.hid (rf_bad 3 (by omega))
    have HBS := Lib.hid (rf_bs 3 (by omega))
    have HRL := Lib.hid (show (rfBad 3).1.length = 12 from rfl)
    simp only [show (rfBad 3).2.1 = 64 from rfl, show (rfBad 3).2.2 = 12 from rfl] at HP
    generalize (rfBad 3).1 = row at *
    generalize (w5.setCell ⟨w1.heap.size, 0, none⟩ (.int .u8 1)) = W2 at *
    clear HWB5 HRB5 HD5 HL5 HB5 HZ5 o0 o1 z0 z1 q0 q4 q8 q9 y0 y4 y8 y9
    have hq : (List.replicate 64 (0 : Int) ++ row).length = 76 := by rw [List.length_append, HRL.out]; rfl
    have HPQ : Hid (parseS (List.replicate 64 (0 : Int) ++ row).length (litF (List.replicate 64 0 ++ row)) 64 12 = none) := by rw [hq]; exact HP.out
    have HQ := Lib.hid hq
    clear hq
    have HS := Lib.hid (show ∀ W, Below W2.heap.size W2 W → W.cell? ⟨w1.heap.size + 1, 0, none⟩ = some (.int .i64 64) ∧ W.cell? ⟨w1.heap.size + 1, 1, none⟩ = some (.int .i64 12) ∧ Below W2.heap.size W2 W from fun W hb => by
      have h := HD6.out.below hb HD6.out.1
      have h0 := h.cell (i := 0) (by omega)
      have h1 := h.cell (i := 1) (by omega)
      simp only [if_pos, if_neg, Nat.one_ne_zero] at h0 h1
      exact ⟨h0, h1, hb⟩)
    go_region_held3 (fun W => W.cell? ⟨w1.heap.size + 1, 0, none⟩ = some (.int .i64 64) ∧ W.cell? ⟨w1.heap.size + 1, 1, none⟩ = some (.int .i64 12) ∧ Below W2.heap.size W2 W)
      (first | exact HS.out _ hbb5 | exact HS.out _ ((Below.refl W2.heap.size W2).drew) | exact HS.out _ (((Below.refl W2.heap.size W2).alloc (Nat.le_refl _) (.cells #[] 5)).drew) | exact HS.out _ hbb4 | exact HS.out _ hbb3 | fail)
      (first
       | ((refine step_appBL (by rfl) (.tmp 56) (.tmp 57) 22 (by rfl) W2.heap.size (.slice (some ⟨W2.heap.size, 0, none⟩) 0 0) [] (by rfl) (OwnBL.made0 W2 W2.heap.size (Nat.le_refl _)) _ (by rfl) (List.replicate 64 0) (src_own (HWB6.out.alloc (.cells #[] 5))) (by simp) (by simp) ?_; intro A3 cap3 w3 hown3 hg3 hat3; have hbb3 : Below W2.heap.size W2 w3 := by first | exact bel_app0 (fun k hk => by injection hk with hk; rw [← hk]; exact Nat.le_refl _) hg3 | exact bel_app1 (fun k hk => by injection hk with hk; rw [← hk]; exact Nat.le_refl _) hg3))
       | ((refine step_appBL (by rfl) (.tmp 58) (.tmp 59) 22 (by rfl) W2.heap.size _ ([] ++ List.replicate 64 0) (by rfl) hown3 _ (by rfl) row (src_own (HRB6.out.below hbb3)) (by rw [HRL.out]; decide) hbb3.size ?_; intro A4 cap4 w4 hown4 hg4 hat4; have hbb4 : Below W2.heap.size W2 w4 := hown3.grew hbb3 (Nat.le_refl _) hbb3.size hg4))
       | (go_at_call 9; refine (parse_bl (bs := List.replicate 64 0 ++ row) (base := W2.heap.size) hown4 HBS.out HPQ.out (by rw [HQ.out]; decide) (by omega) (by omega) (by omega) (by omega)).mono ?_; rintro e w6 ⟨rfl, hb5⟩; have hbb5 : Below W2.heap.size W2 w6 := hbb4.trans (hb5.mono hbb4.size))
       | fail)
    rename_i hSS
    have hL := HL6.out.below hbb5
    obtain ⟨b, off, rfl, _, q0, q1⟩ := hL.site (i := 0) (by simp)
    simp only [List.getElem_cons_zero, Nat.zero_mul, Nat.add_zero] at q0 q1
    have HB7 := Lib.hid (HB6.out.trans (hbb5.mono HB6.out.size))
    clear hL hown3 hg3 hat3 hown4 hg4 hat4 hb5 hbb3 hbb4 hbb5 hSS
    go_wp2_with fail
    go_fit (awake10_any w6)
    rintro e w7 ⟨rfl, hb7⟩
    have HB8 := Lib.hid (HB7.out.trans (hb7.mono HB7.out.size))
    clear hb7
    go_wp2_with fail
    go_ret
    exact ⟨rfl, HB8.out⟩
  · go_upto_region 21 with fail
    have HWB6 := Lib.hid (HWB5.out.of_block (w' := w5.setCell ⟨w1.heap.size, 9, none⟩ (.int .u8 80)) (fun k hk => Below.heap_setCell _ _ _ _ (by injection hk with hk; subst hk; have := HS1.out; simp; omega)))
    have HRB6 := Lib.hid (show OwnBL _ w1.heap.size (.slice (some ⟨w1.heap.size, 0, none⟩) 12 12) (rfBad 4).1 from (HRB5.out.stored 9 80).1)
    have HD6 := Lib.hid ((HD5.out.of_block (w' := w5.setCell ⟨w1.heap.size, 9, none⟩ (.int .u8 80)) (Below.heap_setCell _ _ _ _ (by simp)) (by simp [World.setCell])).congr (f' := fun i => if i = 0 then .int .i64 64 else .int .i64 12) (fun i hi => by rcases (by omega : i = 0 ∨ i = 1) with rfl | rfl <;> rfl))
    have HB6 := Lib.hid (HB5.out.setCell (p := ⟨w1.heap.size, 9, none⟩) (by simp; have := HS1.out; omega) (.int .u8 80))
    have HL6 := Lib.hid (HL5.out.keep (w' := w5.setCell ⟨w1.heap.size, 9, none⟩ (.int .u8 80)) (by simp [World.setCell]) (fun b hb => Below.heap_setCell _ _ _ _ (HLN.out b hb).1))
    have HZ6 := Lib.hid (show w1.heap.size + 1 + 1 ≤ (w5.setCell ⟨w1.heap.size, 9, none⟩ (.int .u8 80)).heap.size by have := HZ5.out; simpa [World.setCell] using this)
    have HP := Lib.hid (rf_bad 4 (by omega))
    have HBS := Lib.hid (rf_bs 4 (by omega))
    have HRL := Lib.hid (show (rfBad 4).1.length = 12 from rfl)
    simp only [show (rfBad 4).2.1 = 64 from rfl, show (rfBad 4).2.2 = 12 from rfl] at HP
    generalize (rfBad 4).1 = row at *
    generalize (w5.setCell ⟨w1.heap.size, 9, none⟩ (.int .u8 80)) = W2 at *
    clear HWB5 HRB5 HD5 HL5 HB5 HZ5 o0 o1 z0 z1 q0 q4 q8 q9 y0 y4 y8 y9
    have hq : (List.replicate 64 (0 : Int) ++ row).length = 76 := by rw [List.length_append, HRL.out]; rfl
    have HPQ : Hid (parseS (List.replicate 64 (0 : Int) ++ row).length (litF (List.replicate 64 0 ++ row)) 64 12 = none) := by rw [hq]; exact HP.out
    have HQ := Lib.hid hq
    clear hq
    have HS := Lib.hid (show ∀ W, Below W2.heap.size W2 W → W.cell? ⟨w1.heap.size + 1, 0, none⟩ = some (.int .i64 64) ∧ W.cell? ⟨w1.heap.size + 1, 1, none⟩ = some (.int .i64 12) ∧ Below W2.heap.size W2 W from fun W hb => by
      have h := HD6.out.below hb HD6.out.1
      have h0 := h.cell (i := 0) (by omega)
      have h1 := h.cell (i := 1) (by omega)
      simp only [if_pos, if_neg, Nat.one_ne_zero] at h0 h1
      exact ⟨h0, h1, hb⟩)
    go_region_held3 (fun W => W.cell? ⟨w1.heap.size + 1, 0, none⟩ = some (.int .i64 64) ∧ W.cell? ⟨w1.heap.size + 1, 1, none⟩ = some (.int .i64 12) ∧ Below W2.heap.size W2 W)
      (first | exact HS.out _ hbb5 | exact HS.out _ ((Below.refl W2.heap.size W2).drew) | exact HS.out _ (((Below.refl W2.heap.size W2).alloc (Nat.le_refl _) (.cells #[] 5)).drew) | exact HS.out _ hbb4 | exact HS.out _ hbb3 | fail)
      (first
       | ((refine step_appBL (by rfl) (.tmp 56) (.tmp 57) 22 (by rfl) W2.heap.size (.slice (some ⟨W2.heap.size, 0, none⟩) 0 0) [] (by rfl) (OwnBL.made0 W2 W2.heap.size (Nat.le_refl _)) _ (by rfl) (List.replicate 64 0) (src_own (HWB6.out.alloc (.cells #[] 5))) (by simp) (by simp) ?_; intro A3 cap3 w3 hown3 hg3 hat3; have hbb3 : Below W2.heap.size W2 w3 := by first | exact bel_app0 (fun k hk => by injection hk with hk; rw [← hk]; exact Nat.le_refl _) hg3 | exact bel_app1 (fun k hk => by injection hk with hk; rw [← hk]; exact Nat.le_refl _) hg3))
       | ((refine step_appBL (by rfl) (.tmp 58) (.tmp 59) 22 (by rfl) W2.heap.size _ ([] ++ List.replicate 64 0) (by rfl) hown3 _ (by rfl) row (src_own (HRB6.out.below hbb3)) (by rw [HRL.out]; decide) hbb3.size ?_; intro A4 cap4 w4 hown4 hg4 hat4; have hbb4 : Below W2.heap.size W2 w4 := hown3.grew hbb3 (Nat.le_refl _) hbb3.size hg4))
       | (go_at_call 9; refine (parse_bl (bs := List.replicate 64 0 ++ row) (base := W2.heap.size) hown4 HBS.out HPQ.out (by rw [HQ.out]; decide) (by omega) (by omega) (by omega) (by omega)).mono ?_; rintro e w6 ⟨rfl, hb5⟩; have hbb5 : Below W2.heap.size W2 w6 := hbb4.trans (hb5.mono hbb4.size))
       | fail)
    rename_i hSS
    have hL := HL6.out.below hbb5
    obtain ⟨b, off, rfl, _, q0, q1⟩ := hL.site (i := 0) (by simp)
    simp only [List.getElem_cons_zero, Nat.zero_mul, Nat.add_zero] at q0 q1
    have HB7 := Lib.hid (HB6.out.trans (hbb5.mono HB6.out.size))
    clear hL hown3 hg3 hat3 hown4 hg4 hat4 hb5 hbb3 hbb4 hbb5 hSS
    go_wp2_with fail
    go_fit (awake10_any w6)
    rintro e w7 ⟨rfl, hb7⟩
    have HB8 := Lib.hid (HB7.out.trans (hb7.mono HB7.out.size))
    clear hb7
    go_wp2_with fail
    go_ret
    exact ⟨rfl, HB8.out⟩
  · go_upto_region 21 with fail
    have HWB6 := Lib.hid ((HWB5.out.of_block (w' := w5.setCell ⟨w1.heap.size, 8, none⟩ (.int .u8 70)) (fun k hk => Below.heap_setCell _ _ _ _ (by injection hk with hk; subst hk; have := HS1.out; simp; omega))).of_block (w' := (w5.setCell ⟨w1.heap.size, 8, none⟩ (.int .u8 70)).setCell ⟨w1.heap.size, 9, none⟩ (.int .u8 160)) (fun k hk => Below.heap_setCell _ _ _ _ (by injection hk with hk; subst hk; have := HS1.out; simp; omega)))
    have HRB6 := Lib.hid (show OwnBL _ w1.heap.size (.slice (some ⟨w1.heap.size, 0, none⟩) 12 12) (rfBad 5).1 from ((HRB5.out.stored 8 70).1.stored 9 160).1)
    have HD6 := Lib.hid (((HD5.out.of_block (w' := w5.setCell ⟨w1.heap.size, 8, none⟩ (.int .u8 70)) (Below.heap_setCell _ _ _ _ (by simp)) (by simp [World.setCell])).of_block (w' := (w5.setCell ⟨w1.heap.size, 8, none⟩ (.int .u8 70)).setCell ⟨w1.heap.size, 9, none⟩ (.int .u8 160)) (Below.heap_setCell _ _ _ _ (by simp)) (by simp [World.setCell])).congr (f' := fun i => if i = 0 then .int .i64 64 else .int .i64 12) (fun i hi => by rcases (by omega : i = 0 ∨ i = 1) with rfl | rfl <;> rfl))
    have HB6 := Lib.hid ((HB5.out.setCell (p := ⟨w1.heap.size, 8, none⟩) (by simp; have := HS1.out; omega) (.int .u8 70)).setCell (p := ⟨w1.heap.size, 9, none⟩) (by simp; have := HS1.out; omega) (.int .u8 160))
    have HL6 := Lib.hid ((HL5.out.keep (w' := w5.setCell ⟨w1.heap.size, 8, none⟩ (.int .u8 70)) (by simp [World.setCell]) (fun b hb => Below.heap_setCell _ _ _ _ (HLN.out b hb).1)).keep (w' := (w5.setCell ⟨w1.heap.size, 8, none⟩ (.int .u8 70)).setCell ⟨w1.heap.size, 9, none⟩ (.int .u8 160)) (by simp [World.setCell]) (fun b hb => Below.heap_setCell _ _ _ _ (HLN.out b hb).1))
    have HZ6 := Lib.hid (show w1.heap.size + 1 + 1 ≤ ((w5.setCell ⟨w1.heap.size, 8, none⟩ (.int .u8 70)).setCell ⟨w1.heap.size, 9, none⟩ (.int .u8 160)).heap.size by have := HZ5.out; simpa [World.setCell] using this)
    have HP := Lib.hid (rf_bad 5 (by omega))
    have HBS := Lib.hid (rf_bs 5 (by omega))
    have HRL := Lib.hid (show (rfBad 5).1.length = 12 from rfl)
    simp only [show (rfBad 5).2.1 = 64 from rfl, show (rfBad 5).2.2 = 12 from rfl] at HP
    generalize (rfBad 5).1 = row at *
    generalize ((w5.setCell ⟨w1.heap.size, 8, none⟩ (.int .u8 70)).setCell ⟨w1.heap.size, 9, none⟩ (.int .u8 160)) = W2 at *
    clear HWB5 HRB5 HD5 HL5 HB5 HZ5 o0 o1 z0 z1 q0 q4 q8 q9 y0 y4 y8 y9
    have hq : (List.replicate 64 (0 : Int) ++ row).length = 76 := by rw [List.length_append, HRL.out]; rfl
    have HPQ : Hid (parseS (List.replicate 64 (0 : Int) ++ row).length (litF (List.replicate 64 0 ++ row)) 64 12 = none) := by rw [hq]; exact HP.out
    have HQ := Lib.hid hq
    clear hq
    have HS := Lib.hid (show ∀ W, Below W2.heap.size W2 W → W.cell? ⟨w1.heap.size + 1, 0, none⟩ = some (.int .i64 64) ∧ W.cell? ⟨w1.heap.size + 1, 1, none⟩ = some (.int .i64 12) ∧ Below W2.heap.size W2 W from fun W hb => by
      have h := HD6.out.below hb HD6.out.1
      have h0 := h.cell (i := 0) (by omega)
      have h1 := h.cell (i := 1) (by omega)
      simp only [if_pos, if_neg, Nat.one_ne_zero] at h0 h1
      exact ⟨h0, h1, hb⟩)
    go_region_held3 (fun W => W.cell? ⟨w1.heap.size + 1, 0, none⟩ = some (.int .i64 64) ∧ W.cell? ⟨w1.heap.size + 1, 1, none⟩ = some (.int .i64 12) ∧ Below W2.heap.size W2 W)
      (first | exact HS.out _ hbb5 | exact HS.out _ ((Below.refl W2.heap.size W2).drew) | exact HS.out _ (((Below.refl W2.heap.size W2).alloc (Nat.le_refl _) (.cells #[] 5)).drew) | exact HS.out _ hbb4 | exact HS.out _ hbb3 | fail)
      (first
       | ((refine step_appBL (by rfl) (.tmp 56) (.tmp 57) 22 (by rfl) W2.heap.size (.slice (some ⟨W2.heap.size, 0, none⟩) 0 0) [] (by rfl) (OwnBL.made0 W2 W2.heap.size (Nat.le_refl _)) _ (by rfl) (List.replicate 64 0) (src_own (HWB6.out.alloc (.cells #[] 5))) (by simp) (by simp) ?_; intro A3 cap3 w3 hown3 hg3 hat3; have hbb3 : Below W2.heap.size W2 w3 := by first | exact bel_app0 (fun k hk => by injection hk with hk; rw [← hk]; exact Nat.le_refl _) hg3 | exact bel_app1 (fun k hk => by injection hk with hk; rw [← hk]; exact Nat.le_refl _) hg3))
       | ((refine step_appBL (by rfl) (.tmp 58) (.tmp 59) 22 (by rfl) W2.heap.size _ ([] ++ List.replicate 64 0) (by rfl) hown3 _ (by rfl) row (src_own (HRB6.out.below hbb3)) (by rw [HRL.out]; decide) hbb3.size ?_; intro A4 cap4 w4 hown4 hg4 hat4; have hbb4 : Below W2.heap.size W2 w4 := hown3.grew hbb3 (Nat.le_refl _) hbb3.size hg4))
       | (go_at_call 9; refine (parse_bl (bs := List.replicate 64 0 ++ row) (base := W2.heap.size) hown4 HBS.out HPQ.out (by rw [HQ.out]; decide) (by omega) (by omega) (by omega) (by omega)).mono ?_; rintro e w6 ⟨rfl, hb5⟩; have hbb5 : Below W2.heap.size W2 w6 := hbb4.trans (hb5.mono hbb4.size))
       | fail)
    rename_i hSS
    have hL := HL6.out.below hbb5
    obtain ⟨b, off, rfl, _, q0, q1⟩ := hL.site (i := 0) (by simp)
    simp only [List.getElem_cons_zero, Nat.zero_mul, Nat.add_zero] at q0 q1
    have HB7 := Lib.hid (HB6.out.trans (hbb5.mono HB6.out.size))
    clear hL hown3 hg3 hat3 hown4 hg4 hat4 hb5 hbb3 hbb4 hbb5 hSS
    go_wp2_with fail
    go_fit (awake10_any w6)
    rintro e w7 ⟨rfl, hb7⟩
    have HB8 := Lib.hid (HB7.out.trans (hb7.mono HB7.out.size))
    clear hb7
    go_wp2_with fail
    go_ret
    exact ⟨rfl, HB8.out⟩
  · go_upto_region 21 with fail
    have HWB6 := Lib.hid (HWB5.out.of_block (w' := w5.setCell ⟨w1.heap.size + 1, 1, none⟩ (.int .i64 11)) (fun k hk => Below.heap_setCell _ _ _ _ (by injection hk with hk; subst hk; have := HS1.out; simp; omega)))
    have HRB6 := Lib.hid (show OwnBL _ w1.heap.size (.slice (some ⟨w1.heap.size, 0, none⟩) 12 12) (rfBad 6).1 from (HRB5.out.of_block (w' := w5.setCell ⟨w1.heap.size + 1, 1, none⟩ (.int .i64 11)) (fun k hk => Below.heap_setCell _ _ _ _ (by injection hk with hk; subst hk; simp))))
    have HD6 := Lib.hid ((HD5.out.set (i := 1) (by omega) (.int .i64 11)).congr (f' := fun i => if i = 0 then .int .i64 64 else .int .i64 11) (fun i hi => by rcases (by omega : i = 0 ∨ i = 1) with rfl | rfl <;> rfl))
    have HB6 := Lib.hid (HB5.out.setCell (p := ⟨w1.heap.size + 1, 1, none⟩) (by simp; have := HS1.out; omega) (.int .i64 11))
    have HL6 := Lib.hid (HL5.out.keep (w' := w5.setCell ⟨w1.heap.size + 1, 1, none⟩ (.int .i64 11)) (by simp [World.setCell]) (fun b hb => Below.heap_setCell _ _ _ _ (HLN.out b hb).2))
    have HZ6 := Lib.hid (show w1.heap.size + 1 + 1 ≤ (w5.setCell ⟨w1.heap.size + 1, 1, none⟩ (.int .i64 11)).heap.size by have := HZ5.out; simpa [World.setCell] using this)
    have HP := Lib.hid (rf_bad 6 (by omega))
    have HBS := Lib.hid (rf_bs 6 (by omega))
    have HRL := Lib.hid (show (rfBad 6).1.length = 12 from rfl)
    simp only [show (rfBad 6).2.1 = 64 from rfl, show (rfBad 6).2.2 = 11 from rfl] at HP
    generalize (rfBad 6).1 = row at *
    generalize (w5.setCell ⟨w1.heap.size + 1, 1, none⟩ (.int .i64 11)) = W2 at *
    clear HWB5 HRB5 HD5 HL5 HB5 HZ5 o0 o1 z0 z1 q0 q4 q8 q9 y0 y4 y8 y9
    have hq : (List.replicate 64 (0 : Int) ++ row).length = 76 := by rw [List.length_append, HRL.out]; rfl
    have HPQ : Hid (parseS (List.replicate 64 (0 : Int) ++ row).length (litF (List.replicate 64 0 ++ row)) 64 11 = none) := by rw [hq]; exact HP.out
    have HQ := Lib.hid hq
    clear hq
    have HS := Lib.hid (show ∀ W, Below W2.heap.size W2 W → W.cell? ⟨w1.heap.size + 1, 0, none⟩ = some (.int .i64 64) ∧ W.cell? ⟨w1.heap.size + 1, 1, none⟩ = some (.int .i64 11) ∧ Below W2.heap.size W2 W from fun W hb => by
      have h := HD6.out.below hb HD6.out.1
      have h0 := h.cell (i := 0) (by omega)
      have h1 := h.cell (i := 1) (by omega)
      simp only [if_pos, if_neg, Nat.one_ne_zero] at h0 h1
      exact ⟨h0, h1, hb⟩)
    go_region_held3 (fun W => W.cell? ⟨w1.heap.size + 1, 0, none⟩ = some (.int .i64 64) ∧ W.cell? ⟨w1.heap.size + 1, 1, none⟩ = some (.int .i64 11) ∧ Below W2.heap.size W2 W)
      (first | exact HS.out _ hbb5 | exact HS.out _ ((Below.refl W2.heap.size W2).drew) | exact HS.out _ (((Below.refl W2.heap.size W2).alloc (Nat.le_refl _) (.cells #[] 5)).drew) | exact HS.out _ hbb4 | exact HS.out _ hbb3 | fail)
      (first
       | ((refine step_appBL (by rfl) (.tmp 56) (.tmp 57) 22 (by rfl) W2.heap.size (.slice (some ⟨W2.heap.size, 0, none⟩) 0 0) [] (by rfl) (OwnBL.made0 W2 W2.heap.size (Nat.le_refl _)) _ (by rfl) (List.replicate 64 0) (src_own (HWB6.out.alloc (.cells #[] 5))) (by simp) (by simp) ?_; intro A3 cap3 w3 hown3 hg3 hat3; have hbb3 : Below W2.heap.size W2 w3 := by first | exact bel_app0 (fun k hk => by injection hk with hk; rw [← hk]; exact Nat.le_refl _) hg3 | exact bel_app1 (fun k hk => by injection hk with hk; rw [← hk]; exact Nat.le_refl _) hg3))
       | ((refine step_appBL (by rfl) (.tmp 58) (.tmp 59) 22 (by rfl) W2.heap.size _ ([] ++ List.replicate 64 0) (by rfl) hown3 _ (by rfl) row (src_own (HRB6.out.below hbb3)) (by rw [HRL.out]; decide) hbb3.size ?_; intro A4 cap4 w4 hown4 hg4 hat4; have hbb4 : Below W2.heap.size W2 w4 := hown3.grew hbb3 (Nat.le_refl _) hbb3.size hg4))
       | (go_at_call 9; refine (parse_bl (bs := List.replicate 64 0 ++ row) (base := W2.heap.size) hown4 HBS.out HPQ.out (by rw [HQ.out]; decide) (by omega) (by omega) (by omega) (by omega)).mono ?_; rintro e w6 ⟨rfl, hb5⟩; have hbb5 : Below W2.heap.size W2 w6 := hbb4.trans (hb5.mono hbb4.size))
       | fail)
    rename_i hSS
    have hL := HL6.out.below hbb5
    obtain ⟨b, off, rfl, _, q0, q1⟩ := hL.site (i := 0) (by simp)
    simp only [List.getElem_cons_zero, Nat.zero_mul, Nat.add_zero] at q0 q1
    have HB7 := Lib.hid (HB6.out.trans (hbb5.mono HB6.out.size))
    clear hL hown3 hg3 hat3 hown4 hg4 hat4 hb5 hbb3 hbb4 hbb5 hSS
    go_wp2_with fail
    go_fit (awake10_any w6)
    rintro e w7 ⟨rfl, hb7⟩
    have HB8 := Lib.hid (HB7.out.trans (hb7.mono HB7.out.size))
    clear hb7
    go_wp2_with fail
    go_ret
    exact ⟨rfl, HB8.out⟩
  · go_upto_region 21 with fail
    have HWB6 := Lib.hid (HWB5.out.of_block (w' := w5.setCell ⟨w1.heap.size + 1, 0, none⟩ (.int .i64 70)) (fun k hk => Below.heap_setCell _ _ _ _ (by injection hk with hk; subst hk; have := HS1.out; simp; omega)))
    have HRB6 := Lib.hid (show OwnBL _ w1.heap.size (.slice (some ⟨w1.heap.size, 0, none⟩) 12 12) (rfBad 7).1 from (HRB5.out.of_block (w' := w5.setCell ⟨w1.heap.size + 1, 0, none⟩ (.int .i64 70)) (fun k hk => Below.heap_setCell _ _ _ _ (by injection hk with hk; subst hk; simp))))
    have HD6 := Lib.hid ((HD5.out.set (i := 0) (by omega) (.int .i64 70)).congr (f' := fun i => if i = 0 then .int .i64 70 else .int .i64 12) (fun i hi => by rcases (by omega : i = 0 ∨ i = 1) with rfl | rfl <;> rfl))
    have HB6 := Lib.hid (HB5.out.setCell (p := ⟨w1.heap.size + 1, 0, none⟩) (by simp; have := HS1.out; omega) (.int .i64 70))
    have HL6 := Lib.hid (HL5.out.keep (w' := w5.setCell ⟨w1.heap.size + 1, 0, none⟩ (.int .i64 70)) (by simp [World.setCell]) (fun b hb => Below.heap_setCell _ _ _ _ (HLN.out b hb).2))
    have HZ6 := Lib.hid (show w1.heap.size + 1 + 1 ≤ (w5.setCell ⟨w1.heap.size + 1, 0, none⟩ (.int .i64 70)).heap.size by have := HZ5.out; simpa [World.setCell] using this)
    have HP := Lib.hid (rf_bad 7 (by omega))
    have HBS := Lib.hid (rf_bs 7 (by omega))
    have HRL := Lib.hid (show (rfBad 7).1.length = 12 from rfl)
    simp only [show (rfBad 7).2.1 = 70 from rfl, show (rfBad 7).2.2 = 12 from rfl] at HP
    generalize (rfBad 7).1 = row at *
    generalize (w5.setCell ⟨w1.heap.size + 1, 0, none⟩ (.int .i64 70)) = W2 at *
    clear HWB5 HRB5 HD5 HL5 HB5 HZ5 o0 o1 z0 z1 q0 q4 q8 q9 y0 y4 y8 y9
    have hq : (List.replicate 64 (0 : Int) ++ row).length = 76 := by rw [List.length_append, HRL.out]; rfl
    have HPQ : Hid (parseS (List.replicate 64 (0 : Int) ++ row).length (litF (List.replicate 64 0 ++ row)) 70 12 = none) := by rw [hq]; exact HP.out
    have HQ := Lib.hid hq
    clear hq
    have HS := Lib.hid (show ∀ W, Below W2.heap.size W2 W → W.cell? ⟨w1.heap.size + 1, 0, none⟩ = some (.int .i64 70) ∧ W.cell? ⟨w1.heap.size + 1, 1, none⟩ = some (.int .i64 12) ∧ Below W2.heap.size W2 W from fun W hb => by
      have h := HD6.out.below hb HD6.out.1
      have h0 := h.cell (i := 0) (by omega)
      have h1 := h.cell (i := 1) (by omega)
      simp only [if_pos, if_neg, Nat.one_ne_zero] at h0 h1
      exact ⟨h0, h1, hb⟩)
    go_region_held3 (fun W => W.cell? ⟨w1.heap.size + 1, 0, none⟩ = some (.int .i64 70) ∧ W.cell? ⟨w1.heap.size + 1, 1, none⟩ = some (.int .i64 12) ∧ Below W2.heap.size W2 W)
      (first | exact HS.out _ hbb5 | exact HS.out _ ((Below.refl W2.heap.size W2).drew) | exact HS.out _ (((Below.refl W2.heap.size W2).alloc (Nat.le_refl _) (.cells #[] 5)).drew) | exact HS.out _ hbb4 | exact HS.out _ hbb3 | fail)
      (first
       | ((refine step_appBL (by rfl) (.tmp 56) (.tmp 57) 22 (by rfl) W2.heap.size (.slice (some ⟨W2.heap.size, 0, none⟩) 0 0) [] (by rfl) (OwnBL.made0 W2 W2.heap.size (Nat.le_refl _)) _ (by rfl) (List.replicate 64 0) (src_own (HWB6.out.alloc (.cells #[] 5))) (by simp) (by simp) ?_; intro A3 cap3 w3 hown3 hg3 hat3; have hbb3 : Below W2.heap.size W2 w3 := by first | exact bel_app0 (fun k hk => by injection hk with hk; rw [← hk]; exact Nat.le_refl _) hg3 | exact bel_app1 (fun k hk => by injection hk with hk; rw [← hk]; exact Nat.le_refl _) hg3))
       | ((refine step_appBL (by rfl) (.tmp 58) (.tmp 59) 22 (by rfl) W2.heap.size _ ([] ++ List.replicate 64 0) (by rfl) hown3 _ (by rfl) row (src_own (HRB6.out.below hbb3)) (by rw [HRL.out]; decide) hbb3.size ?_; intro A4 cap4 w4 hown4 hg4 hat4; have hbb4 : Below W2.heap.size W2 w4 := hown3.grew hbb3 (Nat.le_refl _) hbb3.size hg4))
       | (go_at_call 9; refine (parse_bl (bs := List.replicate 64 0 ++ row) (base := W2.heap.size) hown4 HBS.out HPQ.out (by rw [HQ.out]; decide) (by omega) (by omega) (by omega) (by omega)).mono ?_; rintro e w6 ⟨rfl, hb5⟩; have hbb5 : Below W2.heap.size W2 w6 := hbb4.trans (hb5.mono hbb4.size))
       | fail)
    rename_i hSS
    have hL := HL6.out.below hbb5
    obtain ⟨b, off, rfl, _, q0, q1⟩ := hL.site (i := 0) (by simp)
    simp only [List.getElem_cons_zero, Nat.zero_mul, Nat.add_zero] at q0 q1
    have HB7 := Lib.hid (HB6.out.trans (hbb5.mono HB6.out.size))
    clear hL hown3 hg3 hat3 hown4 hg4 hat4 hb5 hbb3 hbb4 hbb5 hSS
    go_wp2_with fail
    go_fit (awake10_any w6)
    rintro e w7 ⟨rfl, hb7⟩
    have HB8 := Lib.hid (HB7.out.trans (hb7.mono HB7.out.size))
    clear hb7
    go_wp2_with fail
    go_ret
    exact ⟨rfl, HB8.out⟩
end Go.Proofs.Ytcommphfjkggkaa
