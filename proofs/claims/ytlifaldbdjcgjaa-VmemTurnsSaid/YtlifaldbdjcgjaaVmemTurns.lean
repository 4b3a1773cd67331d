/- law 3: VmemTurns. -/
import Derived.Test.YtlifaldbdjcgjaaTurnsMath
import Derived.Test.YtlifaldbdjcgjaaTurnsStr
import Derived.Test.YtlifaldbdjcgjaaVawake
import Derived.Test.YtlifaldbdjcgjaaVright
import Derived.RegionTactic
import Derived.BigRegion
namespace Go.Proofs.Ytlifaldbdjcgjaa
open Go.ChangeShapes Go.WideShapes Go.ChangeAt Go.RowKit
open Go.Maps (Keyed)
set_option linter.unusedVariables false

theorem and_255u (n : Int) : 0 ≤ bits .and .u64 n 255 ∧ bits .and .u64 n 255 ≤ 255 := by
  have h : (BitVec.ofInt 64 n &&& BitVec.ofInt 64 255).toNat ≤ 255 := by
    rw [BitVec.toNat_and]
    exact Nat.and_le_right
  show 0 ≤ IntKind.u64.wrap (((BitVec.ofInt 64 n &&& BitVec.ofInt 64 255).toNat : Nat) : Int) ∧ IntKind.u64.wrap (((BitVec.ofInt 64 n &&& BitVec.ofInt 64 255).toNat : Nat) : Int) ≤ 255
  generalize (BitVec.ofInt 64 n &&& BitVec.ofInt 64 255).toNat = k at h ⊢
  simp [IntKind.wrap, IntKind.bits, IntKind.signed]
  omega

set_option maxRecDepth 100000 in
set_option maxHeartbeats 2000000 in
theorem turns_core (w : World) (at' n' : Int) (A : Option Addr) (l cap : Nat) (h : Nat → Int) (hl : l ≤ cap) (hc : cap ≤ 9223372036854775807) (hs : SrcR (· < w.heap.size) w A l h) (hl2 : l ≤ 4000) :
    Calls Try.prog 10 #[.int .u64 at', .int .i64 n', .slice A l cap] w fun e w' => e = .returned (.bool true) ∧ Below w.heap.size w w' := by
  obtain ⟨c, hc'⟩ : ∃ c, bits .and .u64 at' 255 = c := ⟨_, rfl⟩
  have hcb := and_255u at'
  rw [hc'] at hcb
  obtain ⟨c0, c1⟩ := hcb
  obtain ⟨n, hn'⟩ : ∃ n : Nat, n' % 8 = (n : Int) - 1 := ⟨(n' % 8).toNat + 1, by omega⟩
  have n1 : 1 ≤ (n : Int) := by omega
  have n8 : (n : Int) ≤ 8 := by omega
  have hkn := (and_7 n').trans hn'
  clear hn'
  have HNM := Lib.hid (newMem_any (· < w.heap.size) w 16 (fun _ h => h) (by omega) (by omega))
  have HS := Lib.hid hs
  have hl2' : ¬ (4000 : Int) < l := by omega
  have hl3 : (l : Int) ≤ 4000 := by omega
  have HLC := Lib.hid (And.intro hl hc)
  clear hs hl hc
  go_enter Try.func10, Try.ntmps10
  go_wp2_with fail
  refine HNM.out.mono ?_
  rintro e w3 ⟨M, rfl, h3, k3⟩
  have H3 := Lib.hid h3
  have K3 := Lib.hid k3
  clear h3 k3 HNM
  go_wp2_with fail
  obtain ⟨a, ha⟩ : ∃ a, c * 4096 = a := ⟨_, rfl⟩
  rw [ha]
  have a0 : 0 ≤ a := by omega
  have a1 : a ≤ 1044480 := by omega
  have a2 : a % 4096 = 0 := by omega
  have n1' : 1 ≤ n := by omega
  have n8' : n ≤ 8 := by omega
  have HC := Lib.hid (And.intro hc' (And.intro hkn ha))
  clear hc' hkn ha c0 c1
  have HM := Lib.hid (map_core (· < w.heap.size) w3 M 0 16 (fun _ => none) 1073741824 1 2 (by omega) ⟨by omega, by omega, by omega, by omega⟩ (by omega) (by omega) (fun _ _ => rfl) (by omega) H3.out)
  refine HM.out.mono ?_
  rintro e w4 ⟨rfl, h4, k4⟩
  have H4 := Lib.hid (show MemAt (· < w.heap.size) w4 M 2 16 t1 from h4)
  have K4 := Lib.hid (K3.out.trans k4)
  clear h4 k4 HM H3 K3
  have HM := Lib.hid (map_core (· < w.heap.size) w4 M 2 16 t1 a 2 n a0 ⟨a2, by omega, by omega, by omega⟩ (by omega) (by omega) (t1_free a0 a1 n8') (by omega) H4.out)
  go_wp2_with fail
  refine HM.out.mono ?_
  rintro e w5 ⟨rfl, h5, k5⟩
  have H5 := Lib.hid (show MemAt (· < w.heap.size) w5 M (2 + n) 16 (t2 a n) from h5)
  have K5 := Lib.hid (K4.out.trans k5)
  clear h5 k5 HM H4 K4
  have HSR := Lib.hid (show SrcR (· < w.heap.size) w5 A l h by
    rcases HS.out with e | ⟨g, off, hA, hg, hr⟩
    · exact .inl e
    · exact .inr ⟨g, off, hA, hg, fun j hj => (K5.out.cell (p := ⟨g, off + j, none⟩) hg).trans (hr j hj)⟩)
  have HM := Lib.hid (poke_yes (· < w.heap.size) w5 M (2 + n) 16 (t2 a n) a A l cap h a0 (by omega) (by omega) HLC.out.1 HLC.out.2 (t2_inM a2 n1' hl2) HSR.out H5.out)
  go_wp2_with fail
  refine HM.out.mono ?_
  rintro e w6 ⟨rfl, h6, k6⟩
  have H6 := Lib.hid (show MemAt (· < w.heap.size) w6 M (2 + n) 16 (t3 a n l h) from h6)
  have K6 := Lib.hid (K5.out.trans k6)
  clear h6 k6 HM H5 K5 HSR
  have HM := Lib.hid (map_taken (· < w.heap.size) w6 M (2 + n) 16 (t3 a n l h) (a + 4096 * ((n : Int) - 1)) 1 2 (by omega) ⟨by omega, by omega, by omega, by omega⟩ (by omega) (by omega) ⟨0, by omega, by
    rw [show a + 4096 * ((n : Int) - 1) + ((0 : Nat) : Int) * 4096 = a + ((n - 1 : Nat) : Int) * 4096 by omega]
    exact t3_in _ (by omega)⟩ H6.out)
  go_wp2_with fail
  refine HM.out.mono ?_
  rintro e w7 ⟨rfl, k7, hk7⟩
  have H7 := Lib.hid (show MemAt (· < w.heap.size) w7 M (2 + n) 16 (t3 a n l h) by rw [hk7]; exact H6.out.drewN k7)
  have K7 := Lib.hid (show Kept (· < w.heap.size) w w7 by rw [hk7]; exact K6.out.trans (Kept.drewN _ _ _))
  clear hk7 HM H6 K6
  have HM := Lib.hid (unmap_yes (· < w.heap.size) w7 M (2 + n) 16 (t3 a n l h) a n a0 ⟨a2, by omega, by omega, by omega⟩ (fun i hi => t3_in i hi) H7.out)
  go_wp2_with fail
  refine HM.out.mono ?_
  rintro e w8 ⟨rfl, h8, k8⟩
  have H8 := Lib.hid (show MemAt (· < w.heap.size) w8 M 2 16 (t4 a n l h) by rw [show 2 + n - n = 2 by omega] at h8; exact h8)
  have K8 := Lib.hid (K7.out.trans k8)
  clear h8 k8 HM H7 K7
  have HM := Lib.hid (unmap_no (· < w.heap.size) w8 M 2 16 (t4 a n l h) a n a0 (by omega) (t4_not n1') H8.out)
  go_wp2_with fail
  refine HM.out.mono ?_
  rintro e w9 ⟨rfl, k9, hk9⟩
  have H9 := Lib.hid (show MemAt (· < w.heap.size) w9 M 2 16 (t4 a n l h) by rw [hk9]; exact H8.out.drewN k9)
  have K9 := Lib.hid (show Kept (· < w.heap.size) w w9 by rw [hk9]; exact K8.out.trans (Kept.drewN _ _ _))
  clear hk9 HM H8 K8
  have HM := Lib.hid (pages_any (· < w.heap.size) w9 M 2 16 (t4 a n l h) H9.out (by omega) (by omega))
  go_wp2_with fail
  refine HM.out.mono ?_
  rintro e w10 ⟨g10, cap10, rfl, hg10, _, hb10⟩
  have H10 := Lib.hid (H9.out.below hb10)
  have K10 := Lib.hid (K9.out.trans (show Kept (· < w.heap.size) w9 w10 from ⟨hb10.os, hb10.tape, hb10.output, hb10.size, fun k hk => hb10.block k (Nat.lt_of_lt_of_le hk K9.out.size)⟩))
  clear hb10 HM H9 K9
  have HM := Lib.hid (free_any (· < w.heap.size) w10 M 2 16 (t4 a n l h) H10.out)
  go_wp2_with fail
  refine HM.out.mono ?_
  rintro e w11 ⟨rfl, k11, hk11⟩
  have H11 := Lib.hid (show MemAt (· < w.heap.size) w11 M 2 16 (t4 a n l h) by rw [hk11]; exact H10.out.drewN k11)
  have K11 := Lib.hid (show Kept (· < w.heap.size) w w11 by rw [hk11]; exact K10.out.trans (Kept.drewN _ _ _))
  clear hk11 HM H10 K10
  have HM := Lib.hid (map_core (· < w.heap.size) w11 M 2 16 (t4 a n l h) a 1 n a0 ⟨a2, by omega, by omega, by omega⟩ (by omega) (by omega) (fun i hi => t4_free i hi) (by omega) H11.out)
  go_wp2_with fail
  refine HM.out.mono ?_
  rintro e w12 ⟨rfl, h12, k12⟩
  have H12 := Lib.hid (show MemAt (· < w.heap.size) w12 M (2 + n) 16 (t5 a n l h) from h12)
  have K12 := Lib.hid (K11.out.trans k12)
  clear h12 k12 HM H11 K11
  have HM := Lib.hid (read_yes (· < w.heap.size) w12 M (2 + n) 16 (t5 a n l h) a 4096 a0 (by omega) (by omega) t5_prot (t5_ask a2 n1') H12.out)
  go_wp2_with fail
  refine HM.out.mono ?_
  rintro e w13 ⟨g, hg, rfl, ho, h13, k13⟩
  have H13 := Lib.hid h13
  have K13 := Lib.hid (K12.out.trans k13)
  have HO := Lib.hid ho
  clear h13 k13 HM H12 K12 ho
  go_wp2_with fail
  have hcell : (w13.alloc (.cells #[.int .i64 0, .int .u64 0] 45)).cell? ⟨w13.heap.size, 0, none⟩ = some (.int .i64 0) := by simp [go_sem]
  have hlt13 : w13.heap.size < (w13.alloc (.cells #[.int .i64 0, .int .u64 0] 45)).heap.size := by simp
  have hgl : g < w13.heap.size := HO.out.1
  have hb14 : Below w13.heap.size w13 (w13.alloc (.cells #[.int .i64 0, .int .u64 0] 45)) := (Below.refl _ _).alloc (Nat.le_refl _) _
  have H14 := Lib.hid (H13.out.below hb14)
  have HB14 := Lib.hid ((K13.out.below (fun k hk => hk)).trans (hb14.mono (by have := K13.out.size; omega)))
  have HO14 := Lib.hid (HO.out.of_block (hb14.block g hgl) hb14.size)
  generalize hfar : w13.heap.size = F at *
  generalize w13.alloc (.cells #[.int .i64 0, .int .u64 0] 45) = w14 at *
  have C14 := Lib.hid (fun (W : World) (hW : Below w14.heap.size w14 W) => (hW.cell (p := ⟨F, 0, none⟩) hlt13).trans hcell)
  have S14 := Lib.hid (fun (W : World) (hW : Below w14.heap.size w14 W) => str_page (HO14.out.of_block (hW.block g HO14.out.1) hW.size) (fun q hq => t5_byte a2 n1' q hq))
  obtain ⟨mk, hmk⟩ := make_page
  have HMK := Lib.hid hmk
  have B0 := Below.refl w14.heap.size w14
  have B1 := B0.drew
  have hz := (Lib.hid (hmk w14.drew))
  have m1 := hz.out.1
  have B2 := B1.grown hz.out.2.1 (Nat.le_refl _) (fun k h => by cases h)
  have m2 := str_page hz.out.2.2 (fun _ _ => rfl)
  clear hcell hlt13 hgl hb14 hmk hz H13 HO K13 HS
  rw [show w14.drew.heap.size = w14.heap.size from rfl] at m1 m2
  have c14 := C14.out
  have s14 := S14.out
  have HMP := Lib.hid (pages_any (fun k => k < w.heap.size ∨ k = g) (mk w14.drew) M (2 + n) 16 (t5 a n l h) (H14.out.below B2) (by omega) (by omega))
  have p0 : (page0.toList == page0.toList) = true := by simp
  obtain ⟨m, hm⟩ : ∃ m : Nat, 2 + n = m := ⟨_, rfl⟩
  rw [hm] at HMP
  have hmm : (n : Int) + 2 = (m : Int) := by omega
  have hw1 : IntKind.i64.wrap ((n : Int) + 2) = (m : Int) := by rw [hmm, IntKind.wrap_i64]; omega
  have hw2 : wrap64 ((n : Int) + 2) = (m : Int) := by rw [hmm]; simp [wrap64]; omega
  clear hmm
  clear hm
  refine wp_region_noPanic ?_
  refine wp_region_held_drew (S := fun W => Below w14.heap.size w14 W) (by kernel_rfl) ?_ (fun hHeld => ?_)
  · (first | exact B4 | exact B3 | exact B2 | exact B1 | exact B0 | fail)
  refine wpAnyH_take (i := 0) (oi := ?_) (v := ?_) ?_ (by kernel_rfl) (by kernel_rfl) (by kernel_rfl) (fun _ _ _ h => h) ?_ (by assumption) ?_
  rotate_left 2
  · (simp only [List.getElem?_toArray, List.getElem?_cons_succ, List.getElem?_cons_zero]; rfl)
  · (refine Or.inl ⟨by rfl, ?_⟩; intro w hSw; (try dsimp only at hSw); go_simp; try with_reducible rfl)
  try simp only [Act.put, List.setIfInBounds_toArray, List.set_cons_zero, List.set_cons_succ]
  refine wpAnyH_take (i := 1) (oi := ?_) (v := ?_) ?_ (by kernel_rfl) (by kernel_rfl) (by kernel_rfl) (fun _ _ _ h => h) ?_ (by assumption) ?_
  rotate_left 2
  · (simp only [List.getElem?_toArray, List.getElem?_cons_succ, List.getElem?_cons_zero]; rfl)
  · (refine Or.inl ⟨by rfl, ?_⟩; intro w hSw; (try dsimp only at hSw); go_simp; try with_reducible rfl)
  try simp only [Act.put, List.setIfInBounds_toArray, List.set_cons_zero, List.set_cons_succ]
  refine wpAnyH_take (i := 2) (oi := ?_) (v := ?_) ?_ (by kernel_rfl) (by kernel_rfl) (by kernel_rfl) (fun _ _ _ h => h) ?_ (by assumption) ?_
  rotate_left 2
  · (simp only [List.getElem?_toArray, List.getElem?_cons_succ, List.getElem?_cons_zero]; rfl)
  · (refine Or.inl ⟨by rfl, ?_⟩; intro w hSw; (try dsimp only at hSw); go_simp; try with_reducible rfl)
  try simp only [Act.put, List.setIfInBounds_toArray, List.set_cons_zero, List.set_cons_succ]
  refine wpAnyH_take (i := 3) (oi := ?_) (v := ?_) ?_ (by kernel_rfl) (by kernel_rfl) (by kernel_rfl) (fun _ _ _ h => h) ?_ (by assumption) ?_
  rotate_left 2
  · (simp only [List.getElem?_toArray, List.getElem?_cons_succ, List.getElem?_cons_zero]; rfl)
  · (refine Or.inl ⟨by rfl, ?_⟩; intro w hSw; (try dsimp only at hSw); go_simp; try with_reducible rfl)
  try simp only [Act.put, List.setIfInBounds_toArray, List.set_cons_zero, List.set_cons_succ]
  refine wpAnyH_take (i := 4) (oi := ?_) (v := ?_) ?_ (by kernel_rfl) (by kernel_rfl) (by kernel_rfl) (fun _ _ _ h => h) ?_ (by assumption) ?_
  rotate_left 2
  · (simp only [List.getElem?_toArray, List.getElem?_cons_succ, List.getElem?_cons_zero]; rfl)
  · (refine Or.inl ⟨by rfl, ?_⟩; intro w hSw; (try dsimp only at hSw); go_simp; try with_reducible rfl)
  try simp only [Act.put, List.setIfInBounds_toArray, List.set_cons_zero, List.set_cons_succ]
  refine wpAnyH_take (i := 5) (oi := ?_) (v := ?_) ?_ (by kernel_rfl) (by kernel_rfl) (by kernel_rfl) (fun _ _ _ h => h) ?_ (by assumption) ?_
  rotate_left 2
  · (simp only [List.getElem?_toArray, List.getElem?_cons_succ, List.getElem?_cons_zero]; rfl)
  · (refine Or.inl ⟨by rfl, ?_⟩; intro w hSw; (try dsimp only at hSw); go_simp; try with_reducible rfl)
  try simp only [Act.put, List.setIfInBounds_toArray, List.set_cons_zero, List.set_cons_succ]
  refine wpAnyH_ready (rs := [6]) (by kernel_rfl) (by simp) ?_
  refine AllReadyH.cons (i := 6) rfl (fun K hK => ?_) ?_
  · go_simp
    refine hK.out _ _ ?_ (fun hHeld => ?_)
    · (first | exact B4 | exact B3 | exact B2 | exact B1 | exact B0 | fail)
    clear hK K
    refine wpAnyH_ready (rs := [7]) (by kernel_rfl) (by simp) ?_
    refine AllReadyH.cons (i := 7) rfl (fun K hK => ?_) ?_
    · go_simp
      refine hK.out _ _ ?_ (fun hHeld => ?_)
      · (first | exact B4 | exact B3 | exact B2 | exact B1 | exact B0 | fail)
      clear hK K
      refine wpAnyH_take (i := 8) (oi := ?_) (v := ?_) ?_ (by kernel_rfl) (by kernel_rfl) (by kernel_rfl) (fun _ _ _ h => h) ?_ (by assumption) ?_
      rotate_left 2
      · (simp only [List.getElem?_toArray, List.getElem?_cons_succ, List.getElem?_cons_zero]; rfl)
      · (refine Or.inl ⟨by rfl, ?_⟩; intro w hSw; (try dsimp only at hSw); go_simp; try with_reducible rfl)
      try simp only [Act.put, List.setIfInBounds_toArray, List.set_cons_zero, List.set_cons_succ]
      refine wpAnyH_take (i := 9) (oi := ?_) (v := ?_) ?_ (by kernel_rfl) (by kernel_rfl) (by kernel_rfl) (fun _ _ _ h => h) ?_ (by assumption) ?_
      rotate_left 2
      · (simp only [List.getElem?_toArray, List.getElem?_cons_succ, List.getElem?_cons_zero]; rfl)
      · (refine Or.inl ⟨by rfl, ?_⟩; intro w hSw; (try dsimp only at hSw); go_simp; try with_reducible rfl)
      try simp only [Act.put, List.setIfInBounds_toArray, List.set_cons_zero, List.set_cons_succ]
      refine wpAnyH_take (i := 10) (oi := ?_) (v := ?_) ?_ (by kernel_rfl) (by kernel_rfl) (by kernel_rfl) (fun _ _ _ h => h) ?_ (by assumption) ?_
      rotate_left 2
      · (simp only [List.getElem?_toArray, List.getElem?_cons_succ, List.getElem?_cons_zero]; rfl)
      · (refine Or.inl ⟨by rfl, ?_⟩; intro w hSw; (try dsimp only at hSw); go_simp; try with_reducible rfl)
      try simp only [Act.put, List.setIfInBounds_toArray, List.set_cons_zero, List.set_cons_succ]
      refine wpAnyH_take (i := 11) (oi := ?_) (v := ?_) ?_ (by kernel_rfl) (by kernel_rfl) (by kernel_rfl) (fun _ _ _ h => h) ?_ (by assumption) ?_
      rotate_left 2
      · (simp only [List.getElem?_toArray, List.getElem?_cons_succ, List.getElem?_cons_zero]; rfl)
      · (refine Or.inl ⟨by rfl, ?_⟩; intro w hSw; (try dsimp only at hSw); go_simp; try with_reducible rfl)
      try simp only [Act.put, List.setIfInBounds_toArray, List.set_cons_zero, List.set_cons_succ]
      refine wpAnyH_take (i := 14) (oi := ?_) (v := ?_) ?_ (by kernel_rfl) (by kernel_rfl) (by kernel_rfl) (fun _ _ _ h => h) ?_ (by assumption) ?_
      rotate_left 2
      · (simp only [List.getElem?_toArray, List.getElem?_cons_succ, List.getElem?_cons_zero]; rfl)
      · (refine Or.inl ⟨by rfl, ?_⟩; intro w hSw; (try dsimp only at hSw); go_simp; try with_reducible rfl)
      try simp only [Act.put, List.setIfInBounds_toArray, List.set_cons_zero, List.set_cons_succ]
      refine wpAnyH_take (i := 15) (oi := ?_) (v := ?_) ?_ (by kernel_rfl) (by kernel_rfl) (by kernel_rfl) (fun _ _ _ h => h) ?_ (by assumption) ?_
      rotate_left 2
      · (simp only [List.getElem?_toArray, List.getElem?_cons_succ, List.getElem?_cons_zero]; rfl)
      · (refine Or.inl ⟨by rfl, ?_⟩; intro w hSw; (try dsimp only at hSw); go_simp; try with_reducible rfl)
      try simp only [Act.put, List.setIfInBounds_toArray, List.set_cons_zero, List.set_cons_succ]
      refine wpAnyH_ready (rs := [12]) (by kernel_rfl) (by simp) ?_
      refine AllReadyH.cons (i := 12) rfl (fun K hK => ?_) ?_
      · go_simp
        (first | (go_at_call 30; refine HMP.out.mono ?_; rintro e w15 ⟨g15, cap15, rfl, hg15, _, hb15⟩; have B3 := B2.trans (hb15.mono B2.size); clear hb15) | (go_at_call 24; refine (awake3_any w15).mono ?_; rintro e w16 ⟨rfl, hb16⟩; have B4 := B3.trans (hb16.mono B3.size); clear hb16))
        refine hK.out _ _ ?_ (fun hHeld => ?_)
        · (first | exact B4 | exact B3 | exact B2 | exact B1 | exact B0 | fail)
        clear hK K
        refine wpAnyH_take (i := 13) (oi := ?_) (v := ?_) ?_ (by kernel_rfl) (by kernel_rfl) (by kernel_rfl) (fun _ _ _ h => h) ?_ (by assumption) ?_
        rotate_left 2
        · (simp only [List.getElem?_toArray, List.getElem?_cons_succ, List.getElem?_cons_zero]; rfl)
        · (refine Or.inl ⟨by rfl, ?_⟩; intro w hSw; (try dsimp only at hSw); go_simp; try with_reducible rfl)
        try simp only [Act.put, List.setIfInBounds_toArray, List.set_cons_zero, List.set_cons_succ]
        refine wpAnyH_take (i := 16) (oi := ?_) (v := ?_) ?_ (by kernel_rfl) (by kernel_rfl) (by kernel_rfl) (fun _ _ _ h => h) ?_ (by assumption) ?_
        rotate_left 2
        · (simp only [List.getElem?_toArray, List.getElem?_cons_succ, List.getElem?_cons_zero]; rfl)
        · (refine Or.inl ⟨by rfl, ?_⟩; intro w hSw; (try dsimp only at hSw); go_simp; try with_reducible rfl)
        try simp only [Act.put, List.setIfInBounds_toArray, List.set_cons_zero, List.set_cons_succ]
        refine wpAnyH_take (i := 17) (oi := ?_) (v := ?_) ?_ (by kernel_rfl) (by kernel_rfl) (by kernel_rfl) (fun _ _ _ h => h) ?_ (by assumption) ?_
        rotate_left 2
        · (simp only [List.getElem?_toArray, List.getElem?_cons_succ, List.getElem?_cons_zero]; rfl)
        · (refine Or.inl ⟨by rfl, ?_⟩; intro w hSw; (try dsimp only at hSw); go_simp; try with_reducible rfl)
        try simp only [Act.put, List.setIfInBounds_toArray, List.set_cons_zero, List.set_cons_succ]
        refine wpAnyH_take (i := 18) (oi := ?_) (v := ?_) ?_ (by kernel_rfl) (by kernel_rfl) (by kernel_rfl) (fun _ _ _ h => h) ?_ (by assumption) ?_
        rotate_left 2
        · (simp only [List.getElem?_toArray, List.getElem?_cons_succ, List.getElem?_cons_zero]; rfl)
        · (refine Or.inl ⟨by rfl, ?_⟩; intro w hSw; (try dsimp only at hSw); go_simp; try with_reducible rfl)
        try simp only [Act.put, List.setIfInBounds_toArray, List.set_cons_zero, List.set_cons_succ]
        refine wpAnyH_ready (rs := [19]) (by kernel_rfl) (by simp) ?_
        refine AllReadyH.cons (i := 19) rfl (fun K hK => ?_) ?_
        · go_simp
          (first | (go_at_call 30; refine HMP.out.mono ?_; rintro e w15 ⟨g15, cap15, rfl, hg15, _, hb15⟩; have B3 := B2.trans (hb15.mono B2.size); clear hb15) | (go_at_call 24; refine (awake3_any w15).mono ?_; rintro e w16 ⟨rfl, hb16⟩; have B4 := B3.trans (hb16.mono B3.size); clear hb16))
          refine hK.out _ _ ?_ (fun hHeld => ?_)
          · (first | exact B4 | exact B3 | exact B2 | exact B1 | exact B0 | fail)
          clear hK K
          refine wpAnyH_take (i := 20) (oi := ?_) (v := ?_) ?_ (by kernel_rfl) (by kernel_rfl) (by kernel_rfl) (fun _ _ _ h => h) ?_ (by assumption) ?_
          rotate_left 2
          · (simp only [List.getElem?_toArray, List.getElem?_cons_succ, List.getElem?_cons_zero]; rfl)
          · (refine Or.inl ⟨by rfl, ?_⟩; intro w hSw; (try dsimp only at hSw); go_simp; try with_reducible rfl)
          try simp only [Act.put, List.setIfInBounds_toArray, List.set_cons_zero, List.set_cons_succ]
          refine wpAnyH_take (i := 21) (oi := ?_) (v := ?_) ?_ (by kernel_rfl) (by kernel_rfl) (by kernel_rfl) (fun _ _ _ h => h) ?_ (by assumption) ?_
          rotate_left 2
          · (simp only [List.getElem?_toArray, List.getElem?_cons_succ, List.getElem?_cons_zero]; rfl)
          · (refine Or.inl ⟨by rfl, ?_⟩; intro w hSw; (try dsimp only at hSw); go_simp; try with_reducible rfl)
          try simp only [Act.put, List.setIfInBounds_toArray, List.set_cons_zero, List.set_cons_succ]
          refine wpAnyH_done (by kernel_rfl) ?_ _
          refine NoPanic.normal ?_
          go_wp2_with fail
          go_ret
          exact ⟨rfl, HB14.out.trans (B4.mono HB14.out.size)⟩
        exact AllReadyH.nil
      exact AllReadyH.nil
    exact AllReadyH.nil
  exact AllReadyH.nil
end Go.Proofs.Ytlifaldbdjcgjaa
