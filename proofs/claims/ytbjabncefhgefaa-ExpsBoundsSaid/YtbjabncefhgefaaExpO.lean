/- law 7: as many functions may be as the bound says. -/
import Derived.Test.YtbjabncefhgefaaExpO1
namespace Go.Proofs.Ytbjabncefhgefaa
open Go.ChangeShapes Go.WideShapes Go.ChangeAt Go.RowKit
set_option linter.unusedVariables false

set_option maxRecDepth 100000 in
set_option maxHeartbeats 8000000 in
theorem ebounds_any (n which : Int) (w : World) :
    Calls Try.prog 4 #[.int .i64 n, .int .i64 which] w fun e w' => e = .returned (.bool true) ∧ Below w.heap.size w w' := by
  have HAW := Lib.hid awake7_any
  obtain ⟨d, hd, m0⟩ : ∃ d : Nat, d < 16 ∧ bits .and .i64 n 15 = (d : Int) := ⟨(n % 16).toNat, by omega, by rw [show (15 : Int) = ((2 ^ 4 - 1 : Nat) : Int) from rfl, i64_mask n 4 (by omega)]; omega⟩
  obtain ⟨P, hP, m1⟩ : ∃ P : Nat, P < 4 ∧ bits .and .i64 which 3 = (P : Int) := ⟨(which % 4).toNat, by omega, by rw [show (3 : Int) = ((2 ^ 2 - 1 : Nat) : Int) from rfl, i64_mask which 2 (by omega)]; omega⟩
  have hpar := imgE_parse d hd
  obtain ⟨N, hN⟩ : ∃ N, d + 250 = N := ⟨_, rfl⟩
  rw [hN] at hpar
  have hN1 : (d : Int) + 250 = (N : Int) := by omega
  have hNb : N ≤ 265 := by omega
  have HN250 := Lib.hid (show 250 ≤ N by omega)
  obtain ⟨N4, hN4⟩ : ∃ q, 4 * N = q := ⟨_, rfl⟩
  obtain ⟨Z, hZ⟩ : ∃ q, 104 + N4 = q := ⟨_, rfl⟩
  have eN4 : (4 : Int) * (N : Int) = (N4 : Int) := by omega
  have eZ : (104 : Int) + (N4 : Int) = (Z : Int) := by omega
  have hZb : Z ≤ 1200 ∧ 1000 ≤ Z := by omega
  obtain ⟨hZ1, hZ2⟩ := hZb
  unfold imgE at hpar
  rw [hN4, hZ] at hpar
  have HPAR := Lib.hid hpar
  have wuN : IntKind.u64.wrap (N : Int) = (N : Int) := u64_nat (by omega)
  clear hpar hN hd hN4 hZ
  go_enter Try.func4, Try.ntmps4
  go_upto_region 3 with (first
    | (at_make; refine wpList_make_bytes _ rfl (.tmp 22) (.tmp 22) 24 rfl 5 (.int .u8 0) 1 (by kernel_rfl) (by kernel_rfl) rfl .i64 .i64 Z (by simp [Act.eval, Act.put]) (by simp [Act.eval, Act.put]) (by omega) (by omega) ?_; intro w1 hw1 ho1; have HW1 := Lib.hid hw1; have HO1 := Lib.hid (OwnD.noughts (base := w.heap.size) ho1 (Nat.le_refl _) (by omega)); clear hw1 ho1)
    | fail)
  have hl0 : (List.replicate Z 0).length = Z := List.length_replicate
  have hst : (convert 24 9 (.slice (some ⟨w.heap.size, 0, none⟩) Z Z)).run Try.prog w1 = .ok (.string (txt (List.replicate Z 0))) w1 := by
    have h := run_str (cap := Z) HO1.out.row
    rw [hl0] at h
    rw [h]
    unfold txt
    rw [hl0]
  have hlb := HO1.out.lb
  have HP1 := Lib.hid (fun W => put_list (List.replicate Z 0) 84 4 N W hlb (by omega) (by omega) (by omega) (by omega) (by omega))
  have hl1 := putL_len (b := List.replicate Z 0) (o := 84) (n := 4) (by omega) N
  have hlb1 := putL_lb hlb 84 4 N
  obtain ⟨b1, hb1⟩ : ∃ q, putL (List.replicate Z 0) 84 4 N = q := ⟨_, rfl⟩
  rw [hb1] at HP1 hl1 hlb1
  rw [hl0] at hl1
  have HP2 := Lib.hid (fun W => put_list b1 92 4 104 W hlb1 (by omega) (by omega) (by omega) (by omega) (by omega))
  have hl2 := putL_len (b := b1) (o := 92) (n := 4) (by omega) 104
  have hlb2 := putL_lb hlb1 92 4 104
  obtain ⟨b2, hb2⟩ : ∃ q, putL b1 92 4 104 = q := ⟨_, rfl⟩
  rw [hb2] at HP2 hl2 hlb2
  rw [hl1] at hl2
  have hpar := HPAR.out
  rw [hb1, hb2] at hpar
  have HPAR2 := Lib.hid hpar
  have HCV := Lib.hid (fun W => conv_text W b2 hlb2 (by omega))
  rw [hl2] at HCV
  have HLB2 := Lib.hid hlb2
  have HL2 := Lib.hid hl2
  generalize txt (List.replicate Z 0) = T0 at *
  clear hpar HPAR hb1 hb2 hlb hlb1 hlb2 hl0 hl1 HO1 hl2
  go_wp2_with fail
  refine (HP1.out _).mono ?_
  rintro e w2 ⟨rfl, hw2⟩
  have HB2 := Lib.hid (HW1.out.trans (hw2.mono HW1.out.size))
  clear hw2 hst HP1 HW1
  go_wp2_with fail
  refine (HP2.out _).mono ?_
  rintro e w3 ⟨rfl, hw3⟩
  have HB3 := Lib.hid (HB2.out.trans (hw3.mono HB2.out.size))
  clear hw3 HP2 HB2
  obtain ⟨C, w4, hcv, ho4, hw4⟩ := HCV.out (w3.alloc (.cells #[.int .i64 64, .int .i64 40] 26))
  have hd4 := (hw4.block w3.heap.size (by simp)).trans (heap_alloc_new w3 (.cells #[.int .i64 64, .int .i64 40] 26))
  have k0 : w4.cell? ⟨w3.heap.size, 0, none⟩ = some (.int .i64 64) := by rw [cell_of_row _ _ _ _ _ _ hd4]; rfl
  have k1 : w4.cell? ⟨w3.heap.size, 1, none⟩ = some (.int .i64 40) := by rw [cell_of_row _ _ _ _ _ _ hd4]; rfl
  have HB4 := Lib.hid (show Below w.heap.size w w4 from (HB3.out.alloc HB3.out.size _).trans (hw4.mono (by have := HB3.out.size; simp; omega)))
  have HPA := Lib.hid (fun W (hW : Below w4.heap.size w4 W) => parseE_any (some ⟨(w3.alloc (.cells #[.int .i64 64, .int .i64 40] 26)).heap.size, 0, none⟩) C b2 64 40 W HLB2.out ho4.len ho4.most (by rw [HL2.out]; omega) (ho4.below hW).slB (by omega) (by omega) (by omega) (by omega))
  rw [HPAR2.out, HL2.out, show (w3.alloc (.cells #[.int .i64 64, .int .i64 40] 26)).heap.size = w3.heap.size + 1 from by simp] at HPA
  clear ho4 hw4 hd4 HCV HB3
  go_wp2_with fail
  refine (HPA.out w4 (Below.refl _ _)).mono ?_
  rintro e w5 ⟨hq, hw5⟩
  have HB5 := Lib.hid (HB4.out.trans (hw5.mono HB4.out.size))
  clear HPA HPAR2 hw5 k0 k1 HLB2 HL2
  have HMA := Lib.hid twoA
  have HM1 := Lib.hid two1
  have HM2 := Lib.hid two2
  have HM4 := Lib.hid two4
  obtain ⟨Y, Q, c1, Q2, c2, rfl, hY⟩ : ∃ (Y : Int) (Q : Option Addr) (c1 : Nat) (Q2 : Option Addr) (c2 : Nat), e = .returned (.tuple #[.agg #[.int .i64 0, .slice Q (if N ≤ 256 then N else 0) c1, .slice Q2 0 c2], .int .i64 Y]) ∧ Y = if N ≤ 256 then 0 else 11 := by
    by_cases c : N ≤ 256
    · rw [if_pos c] at hq
      obtain ⟨A, c1, A', c2, rfl, _, _⟩ := hq
      refine ⟨0, A, c1, A', c2, ?_, (if_pos c).symm⟩
      rw [if_pos c, List.length_replicate]
      rfl
    · rw [if_neg c] at hq
      refine ⟨11, none, 0, none, 0, ?_, (if_neg c).symm⟩
      rw [if_neg c]
      exact hq
  clear hq
  obtain ⟨L, hL⟩ : ∃ L, (if N ≤ 256 then N else 0) = L := ⟨_, rfl⟩
  rw [hL]
  have hcase : (decide ((N : Int) ≤ 256) = true ∧ Y = 0 ∧ L = N) ∨ (decide ((N : Int) ≤ 256) = false ∧ Y = 11 ∧ L = 0) := by
    by_cases c : N ≤ 256
    · left; rw [if_pos c] at hY hL; exact ⟨decide_eq_true (by omega), hY, hL.symm⟩
    · right; rw [if_neg c] at hY hL; exact ⟨decide_eq_false (by omega), hY, hL.symm⟩
  have HNB := Lib.hid hNb
  clear hY hL hNb
  have hcase' : (decide ((N : Int) ≤ 256) = true ∧ Y = 0 ∧ L = N) ∨ (decide ((N : Int) ≤ 256) = false ∧ Y = 11 ∧ L = 0) := hcase
  clear hcase
  rcases hcase' with ⟨i1, rfl, hLL⟩ | ⟨i1, rfl, hLL⟩
  · rw [hLL]
    clear hLL
    go_upto_region 9 with (fail)
    have hbA := HB5.out.alloc HB5.out.size (.cells #[.int .i64 0, .slice Q N c1, .slice Q2 0 c2] 32)
    generalize w5.alloc (.cells #[.int .i64 0, .slice Q N c1, .slice Q2 0 c2] 32) = wA at *
    have HBA := Lib.hid hbA
    clear hbA i1 HB5
    go_wp2_with fail
    refine (HMA.out wA).mono ?_
    rintro e w6 ⟨g6, cc6, rfl, ho6, hw6⟩
    have HB6 := Lib.hid (HBA.out.trans (hw6.mono HBA.out.size))
    have HO6 := Lib.hid ho6
    clear ho6 hw6
    go_upto_region 10 with (fail)
    have HR8 := Lib.hid (heap_alloc_new w6 (.cells #[.int .i64 256, .int .i64 60] 26))
    have HB8 := Lib.hid (HB6.out.alloc HB6.out.size (.cells #[.int .i64 256, .int .i64 60] 26))
    have HO8 := Lib.hid (HO6.out.alloc (.cells #[.int .i64 256, .int .i64 60] 26))
    have HBL := Lib.hid HB6.out.size
    generalize w6.alloc (.cells #[.int .i64 256, .int .i64 60] 26) = w8 at *
    generalize w6.heap.size = b12 at *
    rcases (by omega : P = 0 ∨ P = 1 ∨ P = 2 ∨ P = 3) with rfl | rfl | rfl | rfl
    · skip
      go_wp2_with fail
      refine (HM1.out w8).mono ?_
      rintro e w9 ⟨g9, cc9, rfl, ho9, hw9⟩
      have hr9 := (hw9.block b12 (lt_of_row' HR8.out)).trans HR8.out
      have HB9 := Lib.hid (HB8.out.trans (hw9.mono HB8.out.size))
      obtain ⟨w10, hw10⟩ : ∃ q, w9.setRow b12 #[.int .i64 256, .int .i64 60] = q := ⟨_, rfl⟩
      have HR10 := Lib.hid (show w10.heap[b12]? = some (.cells #[.int .i64 256, .int .i64 60] 26 (0, 0)) from by rw [← hw10]; exact setRow_heap _ _ _ _ _ _ hr9)
      have HB10 := Lib.hid (show Below w.heap.size w w10 from by rw [← hw10]; exact below_setRow HB9.out HBL.out _)
      have HO10 := Lib.hid (show OwnD w10 w8.heap.size g9 cc9 imgA1 from by
        rw [← hw10]
        exact ho9.of_block (by rw [size_setRow]; exact Nat.le_refl _) (setRow_other _ _ _ _ (by have := ho9.le; have := lt_of_row' HR8.out; omega)))
      have HE10 := Lib.hid hw10
      have HR9 := Lib.hid hr9
      clear hw10 hr9 hw9 ho9
      go_upto_region 19 with (first | (refine wpList_store_row rfl 26 _ _ rfl b12 #[.int .i64 256, .int .i64 60] rfl rfl 26 #[.int .i64 256, .int .i64 60] HR9.out dirInfo rfl (by simp [Value.oneCell']) ?_; refine (congrArg _ HE10.out).mpr ?_) | fail)
      have HPZ := Lib.hid (fun W (hW : Below w10.heap.size w10 W) => parseE_any (some ⟨g9, 0, none⟩) cc9 imgA1 256 60 W (HO10.out.below hW).lb (HO10.out.below hW).len (HO10.out.below hW).most (by rw [lenI1]; omega) (HO10.out.below hW).slB (by omega) (by omega) (by omega) (by omega))
      rw [bad1] at HPZ
      have q0 : w10.cell? ⟨b12, 0, none⟩ = some (.int .i64 256) := by rw [cell_of_row _ _ _ _ _ _ HR10.out]; rfl
      have q1 : w10.cell? ⟨b12, 1, none⟩ = some (.int .i64 60) := by rw [cell_of_row _ _ _ _ _ _ HR10.out]; rfl
      go_wp2_with fail
      refine (HPZ.out _ (Below.refl _ _)).mono ?_
      rintro e w20 ⟨hq, hw20⟩
      have hq' : e = .returned (.tuple #[.agg #[.int .i64 0, .slice none 0 0, .slice none 0 0], .int .i64 11]) := hq
      subst hq'
      have HB20 := Lib.hid (HB10.out.trans (hw20.mono HB10.out.size))
      clear hq hw20 HPZ q0 q1
      go_wp2_with fail
      refine (HAW.out _).mono ?_
      rintro e w21 ⟨rfl, hw21⟩
      have HB21 := Lib.hid ((HB20.out.alloc HB20.out.size (.cells #[.int .i64 0, .slice none 0 0, .slice none 0 0] 32)).trans (hw21.mono (by have := HB20.out.size; simp; omega)))
      clear hw21
      go_wp2_with fail
      go_ret
      exact ⟨rfl, HB21.out⟩
    · skip
      go_wp2_with fail
      refine (HM2.out w8).mono ?_
      rintro e w9 ⟨g9, cc9, rfl, ho9, hw9⟩
      have hr9 := (hw9.block b12 (lt_of_row' HR8.out)).trans HR8.out
      have HB9 := Lib.hid (HB8.out.trans (hw9.mono HB8.out.size))
      obtain ⟨w10, hw10⟩ : ∃ q, w9.setRow b12 #[.int .i64 256, .int .i64 60] = q := ⟨_, rfl⟩
      have HR10 := Lib.hid (show w10.heap[b12]? = some (.cells #[.int .i64 256, .int .i64 60] 26 (0, 0)) from by rw [← hw10]; exact setRow_heap _ _ _ _ _ _ hr9)
      have HB10 := Lib.hid (show Below w.heap.size w w10 from by rw [← hw10]; exact below_setRow HB9.out HBL.out _)
      have HO10 := Lib.hid (show OwnD w10 w8.heap.size g9 cc9 imgA2 from by
        rw [← hw10]
        exact ho9.of_block (by rw [size_setRow]; exact Nat.le_refl _) (setRow_other _ _ _ _ (by have := ho9.le; have := lt_of_row' HR8.out; omega)))
      have HE10 := Lib.hid hw10
      have HR9 := Lib.hid hr9
      clear hw10 hr9 hw9 ho9
      go_upto_region 19 with (first | (refine wpList_store_row rfl 26 _ _ rfl b12 #[.int .i64 256, .int .i64 60] rfl rfl 26 #[.int .i64 256, .int .i64 60] HR9.out dirInfo rfl (by simp [Value.oneCell']) ?_; refine (congrArg _ HE10.out).mpr ?_) | fail)
      have HPZ := Lib.hid (fun W (hW : Below w10.heap.size w10 W) => parseE_any (some ⟨g9, 0, none⟩) cc9 imgA2 256 60 W (HO10.out.below hW).lb (HO10.out.below hW).len (HO10.out.below hW).most (by rw [lenI2]; omega) (HO10.out.below hW).slB (by omega) (by omega) (by omega) (by omega))
      rw [bad2] at HPZ
      have q0 : w10.cell? ⟨b12, 0, none⟩ = some (.int .i64 256) := by rw [cell_of_row _ _ _ _ _ _ HR10.out]; rfl
      have q1 : w10.cell? ⟨b12, 1, none⟩ = some (.int .i64 60) := by rw [cell_of_row _ _ _ _ _ _ HR10.out]; rfl
      go_wp2_with fail
      refine (HPZ.out _ (Below.refl _ _)).mono ?_
      rintro e w20 ⟨hq, hw20⟩
      have hq' : e = .returned (.tuple #[.agg #[.int .i64 0, .slice none 0 0, .slice none 0 0], .int .i64 11]) := hq
      subst hq'
      have HB20 := Lib.hid (HB10.out.trans (hw20.mono HB10.out.size))
      clear hq hw20 HPZ q0 q1
      go_wp2_with fail
      refine (HAW.out _).mono ?_
      rintro e w21 ⟨rfl, hw21⟩
      have HB21 := Lib.hid ((HB20.out.alloc HB20.out.size (.cells #[.int .i64 0, .slice none 0 0, .slice none 0 0] 32)).trans (hw21.mono (by have := HB20.out.size; simp; omega)))
      clear hw21
      go_wp2_with fail
      go_ret
      exact ⟨rfl, HB21.out⟩
    · have hst : (convert 24 9 (.slice (some ⟨g6, 0, none⟩) imgA0.length cc6)).run Try.prog w8 = .ok (.string (txt imgA0)) w8 := run_str (cap := cc6) HO8.out.row
      have HP3 := Lib.hid (fun W => put_list imgA0 312 2 2 W HO8.out.lb (by rw [lenI0]; omega) (by omega) (by omega) (by rw [lenI0]; omega) (by omega))
      have HCV3 := Lib.hid (fun W => conv_text W imgA3 (putL_lb HO8.out.lb 312 2 2) (by rw [lenI3]; omega))
      have e3 : putL imgA0 312 2 2 = imgA3 := rfl
      rw [e3] at HP3
      generalize txt imgA0 = T0 at *
      clear e3
      go_wp2_with fail
      refine (HP3.out w8).mono ?_
      rintro e w9 ⟨rfl, hw9⟩
      obtain ⟨C9, w10, hcv, ho9, hw10⟩ := HCV3.out w9
      have HB9 := Lib.hid (HB8.out.trans (hw9.mono HB8.out.size))
      have HR10 := Lib.hid ((hw10.block b12 (by have := lt_of_row' HR8.out; have := hw9.size; omega)).trans ((hw9.block b12 (lt_of_row' HR8.out)).trans HR8.out))
      have HB10 := Lib.hid (HB9.out.trans (hw10.mono HB9.out.size))
      have HO10 := Lib.hid ho9
      clear hw9 hw10 ho9 hst HP3 HCV3
      go_upto_region 19 with (fail)
      clear hcv
      have HPZ := Lib.hid (fun W (hW : Below w10.heap.size w10 W) => parseE_any (some ⟨w9.heap.size, 0, none⟩) C9 imgA3 256 60 W (HO10.out.below hW).lb (HO10.out.below hW).len (HO10.out.below hW).most (by rw [lenI3]; omega) (HO10.out.below hW).slB (by omega) (by omega) (by omega) (by omega))
      rw [bad3] at HPZ
      have q0 : w10.cell? ⟨b12, 0, none⟩ = some (.int .i64 256) := by rw [cell_of_row _ _ _ _ _ _ HR10.out]; rfl
      have q1 : w10.cell? ⟨b12, 1, none⟩ = some (.int .i64 60) := by rw [cell_of_row _ _ _ _ _ _ HR10.out]; rfl
      go_wp2_with fail
      refine (HPZ.out _ (Below.refl _ _)).mono ?_
      rintro e w20 ⟨hq, hw20⟩
      have hq' : e = .returned (.tuple #[.agg #[.int .i64 0, .slice none 0 0, .slice none 0 0], .int .i64 11]) := hq
      subst hq'
      have HB20 := Lib.hid (HB10.out.trans (hw20.mono HB10.out.size))
      clear hq hw20 HPZ q0 q1
      go_wp2_with fail
      refine (HAW.out _).mono ?_
      rintro e w21 ⟨rfl, hw21⟩
      have HB21 := Lib.hid ((HB20.out.alloc HB20.out.size (.cells #[.int .i64 0, .slice none 0 0, .slice none 0 0] 32)).trans (hw21.mono (by have := HB20.out.size; simp; omega)))
      clear hw21
      go_wp2_with fail
      go_ret
      exact ⟨rfl, HB21.out⟩
    · skip
      go_wp2_with fail
      refine (HM4.out w8).mono ?_
      rintro e w9 ⟨g9, cc9, rfl, ho9, hw9⟩
      have hr9 := (hw9.block b12 (lt_of_row' HR8.out)).trans HR8.out
      have HB9 := Lib.hid (HB8.out.trans (hw9.mono HB8.out.size))
      obtain ⟨w10, hw10⟩ : ∃ q, w9.setRow b12 #[.int .i64 256, .int .i64 63] = q := ⟨_, rfl⟩
      have HR10 := Lib.hid (show w10.heap[b12]? = some (.cells #[.int .i64 256, .int .i64 63] 26 (0, 0)) from by rw [← hw10]; exact setRow_heap _ _ _ _ _ _ hr9)
      have HB10 := Lib.hid (show Below w.heap.size w w10 from by rw [← hw10]; exact below_setRow HB9.out HBL.out _)
      have HO10 := Lib.hid (show OwnD w10 w8.heap.size g9 cc9 imgA4 from by
        rw [← hw10]
        exact ho9.of_block (by rw [size_setRow]; exact Nat.le_refl _) (setRow_other _ _ _ _ (by have := ho9.le; have := lt_of_row' HR8.out; omega)))
      have HE10 := Lib.hid hw10
      have HR9 := Lib.hid hr9
      clear hw10 hr9 hw9 ho9
      go_upto_region 19 with (first | (refine wpList_store_row rfl 26 _ _ rfl b12 #[.int .i64 256, .int .i64 63] rfl rfl 26 #[.int .i64 256, .int .i64 60] HR9.out dirInfo rfl (by simp [Value.oneCell']) ?_; refine (congrArg _ HE10.out).mpr ?_) | fail)
      have HPZ := Lib.hid (fun W (hW : Below w10.heap.size w10 W) => parseE_any (some ⟨g9, 0, none⟩) cc9 imgA4 256 63 W (HO10.out.below hW).lb (HO10.out.below hW).len (HO10.out.below hW).most (by rw [lenI4]; omega) (HO10.out.below hW).slB (by omega) (by omega) (by omega) (by omega))
      rw [bad4] at HPZ
      have q0 : w10.cell? ⟨b12, 0, none⟩ = some (.int .i64 256) := by rw [cell_of_row _ _ _ _ _ _ HR10.out]; rfl
      have q1 : w10.cell? ⟨b12, 1, none⟩ = some (.int .i64 63) := by rw [cell_of_row _ _ _ _ _ _ HR10.out]; rfl
      go_wp2_with fail
      refine (HPZ.out _ (Below.refl _ _)).mono ?_
      rintro e w20 ⟨hq, hw20⟩
      have hq' : e = .returned (.tuple #[.agg #[.int .i64 0, .slice none 0 0, .slice none 0 0], .int .i64 11]) := hq
      subst hq'
      have HB20 := Lib.hid (HB10.out.trans (hw20.mono HB10.out.size))
      clear hq hw20 HPZ q0 q1
      go_wp2_with fail
      refine (HAW.out _).mono ?_
      rintro e w21 ⟨rfl, hw21⟩
      have HB21 := Lib.hid ((HB20.out.alloc HB20.out.size (.cells #[.int .i64 0, .slice none 0 0, .slice none 0 0] 32)).trans (hw21.mono (by have := HB20.out.size; simp; omega)))
      clear hw21
      go_wp2_with fail
      go_ret
      exact ⟨rfl, HB21.out⟩
  · rw [hLL]
    clear hLL
    go_upto_region 9 with (fail)
    have hbA := HB5.out.alloc HB5.out.size (.cells #[.int .i64 0, .slice Q 0 c1, .slice Q2 0 c2] 32)
    generalize w5.alloc (.cells #[.int .i64 0, .slice Q 0 c1, .slice Q2 0 c2] 32) = wA at *
    have HBA := Lib.hid hbA
    clear hbA i1 HB5
    go_wp2_with fail
    refine (HMA.out wA).mono ?_
    rintro e w6 ⟨g6, cc6, rfl, ho6, hw6⟩
    have HB6 := Lib.hid (HBA.out.trans (hw6.mono HBA.out.size))
    have HO6 := Lib.hid ho6
    clear ho6 hw6
    go_upto_region 10 with (fail)
    have HR8 := Lib.hid (heap_alloc_new w6 (.cells #[.int .i64 256, .int .i64 60] 26))
    have HB8 := Lib.hid (HB6.out.alloc HB6.out.size (.cells #[.int .i64 256, .int .i64 60] 26))
    have HO8 := Lib.hid (HO6.out.alloc (.cells #[.int .i64 256, .int .i64 60] 26))
    have HBL := Lib.hid HB6.out.size
    generalize w6.alloc (.cells #[.int .i64 256, .int .i64 60] 26) = w8 at *
    generalize w6.heap.size = b12 at *
    rcases (by omega : P = 0 ∨ P = 1 ∨ P = 2 ∨ P = 3) with rfl | rfl | rfl | rfl
    · skip
      go_wp2_with fail
      refine (HM1.out w8).mono ?_
      rintro e w9 ⟨g9, cc9, rfl, ho9, hw9⟩
      have hr9 := (hw9.block b12 (lt_of_row' HR8.out)).trans HR8.out
      have HB9 := Lib.hid (HB8.out.trans (hw9.mono HB8.out.size))
      obtain ⟨w10, hw10⟩ : ∃ q, w9.setRow b12 #[.int .i64 256, .int .i64 60] = q := ⟨_, rfl⟩
      have HR10 := Lib.hid (show w10.heap[b12]? = some (.cells #[.int .i64 256, .int .i64 60] 26 (0, 0)) from by rw [← hw10]; exact setRow_heap _ _ _ _ _ _ hr9)
      have HB10 := Lib.hid (show Below w.heap.size w w10 from by rw [← hw10]; exact below_setRow HB9.out HBL.out _)
      have HO10 := Lib.hid (show OwnD w10 w8.heap.size g9 cc9 imgA1 from by
        rw [← hw10]
        exact ho9.of_block (by rw [size_setRow]; exact Nat.le_refl _) (setRow_other _ _ _ _ (by have := ho9.le; have := lt_of_row' HR8.out; omega)))
      have HE10 := Lib.hid hw10
      have HR9 := Lib.hid hr9
      clear hw10 hr9 hw9 ho9
      go_upto_region 19 with (first | (refine wpList_store_row rfl 26 _ _ rfl b12 #[.int .i64 256, .int .i64 60] rfl rfl 26 #[.int .i64 256, .int .i64 60] HR9.out dirInfo rfl (by simp [Value.oneCell']) ?_; refine (congrArg _ HE10.out).mpr ?_) | fail)
      have HPZ := Lib.hid (fun W (hW : Below w10.heap.size w10 W) => parseE_any (some ⟨g9, 0, none⟩) cc9 imgA1 256 60 W (HO10.out.below hW).lb (HO10.out.below hW).len (HO10.out.below hW).most (by rw [lenI1]; omega) (HO10.out.below hW).slB (by omega) (by omega) (by omega) (by omega))
      rw [bad1] at HPZ
      have q0 : w10.cell? ⟨b12, 0, none⟩ = some (.int .i64 256) := by rw [cell_of_row _ _ _ _ _ _ HR10.out]; rfl
      have q1 : w10.cell? ⟨b12, 1, none⟩ = some (.int .i64 60) := by rw [cell_of_row _ _ _ _ _ _ HR10.out]; rfl
      go_wp2_with fail
      refine (HPZ.out _ (Below.refl _ _)).mono ?_
      rintro e w20 ⟨hq, hw20⟩
      have hq' : e = .returned (.tuple #[.agg #[.int .i64 0, .slice none 0 0, .slice none 0 0], .int .i64 11]) := hq
      subst hq'
      have HB20 := Lib.hid (HB10.out.trans (hw20.mono HB10.out.size))
      clear hq hw20 HPZ q0 q1
      go_wp2_with fail
      refine (HAW.out _).mono ?_
      rintro e w21 ⟨rfl, hw21⟩
      have HB21 := Lib.hid ((HB20.out.alloc HB20.out.size (.cells #[.int .i64 0, .slice none 0 0, .slice none 0 0] 32)).trans (hw21.mono (by have := HB20.out.size; simp; omega)))
      clear hw21
      go_wp2_with fail
      go_ret
      exact ⟨rfl, HB21.out⟩
    · skip
      go_wp2_with fail
      refine (HM2.out w8).mono ?_
      rintro e w9 ⟨g9, cc9, rfl, ho9, hw9⟩
      have hr9 := (hw9.block b12 (lt_of_row' HR8.out)).trans HR8.out
      have HB9 := Lib.hid (HB8.out.trans (hw9.mono HB8.out.size))
      obtain ⟨w10, hw10⟩ : ∃ q, w9.setRow b12 #[.int .i64 256, .int .i64 60] = q := ⟨_, rfl⟩
      have HR10 := Lib.hid (show w10.heap[b12]? = some (.cells #[.int .i64 256, .int .i64 60] 26 (0, 0)) from by rw [← hw10]; exact setRow_heap _ _ _ _ _ _ hr9)
      have HB10 := Lib.hid (show Below w.heap.size w w10 from by rw [← hw10]; exact below_setRow HB9.out HBL.out _)
      have HO10 := Lib.hid (show OwnD w10 w8.heap.size g9 cc9 imgA2 from by
        rw [← hw10]
        exact ho9.of_block (by rw [size_setRow]; exact Nat.le_refl _) (setRow_other _ _ _ _ (by have := ho9.le; have := lt_of_row' HR8.out; omega)))
      have HE10 := Lib.hid hw10
      have HR9 := Lib.hid hr9
      clear hw10 hr9 hw9 ho9
      go_upto_region 19 with (first | (refine wpList_store_row rfl 26 _ _ rfl b12 #[.int .i64 256, .int .i64 60] rfl rfl 26 #[.int .i64 256, .int .i64 60] HR9.out dirInfo rfl (by simp [Value.oneCell']) ?_; refine (congrArg _ HE10.out).mpr ?_) | fail)
      have HPZ := Lib.hid (fun W (hW : Below w10.heap.size w10 W) => parseE_any (some ⟨g9, 0, none⟩) cc9 imgA2 256 60 W (HO10.out.below hW).lb (HO10.out.below hW).len (HO10.out.below hW).most (by rw [lenI2]; omega) (HO10.out.below hW).slB (by omega) (by omega) (by omega) (by omega))
      rw [bad2] at HPZ
      have q0 : w10.cell? ⟨b12, 0, none⟩ = some (.int .i64 256) := by rw [cell_of_row _ _ _ _ _ _ HR10.out]; rfl
      have q1 : w10.cell? ⟨b12, 1, none⟩ = some (.int .i64 60) := by rw [cell_of_row _ _ _ _ _ _ HR10.out]; rfl
      go_wp2_with fail
      refine (HPZ.out _ (Below.refl _ _)).mono ?_
      rintro e w20 ⟨hq, hw20⟩
      have hq' : e = .returned (.tuple #[.agg #[.int .i64 0, .slice none 0 0, .slice none 0 0], .int .i64 11]) := hq
      subst hq'
      have HB20 := Lib.hid (HB10.out.trans (hw20.mono HB10.out.size))
      clear hq hw20 HPZ q0 q1
      go_wp2_with fail
      refine (HAW.out _).mono ?_
      rintro e w21 ⟨rfl, hw21⟩
      have HB21 := Lib.hid ((HB20.out.alloc HB20.out.size (.cells #[.int .i64 0, .slice none 0 0, .slice none 0 0] 32)).trans (hw21.mono (by have := HB20.out.size; simp; omega)))
      clear hw21
      go_wp2_with fail
      go_ret
      exact ⟨rfl, HB21.out⟩
    · have hst : (convert 24 9 (.slice (some ⟨g6, 0, none⟩) imgA0.length cc6)).run Try.prog w8 = .ok (.string (txt imgA0)) w8 := run_str (cap := cc6) HO8.out.row
      have HP3 := Lib.hid (fun W => put_list imgA0 312 2 2 W HO8.out.lb (by rw [lenI0]; omega) (by omega) (by omega) (by rw [lenI0]; omega) (by omega))
      have HCV3 := Lib.hid (fun W => conv_text W imgA3 (putL_lb HO8.out.lb 312 2 2) (by rw [lenI3]; omega))
      have e3 : putL imgA0 312 2 2 = imgA3 := rfl
      rw [e3] at HP3
      generalize txt imgA0 = T0 at *
      clear e3
      go_wp2_with fail
      refine (HP3.out w8).mono ?_
      rintro e w9 ⟨rfl, hw9⟩
      obtain ⟨C9, w10, hcv, ho9, hw10⟩ := HCV3.out w9
      have HB9 := Lib.hid (HB8.out.trans (hw9.mono HB8.out.size))
      have HR10 := Lib.hid ((hw10.block b12 (by have := lt_of_row' HR8.out; have := hw9.size; omega)).trans ((hw9.block b12 (lt_of_row' HR8.out)).trans HR8.out))
      have HB10 := Lib.hid (HB9.out.trans (hw10.mono HB9.out.size))
      have HO10 := Lib.hid ho9
      clear hw9 hw10 ho9 hst HP3 HCV3
      go_upto_region 19 with (fail)
      clear hcv
      have HPZ := Lib.hid (fun W (hW : Below w10.heap.size w10 W) => parseE_any (some ⟨w9.heap.size, 0, none⟩) C9 imgA3 256 60 W (HO10.out.below hW).lb (HO10.out.below hW).len (HO10.out.below hW).most (by rw [lenI3]; omega) (HO10.out.below hW).slB (by omega) (by omega) (by omega) (by omega))
      rw [bad3] at HPZ
      have q0 : w10.cell? ⟨b12, 0, none⟩ = some (.int .i64 256) := by rw [cell_of_row _ _ _ _ _ _ HR10.out]; rfl
      have q1 : w10.cell? ⟨b12, 1, none⟩ = some (.int .i64 60) := by rw [cell_of_row _ _ _ _ _ _ HR10.out]; rfl
      go_wp2_with fail
      refine (HPZ.out _ (Below.refl _ _)).mono ?_
      rintro e w20 ⟨hq, hw20⟩
      have hq' : e = .returned (.tuple #[.agg #[.int .i64 0, .slice none 0 0, .slice none 0 0], .int .i64 11]) := hq
      subst hq'
      have HB20 := Lib.hid (HB10.out.trans (hw20.mono HB10.out.size))
      clear hq hw20 HPZ q0 q1
      go_wp2_with fail
      refine (HAW.out _).mono ?_
      rintro e w21 ⟨rfl, hw21⟩
      have HB21 := Lib.hid ((HB20.out.alloc HB20.out.size (.cells #[.int .i64 0, .slice none 0 0, .slice none 0 0] 32)).trans (hw21.mono (by have := HB20.out.size; simp; omega)))
      clear hw21
      go_wp2_with fail
      go_ret
      exact ⟨rfl, HB21.out⟩
    · skip
      go_wp2_with fail
      refine (HM4.out w8).mono ?_
      rintro e w9 ⟨g9, cc9, rfl, ho9, hw9⟩
      have hr9 := (hw9.block b12 (lt_of_row' HR8.out)).trans HR8.out
      have HB9 := Lib.hid (HB8.out.trans (hw9.mono HB8.out.size))
      obtain ⟨w10, hw10⟩ : ∃ q, w9.setRow b12 #[.int .i64 256, .int .i64 63] = q := ⟨_, rfl⟩
      have HR10 := Lib.hid (show w10.heap[b12]? = some (.cells #[.int .i64 256, .int .i64 63] 26 (0, 0)) from by rw [← hw10]; exact setRow_heap _ _ _ _ _ _ hr9)
      have HB10 := Lib.hid (show Below w.heap.size w w10 from by rw [← hw10]; exact below_setRow HB9.out HBL.out _)
      have HO10 := Lib.hid (show OwnD w10 w8.heap.size g9 cc9 imgA4 from by
        rw [← hw10]
        exact ho9.of_block (by rw [size_setRow]; exact Nat.le_refl _) (setRow_other _ _ _ _ (by have := ho9.le; have := lt_of_row' HR8.out; omega)))
      have HE10 := Lib.hid hw10
      have HR9 := Lib.hid hr9
      clear hw10 hr9 hw9 ho9
      go_upto_region 19 with (first | (refine wpList_store_row rfl 26 _ _ rfl b12 #[.int .i64 256, .int .i64 63] rfl rfl 26 #[.int .i64 256, .int .i64 60] HR9.out dirInfo rfl (by simp [Value.oneCell']) ?_; refine (congrArg _ HE10.out).mpr ?_) | fail)
      have HPZ := Lib.hid (fun W (hW : Below w10.heap.size w10 W) => parseE_any (some ⟨g9, 0, none⟩) cc9 imgA4 256 63 W (HO10.out.below hW).lb (HO10.out.below hW).len (HO10.out.below hW).most (by rw [lenI4]; omega) (HO10.out.below hW).slB (by omega) (by omega) (by omega) (by omega))
      rw [bad4] at HPZ
      have q0 : w10.cell? ⟨b12, 0, none⟩ = some (.int .i64 256) := by rw [cell_of_row _ _ _ _ _ _ HR10.out]; rfl
      have q1 : w10.cell? ⟨b12, 1, none⟩ = some (.int .i64 63) := by rw [cell_of_row _ _ _ _ _ _ HR10.out]; rfl
      go_wp2_with fail
      refine (HPZ.out _ (Below.refl _ _)).mono ?_
      rintro e w20 ⟨hq, hw20⟩
      have hq' : e = .returned (.tuple #[.agg #[.int .i64 0, .slice none 0 0, .slice none 0 0], .int .i64 11]) := hq
      subst hq'
      have HB20 := Lib.hid (HB10.out.trans (hw20.mono HB10.out.size))
      clear hq hw20 HPZ q0 q1
      go_wp2_with fail
      refine (HAW.out _).mono ?_
      rintro e w21 ⟨rfl, hw21⟩
      have HB21 := Lib.hid ((HB20.out.alloc HB20.out.size (.cells #[.int .i64 0, .slice none 0 0, .slice none 0 0] 32)).trans (hw21.mono (by have := HB20.out.size; simp; omega)))
      clear hw21
      go_wp2_with fail
      go_ret
      exact ⟨rfl, HB21.out⟩
end Go.Proofs.Ytbjabncefhgefaa
