/- As many rows may be as the bound says. -/
import Derived.Test.YtbghgjhenahcgaaBndS
import Derived.Test.YtbghgjhenahcgaaMask
namespace Go.Proofs.Ytbghgjhenahcgaa
open Go.ChangeShapes Go.WideShapes Go.ChangeAt Go.RowKit
set_option linter.unusedVariables false

theorem dB_size : ∀ i < 36, (dB i).size ≤ 2 := by decide +kernel
theorem SlT.take6 {w : World} {A : Option Addr} {n : Nat} (h : SlT bC 2 w A (rowsN n)) (hn : 6 ≤ n) : SlT bC 2 w A (rowsN 6) := by
  rcases h with h | ⟨b, off, rfl, hlt, hc⟩
  · have := congrArg List.length h
    rw [rowsN_len] at this
    simp at this; omega
  · refine .inr ⟨b, off, rfl, hlt, fun i hi j v hv => ?_⟩
    rw [rowsN_len] at hi
    refine hc i (by rw [rowsN_len]; omega) j v ?_
    rw [← hv]
    simp [rowsN]
theorem six_nums {w : World} {b k r : Nat} (hk : k < 6) (h : Own w b 6 (fun j => if j = k then .int .i64 (r : Int) else .int .i64 0)) : Nums w (some ⟨b, 0, none⟩) (six k r) := by
  refine .inr ⟨b, 0, rfl, h.1, fun i hi => ?_⟩
  have hi6 : i < 6 := by simpa [six] using hi
  rw [Nat.zero_add, h.cell hi6]
  unfold six
  by_cases e : i = k
  · subst e
    rw [if_pos rfl]
    simp [List.getD, hi6]
  · rw [if_neg e]
    have h0 : ((List.replicate 6 0).set k r).getD i 0 = 0 := by
      rw [List.getD, List.getElem?_set_ne (Ne.symm e), List.getElem?_replicate]
      split <;> rfl
    rw [h0]
    rfl
theorem six_le {k r : Nat} (hr : r < 4) : ∀ v ∈ six k r, v ≤ 3 := by
  intro v hv
  unfold six at hv
  rcases List.mem_or_eq_of_mem_set hv with h | h
  · rw [List.eq_of_mem_replicate h]; omega
  · omega

set_option maxRecDepth 100000 in
set_option maxHeartbeats 400000 in
theorem bounds_any (n which more : Int) (w : World) :
    Calls Try.prog 3 #[.int .i64 n, .int .i64 which, .int .i64 more] w fun e w' => e = .returned (.bool true) ∧ Below w.heap.size w w' := by
  have HAW := Lib.hid awake9_any
  obtain ⟨d, hd, m0⟩ : ∃ d : Nat, d < 8 ∧ bits .and .i64 n 7 = (d : Int) := ⟨(n % 8).toNat, by omega, by rw [and_7]; omega⟩
  obtain ⟨P, hP, m1⟩ : ∃ P : Nat, P < 256 ∧ bits .and .i64 which 255 = (P : Int) := ⟨(which % 256).toNat, by omega, by rw [and_ff]; omega⟩
  obtain ⟨r, hr, m2⟩ : ∃ r : Nat, r < 4 ∧ bits .and .i64 more 3 = (r : Int) := ⟨(more % 4).toNat, by omega, by rw [show (3 : Int) = ((2 ^ 2 - 1 : Nat) : Int) from rfl, i64_mask more 2 (by omega)]; omega⟩
  have hpp : Int.tmod (P : Int) 6 = ((P % 6 : Nat) : Int) := rfl
  obtain ⟨k, hk⟩ : ∃ k, P % 6 = k := ⟨_, rfl⟩
  have hk6 : k < 6 := by omega
  rw [hk] at hpp
  obtain ⟨N, hN⟩ : ∃ N, d + 28 = N := ⟨_, rfl⟩
  have hN1 : (d : Int) + 28 = (N : Int) := by omega
  have hN36 : N ≤ 35 := by omega
  have HMANY := Lib.hid (show parseL (imgN N []) 16 33 16 0 [] = if N ≤ 32 then some (rowsN N) else none from by
    rw [← hN, many_of d hd]
    by_cases h : d ≤ 4
    · rw [if_pos h, if_pos (by omega)]
    · rw [if_neg h, if_neg (by omega)])
  have HN28 := Lib.hid (show 28 ≤ N by omega)
  have HSIX := Lib.hid (six_of k r hk6 hr)
  clear hP hk hd hN
  go_enter Try.func3, Try.ntmps3
  go_wp2_with fail
  go_loopw [7, 8] (fun v7 v8 wr => ∃ (i : Nat) (A' : Option Addr) (cap' : Nat), i ≤ N ∧ v8 = .int .i64 i ∧ v7 = .slice A' (rowsN i).length cap' ∧ OwnT bC 2 wr w.heap.size 25 (.slice A' (rowsN i).length cap') (rowsN i) ∧ Below w.heap.size w wr) (fun _ v8 _ => N - (intOf v8).toNat)
  case atStart => exact ⟨0, none, 0, Nat.zero_le _, rfl, rfl, OwnT.nil _ _ _, Below.refl _ _⟩
  case round =>
    obtain ⟨i, A', cap', hi, rfl, rfl, hown, hbel⟩ := hrel
    have HO := Lib.hid hown
    have HBW := Lib.hid hbel
    clear hown hbel
    by_cases hlt : i < N
    · have hdg := Lib.hid (fun W => digits_any i W (by omega))
      have hds := dB_size i (by omega)
      have hdt := dig_txt i (by omega)
      have hadd := fun (W : World) => run_string_add_sum (P := Try.prog) W ⟨#[109]⟩ (dB i) (by have : (⟨#[109]⟩ : ByteArray).size = 1 := rfl; omega)
      rw [hdt] at hadd
      clear hds hdt
      have HY := Lib.hid (show ∀ W : World, ∀ j u, (bC (rowN i))[j]? = some u → (W.alloc (.cells #[.string (txt (109 :: digN i)), .int .i64 ((i : Int) + 1)] 25)).cell? ⟨W.heap.size, j, none⟩ = some u from fun W => by
        have h := boundCells (109 :: digN i) (i + 1) W
        rwa [show ((i + 1 : Nat) : Int) = (i : Int) + 1 by omega] at h)
      have hln : (rowsN i).length = i := rowsN_len i
      rw [hln] at HO ⊢
      have HSU := Lib.hid (rowsN_succ i)
      have HLN := Lib.hid hln
      clear hln
      generalize txt (109 :: digN i) = T at *
      generalize dB i = D at *
      go_wp2_with fail
      refine (hdg.out _).mono ?_
      rintro e w' ⟨rfl, rfl⟩
      clear hdg
      have HA1 := Lib.hid (HO.out.alloc (.cells #[.string T, .int .i64 ((i : Int) + 1)] 25))
      have HY1 := Lib.hid (HY.out wr)
      have H3 := Lib.hid (show w.heap.size ≤ (wr.alloc (.cells #[.string T, .int .i64 ((i : Int) + 1)] 25)).heap.size from by simp; have := HBW.out.size; omega)
      have H4 := Lib.hid (show (rowsN i).length + 1 ≤ maxLen from by rw [HLN.out]; unfold maxLen; omega)
      have H5 := Lib.hid (show ((rowsN i).length + 1) * 24 ≤ 140737488355328 from by rw [HLN.out]; omega)
      clear HY
      go_wp2_with (first
        | (at_builtin; refine wpList_appT rfl (.tmp 24) (.tmp 31) 22 rfl w.heap.size 25 _ 24 rfl infoBound rfl (by omega) bC_len bC_one _ (rowsN i) rfl HA1.out wr.heap.size 1 rfl (rowN i) HY1.out H4.out H5.out H3.out ?_; intro g5 cap5 w5 hown5 hg5 hat5)
        | fail)
      have hb5 := (HO.out.alloc (.cells #[.string T, .int .i64 ((i : Int) + 1)] 25)).grew (HBW.out.alloc HBW.out.size _) (Nat.le_refl _) (by simp; have := HBW.out.size; omega) hg5
      have HB5 := Lib.hid hb5
      have HO5 := Lib.hid hown5
      clear hown5 hg5 hat5 hb5
      go_roundw
      case rel => exact ⟨i + 1, some ⟨g5, 0, none⟩, cap5, by omega, by go_num, by rw [rowsN_len (i + 1), rowsN_len i], by rw [HSU.out, List.length_append]; exact HO5.out, HB5.out⟩
      case measure => simp [intOf]; omega
    · have hiN : i = N := by omega
      subst hiN
      have hsl := HO.out.sl bC_len
      have HSL := Lib.hid (fun W (hW : Below wr.heap.size wr W) => hsl.below hW)
      obtain ⟨A'', cap'', hv, hcl, hcm, _⟩ := HO.out.form
      injection hv with hv1 hv2 hv3
      subst hv1 hv3
      rw [rowsN_len] at hcl
      have hln : (rowsN i).length = i := rowsN_len i
      have HMD := Lib.hid (fun W (hW : Below wr.heap.size wr W) => made_any (rowsN i) A' cap' [] none 0 W (HSL.out W hW) (by rw [rowsN_len]; omega) (rowsN_ok (by omega)) (.inl rfl) (by simp) (by simp) (imgN i []) (by unfold imgN; rw [rowsN_len]))
      have HSB := Lib.hid (fun W (hW : Below wr.heap.size wr W) A2 cap2 (h2 : SlT bC 2 W A2 (rowsN i)) => sameB_yes (rowsN i) A2 A' cap2 cap' W h2 (HSL.out W hW) (by rw [rowsN_len]; omega))
      have HSL6 := Lib.hid (fun W (hW : Below wr.heap.size wr W) => (HSL.out W hW).take6 (by have := HN28.out; omega))
      rw [hln] at HMD HSB ⊢
      have HC6 := Lib.hid (show 6 ≤ cap' from by have := HN28.out; omega)
      clear hsl hcl hcm hln hv2 HO
      go_wp2_with fail
      refine (HMD.out wr (Below.refl _ _)).mono ?_
      rintro e w1 ⟨g, c, rfl, ho, hw1⟩
      have HW1 := Lib.hid hw1
      have HOD := Lib.hid ho
      clear hw1 ho HMD
      by_cases h32 : i ≤ 32
      · have hp := HMANY.out
        rw [if_pos h32] at hp
        have HP := Lib.hid (parse_ok hp w1 _ g c HOD.out (by omega) (by omega))
        have d32 : decide ((i : Int) ≤ 32) = true := decide_eq_true (by omega)
        clear hp h32
        go_wp2_with fail
        refine HP.out.mono ?_
        rintro e w2 ⟨A2, cap2, rfl, ho2, hw2⟩
        have HW2 := Lib.hid (HW1.out.trans (hw2.mono HW1.out.size))
        have hs2 := ho2.sl bC_len
        rw [rowsN_len] at ho2 ⊢
        have HS2 := Lib.hid (HSB.out w2 HW2.out A2 cap2 hs2)
        clear hw2 ho2 hs2 HP
        go_wp2_with fail
        refine HS2.out.mono ?_
        rintro e w3 ⟨rfl, hw3⟩
        have HW3 := Lib.hid (HW2.out.trans (hw3.mono HW2.out.size))
        clear hw3
        have hc6 : (6 : Int) ≤ (cap' : Int) := by have := HC6.out; omega
        have hc6n : 6 ≤ cap' := HC6.out
        go_wp2_with (at_make; refine wpList_make_bytes _ rfl (.const (.int .i64 6)) (.const (.int .i64 6)) 34 rfl 3 (.int .i64 0) 8 (by kernel_rfl) (by kernel_rfl) rfl .i64 .i64 6 (by simp [Act.eval, Act.put]) (by simp [Act.eval, Act.put]) (by omega) (by omega) ?_; intro w4 hw4 ho4; have hc0 := ho4.cell hk6; have hf0 := ho4.frozen hk6; have hlt4 := ho4.1; have HO4 := Lib.hid ho4; have HW4 := Lib.hid hw4; clear ho4 hw4)
        have ho5 := HO4.out.set hk6 (.int .i64 (r : Int))
        have hw5 := HW4.out.setCell (p := ⟨w3.heap.size, k, none⟩) (Nat.le_refl _) (.int .i64 (r : Int))
        have hwr5 := HW3.out.trans (hw5.mono HW3.out.size)
        have HO5 := Lib.hid ho5
        have HW5 := Lib.hid hwr5
        clear hc0 hf0 hlt4 HO4 HW4 ho5 hw5 hwr5 hc6 hc6n
        generalize w4.setCell ⟨w3.heap.size, k, none⟩ (.int .i64 (r : Int)) = w5 at *
        generalize w3.heap.size = b12 at *
        have hln6 : (rowsN 6).length = 6 := rowsN_len 6
        have hms6 : (six k r).length = 6 := by simp [six]
        have hmd2 := made_any (rowsN 6) A' cap' (six k r) (some ⟨b12, 0, none⟩) 6 w5 (HSL6.out w5 HW5.out) (by omega) (rowsN_ok (by omega)) (six_nums hk6 HO5.out) (six_le hr) (by omega) (imgN 6 (six k r)) (by unfold imgN; rw [hln6])
        rw [hln6, hms6] at hmd2
        have HSB2 := Lib.hid (fun W (hW : Below wr.heap.size wr W) A2 cap2 (h2 : SlT bC 2 W A2 (rowsN 6)) => sameB_yes (rowsN 6) A2 A' cap2 cap' W h2 (HSL6.out W hW) (by omega))
        rw [hln6] at HSB2
        clear hln6 hms6
        refine hmd2.mono ?_
        rintro e w6 ⟨g2, c2, rfl, ho6, hw6⟩
        replace HO5 := Lib.hid (HO5.out.below hw6 HO5.out.1)
        have HW6 := Lib.hid (HW5.out.trans (hw6.mono HW5.out.size))
        have HOD6 := Lib.hid ho6
        clear hw6 ho6 hmd2
        by_cases hg : k + r < 6
        · have hp := HSIX.out
          rw [if_pos hg] at hp
          have HP := Lib.hid (parse_ok hp w6 _ g2 c2 HOD6.out (by omega) (by omega))
          have dg : decide ((k : Int) + (r : Int) < 6) = true := decide_eq_true (by omega)
          clear hp hg
          go_wp2_with fail
          refine HP.out.mono ?_
          rintro e w7 ⟨A3, cap3, rfl, ho7, hw7⟩
          have HW7 := Lib.hid (HW6.out.trans (hw7.mono HW6.out.size))
          have hck := (HO5.out.below hw7 HO5.out.1).cell hk6
          simp only [if_true] at hck
          have hs7 := ho7.sl bC_len
          rw [rowsN_len] at ho7 ⊢
          have HS7 := Lib.hid (HSB2.out w7 HW7.out A3 cap3 hs7)
          clear hw7 ho7 hs7 HP
          go_wp2_with fail
          refine HS7.out.mono ?_
          rintro e w8 ⟨rfl, hw8⟩
          have HW8 := Lib.hid (HW7.out.trans (hw8.mono HW7.out.size))
          clear hw8
          go_wp2_with fail
          refine (HAW.out _).mono ?_
          rintro e w9 ⟨rfl, hw9⟩
          have HW9 := Lib.hid (HBW.out.trans ((HW8.out.trans (hw9.mono HW8.out.size)).mono HBW.out.size))
          clear hw9
          go_wp2_with fail
          go_ret
          exact ⟨rfl, HW9.out⟩
        · have hp := HSIX.out
          rw [if_neg hg] at hp
          have HP := Lib.hid (parse_bad hp w6 _ g2 c2 HOD6.out (by omega) (by omega))
          have dg : decide ((k : Int) + (r : Int) < 6) = false := decide_eq_false (by omega)
          clear hp hg
          go_wp2_with fail
          refine HP.out.mono ?_
          rintro e w7 ⟨rfl, hw7⟩
          have HW7 := Lib.hid (HW6.out.trans (hw7.mono HW6.out.size))
          have hck := (HO5.out.below hw7 HO5.out.1).cell hk6
          simp only [if_true] at hck
          clear hw7 HP
          go_wp2_with fail
          refine (HAW.out _).mono ?_
          rintro e w9 ⟨rfl, hw9⟩
          have HW9 := Lib.hid (HBW.out.trans ((HW7.out.trans (hw9.mono HW7.out.size)).mono HBW.out.size))
          clear hw9
          go_wp2_with fail
          go_ret
          exact ⟨rfl, HW9.out⟩
      · have hp := HMANY.out
        rw [if_neg h32] at hp
        have HP := Lib.hid (parse_bad hp w1 _ g c HOD.out (by omega) (by omega))
        have d32 : decide ((i : Int) ≤ 32) = false := decide_eq_false (by omega)
        clear hp h32
        go_wp2_with fail
        refine HP.out.mono ?_
        rintro e w3 ⟨rfl, hw3⟩
        have HW3 := Lib.hid (HW1.out.trans (hw3.mono HW1.out.size))
        clear hw3 HP
        have hc6 : (6 : Int) ≤ (cap' : Int) := by have := HC6.out; omega
        have hc6n : 6 ≤ cap' := HC6.out
        go_wp2_with (at_make; refine wpList_make_bytes _ rfl (.const (.int .i64 6)) (.const (.int .i64 6)) 34 rfl 3 (.int .i64 0) 8 (by kernel_rfl) (by kernel_rfl) rfl .i64 .i64 6 (by simp [Act.eval, Act.put]) (by simp [Act.eval, Act.put]) (by omega) (by omega) ?_; intro w4 hw4 ho4; have hc0 := ho4.cell hk6; have hf0 := ho4.frozen hk6; have hlt4 := ho4.1; have HO4 := Lib.hid ho4; have HW4 := Lib.hid hw4; clear ho4 hw4)
        have ho5 := HO4.out.set hk6 (.int .i64 (r : Int))
        have hw5 := HW4.out.setCell (p := ⟨w3.heap.size, k, none⟩) (Nat.le_refl _) (.int .i64 (r : Int))
        have hwr5 := HW3.out.trans (hw5.mono HW3.out.size)
        have HO5 := Lib.hid ho5
        have HW5 := Lib.hid hwr5
        clear hc0 hf0 hlt4 HO4 HW4 ho5 hw5 hwr5 hc6 hc6n
        generalize w4.setCell ⟨w3.heap.size, k, none⟩ (.int .i64 (r : Int)) = w5 at *
        generalize w3.heap.size = b12 at *
        have hln6 : (rowsN 6).length = 6 := rowsN_len 6
        have hms6 : (six k r).length = 6 := by simp [six]
        have hmd2 := made_any (rowsN 6) A' cap' (six k r) (some ⟨b12, 0, none⟩) 6 w5 (HSL6.out w5 HW5.out) (by omega) (rowsN_ok (by omega)) (six_nums hk6 HO5.out) (six_le hr) (by omega) (imgN 6 (six k r)) (by unfold imgN; rw [hln6])
        rw [hln6, hms6] at hmd2
        have HSB2 := Lib.hid (fun W (hW : Below wr.heap.size wr W) A2 cap2 (h2 : SlT bC 2 W A2 (rowsN 6)) => sameB_yes (rowsN 6) A2 A' cap2 cap' W h2 (HSL6.out W hW) (by omega))
        rw [hln6] at HSB2
        clear hln6 hms6
        refine hmd2.mono ?_
        rintro e w6 ⟨g2, c2, rfl, ho6, hw6⟩
        replace HO5 := Lib.hid (HO5.out.below hw6 HO5.out.1)
        have HW6 := Lib.hid (HW5.out.trans (hw6.mono HW5.out.size))
        have HOD6 := Lib.hid ho6
        clear hw6 ho6 hmd2
        by_cases hg : k + r < 6
        · have hp := HSIX.out
          rw [if_pos hg] at hp
          have HP := Lib.hid (parse_ok hp w6 _ g2 c2 HOD6.out (by omega) (by omega))
          have dg : decide ((k : Int) + (r : Int) < 6) = true := decide_eq_true (by omega)
          clear hp hg
          go_wp2_with fail
          refine HP.out.mono ?_
          rintro e w7 ⟨A3, cap3, rfl, ho7, hw7⟩
          have HW7 := Lib.hid (HW6.out.trans (hw7.mono HW6.out.size))
          have hck := (HO5.out.below hw7 HO5.out.1).cell hk6
          simp only [if_true] at hck
          have hs7 := ho7.sl bC_len
          rw [rowsN_len] at ho7 ⊢
          have HS7 := Lib.hid (HSB2.out w7 HW7.out A3 cap3 hs7)
          clear hw7 ho7 hs7 HP
          go_wp2_with fail
          refine HS7.out.mono ?_
          rintro e w8 ⟨rfl, hw8⟩
          have HW8 := Lib.hid (HW7.out.trans (hw8.mono HW7.out.size))
          clear hw8
          go_wp2_with fail
          refine (HAW.out _).mono ?_
          rintro e w9 ⟨rfl, hw9⟩
          have HW9 := Lib.hid (HBW.out.trans ((HW8.out.trans (hw9.mono HW8.out.size)).mono HBW.out.size))
          clear hw9
          go_wp2_with fail
          go_ret
          exact ⟨rfl, HW9.out⟩
        · have hp := HSIX.out
          rw [if_neg hg] at hp
          have HP := Lib.hid (parse_bad hp w6 _ g2 c2 HOD6.out (by omega) (by omega))
          have dg : decide ((k : Int) + (r : Int) < 6) = false := decide_eq_false (by omega)
          clear hp hg
          go_wp2_with fail
          refine HP.out.mono ?_
          rintro e w7 ⟨rfl, hw7⟩
          have HW7 := Lib.hid (HW6.out.trans (hw7.mono HW6.out.size))
          have hck := (HO5.out.below hw7 HO5.out.1).cell hk6
          simp only [if_true] at hck
          clear hw7 HP
          go_wp2_with fail
          refine (HAW.out _).mono ?_
          rintro e w9 ⟨rfl, hw9⟩
          have HW9 := Lib.hid (HBW.out.trans ((HW7.out.trans (hw9.mono HW7.out.size)).mono HBW.out.size))
          clear hw9
          go_wp2_with fail
          go_ret
          exact ⟨rfl, HW9.out⟩
end Go.Proofs.Ytbghgjhenahcgaa
