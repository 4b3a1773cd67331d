/- Each instruction has just as many bytes as its row says. -/
import Derived.Test.YtimjpdheaecajaaTame
import Derived.Test.YtimjpdheaecajaaAwake15
namespace Go.Proofs.Ytimjpdheaecajaa
open Go.ChangeShapes Go.WideShapes Go.ChangeAt Go.RowKit
set_option linter.unusedVariables false

theorem Tells.op_bd {F : Form} {x : InsV} (h : Tells F x) : 1 ≤ x.op ∧ x.op < 24 := by
  have h1 : ∀ F ∈ forms, 1 ≤ F.op ∧ F.op < 24 := by decide +kernel
  obtain ⟨o1, o2⟩ := h1 F h.mem
  rw [h.op] at o1 o2
  exact ⟨o1, o2⟩

theorem encode_len (x : InsV) (F : Form) (w : World) (hT : Tells F x) (hx : x.Ok) :
    Calls Try.prog 7 #[insV x] w fun e w' => ∃ A c, e = .returned (.tuple #[.slice A (longM x) c, .bool true]) ∧ Below w.heap.size w w' := by
  refine (encode_any x F w hx hT.find (forms_ok F hT.mem)).mono ?_
  rintro e w' ⟨A, c, rfl, ho, hw⟩
  exact ⟨A, c, by rw [hT.long], hw⟩

set_option maxRecDepth 100000 in
set_option maxHeartbeats 4000000 in
theorem long_any (o a b l c d : Int) (I : Nat) (hI : I < 18446744073709551616) (w : World) :
    Calls Try.prog 3 #[.agg #[.int .i64 o, .int .i64 a, .int .i64 b, .int .i64 l, .int .i64 c, .int .u64 I, .int .i64 d]] w fun e w' => e = .returned (.bool true) ∧ Below w.heap.size w w' := by
  go_enter Try.func3, Try.ntmps3
  go_wp2_with fail
  refine (tame_any o a b l c d I hI _).mono ?_
  rintro e w1 ⟨⟨F, y, hT, hOk, rfl⟩, hw1⟩
  have HB := Lib.hid (((Below.refl w.heap.size w).alloc (Nat.le_refl _) _).trans (hw1.mono (by simp)))
  have HT := Lib.hid hT
  have HO := Lib.hid hOk
  obtain ⟨o1, o2⟩ := hT.op_bd
  obtain ⟨yo, ya, yb, yl, yc, yi, yd⟩ := y
  simp only at o1 o2
  clear hT hOk hw1
  unfold insV
  go_upto_region 2 with (fail)
  have HI1 := Lib.hid (show Own (w1.alloc (.cells #[.int .i64 yo, .int .i64 ya, .int .i64 yb, .int .i64 yl, .int .i64 yc, .int .u64 yi, .int .i64 yd] 24)) w1.heap.size 7 (insF ⟨yo, ya, yb, yl, yc, yi, yd⟩) from ins_alloc w1 ⟨yo, ya, yb, yl, yc, yi, yd⟩ 24)
  replace HB := Lib.hid (HB.out.alloc HB.out.size (.cells #[.int .i64 yo, .int .i64 ya, .int .i64 yb, .int .i64 yl, .int .i64 yc, .int .u64 yi, .int .i64 yd] 24))
  generalize w1.alloc (.cells #[.int .i64 yo, .int .i64 ya, .int .i64 yb, .int .i64 yl, .int .i64 yc, .int .u64 yi, .int .i64 yd] 24) = w2 at *
  generalize w1.heap.size = b1 at *
  obtain ⟨k0, k1, k2, k3, k4, k5, k6⟩ := res_cells HI1.out
  simp only at k0 k1 k2 k3 k4 k5 k6
  go_wp2_with fail
  refine (encode_len ⟨yo, ya, yb, yl, yc, yi, yd⟩ F _ HT.out HO.out).mono ?_
  rintro e w3 ⟨A, cp, rfl, hw3⟩
  replace HI1 := Lib.hid (HI1.out.below hw3 HI1.out.1)
  replace HB := Lib.hid (HB.out.trans (hw3.mono HB.out.size))
  clear k0 k1 k2 k3 k4 k5 k6 hw3
  obtain ⟨k0, k1, k2, k3, k4, k5, k6⟩ := res_cells HI1.out
  simp only at k0 k1 k2 k3 k4 k5 k6
  have hb1 : b1 < w3.heap.size := HI1.out.1
  clear HT HO
  have HAW := Lib.hid awake15_any
  rcases (by omega : yo = 1 ∨ yo = 2 ∨ yo = 3 ∨ yo = 4 ∨ yo = 5 ∨ yo = 6 ∨ yo = 7 ∨ yo = 8 ∨ yo = 9 ∨ yo = 10 ∨ yo = 11 ∨ yo = 12 ∨ yo = 13 ∨ yo = 14 ∨ yo = 15 ∨ yo = 16 ∨ yo = 17 ∨ yo = 18 ∨ yo = 19 ∨ yo = 20 ∨ yo = 21 ∨ yo = 22 ∨ yo = 23) with rfl | rfl | rfl | rfl | rfl | rfl | rfl | rfl | rfl | rfl | rfl | rfl | rfl | rfl | rfl | rfl | rfl | rfl | rfl | rfl | rfl | rfl | rfl
  · have hL : longM ⟨1, ya, yb, yl, yc, yi, yd⟩ = 1 := by unfold longM; rw [if_neg (fun h => absurd h.1 (by simp))]; rfl
    rw [hL]
    clear hL
    go_upto_region 3 with (fail)
    go_wp2_with (first | refine (HAW.out _).mono ?_ | fail)
    rintro e w9 ⟨rfl, hw9⟩
    have HB9 := Lib.hid ((HB.out.alloc HB.out.size _).trans (hw9.mono (HB.out.alloc HB.out.size _).size))
    clear hw9
    go_wp2
    go_ret
    exact ⟨rfl, HB9.out⟩
  · have hL : longM ⟨2, ya, yb, yl, yc, yi, yd⟩ = 1 := by unfold longM; rw [if_neg (fun h => absurd h.1 (by simp))]; rfl
    rw [hL]
    clear hL
    go_upto_region 3 with (fail)
    go_wp2_with (first | refine (HAW.out _).mono ?_ | fail)
    rintro e w9 ⟨rfl, hw9⟩
    have HB9 := Lib.hid ((HB.out.alloc HB.out.size _).trans (hw9.mono (HB.out.alloc HB.out.size _).size))
    clear hw9
    go_wp2
    go_ret
    exact ⟨rfl, HB9.out⟩
  · by_cases hq : 7 < ya
    · have hL : longM ⟨3, ya, yb, yl, yc, yi, yd⟩ = 2 := by unfold longM; rw [if_pos ⟨by simp, hq⟩]; rfl
      rw [hL]
      have dq : decide ((ya : Int) > 7) = true := decide_eq_true (by omega)
      clear hL hq
      go_upto_region 3 with (fail)
      go_wp2_with (first | refine (HAW.out _).mono ?_ | fail)
      rintro e w9 ⟨rfl, hw9⟩
      have HB9 := Lib.hid ((HB.out.alloc HB.out.size _).trans (hw9.mono (HB.out.alloc HB.out.size _).size))
      clear hw9
      go_wp2
      go_ret
      exact ⟨rfl, HB9.out⟩
    · have hL : longM ⟨3, ya, yb, yl, yc, yi, yd⟩ = 1 := by unfold longM; rw [if_neg (fun h => hq h.2)]; rfl
      rw [hL]
      have dq : decide ((ya : Int) > 7) = false := decide_eq_false (by omega)
      clear hL hq
      go_upto_region 3 with (fail)
      go_wp2_with (first | refine (HAW.out _).mono ?_ | fail)
      rintro e w9 ⟨rfl, hw9⟩
      have HB9 := Lib.hid ((HB.out.alloc HB.out.size _).trans (hw9.mono (HB.out.alloc HB.out.size _).size))
      clear hw9
      go_wp2
      go_ret
      exact ⟨rfl, HB9.out⟩
  · by_cases hq : 7 < ya
    · have hL : longM ⟨4, ya, yb, yl, yc, yi, yd⟩ = 2 := by unfold longM; rw [if_pos ⟨by simp, hq⟩]; rfl
      rw [hL]
      have dq : decide ((ya : Int) > 7) = true := decide_eq_true (by omega)
      clear hL hq
      go_upto_region 3 with (fail)
      go_wp2_with (first | refine (HAW.out _).mono ?_ | fail)
      rintro e w9 ⟨rfl, hw9⟩
      have HB9 := Lib.hid ((HB.out.alloc HB.out.size _).trans (hw9.mono (HB.out.alloc HB.out.size _).size))
      clear hw9
      go_wp2
      go_ret
      exact ⟨rfl, HB9.out⟩
    · have hL : longM ⟨4, ya, yb, yl, yc, yi, yd⟩ = 1 := by unfold longM; rw [if_neg (fun h => hq h.2)]; rfl
      rw [hL]
      have dq : decide ((ya : Int) > 7) = false := decide_eq_false (by omega)
      clear hL hq
      go_upto_region 3 with (fail)
      go_wp2_with (first | refine (HAW.out _).mono ?_ | fail)
      rintro e w9 ⟨rfl, hw9⟩
      have HB9 := Lib.hid ((HB.out.alloc HB.out.size _).trans (hw9.mono (HB.out.alloc HB.out.size _).size))
      clear hw9
      go_wp2
      go_ret
      exact ⟨rfl, HB9.out⟩
  · have hL : longM ⟨5, ya, yb, yl, yc, yi, yd⟩ = 10 := by unfold longM; rw [if_neg (fun h => absurd h.1 (by simp))]; rfl
    rw [hL]
    clear hL
    go_upto_region 3 with (fail)
    go_wp2_with (first | refine (HAW.out _).mono ?_ | fail)
    rintro e w9 ⟨rfl, hw9⟩
    have HB9 := Lib.hid ((HB.out.alloc HB.out.size _).trans (hw9.mono (HB.out.alloc HB.out.size _).size))
    clear hw9
    go_wp2
    go_ret
    exact ⟨rfl, HB9.out⟩
  · by_cases hq : 7 < ya
    · have hL : longM ⟨6, ya, yb, yl, yc, yi, yd⟩ = 6 := by unfold longM; rw [if_pos ⟨by simp, hq⟩]; rfl
      rw [hL]
      have dq : decide ((ya : Int) > 7) = true := decide_eq_true (by omega)
      clear hL hq
      go_upto_region 3 with (fail)
      go_wp2_with (first | refine (HAW.out _).mono ?_ | fail)
      rintro e w9 ⟨rfl, hw9⟩
      have HB9 := Lib.hid ((HB.out.alloc HB.out.size _).trans (hw9.mono (HB.out.alloc HB.out.size _).size))
      clear hw9
      go_wp2
      go_ret
      exact ⟨rfl, HB9.out⟩
    · have hL : longM ⟨6, ya, yb, yl, yc, yi, yd⟩ = 5 := by unfold longM; rw [if_neg (fun h => hq h.2)]; rfl
      rw [hL]
      have dq : decide ((ya : Int) > 7) = false := decide_eq_false (by omega)
      clear hL hq
      go_upto_region 3 with (fail)
      go_wp2_with (first | refine (HAW.out _).mono ?_ | fail)
      rintro e w9 ⟨rfl, hw9⟩
      have HB9 := Lib.hid ((HB.out.alloc HB.out.size _).trans (hw9.mono (HB.out.alloc HB.out.size _).size))
      clear hw9
      go_wp2
      go_ret
      exact ⟨rfl, HB9.out⟩
  · have hL : longM ⟨7, ya, yb, yl, yc, yi, yd⟩ = 3 := by unfold longM; rw [if_neg (fun h => absurd h.1 (by simp))]; rfl
    rw [hL]
    clear hL
    go_upto_region 3 with (fail)
    go_wp2_with (first | refine (HAW.out _).mono ?_ | fail)
    rintro e w9 ⟨rfl, hw9⟩
    have HB9 := Lib.hid ((HB.out.alloc HB.out.size _).trans (hw9.mono (HB.out.alloc HB.out.size _).size))
    clear hw9
    go_wp2
    go_ret
    exact ⟨rfl, HB9.out⟩
  · have hL : longM ⟨8, ya, yb, yl, yc, yi, yd⟩ = 3 := by unfold longM; rw [if_neg (fun h => absurd h.1 (by simp))]; rfl
    rw [hL]
    clear hL
    go_upto_region 3 with (fail)
    go_wp2_with (first | refine (HAW.out _).mono ?_ | fail)
    rintro e w9 ⟨rfl, hw9⟩
    have HB9 := Lib.hid ((HB.out.alloc HB.out.size _).trans (hw9.mono (HB.out.alloc HB.out.size _).size))
    clear hw9
    go_wp2
    go_ret
    exact ⟨rfl, HB9.out⟩
  · have hL : longM ⟨9, ya, yb, yl, yc, yi, yd⟩ = 7 := by unfold longM; rw [if_neg (fun h => absurd h.1 (by simp))]; rfl
    rw [hL]
    clear hL
    go_upto_region 3 with (fail)
    go_wp2_with (first | refine (HAW.out _).mono ?_ | fail)
    rintro e w9 ⟨rfl, hw9⟩
    have HB9 := Lib.hid ((HB.out.alloc HB.out.size _).trans (hw9.mono (HB.out.alloc HB.out.size _).size))
    clear hw9
    go_wp2
    go_ret
    exact ⟨rfl, HB9.out⟩
  · have hL : longM ⟨10, ya, yb, yl, yc, yi, yd⟩ = 7 := by unfold longM; rw [if_neg (fun h => absurd h.1 (by simp))]; rfl
    rw [hL]
    clear hL
    go_upto_region 3 with (fail)
    go_wp2_with (first | refine (HAW.out _).mono ?_ | fail)
    rintro e w9 ⟨rfl, hw9⟩
    have HB9 := Lib.hid ((HB.out.alloc HB.out.size _).trans (hw9.mono (HB.out.alloc HB.out.size _).size))
    clear hw9
    go_wp2
    go_ret
    exact ⟨rfl, HB9.out⟩
  · have hL : longM ⟨11, ya, yb, yl, yc, yi, yd⟩ = 7 := by unfold longM; rw [if_neg (fun h => absurd h.1 (by simp))]; rfl
    rw [hL]
    clear hL
    go_upto_region 3 with (fail)
    go_wp2_with (first | refine (HAW.out _).mono ?_ | fail)
    rintro e w9 ⟨rfl, hw9⟩
    have HB9 := Lib.hid ((HB.out.alloc HB.out.size _).trans (hw9.mono (HB.out.alloc HB.out.size _).size))
    clear hw9
    go_wp2
    go_ret
    exact ⟨rfl, HB9.out⟩
  · have hL : longM ⟨12, ya, yb, yl, yc, yi, yd⟩ = 7 := by unfold longM; rw [if_neg (fun h => absurd h.1 (by simp))]; rfl
    rw [hL]
    clear hL
    go_upto_region 3 with (fail)
    go_wp2_with (first | refine (HAW.out _).mono ?_ | fail)
    rintro e w9 ⟨rfl, hw9⟩
    have HB9 := Lib.hid ((HB.out.alloc HB.out.size _).trans (hw9.mono (HB.out.alloc HB.out.size _).size))
    clear hw9
    go_wp2
    go_ret
    exact ⟨rfl, HB9.out⟩
  · have hL : longM ⟨13, ya, yb, yl, yc, yi, yd⟩ = 7 := by unfold longM; rw [if_neg (fun h => absurd h.1 (by simp))]; rfl
    rw [hL]
    clear hL
    go_upto_region 3 with (fail)
    go_wp2_with (first | refine (HAW.out _).mono ?_ | fail)
    rintro e w9 ⟨rfl, hw9⟩
    have HB9 := Lib.hid ((HB.out.alloc HB.out.size _).trans (hw9.mono (HB.out.alloc HB.out.size _).size))
    clear hw9
    go_wp2
    go_ret
    exact ⟨rfl, HB9.out⟩
  · have hL : longM ⟨14, ya, yb, yl, yc, yi, yd⟩ = 4 := by unfold longM; rw [if_neg (fun h => absurd h.1 (by simp))]; rfl
    rw [hL]
    clear hL
    go_upto_region 3 with (fail)
    go_wp2_with (first | refine (HAW.out _).mono ?_ | fail)
    rintro e w9 ⟨rfl, hw9⟩
    have HB9 := Lib.hid ((HB.out.alloc HB.out.size _).trans (hw9.mono (HB.out.alloc HB.out.size _).size))
    clear hw9
    go_wp2
    go_ret
    exact ⟨rfl, HB9.out⟩
  · have hL : longM ⟨15, ya, yb, yl, yc, yi, yd⟩ = 3 := by unfold longM; rw [if_neg (fun h => absurd h.1 (by simp))]; rfl
    rw [hL]
    clear hL
    go_upto_region 3 with (fail)
    go_wp2_with (first | refine (HAW.out _).mono ?_ | fail)
    rintro e w9 ⟨rfl, hw9⟩
    have HB9 := Lib.hid ((HB.out.alloc HB.out.size _).trans (hw9.mono (HB.out.alloc HB.out.size _).size))
    clear hw9
    go_wp2
    go_ret
    exact ⟨rfl, HB9.out⟩
  · have hL : longM ⟨16, ya, yb, yl, yc, yi, yd⟩ = 4 := by unfold longM; rw [if_neg (fun h => absurd h.1 (by simp))]; rfl
    rw [hL]
    clear hL
    go_upto_region 3 with (fail)
    go_wp2_with (first | refine (HAW.out _).mono ?_ | fail)
    rintro e w9 ⟨rfl, hw9⟩
    have HB9 := Lib.hid ((HB.out.alloc HB.out.size _).trans (hw9.mono (HB.out.alloc HB.out.size _).size))
    clear hw9
    go_wp2
    go_ret
    exact ⟨rfl, HB9.out⟩
  · have hL : longM ⟨17, ya, yb, yl, yc, yi, yd⟩ = 5 := by unfold longM; rw [if_neg (fun h => absurd h.1 (by simp))]; rfl
    rw [hL]
    clear hL
    go_upto_region 3 with (fail)
    go_wp2_with (first | refine (HAW.out _).mono ?_ | fail)
    rintro e w9 ⟨rfl, hw9⟩
    have HB9 := Lib.hid ((HB.out.alloc HB.out.size _).trans (hw9.mono (HB.out.alloc HB.out.size _).size))
    clear hw9
    go_wp2
    go_ret
    exact ⟨rfl, HB9.out⟩
  · have hL : longM ⟨18, ya, yb, yl, yc, yi, yd⟩ = 5 := by unfold longM; rw [if_neg (fun h => absurd h.1 (by simp))]; rfl
    rw [hL]
    clear hL
    go_upto_region 3 with (fail)
    go_wp2_with (first | refine (HAW.out _).mono ?_ | fail)
    rintro e w9 ⟨rfl, hw9⟩
    have HB9 := Lib.hid ((HB.out.alloc HB.out.size _).trans (hw9.mono (HB.out.alloc HB.out.size _).size))
    clear hw9
    go_wp2
    go_ret
    exact ⟨rfl, HB9.out⟩
  · have hL : longM ⟨19, ya, yb, yl, yc, yi, yd⟩ = 2 := by unfold longM; rw [if_neg (fun h => absurd h.1 (by simp))]; rfl
    rw [hL]
    clear hL
    go_upto_region 3 with (fail)
    go_wp2_with (first | refine (HAW.out _).mono ?_ | fail)
    rintro e w9 ⟨rfl, hw9⟩
    have HB9 := Lib.hid ((HB.out.alloc HB.out.size _).trans (hw9.mono (HB.out.alloc HB.out.size _).size))
    clear hw9
    go_wp2
    go_ret
    exact ⟨rfl, HB9.out⟩
  · have hL : longM ⟨20, ya, yb, yl, yc, yi, yd⟩ = 2 := by unfold longM; rw [if_neg (fun h => absurd h.1 (by simp))]; rfl
    rw [hL]
    clear hL
    go_upto_region 3 with (fail)
    go_wp2_with (first | refine (HAW.out _).mono ?_ | fail)
    rintro e w9 ⟨rfl, hw9⟩
    have HB9 := Lib.hid ((HB.out.alloc HB.out.size _).trans (hw9.mono (HB.out.alloc HB.out.size _).size))
    clear hw9
    go_wp2
    go_ret
    exact ⟨rfl, HB9.out⟩
  · have hL : longM ⟨21, ya, yb, yl, yc, yi, yd⟩ = 6 := by unfold longM; rw [if_neg (fun h => absurd h.1 (by simp))]; rfl
    rw [hL]
    clear hL
    go_upto_region 3 with (fail)
    go_wp2_with (first | refine (HAW.out _).mono ?_ | fail)
    rintro e w9 ⟨rfl, hw9⟩
    have HB9 := Lib.hid ((HB.out.alloc HB.out.size _).trans (hw9.mono (HB.out.alloc HB.out.size _).size))
    clear hw9
    go_wp2
    go_ret
    exact ⟨rfl, HB9.out⟩
  · have hL : longM ⟨22, ya, yb, yl, yc, yi, yd⟩ = 6 := by unfold longM; rw [if_neg (fun h => absurd h.1 (by simp))]; rfl
    rw [hL]
    clear hL
    go_upto_region 3 with (fail)
    go_wp2_with (first | refine (HAW.out _).mono ?_ | fail)
    rintro e w9 ⟨rfl, hw9⟩
    have HB9 := Lib.hid ((HB.out.alloc HB.out.size _).trans (hw9.mono (HB.out.alloc HB.out.size _).size))
    clear hw9
    go_wp2
    go_ret
    exact ⟨rfl, HB9.out⟩
  · have hL : longM ⟨23, ya, yb, yl, yc, yi, yd⟩ = 2 := by unfold longM; rw [if_neg (fun h => absurd h.1 (by simp))]; rfl
    rw [hL]
    clear hL
    go_upto_region 3 with (fail)
    go_wp2_with (first | refine (HAW.out _).mono ?_ | fail)
    rintro e w9 ⟨rfl, hw9⟩
    have HB9 := Lib.hid ((HB.out.alloc HB.out.size _).trans (hw9.mono (HB.out.alloc HB.out.size _).size))
    clear hw9
    go_wp2
    go_ret
    exact ⟨rfl, HB9.out⟩
end Go.Proofs.Ytimjpdheaecajaa
