import Derived.Test.YtplgdpjbkdagfaaGreatZRelMade
import Derived.Deep.Cut
import Derived.Deep.CutRange
import Derived.Deep.RegionHeld3
import Derived.Deep.DrawnRows
import Derived.Deep.DeepFit
namespace Go.Proofs.YtplgdpjbkdagfaaGreat
set_option maxRecDepth 100000
open Go.ChangeShapes Go.WideShapes Go.ChangeAt Go.RowKit
set_option linter.unusedVariables false
set_option linter.unusedSimpArgs false
structure Apt (n : Nat) (l : List Site) : Prop where
  kinds : Kinds n l
  far : Far l
  len : l.length ≤ 40
  low : ∀ x ∈ l, x.2 < 16777216
def ApartR (w w' : World) (n : Nat) (e : Ending) : Prop :=
  ∃ (l : List Site) (A : Option Addr) (cap : Nat), e = .returned (.slice A l.length cap) ∧ OwnT relC 2 w' w.heap.size 82 (.slice A l.length cap) l ∧ Apt n l ∧ Below w.heap.size w w'
theorem and_1R (n : Int) : bits .and .i64 n 1 = n % 2 := i64_mask n 1 (by omega)
theorem and_24 (n : Int) : bits .and .i64 n 16777215 = n % 16777216 := i64_mask n 24 (by omega)
def FarFrom (x : Site) (out : List Site) (k : Nat) : Prop := ∀ i (h : i < out.length), i < k → x.2 + relLen x.1 ≤ out[i].2 ∨ out[i].2 + relLen out[i].1 ≤ x.2
def OkS (n : Nat) (x : Site) (out : List Site) (k : Nat) : Prop := x.2 + relLen x.1 ≤ n ∧ FarFrom x out k
theorem okS_succ (n : Nat) (x : Site) (out : List Site) {k : Nat} (hk : k < out.length) : (OkS n x out k ∧ (x.2 + relLen x.1 ≤ out[k].2 ∨ out[k].2 + relLen out[k].1 ≤ x.2)) ↔ OkS n x out (k + 1) := by
  unfold OkS FarFrom
  constructor
  · rintro ⟨⟨h1, h2⟩, h3⟩
    refine ⟨h1, fun i hi hik => ?_⟩
    by_cases e : i = k
    · subst e; exact h3
    · exact h2 i hi (by omega)
  · rintro ⟨h1, h2⟩
    exact ⟨⟨h1, fun i hi hik => h2 i hi (by omega)⟩, h2 k hk (by omega)⟩
theorem Apt.add {n : Nat} {out : List Site} {x : Site} (h : Apt n out) (hk : x.1 = 3 ∨ x.1 = 10) (h0 : 0 ≤ x.2) (h1 : x.2 < 16777216) (hn : x.2 + relLen x.1 ≤ n) (hf : FarFrom x out out.length) (hl : out.length < 40) : Apt n (out ++ [x]) := by
  refine ⟨fun y hy => ?_, ?_, by simp; omega, fun y hy => ?_⟩
  · rcases List.mem_append.1 hy with hy | hy
    · exact h.kinds y hy
    · rw [List.mem_singleton] at hy; subst hy; exact ⟨hk, h0, hn⟩
  · unfold Far
    rw [List.pairwise_append]
    refine ⟨h.far, by simp, fun y hy z hz => ?_⟩
    rw [List.mem_singleton] at hz
    subst hz
    obtain ⟨i, hi, rfl⟩ := List.mem_iff_getElem.1 hy
    have := hf i hi hi
    omega
  · rcases List.mem_append.1 hy with hy | hy
    · exact h.low y hy
    · rw [List.mem_singleton] at hy; subst hy; exact h1
set_option maxRecDepth 100000 in
set_option maxHeartbeats 4000000 in
theorem apart_any (L : Option Addr) (l : List Site) (lc n : Nat) (w : World) (hL : SlT relC 2 w L l) (hll : l.length ≤ 9223372036854775807) (h0 : 0 < n) (hn : n ≤ 1000000) :
    Calls Tryz.prog 30 #[.slice L l.length lc, .int .i64 n] w fun e w' => ApartR w w' n e := by
  have HLS := Lib.hid hL
  clear hL
  go_enter Tryz.func30, Tryz.ntmps30
  go_wp2_with fail
  go_loopw [5, 6] (fun v5 v6 wr => ∃ (i : Nat) (out : List Site) (A : Option Addr) (cap : Nat), i ≤ 40 ∧ i ≤ l.length ∧ out.length ≤ i ∧ v6 = .int .i64 i ∧ v5 = .slice A out.length cap ∧ OwnT relC 2 wr w.heap.size 82 (.slice A out.length cap) out ∧ Apt n out ∧ Below w.heap.size w wr) (fun _ v6 _ => 40 - (intOf v6).toNat)
  case atStart => exact ⟨0, [], none, 0, by omega, by omega, by simp, rfl, rfl, OwnT.nil _ _ _, ⟨fun x hx => by simp at hx, by simp [Far], by simp, fun x hx => by simp at hx⟩, Below.refl _ _⟩
  case round =>
    obtain ⟨i, out, A, cap, hi, hil, hol, rfl, rfl, how, hapt, hbe⟩ := hrel
    obtain ⟨wo, rfl⟩ : ∃ wo : World, wo = wr := ⟨_, rfl⟩
    have HOW := Lib.hid how
    have HAPT := Lib.hid hapt
    have HBE := Lib.hid hbe
    clear how hapt hbe
    by_cases hlt : i < l.length
    · by_cases hlt40 : i < 40
      · have hlt3 : (i : Int) < 40 := by omega
        obtain ⟨b, off, rfl, hbl2, q0, q1⟩ := (HLS.out.below HBE.out).site hlt
        obtain ⟨x, hx⟩ : ∃ x, l[i] = x := ⟨_, rfl⟩
        rw [hx] at q0 q1
        clear hx
        obtain ⟨kd, rv⟩ := x
        simp only at q0 q1
        have ha := and_1R kd
        have hb := and_24 rv
        obtain ⟨R, hR⟩ : ∃ R : Nat, (rv % 16777216) % (n : Int) = R := ⟨((rv % 16777216) % (n : Int)).toNat, by have := Int.emod_nonneg (rv % 16777216) (show (n : Int) ≠ 0 by omega); omega⟩
        have hRn : R < n := by have := Int.emod_lt_of_pos (rv % 16777216) (show (0 : Int) < n by omega); omega
        have hRl : R < 16777216 := by
          omega
        have hz : (0 : Int) ≤ (i : Int) := by omega
        have hzl : (i : Int) < (l.length : Int) := by omega
        have hm0 : 0 ≤ rv % 16777216 := by omega
        have hmt : Int.tmod (rv % 16777216) (n : Int) = R := by rw [Int.tmod_eq_emod_of_nonneg hm0, hR]
        rcases (by omega : kd % 2 = 0 ∨ kd % 2 = 1) with hk | hk
        · rw [hk] at ha
          go_upto_region 5 with fail
          go_cut [7] from 22 to 39 (fun v7 wx => ∃ bx, v7 = .pointer (some ⟨bx, 0, none⟩) ∧ Own wx bx 2 (fun j => if j = 0 then .int .i64 3 else .int .i64 (R : Int)) ∧ wo.heap.size ≤ bx ∧ Below wo.heap.size wo wx)
          case first =>
            go_region
            all_goals go_wp2_with fail
            all_goals go_meet
            · case rel => exact ⟨wo.heap.size + 1, rfl, by have h := own_two (wo.alloc (.cells #[.int .i64 3, .int .i64 10] 3)) (.int .i64 3) (.int .i64 (R : Int)) 82; rw [show (wo.alloc (.cells #[.int .i64 3, .int .i64 10] 3)).heap.size = wo.heap.size + 1 by simp] at h; exact h, by omega, (((Below.refl wo.heap.size wo).alloc (Nat.le_refl _) _).alloc (by simp) _).drew⟩
            · case rel => exact ⟨wo.heap.size, rfl, (own_two wo (.int .i64 3) (.int .i64 (R : Int)) 82).alloc _, by omega, (((Below.refl wo.heap.size wo).alloc (Nat.le_refl _) _).alloc (by simp) _).drew⟩
          case rest =>
            obtain ⟨bx, rfl, hbx, hge, hbw⟩ := hcut
            have HBX := Lib.hid hbx
            have HBW := Lib.hid hbw
            have r0 := hbx.cell (i := 0) (by omega)
            have r1 := hbx.cell (i := 1) (by omega)
            simp only [if_pos, if_neg, Nat.one_ne_zero] at r0 r1
            have q0' := (hbw.cell (p := ⟨b, off + i * 2, none⟩) hbl2).trans q0
            have hbl3 : b < wc.heap.size := Nat.lt_of_lt_of_le hbl2 hbw.size
            have hbx3 : bx < wc.heap.size := hbx.1
            clear q0 q1 hbx hbw
            go_upto_region 8 with fail
            have HBX2 := Lib.hid (HBX.out.alloc (.cells #[.int .i64 4, .int .i64 8] 3))
            have HBW2 := Lib.hid (HBW.out.alloc (HBW.out.size) (.cells #[.int .i64 4, .int .i64 8] 3))
            generalize wc.alloc (.cells #[.int .i64 4, .int .i64 8] 3) = W2 at *
            obtain ⟨ok0, hok0⟩ : ∃ ok0, decide ((R : Int) + 4 ≤ n) = ok0 := ⟨_, rfl⟩
            rw [hok0]
            have HK0 := Lib.hid (show ok0 = true ↔ OkS n (3, R) out 0 from by
              rw [← hok0]
              unfold OkS FarFrom
              simp [relLen])
            clear r0 r1 q0' hbl3 hbx3 HBX HBW ha hb hR hz hzl hm0 hmt hok0 hk
            go_wp2_with fail
            go_loopw [9, 10] (fun v9 v10 wr => ∃ (k : Nat) (ok : Bool), k ≤ out.length ∧ v10 = .int .i64 k ∧ v9 = .bool ok ∧ (ok = true ↔ OkS n (3, R) out k) ∧ ∃ d, wr = W2.drewN d) (fun _ v10 _ => out.length - (intOf v10).toNat)
            case atStart => exact ⟨0, ok0, by omega, rfl, rfl, HK0.out, 0, rfl⟩
            case round =>
              obtain ⟨k, ok, hk, rfl, rfl, hok, hd⟩ := hrel
              have HOK := Lib.hid hok
              have HD := Lib.hid hd
              have hbx := (show Own wr bx 2 (fun j => if j = 0 then .int .i64 3 else .int .i64 (R : Int)) by obtain ⟨d, rfl⟩ := hd; exact HBX2.out)
              have r0 := hbx.cell (i := 0) (by omega)
              have r1 := hbx.cell (i := 1) (by omega)
              simp only [if_pos, if_neg, Nat.one_ne_zero] at r0 r1
              have HBR := Lib.hid (show Below wo.heap.size wo wr by obtain ⟨d, rfl⟩ := hd; exact belD HBW2.out d)
              clear hok hd hbx HK0
              by_cases hlt2 : k < out.length
              · obtain ⟨b2, off2, rfl, hbl5, s0, s1⟩ := ((HOW.out.sl relC_len).below HBR.out).site hlt2
                have hky := HAPT.out.kinds out[k] (List.getElem_mem hlt2)
                have HST := Lib.hid (okS_succ n (3, R) out hlt2)
                obtain ⟨y, hy⟩ : ∃ y, out[k] = y := ⟨_, rfl⟩
                rw [hy] at s0 s1 hky HST
                clear hy
                obtain ⟨k2, r2⟩ := y
                simp only at s0 s1 hky
                obtain ⟨hk2, hr20, hr21⟩ := hky
                have hz : (0 : Int) ≤ (k : Int) := by omega
                have hzl : (k : Int) < (out.length : Int) := by omega
                have hl40 : out.length ≤ 40 := by omega
                have hlb := relLen_bd k2
                have hr22 : r2 ≤ 1000000 := by omega
                obtain ⟨ok2, hok2⟩ : ∃ ok2 : Bool, ok2 = (ok && (decide ((R : Int) + 4 ≤ r2) || decide (r2 + relLen k2 ≤ (R : Int)))) := ⟨_, rfl⟩
                have HO2 := Lib.hid (show ok2 = true ↔ OkS n (3, R) out (k + 1) from by
                  rw [hok2, Bool.and_eq_true, Bool.or_eq_true, decide_eq_true_eq, decide_eq_true_eq, ← HST.out, HOK.out]
                  exact Iff.rfl)
                clear HST hlb hr21
                rcases hk2 with rfl | rfl
                all_goals
                  simp only [show relLen 3 = 4 from rfl, show relLen 10 = 8 from rfl] at hok2
                  cases ok with
                  | false =>
                    rw [Bool.false_and] at hok2
                    subst hok2
                    go_wp2_with fail
                    go_quiet (fail)
                    go_wp2_with fail
                    go_roundw
                    case rel => exact ⟨k + 1, false, by omega, by go_num, rfl, (by first | exact HO2.out | simpa using HO2.out), by obtain ⟨d, rfl⟩ := HD.out; exact ⟨_, by rw [World.drewN_drewN]⟩⟩
                    case measure => simp [intOf]; omega
                  | true =>
                    by_cases cA : (R : Int) + 4 ≤ r2
                    · have eA := decide_eq_true cA
                      rw [eA, Bool.true_or, Bool.true_and] at hok2
                      subst hok2
                      go_wp2_with fail
                      go_quiet (fail)
                      go_wp2_with fail
                      go_roundw
                      case rel => exact ⟨k + 1, true, by omega, by go_num, rfl, (by first | exact HO2.out | simpa using HO2.out), by obtain ⟨d, rfl⟩ := HD.out; exact ⟨_, by rw [World.drewN_drewN]⟩⟩
                      case measure => simp [intOf]; omega
                    · have eA := decide_eq_false cA
                      rw [eA, Bool.false_or, Bool.true_and] at hok2
                      subst hok2
                      go_wp2_with fail
                      go_quiet (fail)
                      go_wp2_with fail
                      go_roundw
                      case rel => exact ⟨k + 1, _, by omega, by go_num, rfl, (by first | exact HO2.out | simpa using HO2.out), by obtain ⟨d, rfl⟩ := HD.out; exact ⟨_, by rw [World.drewN_drewN]⟩⟩
                      case measure => simp [intOf]; omega
              · obtain rfl : k = out.length := by omega
                have HOW2 := Lib.hid (HOW.out.below HBR.out)
                have hB := Lib.hid (HBE.out.trans (HBR.out.mono HBE.out.size))
                cases ok with
                | false =>
                  go_wp2_with fail
                  go_roundw
                  case rel => exact ⟨i + 1, out, A, cap, by omega, by omega, by omega, by go_num, rfl, HOW2.out, HAPT.out, hB.out⟩
                  case measure => simp [intOf]; omega
                | true =>
                  have hoks := HOK.out.1 rfl
                  have HA2 := Lib.hid (HAPT.out.add (x := (3, R)) (by simp) (by simp) (by simp; omega) hoks.1 hoks.2 (by omega))
                  have HX := Lib.hid (own_two wr (.int .i64 3) (.int .i64 (R : Int)) 82)
                  have HOW3 := Lib.hid (HOW2.out.alloc (.cells #[.int .i64 3, .int .i64 (R : Int)] 82))
                  have hbase := Lib.hid hB.out.size
                  have hl40 : out.length ≤ 40 := by omega
                  clear hoks
                  go_wp2_with (at_builtin; refine wpList_appT rfl (.tmp 93) (.tmp 95) 29 rfl w.heap.size 82 (.agg #[.int .i64 0, .int .i64 0]) 16 (by kernel_rfl) infoRel rfl (by omega) relC_len relC_one _ out rfl HOW3.out wr.heap.size 1 rfl (3, (R : Int)) ?ca (by unfold maxLen; omega) (by omega) (by have := hbase.out; simp; omega) ?_; rotate_left; intro g' cap2 w3 hown3 hg3 hat3)
                  case ca =>
                    intro j u hu
                    exact hu
                  have HO4 := Lib.hid hown3
                  have HB4 := Lib.hid (HOW3.out.grew (hB.out.alloc (by have := hB.out.size; omega) (.cells #[.int .i64 3, .int .i64 (R : Int)] 82)) (Nat.le_refl _) (by have := hB.out.size; simp; omega) hg3)
                  clear hown3 hg3 hat3
                  go_roundw
                  case rel => exact ⟨i + 1, out ++ [(3, (R : Int))], some ⟨g', 0, none⟩, cap2, by omega, by omega, by simp; omega, by go_num, by simp, by rw [List.length_append]; exact HO4.out, HA2.out, HB4.out⟩
                  case measure => simp [intOf]; omega
        · rw [hk] at ha
          go_upto_region 5 with fail
          go_cut [7] from 22 to 39 (fun v7 wx => ∃ bx, v7 = .pointer (some ⟨bx, 0, none⟩) ∧ Own wx bx 2 (fun j => if j = 0 then .int .i64 10 else .int .i64 (R : Int)) ∧ wo.heap.size ≤ bx ∧ Below wo.heap.size wo wx)
          case first =>
            go_region
            all_goals go_wp2_with fail
            all_goals go_meet
            · case rel => exact ⟨wo.heap.size + 1, rfl, by have h := own_two (wo.alloc (.cells #[.int .i64 3, .int .i64 10] 3)) (.int .i64 10) (.int .i64 (R : Int)) 82; rw [show (wo.alloc (.cells #[.int .i64 3, .int .i64 10] 3)).heap.size = wo.heap.size + 1 by simp] at h; exact h, by omega, (((Below.refl wo.heap.size wo).alloc (Nat.le_refl _) _).alloc (by simp) _).drew⟩
            · case rel => exact ⟨wo.heap.size, rfl, (own_two wo (.int .i64 10) (.int .i64 (R : Int)) 82).alloc _, by omega, (((Below.refl wo.heap.size wo).alloc (Nat.le_refl _) _).alloc (by simp) _).drew⟩
          case rest =>
            obtain ⟨bx, rfl, hbx, hge, hbw⟩ := hcut
            have HBX := Lib.hid hbx
            have HBW := Lib.hid hbw
            have r0 := hbx.cell (i := 0) (by omega)
            have r1 := hbx.cell (i := 1) (by omega)
            simp only [if_pos, if_neg, Nat.one_ne_zero] at r0 r1
            have q0' := (hbw.cell (p := ⟨b, off + i * 2, none⟩) hbl2).trans q0
            have hbl3 : b < wc.heap.size := Nat.lt_of_lt_of_le hbl2 hbw.size
            have hbx3 : bx < wc.heap.size := hbx.1
            clear q0 q1 hbx hbw
            go_upto_region 8 with fail
            have HBX2 := Lib.hid (HBX.out.alloc (.cells #[.int .i64 4, .int .i64 8] 3))
            have HBW2 := Lib.hid (HBW.out.alloc (HBW.out.size) (.cells #[.int .i64 4, .int .i64 8] 3))
            generalize wc.alloc (.cells #[.int .i64 4, .int .i64 8] 3) = W2 at *
            obtain ⟨ok0, hok0⟩ : ∃ ok0, decide ((R : Int) + 8 ≤ n) = ok0 := ⟨_, rfl⟩
            rw [hok0]
            have HK0 := Lib.hid (show ok0 = true ↔ OkS n (10, R) out 0 from by
              rw [← hok0]
              unfold OkS FarFrom
              simp [relLen])
            clear r0 r1 q0' hbl3 hbx3 HBX HBW ha hb hR hz hzl hm0 hmt hok0 hk
            go_wp2_with fail
            go_loopw [9, 10] (fun v9 v10 wr => ∃ (k : Nat) (ok : Bool), k ≤ out.length ∧ v10 = .int .i64 k ∧ v9 = .bool ok ∧ (ok = true ↔ OkS n (10, R) out k) ∧ ∃ d, wr = W2.drewN d) (fun _ v10 _ => out.length - (intOf v10).toNat)
            case atStart => exact ⟨0, ok0, by omega, rfl, rfl, HK0.out, 0, rfl⟩
            case round =>
              obtain ⟨k, ok, hk, rfl, rfl, hok, hd⟩ := hrel
              have HOK := Lib.hid hok
              have HD := Lib.hid hd
              have hbx := (show Own wr bx 2 (fun j => if j = 0 then .int .i64 10 else .int .i64 (R : Int)) by obtain ⟨d, rfl⟩ := hd; exact HBX2.out)
              have r0 := hbx.cell (i := 0) (by omega)
              have r1 := hbx.cell (i := 1) (by omega)
              simp only [if_pos, if_neg, Nat.one_ne_zero] at r0 r1
              have HBR := Lib.hid (show Below wo.heap.size wo wr by obtain ⟨d, rfl⟩ := hd; exact belD HBW2.out d)
              clear hok hd hbx HK0
              by_cases hlt2 : k < out.length
              · obtain ⟨b2, off2, rfl, hbl5, s0, s1⟩ := ((HOW.out.sl relC_len).below HBR.out).site hlt2
                have hky := HAPT.out.kinds out[k] (List.getElem_mem hlt2)
                have HST := Lib.hid (okS_succ n (10, R) out hlt2)
                obtain ⟨y, hy⟩ : ∃ y, out[k] = y := ⟨_, rfl⟩
                rw [hy] at s0 s1 hky HST
                clear hy
                obtain ⟨k2, r2⟩ := y
                simp only at s0 s1 hky
                obtain ⟨hk2, hr20, hr21⟩ := hky
                have hz : (0 : Int) ≤ (k : Int) := by omega
                have hzl : (k : Int) < (out.length : Int) := by omega
                have hl40 : out.length ≤ 40 := by omega
                have hlb := relLen_bd k2
                have hr22 : r2 ≤ 1000000 := by omega
                obtain ⟨ok2, hok2⟩ : ∃ ok2 : Bool, ok2 = (ok && (decide ((R : Int) + 8 ≤ r2) || decide (r2 + relLen k2 ≤ (R : Int)))) := ⟨_, rfl⟩
                have HO2 := Lib.hid (show ok2 = true ↔ OkS n (10, R) out (k + 1) from by
                  rw [hok2, Bool.and_eq_true, Bool.or_eq_true, decide_eq_true_eq, decide_eq_true_eq, ← HST.out, HOK.out]
                  exact Iff.rfl)
                clear HST hlb hr21
                rcases hk2 with rfl | rfl
                all_goals
                  simp only [show relLen 3 = 4 from rfl, show relLen 10 = 8 from rfl] at hok2
                  cases ok with
                  | false =>
                    rw [Bool.false_and] at hok2
                    subst hok2
                    go_wp2_with fail
                    go_quiet (fail)
                    go_wp2_with fail
                    go_roundw
                    case rel => exact ⟨k + 1, false, by omega, by go_num, rfl, (by first | exact HO2.out | simpa using HO2.out), by obtain ⟨d, rfl⟩ := HD.out; exact ⟨_, by rw [World.drewN_drewN]⟩⟩
                    case measure => simp [intOf]; omega
                  | true =>
                    by_cases cA : (R : Int) + 8 ≤ r2
                    · have eA := decide_eq_true cA
                      rw [eA, Bool.true_or, Bool.true_and] at hok2
                      subst hok2
                      go_wp2_with fail
                      go_quiet (fail)
                      go_wp2_with fail
                      go_roundw
                      case rel => exact ⟨k + 1, true, by omega, by go_num, rfl, (by first | exact HO2.out | simpa using HO2.out), by obtain ⟨d, rfl⟩ := HD.out; exact ⟨_, by rw [World.drewN_drewN]⟩⟩
                      case measure => simp [intOf]; omega
                    · have eA := decide_eq_false cA
                      rw [eA, Bool.false_or, Bool.true_and] at hok2
                      subst hok2
                      go_wp2_with fail
                      go_quiet (fail)
                      go_wp2_with fail
                      go_roundw
                      case rel => exact ⟨k + 1, _, by omega, by go_num, rfl, (by first | exact HO2.out | simpa using HO2.out), by obtain ⟨d, rfl⟩ := HD.out; exact ⟨_, by rw [World.drewN_drewN]⟩⟩
                      case measure => simp [intOf]; omega
              · obtain rfl : k = out.length := by omega
                have HOW2 := Lib.hid (HOW.out.below HBR.out)
                have hB := Lib.hid (HBE.out.trans (HBR.out.mono HBE.out.size))
                cases ok with
                | false =>
                  go_wp2_with fail
                  go_roundw
                  case rel => exact ⟨i + 1, out, A, cap, by omega, by omega, by omega, by go_num, rfl, HOW2.out, HAPT.out, hB.out⟩
                  case measure => simp [intOf]; omega
                | true =>
                  have hoks := HOK.out.1 rfl
                  have HA2 := Lib.hid (HAPT.out.add (x := (10, R)) (by simp) (by simp) (by simp; omega) hoks.1 hoks.2 (by omega))
                  have HX := Lib.hid (own_two wr (.int .i64 10) (.int .i64 (R : Int)) 82)
                  have HOW3 := Lib.hid (HOW2.out.alloc (.cells #[.int .i64 10, .int .i64 (R : Int)] 82))
                  have hbase := Lib.hid hB.out.size
                  have hl40 : out.length ≤ 40 := by omega
                  clear hoks
                  go_wp2_with (at_builtin; refine wpList_appT rfl (.tmp 93) (.tmp 95) 29 rfl w.heap.size 82 (.agg #[.int .i64 0, .int .i64 0]) 16 (by kernel_rfl) infoRel rfl (by omega) relC_len relC_one _ out rfl HOW3.out wr.heap.size 1 rfl (10, (R : Int)) ?ca (by unfold maxLen; omega) (by omega) (by have := hbase.out; simp; omega) ?_; rotate_left; intro g' cap2 w3 hown3 hg3 hat3)
                  case ca =>
                    intro j u hu
                    exact hu
                  have HO4 := Lib.hid hown3
                  have HB4 := Lib.hid (HOW3.out.grew (hB.out.alloc (by have := hB.out.size; omega) (.cells #[.int .i64 10, .int .i64 (R : Int)] 82)) (Nat.le_refl _) (by have := hB.out.size; simp; omega) hg3)
                  clear hown3 hg3 hat3
                  go_roundw
                  case rel => exact ⟨i + 1, out ++ [(10, (R : Int))], some ⟨g', 0, none⟩, cap2, by omega, by omega, by simp; omega, by go_num, by simp, by rw [List.length_append]; exact HO4.out, HA2.out, HB4.out⟩
                  case measure => simp [intOf]; omega
      · obtain rfl : i = 40 := by omega
        have hl40 : 40 < l.length := hlt
        clear hlt40 hlt
        go_wp2_with fail
        go_ret
        exact ⟨out, A, cap, rfl, HOW.out, HAPT.out, HBE.out⟩
    · obtain rfl : i = l.length := by omega
      go_wp2_with fail
      go_ret
      exact ⟨out, A, cap, rfl, HOW.out, HAPT.out, HBE.out⟩
end Go.Proofs.YtplgdpjbkdagfaaGreat
