/- package bound: has, Fresh. -/
import Derived.Test.YtbghgjhenahcgaaBndF
namespace Go.Proofs.Ytbghgjhenahcgaa
open Go.ChangeShapes Go.WideShapes Go.ChangeAt Go.RowKit
set_option linter.unusedVariables false

set_option maxRecDepth 100000 in
set_option maxHeartbeats 1000000 in
theorem has_any (x : FRow) (s : List FRow) (A : Option Addr) (cap : Nat) (w : World) (hs : SlT fC 2 w A s) (hx : NameB x) (hn : ∀ y ∈ s, NameB y) (hl : s.length ≤ 1000000) :
    Calls Try.prog 16 #[.agg #[.string (txt x.1), .int .i64 x.2], .slice A s.length cap] w fun e w' => e = .returned (.bool (hasM x s)) ∧ Below w.heap.size w w' := by
  have HS := Lib.hid (fun W (hW : Below w.heap.size w W) => hs.below hW)
  have HX := Lib.hid hx
  have HN := Lib.hid hn
  obtain ⟨res, hres⟩ : ∃ res, hasM x s = res := ⟨_, rfl⟩
  rw [hres]
  have HRS := Lib.hid (show hasM x (s.drop 0) = res from hres)
  clear hs hx hn hres
  go_enter Try.func16, Try.ntmps16
  go_wp2_with fail
  have HB := Lib.hid ((Below.refl w.heap.size w).alloc (Nat.le_refl _) (.cells #[.string (txt x.1), .int .i64 x.2] 25))
  have HD := Lib.hid (heap_alloc_new w (.cells #[.string (txt x.1), .int .i64 x.2] 25))
  generalize w.alloc (.cells #[.string (txt x.1), .int .i64 x.2] 25) = w1 at *
  go_loopw [9] (fun v9 wr => ∃ i : Nat, i ≤ s.length ∧ v9 = .int .i64 i ∧ Below w.heap.size w wr ∧ wr.heap[w.heap.size]? = some (.cells #[.string (txt x.1), .int .i64 x.2] 25 (0, 0)) ∧ hasM x (s.drop i) = res) (fun v9 _ => s.length - (intOf v9).toNat)
  case atStart => exact ⟨0, Nat.zero_le _, rfl, HB.out, HD.out, HRS.out⟩
  case round =>
    obtain ⟨i, hi, rfl, hbel, hd, hp⟩ := hrel
    have HBW := Lib.hid hbel
    have HDW := Lib.hid hd
    have HP := Lib.hid hp
    clear hbel hd hp
    by_cases hlt : i < s.length
    · obtain ⟨bl, off, rfl, hbl, q0, q1⟩ := (HS.out wr HBW.out).frow hlt
      obtain ⟨y, hye⟩ : ∃ y, s[i] = y := ⟨_, rfl⟩
      have hyn := HN.out y (hye ▸ List.getElem_mem hlt)
      rw [hye] at q0 q1
      have hp := HP.out
      rw [List.drop_eq_getElem_cons hlt, hye] at hp
      simp only [hasM] at hp
      replace HP := Lib.hid hp
      have HSM := Lib.hid (fun W => same_any y.1 x.1 W hyn.1 HX.out.1 hyn.2 HX.out.2)
      have hwlt := lt_of_row HDW.out
      have d0 : wr.cell? ⟨w.heap.size, 0, none⟩ = some (.string (txt x.1)) := by rw [cell_of_row _ _ _ _ _ _ HDW.out]; rfl
      have d1 : wr.cell? ⟨w.heap.size, 1, none⟩ = some (.int .i64 x.2) := by rw [cell_of_row _ _ _ _ _ _ HDW.out]; rfl
      clear hye hyn hp
      go_upto_region 4 with (fail)
      have HY := Lib.hid (heap_alloc_new wr (.cells #[.string (txt y.1), .int .i64 y.2] 38))
      replace HBW := Lib.hid (HBW.out.alloc HBW.out.size (.cells #[.string (txt y.1), .int .i64 y.2] 38))
      replace HDW := Lib.hid ((((Below.refl wr.heap.size wr).alloc (Nat.le_refl _) (.cells #[.string (txt y.1), .int .i64 y.2] 38)).block _ hwlt).trans HDW.out)
      clear q0 q1 d0 d1 hwlt
      generalize wr.alloc (.cells #[.string (txt y.1), .int .i64 y.2] 38) = w2 at *
      generalize wr.heap.size = b6 at *
      have d0 : w2.cell? ⟨w.heap.size, 0, none⟩ = some (.string (txt x.1)) := by rw [cell_of_row _ _ _ _ _ _ HDW.out]; rfl
      have k0 : w2.cell? ⟨b6, 0, none⟩ = some (.string (txt y.1)) := by rw [cell_of_row _ _ _ _ _ _ HY.out]; rfl
      go_wp2_with fail
      refine (HSM.out _).mono ?_
      rintro e w3 ⟨rfl, hw3⟩
      replace HY := Lib.hid ((hw3.block _ (lt_of_row HY.out)).trans HY.out)
      replace HDW := Lib.hid ((hw3.block _ (lt_of_row HDW.out)).trans HDW.out)
      replace HBW := Lib.hid (HBW.out.trans (hw3.mono HBW.out.size))
      clear d0 k0 hw3 HSM
      have d1 : w3.cell? ⟨w.heap.size, 1, none⟩ = some (.int .i64 x.2) := by rw [cell_of_row _ _ _ _ _ _ HDW.out]; rfl
      have k1 : w3.cell? ⟨b6, 1, none⟩ = some (.int .i64 y.2) := by rw [cell_of_row _ _ _ _ _ _ HY.out]; rfl
      cases hk : (keyN y.1 == keyN x.1)
      · have hp := HP.out
        rw [hk] at hp
        replace HP := Lib.hid (show hasM x (s.drop (i + 1)) = res from hp)
        clear hp hk
        go_wp2_with fail
        go_roundw
        case rel => exact ⟨i + 1, by omega, by go_num, HBW.out, HDW.out, HP.out⟩
        case measure => simp [intOf]; omega
      · have hp := HP.out
        rw [hk] at hp
        simp only [if_true] at hp
        subst hp
        clear hk
        go_wp2_with fail
        go_ret
        exact ⟨rfl, HBW.out⟩
    · have hp := HP.out
      rw [List.drop_eq_nil_of_le (by omega)] at hp
      simp only [hasM] at hp
      subst hp
      go_wp2_with fail
      go_ret
      exact ⟨rfl, HBW.out⟩

set_option maxRecDepth 100000 in
set_option maxHeartbeats 1000000 in
theorem fresh_any (l s : List FRow) (A A' : Option Addr) (cap cap' : Nat) (w : World) (hl : SlT fC 2 w A l) (hs : SlT fC 2 w A' s) (hx : ∀ y ∈ l, NameB y) (hn : ∀ y ∈ s, NameB y) (hll : l.length ≤ 1000000) (hsl : s.length ≤ 1000000) :
    Calls Try.prog 10 #[.slice A l.length cap, .slice A' s.length cap'] w fun e w' => e = .returned (.bool (freshM l s)) ∧ Below w.heap.size w w' := by
  have HL := Lib.hid (fun W (hW : Below w.heap.size w W) => hl.below hW)
  have HS := Lib.hid (fun W (hW : Below w.heap.size w W) => hs.below hW)
  have HX := Lib.hid hx
  have HN := Lib.hid hn
  obtain ⟨res, hres⟩ : ∃ res, freshM l s = res := ⟨_, rfl⟩
  rw [hres]
  have HRS := Lib.hid (show freshM (l.drop 0) s = res from hres)
  clear hl hs hx hn hres
  go_enter Try.func10, Try.ntmps10
  go_wp2_with fail
  go_loopw [9] (fun v9 wr => ∃ i : Nat, i ≤ l.length ∧ v9 = .int .i64 i ∧ Below w.heap.size w wr ∧ freshM (l.drop i) s = res) (fun v9 _ => l.length - (intOf v9).toNat)
  case atStart => exact ⟨0, Nat.zero_le _, rfl, Below.refl _ _, HRS.out⟩
  case round =>
    obtain ⟨i, hi, rfl, hbel, hp⟩ := hrel
    have HBW := Lib.hid hbel
    have HP := Lib.hid hp
    clear hbel hp
    by_cases hlt : i < l.length
    · obtain ⟨bl, off, rfl, hbl, q0, q1⟩ := (HL.out wr HBW.out).frow hlt
      obtain ⟨y, hye⟩ : ∃ y, l[i] = y := ⟨_, rfl⟩
      have hyn := HX.out y (hye ▸ List.getElem_mem hlt)
      rw [hye] at q0 q1
      have hp := HP.out
      rw [List.drop_eq_getElem_cons hlt, hye] at hp
      simp only [freshM, List.all_cons] at hp
      replace HP := Lib.hid hp
      have HHS := Lib.hid (fun W (hW : Below w.heap.size w W) => has_any y s A' cap' W (HS.out W hW) hyn HN.out hsl)
      clear hye hyn hp
      go_upto_region 4 with (fail)
      have HY := Lib.hid (heap_alloc_new wr (.cells #[.string (txt y.1), .int .i64 y.2] 25))
      replace HBW := Lib.hid (HBW.out.alloc HBW.out.size (.cells #[.string (txt y.1), .int .i64 y.2] 25))
      clear q0 q1
      generalize wr.alloc (.cells #[.string (txt y.1), .int .i64 y.2] 25) = w2 at *
      generalize wr.heap.size = b6 at *
      have k0 : w2.cell? ⟨b6, 0, none⟩ = some (.string (txt y.1)) := by rw [cell_of_row _ _ _ _ _ _ HY.out]; rfl
      have k1 : w2.cell? ⟨b6, 1, none⟩ = some (.int .i64 y.2) := by rw [cell_of_row _ _ _ _ _ _ HY.out]; rfl
      go_wp2_with fail
      refine (HHS.out _ HBW.out).mono ?_
      rintro e w3 ⟨rfl, hw3⟩
      replace HBW := Lib.hid (HBW.out.trans (hw3.mono HBW.out.size))
      clear k0 k1 hw3 HHS
      cases hk : hasM y s
      · have hp := HP.out
        rw [hk, Bool.false_and] at hp
        subst hp
        clear hk
        go_wp2_with fail
        go_ret
        exact ⟨rfl, HBW.out⟩
      · have hp := HP.out
        rw [hk, Bool.true_and] at hp
        replace HP := Lib.hid (show freshM (l.drop (i + 1)) s = res from hp)
        clear hp hk
        go_wp2_with fail
        go_roundw
        case rel => exact ⟨i + 1, by omega, by go_num, HBW.out, HP.out⟩
        case measure => simp [intOf]; omega
    · have hp := HP.out
      rw [List.drop_eq_nil_of_le (by omega)] at hp
      simp only [freshM, List.all_nil] at hp
      subst hp
      go_wp2_with fail
      go_ret
      exact ⟨rfl, HBW.out⟩
end Go.Proofs.Ytbghgjhenahcgaa
