/- The document's memory of pages (slipwayref3): where there is room. -/
import Derived.Test.YtlifaldbdjcgjaaRomB
namespace Go.Proofs.Ytlifaldbdjcgjaa
open Go.ChangeShapes Go.WideShapes Go.ChangeAt Go.RowKit
set_option linter.unusedVariables false
set_option linter.unusedSimpArgs false

theorem below_dr (w : World) (k : Nat) : Below w.heap.size w (w.drewN k) := ⟨rfl, rfl, rfl, Nat.le_refl _, fun _ _ => rfl⟩
def RangeP (a : Nat) (n : Int) : Prop := a % 4096 = 0 ∧ 1 ≤ n ∧ n ≤ 1024 ∧ a ≤ 140737488355328 ∧ (a : Int) + n * 4096 ≤ 140737488355328
theorem rrange_yes (a : Nat) (n : Int) (w : World) (h : RangeP a n) :
    Calls Try.prog 38 #[.int .u64 a, .int .i64 n] w fun e w' => e = .returned (.bool true) ∧ w = w' := by
  obtain ⟨h1, h2, h3, h4, h5⟩ := h
  obtain ⟨m, rfl⟩ : ∃ m : Nat, n = (m : Int) := ⟨n.toNat, by omega⟩
  have hq : decide ((m : Int) * 4096 ≤ 140737488355328 - (a : Int)) = true := decide_eq_true (by omega)
  have e1 : ((a : Int) % 4096) = 0 := by omega
  have e2 : Int.tmod (a : Int) 4096 = 0 := by rw [Int.tmod_eq_emod_of_nonneg (by omega)]; exact e1
  go_enter Try.func38, Try.ntmps38
  go_wp2_with fail
  go_ret
  exact ⟨rfl, rfl⟩
theorem rrange_no (a : Nat) (n : Int) (w : World) (ha : a < 18446744073709551616) (h : ¬ RangeP a n) :
    Calls Try.prog 38 #[.int .u64 a, .int .i64 n] w fun e w' => e = .returned (.bool false) ∧ w = w' := by
  have em : Int.tmod (a : Int) 4096 = (a : Int) % 4096 := Int.tmod_eq_emod_of_nonneg (by omega)
  by_cases h1 : a % 4096 = 0
  · have e1 : ((a : Int) % 4096) = 0 := by omega
    have e2 : Int.tmod (a : Int) 4096 = 0 := by rw [em]; exact e1
    by_cases h2 : 1 ≤ n
    · by_cases h3 : n ≤ 1024
      · by_cases h4 : a ≤ 140737488355328
        · have h5 : ¬ (a : Int) + n * 4096 ≤ 140737488355328 := fun h5 => h ⟨h1, h2, h3, h4, h5⟩
          obtain ⟨m, rfl⟩ : ∃ m : Nat, n = (m : Int) := ⟨n.toNat, by omega⟩
          have hq : decide ((m : Int) * 4096 ≤ 140737488355328 - (a : Int)) = false := decide_eq_false (by omega)
          clear h em
          go_enter Try.func38, Try.ntmps38
          go_wp2_with fail
          go_ret
          exact ⟨rfl, rfl⟩
        · clear h em
          go_enter Try.func38, Try.ntmps38
          go_wp2_with fail
          go_ret
          exact ⟨rfl, rfl⟩
      · clear h em
        go_enter Try.func38, Try.ntmps38
        go_wp2_with fail
        go_ret
        exact ⟨rfl, rfl⟩
    · clear h em
      go_enter Try.func38, Try.ntmps38
      go_wp2_with fail
      go_ret
      exact ⟨rfl, rfl⟩
  · have e1 : ((a : Int) % 4096 == 0) = false := beq_eq_false_iff_ne.mpr (by omega)
    have e3 : ¬ ((a : Int) % 4096) = 0 := by omega
    have e2 : (Int.tmod (a : Int) 4096 == 0) = false := by rw [em]; exact e1
    clear h em
    go_enter Try.func38, Try.ntmps38
    go_wp2_with fail
    go_ret
    exact ⟨rfl, rfl⟩

set_option maxHeartbeats 1000000 in
theorem rcount_any (w : World) (B : Nat) (L : List RPg) (a n : Nat) (h : RefM w B L) (hr : RiseP L) (hn : n ≤ 1024) (ha : a + n * 4096 ≤ 140737488355328) :
    Calls Try.prog 39 #[.pointer (some ⟨B, 0, none⟩), .int .u64 a, .int .i64 n] w fun e w' => (∃ c : Nat, e = .returned (.int .i64 c) ∧ c ≤ 1024 ∧ (c = 0 ↔ ∀ i, i < n → hasP L (a + i * 4096) = false)) ∧ Below w.heap.size w w' := by
  have H := Lib.hid (fun W (hW : Below w.heap.size w W) x => rfind_any W B L x (h.below hW) hr)
  clear h
  go_enter Try.func39, Try.ntmps39
  go_wp2_with fail
  go_loopw [7, 8, 9, 10] (fun v7 v8 _ _ wr => ∃ i c : Nat, i ≤ n ∧ v8 = .int .i64 i ∧ v7 = .int .i64 c ∧ c ≤ i ∧ Hid (c = 0 ↔ ∀ j, j < i → hasP L (a + j * 4096) = false) ∧ Below w.heap.size w wr) (fun _ v8 _ _ _ => n - (intOf v8).toNat)
  case atStart => exact ⟨0, 0, Nat.zero_le _, rfl, rfl, Nat.le_refl _, Lib.hid ⟨fun _ j hj => by omega, fun _ => rfl⟩, Below.refl _ _⟩
  case round =>
    obtain ⟨i, c, hi, rfl, rfl, hci, HC, hb⟩ := hrel
    have HB := Lib.hid hb
    clear hb
    by_cases hlt : i < n
    · have hin : (i : Int) < (n : Int) := by omega
      obtain ⟨m, hm⟩ : ∃ m, i * 4096 = m := ⟨_, rfl⟩
      obtain ⟨x, hx⟩ : ∃ x, a + m = x := ⟨_, rfl⟩
      have em : (i : Int) * 4096 = (m : Int) := by omega
      have ex : (a : Int) + (m : Int) = (x : Int) := by omega
      have wi : IntKind.u64.wrap (i : Int) = (i : Int) := by rw [IntKind.wrap_u64]; omega
      have wm : IntKind.u64.wrap (m : Int) = (m : Int) := by rw [IntKind.wrap_u64]; omega
      have wx : IntKind.u64.wrap (x : Int) = (x : Int) := by rw [IntKind.wrap_u64]; omega
      have HX := Lib.hid (show a + i * 4096 = x by omega)
      obtain ⟨r, hrr⟩ : ∃ r, hasP L x = r := ⟨_, rfl⟩
      have HF := Lib.hid (H.out _ HB.out x)
      rw [hrr] at HF
      obtain ⟨fx, hfx⟩ : ∃ q, fidx L x = q := ⟨_, rfl⟩
      rw [hfx] at HF
      have HRR := Lib.hid hrr
      have HLT := Lib.hid hlt
      have hc1 : c + 1 ≤ 1024 := by omega
      have HCI := Lib.hid hci
      clear hm hx hrr hfx hlt hi hci
      go_wp2_with fail
      refine HF.out.mono ?_
      rintro e w' ⟨rfl, k, rfl⟩
      have HB2 := Lib.hid (HB.out.trans ((below_dr wr k).mono HB.out.size))
      cases r
      · go_wp2_with fail
        go_roundw
        case rel => exact ⟨i + 1, c, by have := HLT.out; omega, by simp, rfl, by have := HCI.out; omega, Lib.hid (HC.out.trans ⟨fun h j hj => by
          rcases Nat.lt_or_ge j i with h1 | h1
          · exact h j h1
          · obtain rfl : j = i := by omega
            rw [HX.out]; exact HRR.out, fun h j hj => h j (by omega)⟩), HB2.out⟩
        case measure =>
          have := HLT.out
          simp [intOf]
          omega
      · go_wp2_with fail
        go_roundw
        case rel => exact ⟨i + 1, c + 1, by have := HLT.out; omega, by simp, by simp, by have := HCI.out; omega, Lib.hid ⟨fun h => by omega, fun h => by
          have := h i (by omega)
          rw [HX.out, HRR.out] at this
          cases this⟩, HB2.out⟩
        case measure =>
          have := HLT.out
          simp [intOf]
          omega
    · obtain rfl : i = n := by omega
      have hii : ¬ (i : Int) < (i : Int) := by omega
      go_wp2_with fail
      go_ret
      exact ⟨⟨c, rfl, by omega, HC.out⟩, HB.out⟩

/-- There is room, as the document has it. -/
def RoomR (L : List RPg) (a : Nat) (n : Int) : Prop := a % 65536 = 0 ∧ 65536 ≤ a ∧ RangeP a n ∧ ∀ i : Nat, (i : Int) < n → hasP L (a + i * 4096) = false
set_option maxHeartbeats 1000000 in
theorem ris_any (w : World) (B : Nat) (L : List RPg) (a : Nat) (n : Int) (h : RefM w B L) (hr : RiseP L) (ha : a < 18446744073709551616) :
    Calls Try.prog 20 #[.pointer (some ⟨B, 0, none⟩), .int .u64 a, .int .i64 n] w fun e w' => (e = .returned (.bool true) ∧ RoomR L a n ∨ e = .returned (.bool false) ∧ ¬ RoomR L a n) ∧ Below w.heap.size w w' := by
  have em : Int.tmod (a : Int) 65536 = (a : Int) % 65536 := Int.tmod_eq_emod_of_nonneg (by omega)
  by_cases h1 : a % 65536 = 0
  · have e1 : ((a : Int) % 65536) = 0 := by omega
    have e2 : Int.tmod (a : Int) 65536 = 0 := by rw [em]; exact e1
    by_cases h2 : 65536 ≤ a
    · by_cases h3 : RangeP a n
      · obtain ⟨m, rfl⟩ : ∃ m : Nat, n = (m : Int) := ⟨n.toNat, by have := h3.2.1; omega⟩
        have HR := Lib.hid (fun W => rrange_yes a m W h3)
        have HC := Lib.hid (rcount_any w B L a m h hr (by have := h3.2.2.1; omega) (by have := h3.2.2.2.2; omega))
        have HROOM := Lib.hid (show (∀ i, i < m → hasP L (a + i * 4096) = false) ↔ RoomR L a m from ⟨fun h => ⟨h1, h2, h3, fun i hi => h i (by omega)⟩, fun h i hi => h.2.2.2 i (by omega)⟩)
        clear h em h3 h1
        go_enter Try.func20, Try.ntmps20
        go_wp2_with fail
        refine (HR.out _).mono ?_
        rintro e w' ⟨rfl, rfl⟩
        go_wp2_with fail
        refine HC.out.mono ?_
        rintro e w' ⟨⟨c, rfl, hc, hiff⟩, hb⟩
        have HI := Lib.hid (hiff.trans HROOM.out)
        have HB := Lib.hid hb
        clear hiff hb
        by_cases hc0 : c = 0
        · subst hc0
          go_wp2_with fail
          refine bodyPost_ret (v := .bool true) (by simp [results, Try.results20, go_sem]) rfl ⟨.inl ⟨rfl, HI.out.mp trivial⟩, HB.out⟩
        · have hq : ((c : Int) == 0) = false := beq_eq_false_iff_ne.mpr (by omega)
          have hne : ¬ (c : Int) = 0 := by omega
          have HNE := Lib.hid (show ¬ RoomR L a m from fun h => hc0 (HI.out.mpr h))
          clear hc0
          go_wp2_with fail
          refine bodyPost_ret (v := .bool false) (by simp [results, Try.results20, go_sem, hq, hne]) rfl ⟨.inr ⟨rfl, HNE.out⟩, HB.out⟩
      · have HR := Lib.hid (fun W => rrange_no a n W ha h3)
        have HNE := Lib.hid (show ¬ RoomR L a n from fun h => h3 h.2.2.1)
        clear h em h3 h1
        go_enter Try.func20, Try.ntmps20
        go_wp2_with fail
        refine (HR.out _).mono ?_
        rintro e w' ⟨rfl, rfl⟩
        go_wp2_with fail
        refine bodyPost_ret (v := .bool false) (by simp [results, Try.results20, go_sem]) rfl ⟨.inr ⟨rfl, HNE.out⟩, Below.refl _ _⟩
    · have HNE := Lib.hid (show ¬ RoomR L a n from fun h => h2 h.2.1)
      clear h em h1
      go_enter Try.func20, Try.ntmps20
      go_wp2_with fail
      refine bodyPost_ret (v := .bool false) (by simp [results, Try.results20, go_sem]) rfl ⟨.inr ⟨rfl, HNE.out⟩, Below.refl _ _⟩
  · have e1 : ((a : Int) % 65536 == 0) = false := beq_eq_false_iff_ne.mpr (by omega)
    have e3 : ¬ ((a : Int) % 65536) = 0 := by omega
    have e2 : (Int.tmod (a : Int) 65536 == 0) = false := by rw [em]; exact e1
    have HNE := Lib.hid (show ¬ RoomR L a n from fun h => h1 h.1)
    clear h em
    go_enter Try.func20, Try.ntmps20
    go_wp2_with fail
    refine bodyPost_ret (v := .bool false) (by simp [results, Try.results20, go_sem]) rfl ⟨.inr ⟨rfl, HNE.out⟩, Below.refl _ _⟩
end Go.Proofs.Ytlifaldbdjcgjaa
