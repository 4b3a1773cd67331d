/- package hdr: where the head begins. -/
import Derived.Test.YtplgdpjbkdagfaaGreatHdrA
import Derived.Test.YtplgdpjbkdagfaaGreatBl2
namespace Go.Proofs.YtplgdpjbkdagfaaGreat
set_option maxRecDepth 100000
open Go.ChangeShapes Go.WideShapes Go.ChangeAt Go.RowKit
set_option linter.unusedVariables false
set_option linter.unusedSimpArgs false

theorem pe_prefix (xs : List Int) (h : ∀ x ∈ xs, 0 ≤ x ∧ x ≤ 255) (h4 : 4 ≤ xs.length) :
    Lib.hasPrefix (Lib.bytesOf xs) (Lib.bytesOf [80, 69, 0, 0]) = decide (xs[0]! = 80 ∧ xs[1]! = 69 ∧ xs[2]! = 0 ∧ xs[3]! = 0) := by
  match xs, h4 with
  | a :: b :: c :: d :: r, _ =>
    have ha := h a (by simp)
    have hb := h b (by simp)
    have hc := h c (by simp)
    have hd := h d (by simp)
    have e : ∀ (x : Int) (n : Nat), 0 ≤ x ∧ x ≤ 255 → n ≤ 255 → ((UInt8.ofNat n == UInt8.ofNat x.toNat) = decide (x = n)) := fun x n hx hn => by
      rw [Bool.eq_iff_iff, beq_iff_eq, decide_eq_true_eq]
      constructor
      · intro h
        have h2 := congrArg UInt8.toNat h
        simp at h2
        omega
      · rintro rfl
        simp
    unfold Lib.hasPrefix Lib.bytesOf
    simp only [List.map_cons, List.map_nil, List.isPrefixOf]
    rw [show ((80 : Int)).toNat = 80 from rfl, show ((69 : Int)).toNat = 69 from rfl, show ((0 : Int)).toNat = 0 from rfl, e a 80 ha (by omega), e b 69 hb (by omega), e c 0 hc (by omega), e d 0 hd (by omega)]
    simp

set_option maxRecDepth 100000 in
theorem begin_any (b off n cap : Nat) (f : Nat → Int) (w : World) (h : RowB w b off n cap f) :
    Calls Tryz.prog 61 #[.slice (some ⟨b, off, none⟩) n cap] w fun e w' => e = .returned (.tuple #[.int .i64 (beginS n f).1, .int .i64 (beginS n f).2]) ∧ Below w.heap.size w w' := by
  have hlc := h.len
  have hmc := h.most
  have HH := Lib.hid h
  clear h
  unfold beginS
  by_cases c0 : n < 64
  · rw [if_pos c0]
    have c0' : (n : Int) < 64 := by omega
    clear c0
    go_enter Tryz.func61, Tryz.ntmps61
    go_wp2_with fail
    go_ret2
    exact ⟨rfl, by go_grown⟩
  · rw [if_neg c0]
    have n64 : 64 ≤ n := by omega
    clear c0
    have r0 := HH.out.row 0 (by omega)
    have r1 := HH.out.row 1 (by omega)
    rw [Nat.add_zero] at r0
    have b0 := HH.out.by255 0
    have b1 := HH.out.by255 1
    generalize f 0 = x0 at *
    generalize f 1 = x1 at *
    by_cases c1 : x0 ≠ 77 ∨ x1 ≠ 90
    · rw [if_pos c1]
      rcases (show (x0 != 77) = true ∨ (x0 = 77 ∧ (x1 != 90) = true) by
        by_cases d : x0 = 77
        · right; exact ⟨d, by simp; omega⟩
        · left; simpa using d) with e0 | ⟨rfl, e1⟩
      all_goals
        clear c1
        go_enter Tryz.func61, Tryz.ntmps61
        go_wp2_with fail
        go_ret2
        exact ⟨rfl, by go_grown⟩
    · rw [if_neg c1]
      obtain rfl : x0 = 77 := by omega
      obtain rfl : x1 = 90 := by omega
      have hu := hu32 b off n cap f 60 w HH.out (by omega)
      have hpb := rdF_bd f HH.out.by255 4 60
      obtain ⟨p, hp⟩ : ∃ p, rdF f 60 4 = p := ⟨_, rfl⟩
      rw [hp] at hu hpb ⊢
      obtain ⟨p0, p1⟩ := hpb
      have p2 : p < 4294967296 := by omega
      have HU := Lib.hid hu
      clear hu hp c1 b0 b1 p1
      by_cases c2 : p < 64 ∨ p % 4 ≠ 0 ∨ (n : Int) < p + 264
      · rw [if_pos c2]
        rcases (show (p < 64) ∨ (64 ≤ p ∧ (p % 4 != 0) = true) ∨ (64 ≤ p ∧ (p % 4 != 0) = false ∧ (n : Int) < p + 264) by
          by_cases d : p < 64
          · exact .inl d
          · by_cases d2 : p % 4 = 0
            · exact .inr (.inr ⟨by omega, by simp [d2], by omega⟩)
            · exact .inr (.inl ⟨by omega, by simpa using d2⟩)) with e0 | ⟨e0, e1⟩ | ⟨e0, e1, e2⟩
        all_goals
          clear c2
          go_enter Tryz.func61, Tryz.ntmps61
          go_wp2_with (go_fit HU.out; rintro e w' ⟨rfl, rfl⟩)
          go_ret2
          exact ⟨rfl, by go_grown⟩
      · rw [if_neg c2]
        have e0 : 64 ≤ p := by omega
        have e1 : (p % 4 != 0) = false := by simp; omega
        have e2 : p + 264 ≤ n := by omega
        obtain ⟨P, rfl⟩ : ∃ P : Nat, p = P := ⟨p.toNat, by omega⟩
        rw [Int.toNat_natCast]
        have hPn : P + 264 ≤ n := by omega
        have hne : ¬ cap = P := by omega
        have hPl : P ≤ n := by omega
        have hxs : (listF (fun i => f (P + i)) (n - P)).length = n - P := listF_len _ _
        have hb : ∀ x ∈ listF (fun i => f (P + i)) (n - P), 0 ≤ x ∧ x ≤ 255 := Bs.listF (fun i => HH.out.by255 (P + i)) (n - P)
        have hpf := pe_prefix _ hb (by omega)
        have hg : ∀ j, j < 4 → (listF (fun i => f (P + i)) (n - P))[j]! = f (P + j) := fun j hj => by
          rw [getElem!_pos _ _ (by omega)]
          simp [listF]
        rw [hg 0 (by omega), hg 1 (by omega), hg 2 (by omega), hg 3 (by omega), Nat.add_zero] at hpf
        have hpx := Tryz.bytes_HasPrefix_all (some ⟨b, off + P, none⟩) (some ⟨w.heap.size, 0, none⟩) (n - P) (cap - P) 4 4 (listF (fun i => f (P + i)) (n - P)) [80, 69, 0, 0] (w.alloc (.cells #[.int .u8 80, .int .u8 69, .int .u8 0, .int .u8 0] 5)) hxs rfl (by omega)
          (fun _ => ⟨b, off + P, rfl, fun i hi => by
            have h := (HH.out.row.below ((Below.refl w.heap.size w).alloc (Nat.le_refl _) (.cells #[.int .u8 80, .int .u8 69, .int .u8 0, .int .u8 0] 5)) HH.out.lt) (P + i) (by omega)
            rw [← Nat.add_assoc] at h
            rw [h]
            simp [listF, hi]⟩)
          (fun _ => ⟨w.heap.size, 0, rfl, fun i hi => by
            rw [Nat.zero_add, cell_of_row (w.alloc (.cells #[.int .u8 80, .int .u8 69, .int .u8 0, .int .u8 0] 5)) w.heap.size i _ _ (0, 0) (heap_alloc_new w _)]
            rcases (by omega : i = 0 ∨ i = 1 ∨ i = 2 ∨ i = 3) with rfl | rfl | rfl | rfl <;> rfl⟩)
        rw [hpf] at hpx
        have HPX := Lib.hid hpx
        clear hpx hpf hg hb hxs c2
        by_cases c3 : f P ≠ 80 ∨ f (P + 1) ≠ 69 ∨ f (P + 2) ≠ 0 ∨ f (P + 3) ≠ 0
        · rw [if_pos c3]
          rw [decide_eq_false (by omega)] at HPX
          clear c3 p2 p0
          go_enter Tryz.func61, Tryz.ntmps61
          go_wp2_with fail
          go_fit HU.out
          rintro e w' ⟨rfl, rfl⟩

          go_wp2_with fail

          go_fit HPX.out
          rintro e w' ⟨rfl, rfl⟩
          go_wp2_with fail
          go_ret2
          exact ⟨rfl, by go_grown⟩
        · rw [if_neg c3]
          rw [decide_eq_true (by omega)] at HPX
          clear c3 p2 p0
          go_enter Tryz.func61, Tryz.ntmps61
          go_wp2_with fail
          go_fit HU.out
          rintro e w' ⟨rfl, rfl⟩

          go_wp2_with fail

          go_fit HPX.out
          rintro e w' ⟨rfl, rfl⟩
          go_wp2_with fail
          go_ret2
          exact ⟨rfl, by go_grown⟩
end Go.Proofs.YtplgdpjbkdagfaaGreat
