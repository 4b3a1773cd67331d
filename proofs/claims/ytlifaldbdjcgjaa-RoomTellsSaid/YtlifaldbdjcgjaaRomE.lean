/- The document's memory of pages (slipwayref3): pages are mapped. -/
import Derived.Test.YtlifaldbdjcgjaaRomD
namespace Go.Proofs.Ytlifaldbdjcgjaa
open Go.ChangeShapes Go.WideShapes Go.ChangeAt Go.RowKit
set_option linter.unusedVariables false
set_option linter.unusedSimpArgs false
set_option maxRecDepth 100000

def page0R : ByteArray := strF (fun _ => 0) 0 4096
theorem str_page0 {w : World} {g : Nat} (h : Own w g 4096 (fun _ => .int .u8 0)) :
    (convert 43 9 (.slice (some ⟨g, 0, none⟩) (4096 : Nat) 4096)).run Try.prog w = .ok (.string page0R) w :=
  run_str (f := fun _ => 0) (fun i hi => by rw [show (0 : Nat) + i = i by omega, (h.2 i hi).1])
theorem infoRP : (Try.prog.info? 76).map (fun i => (i.zero, i.size, i.bytes)) = some (some (.agg #[.int .u64 0, .int .i64 0, .string ByteArray.empty]), 3, 32) := by kernel_rfl
theorem rpCells (y : RPg) (w : World) : ∀ j u, (rpC y)[j]? = some u → (w.alloc (.cells #[.int .u64 y.at', .int .i64 y.prot, .string y.txt] 76)).cell? ⟨w.heap.size, j, none⟩ = some u := by
  intro j u hu
  rcases j with _ | _ | _ | j
  · simp [rpC] at hu; subst hu; simp [go_sem]
  · simp [rpC] at hu; subst hu; simp [go_sem]
  · simp [rpC] at hu; subst hu; simp [go_sem]
  · simp [rpC] at hu
theorem infoU8R : (Try.prog.info? 5).map (fun i => (i.zero, i.size, i.bytes)) = some (some (.int .u8 0), 1, 1) := by kernel_rfl

set_option maxHeartbeats 1000000 in
theorem rmap_taken (w : World) (B : Nat) (L : List RPg) (a n : Nat) (h : RefM w B L) (hr : RiseP L) (hra : RangeP a n) (ht : ∃ i, i < n ∧ hasP L (a + i * 4096) = true) :
    Calls Try.prog 19 #[.pointer (some ⟨B, 0, none⟩), .int .u64 a, .int .i64 n, .int .i64 1] w fun e w' => e = .returned (.int .i64 1) ∧ Below w.heap.size w w' := by
  have HR := Lib.hid (fun W => rrange_yes a n W hra)
  have HC := Lib.hid (rcount_any w B L a n h hr (by have := hra.2.2.1; omega) (by have := hra.2.2.2.2; omega))
  have HT := Lib.hid ht
  clear h hr hra ht
  go_enter Try.func19, Try.ntmps19
  go_wp2_with fail
  refine (HR.out _).mono ?_
  rintro e w' ⟨rfl, rfl⟩
  go_wp2_with fail
  refine HC.out.mono ?_
  rintro e w' ⟨⟨c, rfl, hc, hiff⟩, hb⟩
  have hc0 : (0 : Int) < (c : Int) := by
    rcases Nat.eq_zero_or_pos c with h0 | h0
    · obtain ⟨i, hi, h1⟩ := HT.out
      rw [hiff.mp h0 i hi] at h1
      cases h1
    · omega
  have HB := Lib.hid hb
  clear hiff hb HC HT
  go_wp2_with fail
  go_ret
  exact ⟨rfl, HB.out⟩

/-- The pages lie in a new block. -/
def NewRow (w w' : World) (B : Nat) : Prop := ∃ g n c, w'.heap[B]? = some (.cells #[.slice (some ⟨g, 0, none⟩) n c, .int .i64 1024] 73 (0, 0)) ∧ w.heap.size ≤ g ∧ g < w'.heap.size
set_option maxHeartbeats 4000000 in
theorem rmap_free (w : World) (B : Nat) (L : List RPg) (a n : Nat) (h : RefM w B L) (hr : RiseP L) (hra : RangeP a n) (hf : ∀ i, i < n → hasP L (a + i * 4096) = false) (hfit : L.length + n ≤ 1024) :
    Calls Try.prog 19 #[.pointer (some ⟨B, 0, none⟩), .int .u64 a, .int .i64 n, .int .i64 1] w fun e w' => e = .returned (.int .i64 0) ∧ RefM w' B (insP L a n page0R) ∧ w.grownBy w' (some B) ∧ NewRow w w' B := by
  have HR := Lib.hid (fun W => rrange_yes a n W hra)
  have HC := Lib.hid (rcount_any w B L a n h hr (by have := hra.2.2.1; omega) (by have := hra.2.2.2.2; omega))
  have HFI := Lib.hid (fun W (hW : Below w.heap.size w W) => rfind_any W B L a (h.below hW) hr)
  have hlk := fidx_le L a
  obtain ⟨k, hk⟩ : ∃ k, fidx L a = k := ⟨_, rfl⟩
  have HINS := Lib.hid (show insP L a n page0R = L.take k ++ newP a n page0R ++ L.drop k from by unfold insP; rw [hk])
  rw [hk] at HFI hlk
  have hlt := h.lt
  obtain ⟨A, c, hrow, hsl, _, hlc, hcm, hA⟩ := h
  have HROW := Lib.hid (fun W (hW : Below w.heap.size w W) => show W.heap[B]? = some (.cells #[.slice A L.length c, .int .i64 1024] 73 (0, 0)) from (hW.block B hlt).trans hrow)
  have HSL := Lib.hid (fun W (hW : Below w.heap.size w W) => hsl.below hW)
  have HF := Lib.hid hf
  have hn1 := hra.2.1
  have hn2 := hra.2.2.1
  have hab := hra.2.2.2.2
  have HLT := Lib.hid hlt
  have HCC := Lib.hid (And.intro hlc hcm)
  have HAA := Lib.hid hA
  generalize hasP L a = hp at *
  obtain ⟨len, hlen⟩ : ∃ q, L.length = q := ⟨_, rfl⟩
  have HLEN := Lib.hid hlen
  rw [hlen] at hfit hlk HROW HCC hlc
  clear hrow hsl hf hr hra hk hlt hlc hcm hA hlen
  go_enter Try.func19, Try.ntmps19
  go_wp2_with fail
  refine (HR.out _).mono ?_
  rintro e w' ⟨rfl, rfl⟩
  go_wp2_with fail
  refine HC.out.mono ?_
  rintro e w1 ⟨⟨c1, rfl, hc, hiff⟩, hb⟩
  obtain rfl : c1 = 0 := hiff.mpr HF.out
  have HB1 := Lib.hid hb
  have hrow1 := HROW.out w1 hb
  have c0 : w1.cell? ⟨B, 0, none⟩ = some (.slice A len c) := by rw [cell_of_row _ _ _ _ _ _ hrow1]; rfl
  have c1 : w1.cell? ⟨B, 1, none⟩ = some (.int .i64 1024) := by rw [cell_of_row _ _ _ _ _ _ hrow1]; rfl
  have hgt : ¬ (1024 : Int) - (len : Int) < (n : Int) := by omega
  clear hiff hb hc hrow1 HC HF
  go_wp2_with fail
  go_quiet (fail)
  -- MARKA
  have HB2 := Lib.hid (HB1.out.trans ((below_dr w1 nq).mono HB1.out.size))
  clear c0 c1 hgt HB1
  go_wp2_with fail
  refine (HFI.out _ HB2.out).mono ?_
  rintro e w' ⟨rfl, k2, rfl⟩
  have HB3 := Lib.hid (HB2.out.trans ((below_dr (w1.drewN nq) k2).mono HB2.out.size))
  obtain ⟨w3, hw3⟩ : ∃ q, (w1.drewN nq).drewN k2 = q := ⟨_, rfl⟩
  rw [hw3] at HB3
  rw [hw3]
  clear hw3 HFI HB2
  go_wp2_with fail
  -- MARKB
  go_loopw [11, 12] (fun v11 v12 wr => ∃ (i : Nat) (A' : Option Addr) (c' : Nat), i ≤ n ∧ v12 = .int .i64 i ∧ v11 = .slice A' i c' ∧ OwnT rpC 3 wr w.heap.size 76 (.slice A' i c') (newP a i page0R) ∧ Below w.heap.size w wr) (fun _ v12 _ => n - (intOf v12).toNat)
  case atStart => exact ⟨0, none, 0, Nat.zero_le _, rfl, rfl, OwnT.nil _ _ _, HB3.out⟩
  case round =>
    obtain ⟨i, A', c', hi, rfl, rfl, hown, hb⟩ := hrel
    have HO := Lib.hid hown
    have HB := Lib.hid hb
    clear hown hb
    by_cases hlt : i < n
    · have hin : (i : Int) < (n : Int) := by omega
      obtain ⟨m, hm⟩ : ∃ m, i * 4096 = m := ⟨_, rfl⟩
      obtain ⟨x, hx⟩ : ∃ x, a + m = x := ⟨_, rfl⟩
      have em : (i : Int) * 4096 = (m : Int) := by omega
      have ex : (a : Int) + (m : Int) = (x : Int) := by omega
      have wi : IntKind.u64.wrap (i : Int) = (i : Int) := by rw [IntKind.wrap_u64]; omega
      have wm : IntKind.u64.wrap (m : Int) = (m : Int) := by rw [IntKind.wrap_u64]; omega
      have wx : IntKind.u64.wrap (x : Int) = (x : Int) := by rw [IntKind.wrap_u64]; omega
      have HX := Lib.hid (show newP a (i + 1) page0R = newP a i page0R ++ [⟨x, 1, page0R⟩] from by rw [newP_succ, hm, hx])
      have HG4 := Lib.hid (show (newP a i page0R).length + 1 ≤ maxLen from by rw [newP_len]; unfold maxLen; omega)
      have HG5 := Lib.hid (show ((newP a i page0R).length + 1) * 32 ≤ 140737488355328 from by rw [newP_len]; omega)
      have HPREP := Lib.hid (show ∀ w4, Below wr.heap.size wr w4 → OwnT rpC 3 (w4.alloc (.cells #[.int .u64 x, .int .i64 1, .string page0R] 76)) w.heap.size 76 (.slice A' (newP a i page0R).length c') (newP a i page0R) ∧ w.heap.size ≤ (w4.alloc (.cells #[.int .u64 x, .int .i64 1, .string page0R] 76)).heap.size ∧ Below w.heap.size w (w4.alloc (.cells #[.int .u64 x, .int .i64 1, .string page0R] 76)) from fun w4 h => by
        have h1 : OwnT rpC 3 wr w.heap.size 76 (.slice A' (newP a i page0R).length c') (newP a i page0R) := by rw [newP_len]; exact HO.out
        have h2 := HB.out.trans (h.mono HB.out.size)
        exact ⟨(h1.below h).alloc _, by have := h2.size; simp; omega, h2.alloc h2.size _⟩)
      have HY := Lib.hid (fun w4 : World => rpCells ⟨x, 1, page0R⟩ w4)
      have HLI := Lib.hid hlt
      have HLN := Lib.hid (newP_len a i page0R)
      clear hm hx hlt hi
      go_wp2_with (first
        | (at_make; refine wpList_make_bytes _ rfl _ _ 43 rfl 5 (.int .u8 0) 1 (by kernel_rfl) infoU8R rfl .i64 .i64 4096 (by simp [Act.eval, Act.put]) (by simp [Act.eval, Act.put]) (by omega) (by omega) ?_; intro w4 hw4 ho4
           have hcv := str_page0 ho4
           obtain ⟨hpr1, hpr2, hpr3⟩ := HPREP.out w4 hw4
           have HA := Lib.hid hpr1
           have HG6 := Lib.hid hpr2
           have HB4 := Lib.hid hpr3
           have HY4 := Lib.hid (HY.out w4)
           clear hw4 ho4 hpr1 hpr2 hpr3)
        | (at_builtin; refine wpList_appT rfl (.tmp 57) (.tmp 67) 71 rfl w.heap.size 76 _ 32 rfl infoRP rfl (by omega) rpC_len rpC_one _ (newP a i page0R) (by rw [HLN.out]; rfl) HA.out w4.heap.size 1 rfl ⟨x, 1, page0R⟩ HY4.out HG4.out HG5.out HG6.out ?_; intro g5 c5 w5 hown5 hg5 hat5
           have HN5 := Lib.hid hown5
           have HG7 := Lib.hid hg5
           clear hown5 hg5 hat5)
        | fail)
      -- MARKC
      have HG8 := Lib.hid (show Below w.heap.size w w5 from HA.out.grew HB4.out (Nat.le_refl _) HB4.out.size HG7.out)
      go_roundw
      case rel => exact ⟨i + 1, some ⟨g5, 0, none⟩, c5, by have := HLI.out; omega, by simp, by rw [HLN.out], by rw [HX.out]; have h := HN5.out; rw [HLN.out] at h; exact h, HG8.out⟩
      case measure =>
        have := HLI.out
        simp [intOf]
        omega
    · obtain rfl : n = i := by omega
      have hii : ¬ (n : Int) < (n : Int) := by omega
      have HEK := Lib.hid (show (L.take k).length = k from by rw [List.length_take, HLEN.out]; omega)
      have HED := Lib.hid (show (L.drop k).length = len - k from by rw [List.length_drop, HLEN.out])
      have HT2 := Lib.hid (show ∀ W, Below wr.heap.size wr W → SlT rpC 3 W A' (newP a n page0R) from fun W hW => by
        have h : OwnT rpC 3 wr w.heap.size 76 (.slice A' (newP a n page0R).length c') (newP a n page0R) := by rw [newP_len]; exact HO.out
        exact (h.sl rpC_len).below hW)
      have HTG := Lib.hid (show ∀ W, Below wr.heap.size wr W → wr.grownBy W (some B) from fun W hW => only_below (grown_self wr B) hW)
      have HT0 := Lib.hid (show ∀ W, Below wr.heap.size wr W → SlT rpC 3 W A L from fun W hW => HSL.out W (HB.out.trans (hW.mono HB.out.size)))
      have hkl : k ≤ len := hlk
      have hcc := HCC.out.1
      have hcm := HCC.out.2
      unfold maxLen at hcm
      rcases HAA.out with ⟨rfl, rfl⟩ | ⟨b, rfl⟩
      · obtain rfl : len = 0 := by omega
        obtain rfl : k = 0 := by omega
        have HTR := Lib.hid (show ∀ W, Below wr.heap.size wr W → W.heap[B]? = some (.cells #[.slice none 0 0, .int .i64 1024] 73 (0, 0)) from fun W hW => HROW.out W (HB.out.trans (hW.mono HB.out.size)))
        have hl0 : L = [] := List.eq_nil_of_length_eq_zero HLEN.out
        have HT1 := Lib.hid (show ∀ W, Below wr.heap.size wr W → SlT rpC 3 W none (L.take 0) from fun W hW => .inl rfl)
        have HT3 := Lib.hid (show ∀ W, Below wr.heap.size wr W → SlT rpC 3 W none (L.drop 0) from fun W hW => .inl (by rw [hl0]; rfl))
        clear hl0
        go_wp2_with fail
        -- MARKDN
        have HS := Lib.hid (show wr.grownBy wr.drew (some B) from ⟨rfl, rfl, rfl, Nat.le_refl _, fun _ _ _ => rfl⟩)
        have HR0 := Lib.hid (show wr.drew.heap[B]? = some (.cells #[(.slice none 0 0), .int .i64 1024] 73 (0, 0)) from HROW.out wr HB.out)
        have HC0 := Lib.hid (show ∀ W : World, W.heap[B]? = some (.cells #[(.slice none 0 0), .int .i64 1024] 73 (0, 0)) → W.cell? ⟨B, 0, none⟩ = some (.slice none 0 0) from fun W h => by rw [cell_of_row _ _ _ _ _ _ h]; rfl)
        refine wp_region_noPanic ?_
        refine wp_region_K (fun W => wr.grownBy W (some B)) (fun W => W.heap[B]? = some (.cells #[(.slice none 0 0), .int .i64 1024] 73 (0, 0))) 20 (by kernel_rfl) ?_
        refine wpAnyK_take (i := 0) (oi := ?_) (v := ?_) ?_ (by kernel_rfl) (by kernel_rfl) (by kernel_rfl) (fun _ _ _ h => h) (by decide) ?_ HS.out (fun _ => HR0.out) ?_
        rotate_left 2
        · (simp only [List.getElem?_toArray, List.getElem?_cons_succ, List.getElem?_cons_zero]; rfl)
        · (first | exact Or.inr ⟨by rfl, rfl⟩ | (refine Or.inl ⟨by rfl, ?_⟩; intro W hSw; clear hSw; go_simp; try with_reducible rfl))
        try simp only [Act.put, List.setIfInBounds_toArray, List.set_cons_zero, List.set_cons_succ]
        refine wpAnyK_take (i := 2) (oi := ?_) (v := ?_) ?_ (by kernel_rfl) (by kernel_rfl) (by kernel_rfl) (fun _ _ _ h => h) (by decide) ?_ HS.out (fun _ => HR0.out) ?_
        rotate_left 2
        · (simp only [List.getElem?_toArray, List.getElem?_cons_succ, List.getElem?_cons_zero]; rfl)
        · (first | exact Or.inr ⟨by rfl, rfl⟩ | (refine Or.inl ⟨by rfl, ?_⟩; intro W hSw; clear hSw; go_simp; try with_reducible rfl))
        try simp only [Act.put, List.setIfInBounds_toArray, List.set_cons_zero, List.set_cons_succ]
        refine wpAnyK_take (i := 3) (oi := ?_) (v := ?_) ?_ (by kernel_rfl) (by kernel_rfl) (by kernel_rfl) (fun _ _ _ h => h) (by decide) ?_ HS.out (fun _ => HR0.out) ?_
        rotate_left 2
        · (simp only [List.getElem?_toArray, List.getElem?_cons_succ, List.getElem?_cons_zero]; rfl)
        · (first | exact Or.inr ⟨by rfl, rfl⟩ | (refine Or.inl ⟨by rfl, ?_⟩; intro W hSw; clear hSw; go_simp; try with_reducible rfl))
        try simp only [Act.put, List.setIfInBounds_toArray, List.set_cons_zero, List.set_cons_succ]
        refine wpAnyK_take (i := 4) (oi := ?_) (v := ?_) ?_ (by kernel_rfl) (by kernel_rfl) (by kernel_rfl) (fun _ _ _ h => h) (by decide) ?_ HS.out (fun _ => HR0.out) ?_
        rotate_left 2
        · (simp only [List.getElem?_toArray, List.getElem?_cons_succ, List.getElem?_cons_zero]; rfl)
        · (first | exact Or.inr ⟨by rfl, rfl⟩ | (refine Or.inl ⟨by rfl, ?_⟩; intro W hSw; clear hSw; go_simp; try with_reducible rfl))
        try simp only [Act.put, List.setIfInBounds_toArray, List.set_cons_zero, List.set_cons_succ]
        refine wpAnyK_early (i := 5) (m := 7) (oi := ?_) (v := ?_) ?_ (by kernel_rfl) (by kernel_rfl) (by kernel_rfl) (fun _ _ _ h => h) (by decide) (by kernel_rfl) (by kernel_rfl) (by kernel_rfl) (by kernel_rfl) ?_ HS.out HR0.out ?_
        rotate_left 2
        · (simp only [List.getElem?_toArray, List.getElem?_cons_succ, List.getElem?_cons_zero]; rfl)
        · (refine Or.inl ⟨by rfl, ?_⟩; intro W hSw; have hq := HC0.out W hSw.2; clear hSw; go_simp; try with_reducible rfl)
        try simp only [Act.put, List.setIfInBounds_toArray, List.set_cons_zero, List.set_cons_succ]
        refine wpAnyK_take (i := 6) (oi := ?_) (v := ?_) ?_ (by kernel_rfl) (by kernel_rfl) (by kernel_rfl) (fun _ _ _ h => h) (by decide) ?_ HS.out (fun _ => HR0.out) ?_
        rotate_left 2
        · (simp only [List.getElem?_toArray, List.getElem?_cons_succ, List.getElem?_cons_zero]; rfl)
        · (first | exact Or.inr ⟨by rfl, rfl⟩ | (refine Or.inl ⟨by rfl, ?_⟩; intro W hSw; clear hSw; go_simp; try with_reducible rfl))
        try simp only [Act.put, List.setIfInBounds_toArray, List.set_cons_zero, List.set_cons_succ]
        refine wpAnyK_take (i := 7) (oi := ?_) (v := ?_) ?_ (by kernel_rfl) (by kernel_rfl) (by kernel_rfl) (fun _ _ _ h => h) (by decide) ?_ HS.out (fun _ => HR0.out) ?_
        rotate_left 2
        · (simp only [List.getElem?_toArray, List.getElem?_cons_succ, List.getElem?_cons_zero]; rfl)
        · (first | exact Or.inr ⟨by rfl, rfl⟩ | (refine Or.inl ⟨by rfl, ?_⟩; intro W hSw; clear hSw; go_simp; try with_reducible rfl))
        try simp only [Act.put, List.setIfInBounds_toArray, List.set_cons_zero, List.set_cons_succ]
        refine wpAnyK_take (i := 9) (oi := ?_) (v := ?_) ?_ (by kernel_rfl) (by kernel_rfl) (by kernel_rfl) (fun _ _ _ h => h) (by decide) ?_ HS.out (fun _ => HR0.out) ?_
        rotate_left 2
        · (simp only [List.getElem?_toArray, List.getElem?_cons_succ, List.getElem?_cons_zero]; rfl)
        · (first | exact Or.inr ⟨by rfl, rfl⟩ | (refine Or.inl ⟨by rfl, ?_⟩; intro W hSw; clear hSw; go_simp; try with_reducible rfl))
        try simp only [Act.put, List.setIfInBounds_toArray, List.set_cons_zero, List.set_cons_succ]
        refine wpAnyK_take (i := 11) (oi := ?_) (v := ?_) ?_ (by kernel_rfl) (by kernel_rfl) (by kernel_rfl) (fun _ _ _ h => h) (by decide) ?_ HS.out (fun _ => HR0.out) ?_
        rotate_left 2
        · (simp only [List.getElem?_toArray, List.getElem?_cons_succ, List.getElem?_cons_zero]; rfl)
        · (first | exact Or.inr ⟨by rfl, rfl⟩ | (refine Or.inl ⟨by rfl, ?_⟩; intro W hSw; clear hSw; go_simp; try with_reducible rfl))
        try simp only [Act.put, List.setIfInBounds_toArray, List.set_cons_zero, List.set_cons_succ]
        refine wpAnyK_take (i := 12) (oi := ?_) (v := ?_) ?_ (by kernel_rfl) (by kernel_rfl) (by kernel_rfl) (fun _ _ _ h => h) (by decide) ?_ HS.out (fun _ => HR0.out) ?_
        rotate_left 2
        · (simp only [List.getElem?_toArray, List.getElem?_cons_succ, List.getElem?_cons_zero]; rfl)
        · (first | exact Or.inr ⟨by rfl, rfl⟩ | (refine Or.inl ⟨by rfl, ?_⟩; intro W hSw; clear hSw; go_simp; try with_reducible rfl))
        try simp only [Act.put, List.setIfInBounds_toArray, List.set_cons_zero, List.set_cons_succ]
        refine wpAnyK_take (i := 13) (oi := ?_) (v := ?_) ?_ (by kernel_rfl) (by kernel_rfl) (by kernel_rfl) (fun _ _ _ h => h) (by decide) ?_ HS.out (fun _ => HR0.out) ?_
        rotate_left 2
        · (simp only [List.getElem?_toArray, List.getElem?_cons_succ, List.getElem?_cons_zero]; rfl)
        · (first | exact Or.inr ⟨by rfl, rfl⟩ | (refine Or.inl ⟨by rfl, ?_⟩; intro W hSw; clear hSw; go_simp; try with_reducible rfl))
        try simp only [Act.put, List.setIfInBounds_toArray, List.set_cons_zero, List.set_cons_succ]
        refine wpAnyK_early (i := 14) (m := 16) (oi := ?_) (v := ?_) ?_ (by kernel_rfl) (by kernel_rfl) (by kernel_rfl) (fun _ _ _ h => h) (by decide) (by kernel_rfl) (by kernel_rfl) (by kernel_rfl) (by kernel_rfl) ?_ HS.out HR0.out ?_
        rotate_left 2
        · (simp only [List.getElem?_toArray, List.getElem?_cons_succ, List.getElem?_cons_zero]; rfl)
        · (refine Or.inl ⟨by rfl, ?_⟩; intro W hSw; have hq := HC0.out W hSw.2; clear hSw; go_simp; try with_reducible rfl)
        try simp only [Act.put, List.setIfInBounds_toArray, List.set_cons_zero, List.set_cons_succ]
        refine wpAnyK_take (i := 15) (oi := ?_) (v := ?_) ?_ (by kernel_rfl) (by kernel_rfl) (by kernel_rfl) (fun _ _ _ h => h) (by decide) ?_ HS.out (fun _ => HR0.out) ?_
        rotate_left 2
        · (simp only [List.getElem?_toArray, List.getElem?_cons_succ, List.getElem?_cons_zero]; rfl)
        · (first | exact Or.inr ⟨by rfl, rfl⟩ | (refine Or.inl ⟨by rfl, ?_⟩; intro W hSw; clear hSw; go_simp; try with_reducible rfl))
        try simp only [Act.put, List.setIfInBounds_toArray, List.set_cons_zero, List.set_cons_succ]
        refine wpAnyK_take (i := 16) (oi := ?_) (v := ?_) ?_ (by kernel_rfl) (by kernel_rfl) (by kernel_rfl) (fun _ _ _ h => h) (by decide) ?_ HS.out (fun _ => HR0.out) ?_
        rotate_left 2
        · (simp only [List.getElem?_toArray, List.getElem?_cons_succ, List.getElem?_cons_zero]; rfl)
        · (first | exact Or.inr ⟨by rfl, rfl⟩ | (refine Or.inl ⟨by rfl, ?_⟩; intro W hSw; clear hSw; go_simp; try with_reducible rfl))
        try simp only [Act.put, List.setIfInBounds_toArray, List.set_cons_zero, List.set_cons_succ]
        -- MARKEN
        refine wpAnyK_one (i := 1) (o := ?_) (by kernel_rfl) ?_ (fun K hK => ?_)
        rotate_left 1
        · (simp only [List.getElem?_toArray, List.getElem?_cons_succ, List.getElem?_cons_zero]; rfl)
        go_simp
        have HU2 := Lib.hid (show Below wr.heap.size wr (wr.drew.alloc (.cells #[] 76)) from (Below.refl _ _).drew.alloc (Nat.le_refl _) _)
        have HS2 := Lib.hid (HTG.out _ HU2.out)
        have HR2 := Lib.hid (HTR.out _ HU2.out)
        refine hK.out _ _ HS2.out (fun _ => HR2.out) ?_
        clear hK K
        try simp only [Act.put, List.setIfInBounds_toArray, List.set_cons_zero, List.set_cons_succ]
        have HOA := Lib.hid (OwnT.made (C := rpC) (sz := 3) wr.drew w.heap.size HB.out.size 76)
        have HX1 := Lib.hid (HT1.out _ HU2.out)
        refine wpAnyK_one (i := 8) (o := ?_) (by kernel_rfl) ?_ (fun K hK => ?_)
        rotate_left 1
        · (simp only [List.getElem?_toArray, List.getElem?_cons_succ, List.getElem?_cons_zero]; rfl)
        refine step_appTsE (C := rpC) (sz := 3) ?_ (.tmp 70) (.tmp 76) 71 ?_ w.heap.size 76 (.agg #[.int .u64 0, .int .i64 0, .string ByteArray.empty]) 32 ?_ infoRP ?_ (by omega) rpC_len rpC_one wr.heap.size 0 [] ?_ HOA.out none 0 0 (L.take 0) ?_ ?_ HX1.out ?_ ?_ ?_ ?_
        · rfl
        · rfl
        · rfl
        · rfl
        · first | rfl | simp [Act.eval]
        · exact HEK.out.symm
        · first | rfl | (simp [Act.eval]; done) | (simp [Act.eval]; omega)
        · unfold maxLen; rw [HEK.out]; simp <;> omega
        · rw [HEK.out]; simp <;> omega
        · have := HB.out.size; simp <;> omega
        intro g5 c5 w5 hown5 hg5 hat5
        have hl5 : ([] : List RPg).length + (L.take 0).length = 0 := by rw [HEK.out]; simp
        rw [hl5, List.nil_append] at hown5
        rw [hl5]
        have HU5 := Lib.hid (show Below wr.heap.size wr w5 from HU2.out.grown hg5 HU2.out.size (fun j hj => by injection hj with hj; omega))
        have HO5 := Lib.hid (show OwnT rpC 3 w5 w.heap.size 76 (.slice (some ⟨g5, 0, none⟩) (L.take 0).length c5) (L.take 0) from by rw [HEK.out]; exact hown5)
        have HQ5 := Lib.hid (show wr.heap.size ≤ g5 from by
          rcases hat5 with h | h
          · omega
          · rw [h]; first | exact HU2.out.size | (simp; done) | (simp <;> omega))
        have HS5 := Lib.hid (HTG.out _ HU5.out)
        have HR5 := Lib.hid (HTR.out _ HU5.out)
        clear hown5 hg5 hat5 hl5 HX1 HOA
        refine hK.out _ _ HS5.out (fun _ => HR5.out) ?_
        clear hK K
        try simp only [Act.put, List.setIfInBounds_toArray, List.set_cons_zero, List.set_cons_succ]
        have HX2 := Lib.hid (HT2.out _ HU5.out)
        refine wpAnyK_one (i := 10) (o := ?_) (by kernel_rfl) ?_ (fun K hK => ?_)
        rotate_left 1
        · (simp only [List.getElem?_toArray, List.getElem?_cons_succ, List.getElem?_cons_zero]; rfl)
        refine step_appTsE (C := rpC) (sz := 3) ?_ (.tmp 77) (.tmp 78) 71 ?_ w.heap.size 76 (.agg #[.int .u64 0, .int .i64 0, .string ByteArray.empty]) 32 ?_ infoRP ?_ (by omega) rpC_len rpC_one g5 c5 (L.take 0) ?_ HO5.out A' n c' (newP a n page0R) ?_ ?_ HX2.out ?_ ?_ ?_ ?_
        · rfl
        · rfl
        · rfl
        · rfl
        · rw [HEK.out]; first | rfl | simp [Act.eval]
        · rw [newP_len]
        · first | rfl | (simp [Act.eval]; done) | (simp [Act.eval]; omega)
        · unfold maxLen; rw [HEK.out, newP_len]; omega
        · rw [HEK.out, newP_len]; omega
        · have := HB.out.size; have := HU5.out.size; omega
        intro g6 c6 w6 hown6 hg6 hat6
        have hl6 : (L.take 0).length + (newP a n page0R).length = n := by rw [HEK.out, newP_len]; first | done | omega
        rw [hl6] at hown6
        rw [hl6]
        have HU6 := Lib.hid (show Below wr.heap.size wr w6 from HU5.out.grown hg6 HU5.out.size (fun j hj => by injection hj with hj; have := HQ5.out; omega))
        have HL6 := Lib.hid (show (L.take 0 ++ newP a n page0R).length = n from by rw [List.length_append, HEK.out, newP_len]; first | done | omega)
        have HO6 := Lib.hid (show OwnT rpC 3 w6 w.heap.size 76 (.slice (some ⟨g6, 0, none⟩) (L.take 0 ++ newP a n page0R).length c6) (L.take 0 ++ newP a n page0R) from by rw [HL6.out]; exact hown6)
        have HQ6 := Lib.hid (show wr.heap.size ≤ g6 from by
          rcases hat6 with h | h
          · have := HQ5.out; omega
          · rw [h]; exact HU5.out.size)
        have HS6 := Lib.hid (HTG.out _ HU6.out)
        have HR6 := Lib.hid (HTR.out _ HU6.out)
        clear hown6 hg6 hat6 hl6 HX2 HO5
        refine hK.out _ _ HS6.out (fun _ => HR6.out) ?_
        clear hK K
        try simp only [Act.put, List.setIfInBounds_toArray, List.set_cons_zero, List.set_cons_succ]
        have HX3 := Lib.hid (HT3.out _ HU6.out)
        refine wpAnyK_one (i := 17) (o := ?_) (by kernel_rfl) ?_ (fun K hK => ?_)
        rotate_left 1
        · (simp only [List.getElem?_toArray, List.getElem?_cons_succ, List.getElem?_cons_zero]; rfl)
        refine step_appTsE (C := rpC) (sz := 3) ?_ (.tmp 79) (.tmp 85) 71 ?_ w.heap.size 76 (.agg #[.int .u64 0, .int .i64 0, .string ByteArray.empty]) 32 ?_ infoRP ?_ (by omega) rpC_len rpC_one g6 c6 (L.take 0 ++ newP a n page0R) ?_ HO6.out none 0 0 (L.drop 0) ?_ ?_ HX3.out ?_ ?_ ?_ ?_
        · rfl
        · rfl
        · rfl
        · rfl
        · rw [HL6.out]; first | rfl | simp [Act.eval]
        · exact HED.out.symm
        · first | rfl | (simp [Act.eval]; done) | (simp [Act.eval, hck]; done) | (simp [Act.eval]; omega)
        · unfold maxLen; rw [HL6.out, HED.out]; omega
        · rw [HL6.out, HED.out]; omega
        · have := HB.out.size; have := HU6.out.size; omega
        intro g7 c7 w7 hown7 hg7 hat7
        have hl7 : (L.take 0 ++ newP a n page0R).length + (L.drop 0).length = n := by rw [HL6.out, HED.out]; omega
        rw [hl7] at hown7
        rw [hl7]
        have HU7 := Lib.hid (show Below wr.heap.size wr w7 from HU6.out.grown hg7 HU6.out.size (fun j hj => by injection hj with hj; have := HQ6.out; omega))
        have HO7 := Lib.hid hown7
        have HQ7 := Lib.hid (show wr.heap.size ≤ g7 from by
          rcases hat7 with h | h
          · have := HQ6.out; omega
          · rw [h]; exact HU6.out.size)
        have HS7 := Lib.hid (HTG.out _ HU7.out)
        have HR7 := Lib.hid (HTR.out _ HU7.out)
        clear hown7 hg7 hat7 hl7 HX3 HO6
        refine hK.out _ _ HS7.out (fun _ => HR7.out) ?_
        clear hK K
        try simp only [Act.put, List.setIfInBounds_toArray, List.set_cons_zero, List.set_cons_succ]
        -- MARKFN
        refine wpAnyK_take (i := 18) (oi := ?_) (v := ?_) ?_ (by kernel_rfl) (by kernel_rfl) (by kernel_rfl) (fun _ _ _ h => h) (by decide) ?_ HS7.out (fun _ => HR7.out) ?_
        rotate_left 2
        · (simp only [List.getElem?_toArray, List.getElem?_cons_succ, List.getElem?_cons_zero]; rfl)
        · (first | exact Or.inr ⟨by rfl, rfl⟩ | (refine Or.inl ⟨by rfl, ?_⟩; intro W hSw; clear hSw; go_simp; try with_reducible rfl))
        try simp only [Act.put, List.setIfInBounds_toArray, List.set_cons_zero, List.set_cons_succ]
        refine wpAnyK_take (i := 19) (oi := ?_) (v := ?_) ?_ (by kernel_rfl) (by kernel_rfl) (by kernel_rfl) (fun _ _ _ h => h) (by decide) ?_ HS7.out (fun _ => HR7.out) ?_
        rotate_left 2
        · (simp only [List.getElem?_toArray, List.getElem?_cons_succ, List.getElem?_cons_zero]; rfl)
        · (first | exact Or.inr ⟨by rfl, rfl⟩ | (refine Or.inl ⟨by rfl, ?_⟩; intro W hSw; clear hSw; go_simp; try with_reducible rfl))
        try simp only [Act.put, List.setIfInBounds_toArray, List.set_cons_zero, List.set_cons_succ]
        have b0 : w7.cell? ⟨B, 0, none⟩ = some (.slice none 0 0) := HC0.out w7 HR7.out
        have bf : w7.frozen? ⟨B, 0, none⟩ = false := frozen_of_row _ _ _ _ _ HR7.out
        refine wpAnyK_one (i := 20) (o := ?_) (by kernel_rfl) ?_ (fun K hK => ?_)
        rotate_left 1
        · (simp only [List.getElem?_toArray, List.getElem?_cons_succ, List.getElem?_cons_zero]; rfl)
        go_simp
        have HS8 := Lib.hid (only_setCell HS7.out (p := ⟨B, 0, none⟩) (.inl rfl) (.slice (some ⟨g7, 0, none⟩) n c7))
        refine hK.out _ _ HS8.out (fun h => by cases h) ?_
        clear hK K b0 bf
        refine wpAnyK_done (by kernel_rfl) ?_ _
        refine NoPanic.normal ?_
        -- MARKGN
        have HFG := Lib.hid (show w.grownBy (w7.setCell ⟨B, 0, none⟩ (.slice (some ⟨g7, 0, none⟩) n c7)) (some B) from only_setCell (only_below (grown_self w B) (HB.out.trans (HU7.out.mono HB.out.size))) (.inl rfl) _)
        have HFR := Lib.hid (show RefM (w7.setCell ⟨B, 0, none⟩ (.slice (some ⟨g7, 0, none⟩) n c7)) B (insP L a n page0R) from by
          have hil : (insP L a n page0R).length = n := by rw [insP_len, HLEN.out]; first | done | omega
          have ho : OwnT rpC 3 w7 w.heap.size 76 (.slice (some ⟨g7, 0, none⟩) (insP L a n page0R).length c7) (insP L a n page0R) := by
            rw [hil, HINS.out]
            exact HO7.out
          obtain ⟨A9, cap9, hv9, hc9, hm9, _⟩ := ho.form
          injection hv9 with _ _ hv9
          subst hv9
          have hgB : g7 ≠ B := by have := HQ7.out; have := HB.out.size; have := HLT.out; omega
          refine ⟨some ⟨g7, 0, none⟩, c7, by rw [hil]; exact heap_setCell_same w7 B 0 _ _ _ HR7.out, ?_, by rw [hil]; omega, hc9, hm9, .inr ⟨g7, rfl⟩⟩
          exact (ho.of_block (fun j hj => heap_setCell_other w7 _ j _ (fun e => by simp [Value.ownBlock] at hj; simp at e; omega))).sl rpC_len)
        have HFN := Lib.hid (show NewRow w (w7.setCell ⟨B, 0, none⟩ (.slice (some ⟨g7, 0, none⟩) n c7)) B from ⟨g7, _, _, heap_setCell_same w7 B 0 _ _ _ HR7.out, by have := HQ7.out; have := HB.out.size; omega, by rw [World.size_setCell]; exact (HO7.out.lt g7 rfl).2⟩)
        clear HU2 HU5 HU6 HU7 HS HS2 HS5 HS6 HS7 HS8 HR0 HR2 HR5 HR6 HR7 HO7 HC0
        go_wp2_with fail
        go_ret
        exact ⟨rfl, HFR.out, HFG.out, HFN.out⟩
      · have HTR := Lib.hid (show ∀ W, Below wr.heap.size wr W → W.heap[B]? = some (.cells #[.slice (some ⟨b, 0, none⟩) len c, .int .i64 1024] 73 (0, 0)) from fun W hW => HROW.out W (HB.out.trans (hW.mono HB.out.size)))
        have HT1 := Lib.hid (show ∀ W, Below wr.heap.size wr W → SlT rpC 3 W (some ⟨b, 0, none⟩) (L.take k) from fun W hW => (HT0.out W hW).takeT k)
        have hkc : k ≤ c := by omega
        by_cases hck : c = k
        · have HT3 := Lib.hid (show ∀ W, Below wr.heap.size wr W → SlT rpC 3 W (some ⟨b, 0, none⟩) (L.drop k) from fun W hW => .inl (List.drop_eq_nil_of_le (by rw [HLEN.out]; omega)))
          go_wp2_with fail
          -- MARQDS
          have HS := Lib.hid (show wr.grownBy wr.drew (some B) from ⟨rfl, rfl, rfl, Nat.le_refl _, fun _ _ _ => rfl⟩)
          have HR0 := Lib.hid (show wr.drew.heap[B]? = some (.cells #[(.slice (some ⟨b, 0, none⟩) len c), .int .i64 1024] 73 (0, 0)) from HROW.out wr HB.out)
          have HC0 := Lib.hid (show ∀ W : World, W.heap[B]? = some (.cells #[(.slice (some ⟨b, 0, none⟩) len c), .int .i64 1024] 73 (0, 0)) → W.cell? ⟨B, 0, none⟩ = some (.slice (some ⟨b, 0, none⟩) len c) from fun W h => by rw [cell_of_row _ _ _ _ _ _ h]; rfl)
          refine wp_region_noPanic ?_
          refine wp_region_K (fun W => wr.grownBy W (some B)) (fun W => W.heap[B]? = some (.cells #[(.slice (some ⟨b, 0, none⟩) len c), .int .i64 1024] 73 (0, 0))) 20 (by kernel_rfl) ?_
          refine wpAnyK_take (i := 0) (oi := ?_) (v := ?_) ?_ (by kernel_rfl) (by kernel_rfl) (by kernel_rfl) (fun _ _ _ h => h) (by decide) ?_ HS.out (fun _ => HR0.out) ?_
          rotate_left 2
          · (simp only [List.getElem?_toArray, List.getElem?_cons_succ, List.getElem?_cons_zero]; rfl)
          · (first | exact Or.inr ⟨by rfl, rfl⟩ | (refine Or.inl ⟨by rfl, ?_⟩; intro W hSw; clear hSw; go_simp; try with_reducible rfl))
          try simp only [Act.put, List.setIfInBounds_toArray, List.set_cons_zero, List.set_cons_succ]
          refine wpAnyK_take (i := 2) (oi := ?_) (v := ?_) ?_ (by kernel_rfl) (by kernel_rfl) (by kernel_rfl) (fun _ _ _ h => h) (by decide) ?_ HS.out (fun _ => HR0.out) ?_
          rotate_left 2
          · (simp only [List.getElem?_toArray, List.getElem?_cons_succ, List.getElem?_cons_zero]; rfl)
          · (first | exact Or.inr ⟨by rfl, rfl⟩ | (refine Or.inl ⟨by rfl, ?_⟩; intro W hSw; clear hSw; go_simp; try with_reducible rfl))
          try simp only [Act.put, List.setIfInBounds_toArray, List.set_cons_zero, List.set_cons_succ]
          refine wpAnyK_take (i := 3) (oi := ?_) (v := ?_) ?_ (by kernel_rfl) (by kernel_rfl) (by kernel_rfl) (fun _ _ _ h => h) (by decide) ?_ HS.out (fun _ => HR0.out) ?_
          rotate_left 2
          · (simp only [List.getElem?_toArray, List.getElem?_cons_succ, List.getElem?_cons_zero]; rfl)
          · (first | exact Or.inr ⟨by rfl, rfl⟩ | (refine Or.inl ⟨by rfl, ?_⟩; intro W hSw; clear hSw; go_simp; try with_reducible rfl))
          try simp only [Act.put, List.setIfInBounds_toArray, List.set_cons_zero, List.set_cons_succ]
          refine wpAnyK_take (i := 4) (oi := ?_) (v := ?_) ?_ (by kernel_rfl) (by kernel_rfl) (by kernel_rfl) (fun _ _ _ h => h) (by decide) ?_ HS.out (fun _ => HR0.out) ?_
          rotate_left 2
          · (simp only [List.getElem?_toArray, List.getElem?_cons_succ, List.getElem?_cons_zero]; rfl)
          · (first | exact Or.inr ⟨by rfl, rfl⟩ | (refine Or.inl ⟨by rfl, ?_⟩; intro W hSw; clear hSw; go_simp; try with_reducible rfl))
          try simp only [Act.put, List.setIfInBounds_toArray, List.set_cons_zero, List.set_cons_succ]
          refine wpAnyK_early (i := 5) (m := 7) (oi := ?_) (v := ?_) ?_ (by kernel_rfl) (by kernel_rfl) (by kernel_rfl) (fun _ _ _ h => h) (by decide) (by kernel_rfl) (by kernel_rfl) (by kernel_rfl) (by kernel_rfl) ?_ HS.out HR0.out ?_
          rotate_left 2
          · (simp only [List.getElem?_toArray, List.getElem?_cons_succ, List.getElem?_cons_zero]; rfl)
          · (refine Or.inl ⟨by rfl, ?_⟩; intro W hSw; have hq := HC0.out W hSw.2; clear hSw; go_simp; try with_reducible rfl)
          try simp only [Act.put, List.setIfInBounds_toArray, List.set_cons_zero, List.set_cons_succ]
          refine wpAnyK_take (i := 6) (oi := ?_) (v := ?_) ?_ (by kernel_rfl) (by kernel_rfl) (by kernel_rfl) (fun _ _ _ h => h) (by decide) ?_ HS.out (fun _ => HR0.out) ?_
          rotate_left 2
          · (simp only [List.getElem?_toArray, List.getElem?_cons_succ, List.getElem?_cons_zero]; rfl)
          · (first | exact Or.inr ⟨by rfl, rfl⟩ | (refine Or.inl ⟨by rfl, ?_⟩; intro W hSw; clear hSw; go_simp; try with_reducible rfl))
          try simp only [Act.put, List.setIfInBounds_toArray, List.set_cons_zero, List.set_cons_succ]
          refine wpAnyK_take (i := 7) (oi := ?_) (v := ?_) ?_ (by kernel_rfl) (by kernel_rfl) (by kernel_rfl) (fun _ _ _ h => h) (by decide) ?_ HS.out (fun _ => HR0.out) ?_
          rotate_left 2
          · (simp only [List.getElem?_toArray, List.getElem?_cons_succ, List.getElem?_cons_zero]; rfl)
          · (first | exact Or.inr ⟨by rfl, rfl⟩ | (refine Or.inl ⟨by rfl, ?_⟩; intro W hSw; clear hSw; go_simp; try with_reducible rfl))
          try simp only [Act.put, List.setIfInBounds_toArray, List.set_cons_zero, List.set_cons_succ]
          refine wpAnyK_take (i := 9) (oi := ?_) (v := ?_) ?_ (by kernel_rfl) (by kernel_rfl) (by kernel_rfl) (fun _ _ _ h => h) (by decide) ?_ HS.out (fun _ => HR0.out) ?_
          rotate_left 2
          · (simp only [List.getElem?_toArray, List.getElem?_cons_succ, List.getElem?_cons_zero]; rfl)
          · (first | exact Or.inr ⟨by rfl, rfl⟩ | (refine Or.inl ⟨by rfl, ?_⟩; intro W hSw; clear hSw; go_simp; try with_reducible rfl))
          try simp only [Act.put, List.setIfInBounds_toArray, List.set_cons_zero, List.set_cons_succ]
          refine wpAnyK_take (i := 11) (oi := ?_) (v := ?_) ?_ (by kernel_rfl) (by kernel_rfl) (by kernel_rfl) (fun _ _ _ h => h) (by decide) ?_ HS.out (fun _ => HR0.out) ?_
          rotate_left 2
          · (simp only [List.getElem?_toArray, List.getElem?_cons_succ, List.getElem?_cons_zero]; rfl)
          · (first | exact Or.inr ⟨by rfl, rfl⟩ | (refine Or.inl ⟨by rfl, ?_⟩; intro W hSw; clear hSw; go_simp; try with_reducible rfl))
          try simp only [Act.put, List.setIfInBounds_toArray, List.set_cons_zero, List.set_cons_succ]
          refine wpAnyK_take (i := 12) (oi := ?_) (v := ?_) ?_ (by kernel_rfl) (by kernel_rfl) (by kernel_rfl) (fun _ _ _ h => h) (by decide) ?_ HS.out (fun _ => HR0.out) ?_
          rotate_left 2
          · (simp only [List.getElem?_toArray, List.getElem?_cons_succ, List.getElem?_cons_zero]; rfl)
          · (first | exact Or.inr ⟨by rfl, rfl⟩ | (refine Or.inl ⟨by rfl, ?_⟩; intro W hSw; clear hSw; go_simp; try with_reducible rfl))
          try simp only [Act.put, List.setIfInBounds_toArray, List.set_cons_zero, List.set_cons_succ]
          refine wpAnyK_take (i := 13) (oi := ?_) (v := ?_) ?_ (by kernel_rfl) (by kernel_rfl) (by kernel_rfl) (fun _ _ _ h => h) (by decide) ?_ HS.out (fun _ => HR0.out) ?_
          rotate_left 2
          · (simp only [List.getElem?_toArray, List.getElem?_cons_succ, List.getElem?_cons_zero]; rfl)
          · (first | exact Or.inr ⟨by rfl, rfl⟩ | (refine Or.inl ⟨by rfl, ?_⟩; intro W hSw; clear hSw; go_simp; try with_reducible rfl))
          try simp only [Act.put, List.setIfInBounds_toArray, List.set_cons_zero, List.set_cons_succ]
          refine wpAnyK_early (i := 14) (m := 16) (oi := ?_) (v := ?_) ?_ (by kernel_rfl) (by kernel_rfl) (by kernel_rfl) (fun _ _ _ h => h) (by decide) (by kernel_rfl) (by kernel_rfl) (by kernel_rfl) (by kernel_rfl) ?_ HS.out HR0.out ?_
          rotate_left 2
          · (simp only [List.getElem?_toArray, List.getElem?_cons_succ, List.getElem?_cons_zero]; rfl)
          · (refine Or.inl ⟨by rfl, ?_⟩; intro W hSw; have hq := HC0.out W hSw.2; clear hSw; go_simp; try with_reducible rfl)
          try simp only [Act.put, List.setIfInBounds_toArray, List.set_cons_zero, List.set_cons_succ]
          refine wpAnyK_take (i := 15) (oi := ?_) (v := ?_) ?_ (by kernel_rfl) (by kernel_rfl) (by kernel_rfl) (fun _ _ _ h => h) (by decide) ?_ HS.out (fun _ => HR0.out) ?_
          rotate_left 2
          · (simp only [List.getElem?_toArray, List.getElem?_cons_succ, List.getElem?_cons_zero]; rfl)
          · (first | exact Or.inr ⟨by rfl, rfl⟩ | (refine Or.inl ⟨by rfl, ?_⟩; intro W hSw; clear hSw; go_simp; try with_reducible rfl))
          try simp only [Act.put, List.setIfInBounds_toArray, List.set_cons_zero, List.set_cons_succ]
          refine wpAnyK_take (i := 16) (oi := ?_) (v := ?_) ?_ (by kernel_rfl) (by kernel_rfl) (by kernel_rfl) (fun _ _ _ h => h) (by decide) ?_ HS.out (fun _ => HR0.out) ?_
          rotate_left 2
          · (simp only [List.getElem?_toArray, List.getElem?_cons_succ, List.getElem?_cons_zero]; rfl)
          · (first | exact Or.inr ⟨by rfl, rfl⟩ | (refine Or.inl ⟨by rfl, ?_⟩; intro W hSw; clear hSw; go_simp; try with_reducible rfl))
          try simp only [Act.put, List.setIfInBounds_toArray, List.set_cons_zero, List.set_cons_succ]
          -- MARQES
          refine wpAnyK_one (i := 1) (o := ?_) (by kernel_rfl) ?_ (fun K hK => ?_)
          rotate_left 1
          · (simp only [List.getElem?_toArray, List.getElem?_cons_succ, List.getElem?_cons_zero]; rfl)
          go_simp
          have HU2 := Lib.hid (show Below wr.heap.size wr (wr.drew.alloc (.cells #[] 76)) from (Below.refl _ _).drew.alloc (Nat.le_refl _) _)
          have HS2 := Lib.hid (HTG.out _ HU2.out)
          have HR2 := Lib.hid (HTR.out _ HU2.out)
          refine hK.out _ _ HS2.out (fun _ => HR2.out) ?_
          clear hK K
          try simp only [Act.put, List.setIfInBounds_toArray, List.set_cons_zero, List.set_cons_succ]
          have HOA := Lib.hid (OwnT.made (C := rpC) (sz := 3) wr.drew w.heap.size HB.out.size 76)
          have HX1 := Lib.hid (HT1.out _ HU2.out)
          refine wpAnyK_one (i := 8) (o := ?_) (by kernel_rfl) ?_ (fun K hK => ?_)
          rotate_left 1
          · (simp only [List.getElem?_toArray, List.getElem?_cons_succ, List.getElem?_cons_zero]; rfl)
          refine step_appTsE (C := rpC) (sz := 3) ?_ (.tmp 70) (.tmp 76) 71 ?_ w.heap.size 76 (.agg #[.int .u64 0, .int .i64 0, .string ByteArray.empty]) 32 ?_ infoRP ?_ (by omega) rpC_len rpC_one wr.heap.size 0 [] ?_ HOA.out (some ⟨b, 0, none⟩) k c (L.take k) ?_ ?_ HX1.out ?_ ?_ ?_ ?_
          · rfl
          · rfl
          · rfl
          · rfl
          · first | rfl | simp [Act.eval]
          · exact HEK.out.symm
          · first | rfl | (simp [Act.eval]; done) | (simp [Act.eval]; omega)
          · unfold maxLen; rw [HEK.out]; simp <;> omega
          · rw [HEK.out]; simp <;> omega
          · have := HB.out.size; simp <;> omega
          intro g5 c5 w5 hown5 hg5 hat5
          have hl5 : ([] : List RPg).length + (L.take k).length = k := by rw [HEK.out]; simp
          rw [hl5, List.nil_append] at hown5
          rw [hl5]
          have HU5 := Lib.hid (show Below wr.heap.size wr w5 from HU2.out.grown hg5 HU2.out.size (fun j hj => by injection hj with hj; omega))
          have HO5 := Lib.hid (show OwnT rpC 3 w5 w.heap.size 76 (.slice (some ⟨g5, 0, none⟩) (L.take k).length c5) (L.take k) from by rw [HEK.out]; exact hown5)
          have HQ5 := Lib.hid (show wr.heap.size ≤ g5 from by
            rcases hat5 with h | h
            · omega
            · rw [h]; first | exact HU2.out.size | (simp; done) | (simp <;> omega))
          have HS5 := Lib.hid (HTG.out _ HU5.out)
          have HR5 := Lib.hid (HTR.out _ HU5.out)
          clear hown5 hg5 hat5 hl5 HX1 HOA
          refine hK.out _ _ HS5.out (fun _ => HR5.out) ?_
          clear hK K
          try simp only [Act.put, List.setIfInBounds_toArray, List.set_cons_zero, List.set_cons_succ]
          have HX2 := Lib.hid (HT2.out _ HU5.out)
          refine wpAnyK_one (i := 10) (o := ?_) (by kernel_rfl) ?_ (fun K hK => ?_)
          rotate_left 1
          · (simp only [List.getElem?_toArray, List.getElem?_cons_succ, List.getElem?_cons_zero]; rfl)
          refine step_appTsE (C := rpC) (sz := 3) ?_ (.tmp 77) (.tmp 78) 71 ?_ w.heap.size 76 (.agg #[.int .u64 0, .int .i64 0, .string ByteArray.empty]) 32 ?_ infoRP ?_ (by omega) rpC_len rpC_one g5 c5 (L.take k) ?_ HO5.out A' n c' (newP a n page0R) ?_ ?_ HX2.out ?_ ?_ ?_ ?_
          · rfl
          · rfl
          · rfl
          · rfl
          · rw [HEK.out]; first | rfl | simp [Act.eval]
          · rw [newP_len]
          · first | rfl | (simp [Act.eval]; done) | (simp [Act.eval]; omega)
          · unfold maxLen; rw [HEK.out, newP_len]; omega
          · rw [HEK.out, newP_len]; omega
          · have := HB.out.size; have := HU5.out.size; omega
          intro g6 c6 w6 hown6 hg6 hat6
          have hl6 : (L.take k).length + (newP a n page0R).length = (k + n) := by rw [HEK.out, newP_len]; first | done | omega
          rw [hl6] at hown6
          rw [hl6]
          have HU6 := Lib.hid (show Below wr.heap.size wr w6 from HU5.out.grown hg6 HU5.out.size (fun j hj => by injection hj with hj; have := HQ5.out; omega))
          have HL6 := Lib.hid (show (L.take k ++ newP a n page0R).length = (k + n) from by rw [List.length_append, HEK.out, newP_len]; first | done | omega)
          have HO6 := Lib.hid (show OwnT rpC 3 w6 w.heap.size 76 (.slice (some ⟨g6, 0, none⟩) (L.take k ++ newP a n page0R).length c6) (L.take k ++ newP a n page0R) from by rw [HL6.out]; exact hown6)
          have HQ6 := Lib.hid (show wr.heap.size ≤ g6 from by
            rcases hat6 with h | h
            · have := HQ5.out; omega
            · rw [h]; exact HU5.out.size)
          have HS6 := Lib.hid (HTG.out _ HU6.out)
          have HR6 := Lib.hid (HTR.out _ HU6.out)
          clear hown6 hg6 hat6 hl6 HX2 HO5
          refine hK.out _ _ HS6.out (fun _ => HR6.out) ?_
          clear hK K
          try simp only [Act.put, List.setIfInBounds_toArray, List.set_cons_zero, List.set_cons_succ]
          have HX3 := Lib.hid (HT3.out _ HU6.out)
          refine wpAnyK_one (i := 17) (o := ?_) (by kernel_rfl) ?_ (fun K hK => ?_)
          rotate_left 1
          · (simp only [List.getElem?_toArray, List.getElem?_cons_succ, List.getElem?_cons_zero]; rfl)
          refine step_appTsE (C := rpC) (sz := 3) ?_ (.tmp 79) (.tmp 85) 71 ?_ w.heap.size 76 (.agg #[.int .u64 0, .int .i64 0, .string ByteArray.empty]) 32 ?_ infoRP ?_ (by omega) rpC_len rpC_one g6 c6 (L.take k ++ newP a n page0R) ?_ HO6.out (some ⟨b, 0, none⟩) (len - k) (c - k) (L.drop k) ?_ ?_ HX3.out ?_ ?_ ?_ ?_
          · rfl
          · rfl
          · rfl
          · rfl
          · rw [HL6.out]; first | rfl | simp [Act.eval]
          · exact HED.out.symm
          · first | rfl | (simp [Act.eval]; done) | (simp [Act.eval, hck]; done) | (simp [Act.eval]; omega)
          · unfold maxLen; rw [HL6.out, HED.out]; omega
          · rw [HL6.out, HED.out]; omega
          · have := HB.out.size; have := HU6.out.size; omega
          intro g7 c7 w7 hown7 hg7 hat7
          have hl7 : (L.take k ++ newP a n page0R).length + (L.drop k).length = (len + n) := by rw [HL6.out, HED.out]; omega
          rw [hl7] at hown7
          rw [hl7]
          have HU7 := Lib.hid (show Below wr.heap.size wr w7 from HU6.out.grown hg7 HU6.out.size (fun j hj => by injection hj with hj; have := HQ6.out; omega))
          have HO7 := Lib.hid hown7
          have HQ7 := Lib.hid (show wr.heap.size ≤ g7 from by
            rcases hat7 with h | h
            · have := HQ6.out; omega
            · rw [h]; exact HU6.out.size)
          have HS7 := Lib.hid (HTG.out _ HU7.out)
          have HR7 := Lib.hid (HTR.out _ HU7.out)
          clear hown7 hg7 hat7 hl7 HX3 HO6
          refine hK.out _ _ HS7.out (fun _ => HR7.out) ?_
          clear hK K
          try simp only [Act.put, List.setIfInBounds_toArray, List.set_cons_zero, List.set_cons_succ]
          -- MARQFS
          refine wpAnyK_take (i := 18) (oi := ?_) (v := ?_) ?_ (by kernel_rfl) (by kernel_rfl) (by kernel_rfl) (fun _ _ _ h => h) (by decide) ?_ HS7.out (fun _ => HR7.out) ?_
          rotate_left 2
          · (simp only [List.getElem?_toArray, List.getElem?_cons_succ, List.getElem?_cons_zero]; rfl)
          · (first | exact Or.inr ⟨by rfl, rfl⟩ | (refine Or.inl ⟨by rfl, ?_⟩; intro W hSw; clear hSw; go_simp; try with_reducible rfl))
          try simp only [Act.put, List.setIfInBounds_toArray, List.set_cons_zero, List.set_cons_succ]
          refine wpAnyK_take (i := 19) (oi := ?_) (v := ?_) ?_ (by kernel_rfl) (by kernel_rfl) (by kernel_rfl) (fun _ _ _ h => h) (by decide) ?_ HS7.out (fun _ => HR7.out) ?_
          rotate_left 2
          · (simp only [List.getElem?_toArray, List.getElem?_cons_succ, List.getElem?_cons_zero]; rfl)
          · (first | exact Or.inr ⟨by rfl, rfl⟩ | (refine Or.inl ⟨by rfl, ?_⟩; intro W hSw; clear hSw; go_simp; try with_reducible rfl))
          try simp only [Act.put, List.setIfInBounds_toArray, List.set_cons_zero, List.set_cons_succ]
          have b0 : w7.cell? ⟨B, 0, none⟩ = some (.slice (some ⟨b, 0, none⟩) len c) := HC0.out w7 HR7.out
          have bf : w7.frozen? ⟨B, 0, none⟩ = false := frozen_of_row _ _ _ _ _ HR7.out
          refine wpAnyK_one (i := 20) (o := ?_) (by kernel_rfl) ?_ (fun K hK => ?_)
          rotate_left 1
          · (simp only [List.getElem?_toArray, List.getElem?_cons_succ, List.getElem?_cons_zero]; rfl)
          go_simp
          have HS8 := Lib.hid (only_setCell HS7.out (p := ⟨B, 0, none⟩) (.inl rfl) (.slice (some ⟨g7, 0, none⟩) (len + n) c7))
          refine hK.out _ _ HS8.out (fun h => by cases h) ?_
          clear hK K b0 bf
          refine wpAnyK_done (by kernel_rfl) ?_ _
          refine NoPanic.normal ?_
          -- MARQGS
          have HFG := Lib.hid (show w.grownBy (w7.setCell ⟨B, 0, none⟩ (.slice (some ⟨g7, 0, none⟩) (len + n) c7)) (some B) from only_setCell (only_below (grown_self w B) (HB.out.trans (HU7.out.mono HB.out.size))) (.inl rfl) _)
          have HFR := Lib.hid (show RefM (w7.setCell ⟨B, 0, none⟩ (.slice (some ⟨g7, 0, none⟩) (len + n) c7)) B (insP L a n page0R) from by
            have hil : (insP L a n page0R).length = (len + n) := by rw [insP_len, HLEN.out]; first | done | omega
            have ho : OwnT rpC 3 w7 w.heap.size 76 (.slice (some ⟨g7, 0, none⟩) (insP L a n page0R).length c7) (insP L a n page0R) := by
              rw [hil, HINS.out]
              exact HO7.out
            obtain ⟨A9, cap9, hv9, hc9, hm9, _⟩ := ho.form
            injection hv9 with _ _ hv9
            subst hv9
            have hgB : g7 ≠ B := by have := HQ7.out; have := HB.out.size; have := HLT.out; omega
            refine ⟨some ⟨g7, 0, none⟩, c7, by rw [hil]; exact heap_setCell_same w7 B 0 _ _ _ HR7.out, ?_, by rw [hil]; omega, hc9, hm9, .inr ⟨g7, rfl⟩⟩
            exact (ho.of_block (fun j hj => heap_setCell_other w7 _ j _ (fun e => by simp [Value.ownBlock] at hj; simp at e; omega))).sl rpC_len)
          have HFN := Lib.hid (show NewRow w (w7.setCell ⟨B, 0, none⟩ (.slice (some ⟨g7, 0, none⟩) (len + n) c7)) B from ⟨g7, _, _, heap_setCell_same w7 B 0 _ _ _ HR7.out, by have := HQ7.out; have := HB.out.size; omega, by rw [World.size_setCell]; exact (HO7.out.lt g7 rfl).2⟩)
          clear HU2 HU5 HU6 HU7 HS HS2 HS5 HS6 HS7 HS8 HR0 HR2 HR5 HR6 HR7 HO7 HC0
          go_wp2_with fail
          go_ret
          exact ⟨rfl, HFR.out, HFG.out, HFN.out⟩
        · have HT3 := Lib.hid (show ∀ W, Below wr.heap.size wr W → SlT rpC 3 W (some ⟨b, k * 3, none⟩) (L.drop k) from fun W hW => by
            have h := (HT0.out W hW).dropT k
            rwa [Nat.zero_add] at h)
          go_wp2_with fail
          -- MARKDS
          have HS := Lib.hid (show wr.grownBy wr.drew (some B) from ⟨rfl, rfl, rfl, Nat.le_refl _, fun _ _ _ => rfl⟩)
          have HR0 := Lib.hid (show wr.drew.heap[B]? = some (.cells #[(.slice (some ⟨b, 0, none⟩) len c), .int .i64 1024] 73 (0, 0)) from HROW.out wr HB.out)
          have HC0 := Lib.hid (show ∀ W : World, W.heap[B]? = some (.cells #[(.slice (some ⟨b, 0, none⟩) len c), .int .i64 1024] 73 (0, 0)) → W.cell? ⟨B, 0, none⟩ = some (.slice (some ⟨b, 0, none⟩) len c) from fun W h => by rw [cell_of_row _ _ _ _ _ _ h]; rfl)
          refine wp_region_noPanic ?_
          refine wp_region_K (fun W => wr.grownBy W (some B)) (fun W => W.heap[B]? = some (.cells #[(.slice (some ⟨b, 0, none⟩) len c), .int .i64 1024] 73 (0, 0))) 20 (by kernel_rfl) ?_
          refine wpAnyK_take (i := 0) (oi := ?_) (v := ?_) ?_ (by kernel_rfl) (by kernel_rfl) (by kernel_rfl) (fun _ _ _ h => h) (by decide) ?_ HS.out (fun _ => HR0.out) ?_
          rotate_left 2
          · (simp only [List.getElem?_toArray, List.getElem?_cons_succ, List.getElem?_cons_zero]; rfl)
          · (first | exact Or.inr ⟨by rfl, rfl⟩ | (refine Or.inl ⟨by rfl, ?_⟩; intro W hSw; clear hSw; go_simp; try with_reducible rfl))
          try simp only [Act.put, List.setIfInBounds_toArray, List.set_cons_zero, List.set_cons_succ]
          refine wpAnyK_take (i := 2) (oi := ?_) (v := ?_) ?_ (by kernel_rfl) (by kernel_rfl) (by kernel_rfl) (fun _ _ _ h => h) (by decide) ?_ HS.out (fun _ => HR0.out) ?_
          rotate_left 2
          · (simp only [List.getElem?_toArray, List.getElem?_cons_succ, List.getElem?_cons_zero]; rfl)
          · (first | exact Or.inr ⟨by rfl, rfl⟩ | (refine Or.inl ⟨by rfl, ?_⟩; intro W hSw; clear hSw; go_simp; try with_reducible rfl))
          try simp only [Act.put, List.setIfInBounds_toArray, List.set_cons_zero, List.set_cons_succ]
          refine wpAnyK_take (i := 3) (oi := ?_) (v := ?_) ?_ (by kernel_rfl) (by kernel_rfl) (by kernel_rfl) (fun _ _ _ h => h) (by decide) ?_ HS.out (fun _ => HR0.out) ?_
          rotate_left 2
          · (simp only [List.getElem?_toArray, List.getElem?_cons_succ, List.getElem?_cons_zero]; rfl)
          · (first | exact Or.inr ⟨by rfl, rfl⟩ | (refine Or.inl ⟨by rfl, ?_⟩; intro W hSw; clear hSw; go_simp; try with_reducible rfl))
          try simp only [Act.put, List.setIfInBounds_toArray, List.set_cons_zero, List.set_cons_succ]
          refine wpAnyK_take (i := 4) (oi := ?_) (v := ?_) ?_ (by kernel_rfl) (by kernel_rfl) (by kernel_rfl) (fun _ _ _ h => h) (by decide) ?_ HS.out (fun _ => HR0.out) ?_
          rotate_left 2
          · (simp only [List.getElem?_toArray, List.getElem?_cons_succ, List.getElem?_cons_zero]; rfl)
          · (first | exact Or.inr ⟨by rfl, rfl⟩ | (refine Or.inl ⟨by rfl, ?_⟩; intro W hSw; clear hSw; go_simp; try with_reducible rfl))
          try simp only [Act.put, List.setIfInBounds_toArray, List.set_cons_zero, List.set_cons_succ]
          refine wpAnyK_early (i := 5) (m := 7) (oi := ?_) (v := ?_) ?_ (by kernel_rfl) (by kernel_rfl) (by kernel_rfl) (fun _ _ _ h => h) (by decide) (by kernel_rfl) (by kernel_rfl) (by kernel_rfl) (by kernel_rfl) ?_ HS.out HR0.out ?_
          rotate_left 2
          · (simp only [List.getElem?_toArray, List.getElem?_cons_succ, List.getElem?_cons_zero]; rfl)
          · (refine Or.inl ⟨by rfl, ?_⟩; intro W hSw; have hq := HC0.out W hSw.2; clear hSw; go_simp; try with_reducible rfl)
          try simp only [Act.put, List.setIfInBounds_toArray, List.set_cons_zero, List.set_cons_succ]
          refine wpAnyK_take (i := 6) (oi := ?_) (v := ?_) ?_ (by kernel_rfl) (by kernel_rfl) (by kernel_rfl) (fun _ _ _ h => h) (by decide) ?_ HS.out (fun _ => HR0.out) ?_
          rotate_left 2
          · (simp only [List.getElem?_toArray, List.getElem?_cons_succ, List.getElem?_cons_zero]; rfl)
          · (first | exact Or.inr ⟨by rfl, rfl⟩ | (refine Or.inl ⟨by rfl, ?_⟩; intro W hSw; clear hSw; go_simp; try with_reducible rfl))
          try simp only [Act.put, List.setIfInBounds_toArray, List.set_cons_zero, List.set_cons_succ]
          refine wpAnyK_take (i := 7) (oi := ?_) (v := ?_) ?_ (by kernel_rfl) (by kernel_rfl) (by kernel_rfl) (fun _ _ _ h => h) (by decide) ?_ HS.out (fun _ => HR0.out) ?_
          rotate_left 2
          · (simp only [List.getElem?_toArray, List.getElem?_cons_succ, List.getElem?_cons_zero]; rfl)
          · (first | exact Or.inr ⟨by rfl, rfl⟩ | (refine Or.inl ⟨by rfl, ?_⟩; intro W hSw; clear hSw; go_simp; try with_reducible rfl))
          try simp only [Act.put, List.setIfInBounds_toArray, List.set_cons_zero, List.set_cons_succ]
          refine wpAnyK_take (i := 9) (oi := ?_) (v := ?_) ?_ (by kernel_rfl) (by kernel_rfl) (by kernel_rfl) (fun _ _ _ h => h) (by decide) ?_ HS.out (fun _ => HR0.out) ?_
          rotate_left 2
          · (simp only [List.getElem?_toArray, List.getElem?_cons_succ, List.getElem?_cons_zero]; rfl)
          · (first | exact Or.inr ⟨by rfl, rfl⟩ | (refine Or.inl ⟨by rfl, ?_⟩; intro W hSw; clear hSw; go_simp; try with_reducible rfl))
          try simp only [Act.put, List.setIfInBounds_toArray, List.set_cons_zero, List.set_cons_succ]
          refine wpAnyK_take (i := 11) (oi := ?_) (v := ?_) ?_ (by kernel_rfl) (by kernel_rfl) (by kernel_rfl) (fun _ _ _ h => h) (by decide) ?_ HS.out (fun _ => HR0.out) ?_
          rotate_left 2
          · (simp only [List.getElem?_toArray, List.getElem?_cons_succ, List.getElem?_cons_zero]; rfl)
          · (first | exact Or.inr ⟨by rfl, rfl⟩ | (refine Or.inl ⟨by rfl, ?_⟩; intro W hSw; clear hSw; go_simp; try with_reducible rfl))
          try simp only [Act.put, List.setIfInBounds_toArray, List.set_cons_zero, List.set_cons_succ]
          refine wpAnyK_take (i := 12) (oi := ?_) (v := ?_) ?_ (by kernel_rfl) (by kernel_rfl) (by kernel_rfl) (fun _ _ _ h => h) (by decide) ?_ HS.out (fun _ => HR0.out) ?_
          rotate_left 2
          · (simp only [List.getElem?_toArray, List.getElem?_cons_succ, List.getElem?_cons_zero]; rfl)
          · (first | exact Or.inr ⟨by rfl, rfl⟩ | (refine Or.inl ⟨by rfl, ?_⟩; intro W hSw; clear hSw; go_simp; try with_reducible rfl))
          try simp only [Act.put, List.setIfInBounds_toArray, List.set_cons_zero, List.set_cons_succ]
          refine wpAnyK_take (i := 13) (oi := ?_) (v := ?_) ?_ (by kernel_rfl) (by kernel_rfl) (by kernel_rfl) (fun _ _ _ h => h) (by decide) ?_ HS.out (fun _ => HR0.out) ?_
          rotate_left 2
          · (simp only [List.getElem?_toArray, List.getElem?_cons_succ, List.getElem?_cons_zero]; rfl)
          · (first | exact Or.inr ⟨by rfl, rfl⟩ | (refine Or.inl ⟨by rfl, ?_⟩; intro W hSw; clear hSw; go_simp; try with_reducible rfl))
          try simp only [Act.put, List.setIfInBounds_toArray, List.set_cons_zero, List.set_cons_succ]
          refine wpAnyK_early (i := 14) (m := 16) (oi := ?_) (v := ?_) ?_ (by kernel_rfl) (by kernel_rfl) (by kernel_rfl) (fun _ _ _ h => h) (by decide) (by kernel_rfl) (by kernel_rfl) (by kernel_rfl) (by kernel_rfl) ?_ HS.out HR0.out ?_
          rotate_left 2
          · (simp only [List.getElem?_toArray, List.getElem?_cons_succ, List.getElem?_cons_zero]; rfl)
          · (refine Or.inl ⟨by rfl, ?_⟩; intro W hSw; have hq := HC0.out W hSw.2; clear hSw; go_simp; try with_reducible rfl)
          try simp only [Act.put, List.setIfInBounds_toArray, List.set_cons_zero, List.set_cons_succ]
          refine wpAnyK_take (i := 15) (oi := ?_) (v := ?_) ?_ (by kernel_rfl) (by kernel_rfl) (by kernel_rfl) (fun _ _ _ h => h) (by decide) ?_ HS.out (fun _ => HR0.out) ?_
          rotate_left 2
          · (simp only [List.getElem?_toArray, List.getElem?_cons_succ, List.getElem?_cons_zero]; rfl)
          · (first | exact Or.inr ⟨by rfl, rfl⟩ | (refine Or.inl ⟨by rfl, ?_⟩; intro W hSw; clear hSw; go_simp; try with_reducible rfl))
          try simp only [Act.put, List.setIfInBounds_toArray, List.set_cons_zero, List.set_cons_succ]
          refine wpAnyK_take (i := 16) (oi := ?_) (v := ?_) ?_ (by kernel_rfl) (by kernel_rfl) (by kernel_rfl) (fun _ _ _ h => h) (by decide) ?_ HS.out (fun _ => HR0.out) ?_
          rotate_left 2
          · (simp only [List.getElem?_toArray, List.getElem?_cons_succ, List.getElem?_cons_zero]; rfl)
          · (first | exact Or.inr ⟨by rfl, rfl⟩ | (refine Or.inl ⟨by rfl, ?_⟩; intro W hSw; clear hSw; go_simp; try with_reducible rfl))
          try simp only [Act.put, List.setIfInBounds_toArray, List.set_cons_zero, List.set_cons_succ]
          -- MARKES
          refine wpAnyK_one (i := 1) (o := ?_) (by kernel_rfl) ?_ (fun K hK => ?_)
          rotate_left 1
          · (simp only [List.getElem?_toArray, List.getElem?_cons_succ, List.getElem?_cons_zero]; rfl)
          go_simp
          have HU2 := Lib.hid (show Below wr.heap.size wr (wr.drew.alloc (.cells #[] 76)) from (Below.refl _ _).drew.alloc (Nat.le_refl _) _)
          have HS2 := Lib.hid (HTG.out _ HU2.out)
          have HR2 := Lib.hid (HTR.out _ HU2.out)
          refine hK.out _ _ HS2.out (fun _ => HR2.out) ?_
          clear hK K
          try simp only [Act.put, List.setIfInBounds_toArray, List.set_cons_zero, List.set_cons_succ]
          have HOA := Lib.hid (OwnT.made (C := rpC) (sz := 3) wr.drew w.heap.size HB.out.size 76)
          have HX1 := Lib.hid (HT1.out _ HU2.out)
          refine wpAnyK_one (i := 8) (o := ?_) (by kernel_rfl) ?_ (fun K hK => ?_)
          rotate_left 1
          · (simp only [List.getElem?_toArray, List.getElem?_cons_succ, List.getElem?_cons_zero]; rfl)
          refine step_appTsE (C := rpC) (sz := 3) ?_ (.tmp 70) (.tmp 76) 71 ?_ w.heap.size 76 (.agg #[.int .u64 0, .int .i64 0, .string ByteArray.empty]) 32 ?_ infoRP ?_ (by omega) rpC_len rpC_one wr.heap.size 0 [] ?_ HOA.out (some ⟨b, 0, none⟩) k c (L.take k) ?_ ?_ HX1.out ?_ ?_ ?_ ?_
          · rfl
          · rfl
          · rfl
          · rfl
          · first | rfl | simp [Act.eval]
          · exact HEK.out.symm
          · first | rfl | (simp [Act.eval]; done) | (simp [Act.eval]; omega)
          · unfold maxLen; rw [HEK.out]; simp <;> omega
          · rw [HEK.out]; simp <;> omega
          · have := HB.out.size; simp <;> omega
          intro g5 c5 w5 hown5 hg5 hat5
          have hl5 : ([] : List RPg).length + (L.take k).length = k := by rw [HEK.out]; simp
          rw [hl5, List.nil_append] at hown5
          rw [hl5]
          have HU5 := Lib.hid (show Below wr.heap.size wr w5 from HU2.out.grown hg5 HU2.out.size (fun j hj => by injection hj with hj; omega))
          have HO5 := Lib.hid (show OwnT rpC 3 w5 w.heap.size 76 (.slice (some ⟨g5, 0, none⟩) (L.take k).length c5) (L.take k) from by rw [HEK.out]; exact hown5)
          have HQ5 := Lib.hid (show wr.heap.size ≤ g5 from by
            rcases hat5 with h | h
            · omega
            · rw [h]; first | exact HU2.out.size | (simp; done) | (simp <;> omega))
          have HS5 := Lib.hid (HTG.out _ HU5.out)
          have HR5 := Lib.hid (HTR.out _ HU5.out)
          clear hown5 hg5 hat5 hl5 HX1 HOA
          refine hK.out _ _ HS5.out (fun _ => HR5.out) ?_
          clear hK K
          try simp only [Act.put, List.setIfInBounds_toArray, List.set_cons_zero, List.set_cons_succ]
          have HX2 := Lib.hid (HT2.out _ HU5.out)
          refine wpAnyK_one (i := 10) (o := ?_) (by kernel_rfl) ?_ (fun K hK => ?_)
          rotate_left 1
          · (simp only [List.getElem?_toArray, List.getElem?_cons_succ, List.getElem?_cons_zero]; rfl)
          refine step_appTsE (C := rpC) (sz := 3) ?_ (.tmp 77) (.tmp 78) 71 ?_ w.heap.size 76 (.agg #[.int .u64 0, .int .i64 0, .string ByteArray.empty]) 32 ?_ infoRP ?_ (by omega) rpC_len rpC_one g5 c5 (L.take k) ?_ HO5.out A' n c' (newP a n page0R) ?_ ?_ HX2.out ?_ ?_ ?_ ?_
          · rfl
          · rfl
          · rfl
          · rfl
          · rw [HEK.out]; first | rfl | simp [Act.eval]
          · rw [newP_len]
          · first | rfl | (simp [Act.eval]; done) | (simp [Act.eval]; omega)
          · unfold maxLen; rw [HEK.out, newP_len]; omega
          · rw [HEK.out, newP_len]; omega
          · have := HB.out.size; have := HU5.out.size; omega
          intro g6 c6 w6 hown6 hg6 hat6
          have hl6 : (L.take k).length + (newP a n page0R).length = (k + n) := by rw [HEK.out, newP_len]; first | done | omega
          rw [hl6] at hown6
          rw [hl6]
          have HU6 := Lib.hid (show Below wr.heap.size wr w6 from HU5.out.grown hg6 HU5.out.size (fun j hj => by injection hj with hj; have := HQ5.out; omega))
          have HL6 := Lib.hid (show (L.take k ++ newP a n page0R).length = (k + n) from by rw [List.length_append, HEK.out, newP_len]; first | done | omega)
          have HO6 := Lib.hid (show OwnT rpC 3 w6 w.heap.size 76 (.slice (some ⟨g6, 0, none⟩) (L.take k ++ newP a n page0R).length c6) (L.take k ++ newP a n page0R) from by rw [HL6.out]; exact hown6)
          have HQ6 := Lib.hid (show wr.heap.size ≤ g6 from by
            rcases hat6 with h | h
            · have := HQ5.out; omega
            · rw [h]; exact HU5.out.size)
          have HS6 := Lib.hid (HTG.out _ HU6.out)
          have HR6 := Lib.hid (HTR.out _ HU6.out)
          clear hown6 hg6 hat6 hl6 HX2 HO5
          refine hK.out _ _ HS6.out (fun _ => HR6.out) ?_
          clear hK K
          try simp only [Act.put, List.setIfInBounds_toArray, List.set_cons_zero, List.set_cons_succ]
          have HX3 := Lib.hid (HT3.out _ HU6.out)
          refine wpAnyK_one (i := 17) (o := ?_) (by kernel_rfl) ?_ (fun K hK => ?_)
          rotate_left 1
          · (simp only [List.getElem?_toArray, List.getElem?_cons_succ, List.getElem?_cons_zero]; rfl)
          refine step_appTsE (C := rpC) (sz := 3) ?_ (.tmp 79) (.tmp 85) 71 ?_ w.heap.size 76 (.agg #[.int .u64 0, .int .i64 0, .string ByteArray.empty]) 32 ?_ infoRP ?_ (by omega) rpC_len rpC_one g6 c6 (L.take k ++ newP a n page0R) ?_ HO6.out (some ⟨b, k * 3, none⟩) (len - k) (c - k) (L.drop k) ?_ ?_ HX3.out ?_ ?_ ?_ ?_
          · rfl
          · rfl
          · rfl
          · rfl
          · rw [HL6.out]; first | rfl | simp [Act.eval]
          · exact HED.out.symm
          · first | rfl | (simp [Act.eval]; done) | (simp [Act.eval, hck]; done) | (simp [Act.eval]; omega)
          · unfold maxLen; rw [HL6.out, HED.out]; omega
          · rw [HL6.out, HED.out]; omega
          · have := HB.out.size; have := HU6.out.size; omega
          intro g7 c7 w7 hown7 hg7 hat7
          have hl7 : (L.take k ++ newP a n page0R).length + (L.drop k).length = (len + n) := by rw [HL6.out, HED.out]; omega
          rw [hl7] at hown7
          rw [hl7]
          have HU7 := Lib.hid (show Below wr.heap.size wr w7 from HU6.out.grown hg7 HU6.out.size (fun j hj => by injection hj with hj; have := HQ6.out; omega))
          have HO7 := Lib.hid hown7
          have HQ7 := Lib.hid (show wr.heap.size ≤ g7 from by
            rcases hat7 with h | h
            · have := HQ6.out; omega
            · rw [h]; exact HU6.out.size)
          have HS7 := Lib.hid (HTG.out _ HU7.out)
          have HR7 := Lib.hid (HTR.out _ HU7.out)
          clear hown7 hg7 hat7 hl7 HX3 HO6
          refine hK.out _ _ HS7.out (fun _ => HR7.out) ?_
          clear hK K
          try simp only [Act.put, List.setIfInBounds_toArray, List.set_cons_zero, List.set_cons_succ]
          -- MARKFS
          refine wpAnyK_take (i := 18) (oi := ?_) (v := ?_) ?_ (by kernel_rfl) (by kernel_rfl) (by kernel_rfl) (fun _ _ _ h => h) (by decide) ?_ HS7.out (fun _ => HR7.out) ?_
          rotate_left 2
          · (simp only [List.getElem?_toArray, List.getElem?_cons_succ, List.getElem?_cons_zero]; rfl)
          · (first | exact Or.inr ⟨by rfl, rfl⟩ | (refine Or.inl ⟨by rfl, ?_⟩; intro W hSw; clear hSw; go_simp; try with_reducible rfl))
          try simp only [Act.put, List.setIfInBounds_toArray, List.set_cons_zero, List.set_cons_succ]
          refine wpAnyK_take (i := 19) (oi := ?_) (v := ?_) ?_ (by kernel_rfl) (by kernel_rfl) (by kernel_rfl) (fun _ _ _ h => h) (by decide) ?_ HS7.out (fun _ => HR7.out) ?_
          rotate_left 2
          · (simp only [List.getElem?_toArray, List.getElem?_cons_succ, List.getElem?_cons_zero]; rfl)
          · (first | exact Or.inr ⟨by rfl, rfl⟩ | (refine Or.inl ⟨by rfl, ?_⟩; intro W hSw; clear hSw; go_simp; try with_reducible rfl))
          try simp only [Act.put, List.setIfInBounds_toArray, List.set_cons_zero, List.set_cons_succ]
          have b0 : w7.cell? ⟨B, 0, none⟩ = some (.slice (some ⟨b, 0, none⟩) len c) := HC0.out w7 HR7.out
          have bf : w7.frozen? ⟨B, 0, none⟩ = false := frozen_of_row _ _ _ _ _ HR7.out
          refine wpAnyK_one (i := 20) (o := ?_) (by kernel_rfl) ?_ (fun K hK => ?_)
          rotate_left 1
          · (simp only [List.getElem?_toArray, List.getElem?_cons_succ, List.getElem?_cons_zero]; rfl)
          go_simp
          have HS8 := Lib.hid (only_setCell HS7.out (p := ⟨B, 0, none⟩) (.inl rfl) (.slice (some ⟨g7, 0, none⟩) (len + n) c7))
          refine hK.out _ _ HS8.out (fun h => by cases h) ?_
          clear hK K b0 bf
          refine wpAnyK_done (by kernel_rfl) ?_ _
          refine NoPanic.normal ?_
          -- MARKGS
          have HFG := Lib.hid (show w.grownBy (w7.setCell ⟨B, 0, none⟩ (.slice (some ⟨g7, 0, none⟩) (len + n) c7)) (some B) from only_setCell (only_below (grown_self w B) (HB.out.trans (HU7.out.mono HB.out.size))) (.inl rfl) _)
          have HFR := Lib.hid (show RefM (w7.setCell ⟨B, 0, none⟩ (.slice (some ⟨g7, 0, none⟩) (len + n) c7)) B (insP L a n page0R) from by
            have hil : (insP L a n page0R).length = (len + n) := by rw [insP_len, HLEN.out]; first | done | omega
            have ho : OwnT rpC 3 w7 w.heap.size 76 (.slice (some ⟨g7, 0, none⟩) (insP L a n page0R).length c7) (insP L a n page0R) := by
              rw [hil, HINS.out]
              exact HO7.out
            obtain ⟨A9, cap9, hv9, hc9, hm9, _⟩ := ho.form
            injection hv9 with _ _ hv9
            subst hv9
            have hgB : g7 ≠ B := by have := HQ7.out; have := HB.out.size; have := HLT.out; omega
            refine ⟨some ⟨g7, 0, none⟩, c7, by rw [hil]; exact heap_setCell_same w7 B 0 _ _ _ HR7.out, ?_, by rw [hil]; omega, hc9, hm9, .inr ⟨g7, rfl⟩⟩
            exact (ho.of_block (fun j hj => heap_setCell_other w7 _ j _ (fun e => by simp [Value.ownBlock] at hj; simp at e; omega))).sl rpC_len)
          have HFN := Lib.hid (show NewRow w (w7.setCell ⟨B, 0, none⟩ (.slice (some ⟨g7, 0, none⟩) (len + n) c7)) B from ⟨g7, _, _, heap_setCell_same w7 B 0 _ _ _ HR7.out, by have := HQ7.out; have := HB.out.size; omega, by rw [World.size_setCell]; exact (HO7.out.lt g7 rfl).2⟩)
          clear HU2 HU5 HU6 HU7 HS HS2 HS5 HS6 HS7 HS8 HR0 HR2 HR5 HR6 HR7 HO7 HC0
          go_wp2_with fail
          go_ret
          exact ⟨rfl, HFR.out, HFG.out, HFN.out⟩
end Go.Proofs.Ytlifaldbdjcgjaa
