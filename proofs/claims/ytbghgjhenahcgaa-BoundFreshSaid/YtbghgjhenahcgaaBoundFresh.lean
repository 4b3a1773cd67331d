/- All is as it was bound just if each Dll, in any letters, has that number. -/
import Derived.Test.YtbghgjhenahcgaaBndP
import Derived.Test.YtbghgjhenahcgaaAppTs2
import Derived.Test.YtbghgjhenahcgaaRegK
import Derived.Test.YtbghgjhenahcgaaMask
namespace Go.Proofs.Ytbghgjhenahcgaa
open Go.ChangeShapes Go.WideShapes Go.ChangeAt Go.RowKit
set_option linter.unusedVariables false

theorem up_txt : ∀ i < 20, (⟨#[77]⟩ ++ dB i : ByteArray) = txt (upN i) := by decide +kernel
theorem lo_txt : ∀ i < 20, ((⟨#[109]⟩ ++ dB i) ++ ⟨#[46, 100, 108, 108]⟩ : ByteArray) = txt (loN i) := by decide +kernel
theorem infoStamp : (Try.prog.info? 38).map (fun i => (i.zero, i.size, i.bytes)) = some (some (.agg #[.string ByteArray.empty, .int .i64 0]), 2, 24) := by kernel_rfl
theorem upL_succ (n : Nat) (v : Nat → Int) : upL (n + 1) v = upL n v ++ [(upN n, v n)] := by simp [upL, List.range_succ]
theorem loL_succ (n : Nat) (v : Nat → Int) : loL (n + 1) v = [(loN n, v n)] ++ loL n v := by simp [loL, List.range_succ]
theorem upL_len (n : Nat) (v : Nat → Int) : (upL n v).length = n := by simp [upL]
theorem loL_len (n : Nat) (v : Nat → Int) : (loL n v).length = n := by simp [loL]
theorem upL_ok (n : Nat) (hn : n ≤ 20) (v : Nat → Int) : ∀ y ∈ upL n v, NameB y := by
  have h : ∀ i < 20, (∀ c ∈ upN i, c ≤ 255) ∧ (upN i).length ≤ 1000000 := by
    intro i hi
    refine ⟨?_, by unfold upN digN; split <;> simp⟩
    unfold upN digN
    intro c hc
    split at hc <;> simp at hc <;> omega
  intro y hy
  obtain ⟨i, hi, rfl⟩ := List.mem_map.mp hy
  exact h i (by have := List.mem_range.mp hi; omega)
theorem loN_ok (i : Nat) (hi : i < 20) (v : Int) : NameB (loN i, v) := by
  refine ⟨?_, by show (loN i).length ≤ 1000000; unfold loN digN; split <;> simp⟩
  show ∀ c ∈ loN i, c ≤ 255
  unfold loN digN
  intro c hc
  split at hc <;> simp at hc <;> omega
theorem loL_ok (n : Nat) (hn : n ≤ 20) (v : Nat → Int) : ∀ y ∈ loL n v, NameB y := by
  intro y hy
  obtain ⟨i, hi, rfl⟩ := List.mem_map.mp hy
  exact loN_ok i (by have := List.mem_range.mp (List.mem_reverse.mp hi); omega) _


theorem dB_siz : ∀ i < 20, (dB i).size ≤ 2 := by decide +kernel
def NumsI (w : World) (A : Option Addr) (m : Nat) (v : Nat → Int) : Prop := m = 0 ∨ ∃ b off, A = some ⟨b, off, none⟩ ∧ b < w.heap.size ∧ ∀ i, i < m → w.cell? ⟨b, off + i, none⟩ = some (.int .i64 (v i))
theorem NumsI.below {w w' : World} {A : Option Addr} {m : Nat} {v : Nat → Int} (h : NumsI w A m v) (hb : Below w.heap.size w w') : NumsI w' A m v := by
  rcases h with h | ⟨b, off, rfl, hlt, hc⟩
  · exact .inl h
  · exact .inr ⟨b, off, rfl, Nat.lt_of_lt_of_le hlt hb.size, fun i hi => (hb.cell (p := ⟨b, _, none⟩) hlt).trans (hc i hi)⟩
theorem own_one (w : World) (t : List Nat) (v : Int) (base : Nat) (h : base ≤ w.heap.size) : OwnT fC 2 (w.alloc (.cells #[.string (txt t), .int .i64 v] 38)) base 38 (.slice (some ⟨w.heap.size, 0, none⟩) 1 1) [(t, v)] := by
  refine ⟨by simp [fC], .inr ⟨w.heap.size, 1, _, rfl, h, heap_alloc_new w _, Nat.le_refl _, by unfold maxLen; omega, by simp, by simp [fC]⟩⟩

theorem stamp_cell {w : World} {base g c i k r : Nat} {v : Nat → Int} (h : OwnT fC 2 w base 38 (.slice (some ⟨g, 0, none⟩) i c) (loL i v)) (hk : k < i) (hg : (loL i v)[k]? = some (loN r, v r)) :
    w.cell? ⟨g, k * 2 + 1, none⟩ = some (.int .i64 (v r)) ∧ w.frozen? ⟨g, k * 2 + 1, none⟩ = false ∧ base ≤ g := by
  have h' : OwnT fC 2 w base 38 (.slice (some ⟨g, 0, none⟩) (loL i v).length c) (loL i v) := by rw [loL_len]; exact h
  have hkl : k < (loL i v).length := by rw [loL_len]; exact hk
  refine ⟨h'.cell fC_len k hkl 1 _ ?_, ?_, (h.lt g rfl).1⟩
  · rw [List.getElem?_eq_getElem hkl] at hg
    injection hg with hg
    rw [hg]; rfl
  · obtain ⟨cur, hcur⟩ := h'.blk
    exact frozen_of_row _ _ _ _ _ hcur
theorem stamp_set {w : World} {base g c i k r : Nat} {v : Nat → Int} {x : Int} (h : OwnT fC 2 w base 38 (.slice (some ⟨g, 0, none⟩) i c) (loL i v)) (hk : k < i) (hg : (loL i v)[k]? = some (loN r, v r)) :
    SlT fC 2 (w.setCell ⟨g, k * 2 + 1, none⟩ (.int .i64 x)) (some ⟨g, 0, none⟩) ((loL i v).set k (loN r, x)) := by
  have h' : OwnT fC 2 w base 38 (.slice (some ⟨g, 0, none⟩) (loL i v).length c) (loL i v) := by rw [loL_len]; exact h
  have hkl : k < (loL i v).length := by rw [loL_len]; exact hk
  rw [List.getElem?_eq_getElem hkl] at hg
  injection hg with hg
  refine (h'.sl fC_len).setT k 1 hkl (by omega) _ _ fC_len rfl (fun j hj => ?_)
  rw [hg]
  rcases j with _ | _ | j
  · rfl
  · exact absurd rfl hj
  · rfl

set_option maxRecDepth 100000 in
set_option maxHeartbeats 1000000 in
theorem freshes_any (A : Option Addr) (m cap : Nat) (v : Nat → Int) (which by' : Int) (w : World) (hs : NumsI w A m v) (hc : m ≤ 9223372036854775807) :
    Calls Try.prog 4 #[.slice A m cap, .int .i64 which, .int .i64 by'] w fun e w' => e = .returned (.bool true) ∧ Below w.heap.size w w' := by
  have HS0 := Lib.hid hs
  obtain ⟨N, hN⟩ : ∃ N, min m 20 = N := ⟨_, rfl⟩
  have hmin : min (m : Int) 20 = (N : Int) := by omega
  have hN20 : N ≤ 20 := by omega
  have HNM := Lib.hid (show N ≤ m by omega)
  clear hs hN
  go_enter Try.func4, Try.ntmps4
  go_wp2_with fail
  go_loopw [7, 8, 10] (fun v7 v8 v10 wr => ∃ (i : Nat) (A1 A2 : Option Addr) (c1 c2 : Nat), i ≤ N ∧ v10 = .int .i64 i ∧ v7 = .slice A1 (upL i v).length c1 ∧ v8 = .slice A2 (loL i v).length c2 ∧ OwnT fC 2 wr w.heap.size 25 (.slice A1 (upL i v).length c1) (upL i v) ∧ OwnT fC 2 wr w.heap.size 38 (.slice A2 (loL i v).length c2) (loL i v) ∧ (∀ k, (Value.slice A1 (upL i v).length c1).ownBlock = some k → (Value.slice A2 (loL i v).length c2).ownBlock ≠ some k) ∧ Below w.heap.size w wr) (fun _ _ v10 _ => N - (intOf v10).toNat)
  case atStart => exact ⟨0, none, none, 0, 0, Nat.zero_le _, rfl, rfl, rfl, OwnT.nil _ _ _, OwnT.nil _ _ _, fun k hk => by simp [Value.ownBlock] at hk, Below.refl _ _⟩
  case round =>
    obtain ⟨i, A1, A2, c1, c2, hi, rfl, rfl, rfl, ho1, ho2, hne, hbel⟩ := hrel
    have HO1 := Lib.hid ho1
    have HO2 := Lib.hid ho2
    have HNE := Lib.hid hne
    have HBW := Lib.hid hbel
    clear ho1 ho2 hne hbel
    by_cases hlt : i < N
    · rcases HS0.out with h0 | ⟨b, off, rfl, hb, hc'⟩
      · exfalso; have := HNM.out; omega
      have HC := Lib.hid (fun W (hW : Below w.heap.size w W) => (hW.cell (p := ⟨b, off + i, none⟩) hb).trans (hc' i (by have := HNM.out; omega)))
      have him : (i : Int) < (m : Int) := by have := HNM.out; omega
      have hi20 : i < 20 := by omega
      have HDG := Lib.hid (fun W => digits_any i W (by omega))
      have hds := dB_siz i hi20
      have hadd := fun (W : World) => run_string_add_sum (P := Try.prog) W ⟨#[77]⟩ (dB i) (by have : (⟨#[77]⟩ : ByteArray).size = 1 := rfl; omega)
      have hadd2 := fun (W : World) => run_string_add_sum (P := Try.prog) W ⟨#[109]⟩ (dB i) (by have : (⟨#[109]⟩ : ByteArray).size = 1 := rfl; omega)
      have hadd3 := fun (W : World) => run_string_add_sum (P := Try.prog) W (⟨#[109]⟩ ++ dB i) ⟨#[46, 100, 108, 108]⟩ (by have : (⟨#[109]⟩ : ByteArray).size = 1 := rfl; have : (⟨#[46, 100, 108, 108]⟩ : ByteArray).size = 4 := rfl; rw [ByteArray.size_append]; omega)
      rw [up_txt i hi20] at hadd
      rw [lo_txt i hi20] at hadd3
      have HA1 := Lib.hid hadd
      have HA2 := Lib.hid hadd2
      have HA3 := Lib.hid hadd3
      rw [upL_len] at HO1 HNE ⊢
      rw [loL_len] at HO2 HNE ⊢
      clear hadd hadd2 hadd3 hds hc'
      generalize hT : txt (upN i) = T at *
      generalize ⟨#[109]⟩ ++ dB i = T1 at *
      generalize hT2 : txt (loN i) = T2 at *
      generalize dB i = D at *
      go_upto_region 7 with (fail)
      have HS := Lib.hid (show Below w.heap.size w wr.drew from HBW.out.drew)
      refine wp_region_noPanic ?_
      refine wp_region_K (fun W => Below w.heap.size w W) (fun _ => True) 99 (by kernel_rfl) ?_
      refine wpAnyK_take (i := 0) (oi := ?_) (v := ?_) ?_ (by kernel_rfl) (by kernel_rfl) (by kernel_rfl) (fun _ _ _ h => h) (by decide) ?_ HS.out (fun _ => trivial) ?_
      rotate_left 2
      · (simp only [List.getElem?_toArray, List.getElem?_cons_succ, List.getElem?_cons_zero]; rfl)
      · (first | exact Or.inr ⟨by rfl, rfl⟩ | (refine Or.inl ⟨by rfl, ?_⟩; intro W hSw; clear hSw; go_simp; try with_reducible rfl))
      try simp only [Act.put, List.setIfInBounds_toArray, List.set_cons_zero, List.set_cons_succ]
      refine wpAnyK_take (i := 1) (oi := ?_) (v := ?_) ?_ (by kernel_rfl) (by kernel_rfl) (by kernel_rfl) (fun _ _ _ h => h) (by decide) ?_ HS.out (fun _ => trivial) ?_
      rotate_left 2
      · (simp only [List.getElem?_toArray, List.getElem?_cons_succ, List.getElem?_cons_zero]; rfl)
      · (first | exact Or.inr ⟨by rfl, rfl⟩ | (refine Or.inl ⟨by rfl, ?_⟩; intro W hSw; clear hSw; go_simp; try with_reducible rfl))
      try simp only [Act.put, List.setIfInBounds_toArray, List.set_cons_zero, List.set_cons_succ]
      refine wpAnyK_takeQ (i := 2) (oi := ?_) (v := .string D) ?_ (by kernel_rfl) (by kernel_rfl) (by kernel_rfl) (fun _ _ _ h => h) (by decide) ?_ HS.out (fun _ => trivial) ?_
      rotate_left 1
      · (simp only [List.getElem?_toArray, List.getElem?_cons_succ, List.getElem?_cons_zero]; rfl)
      · refine ⟨by rfl, fun W hW => ⟨5, #[.int .i64 i], ?_, HDG.out W⟩⟩
        first | kernel_rfl | (go_simp; done) | rfl
      try simp only [Act.put, List.setIfInBounds_toArray, List.set_cons_zero, List.set_cons_succ]
      refine wpAnyK_take (i := 3) (oi := ?_) (v := ?_) ?_ (by kernel_rfl) (by kernel_rfl) (by kernel_rfl) (fun _ _ _ h => h) (by decide) ?_ HS.out (fun _ => trivial) ?_
      rotate_left 2
      · (simp only [List.getElem?_toArray, List.getElem?_cons_succ, List.getElem?_cons_zero]; rfl)
      · (first | exact Or.inr ⟨by rfl, rfl⟩ | (refine Or.inl ⟨by rfl, ?_⟩; intro W hSw; have hq := HA1.out W; clear hSw; go_simp; try with_reducible rfl))
      try simp only [Act.put, List.setIfInBounds_toArray, List.set_cons_zero, List.set_cons_succ]
      refine wpAnyK_take (i := 4) (oi := ?_) (v := ?_) ?_ (by kernel_rfl) (by kernel_rfl) (by kernel_rfl) (fun _ _ _ h => h) (by decide) ?_ HS.out (fun _ => trivial) ?_
      rotate_left 2
      · (simp only [List.getElem?_toArray, List.getElem?_cons_succ, List.getElem?_cons_zero]; rfl)
      · (first | exact Or.inr ⟨by rfl, rfl⟩ | (refine Or.inl ⟨by rfl, ?_⟩; intro W hSw; clear hSw; go_simp; try with_reducible rfl))
      try simp only [Act.put, List.setIfInBounds_toArray, List.set_cons_zero, List.set_cons_succ]
      refine wpAnyK_take (i := 5) (oi := ?_) (v := ?_) ?_ (by kernel_rfl) (by kernel_rfl) (by kernel_rfl) (fun _ _ _ h => h) (by decide) ?_ HS.out (fun _ => trivial) ?_
      rotate_left 2
      · (simp only [List.getElem?_toArray, List.getElem?_cons_succ, List.getElem?_cons_zero]; rfl)
      · (first | exact Or.inr ⟨by rfl, rfl⟩ | (refine Or.inl ⟨by rfl, ?_⟩; intro W hSw; clear hSw; go_simp; try with_reducible rfl))
      try simp only [Act.put, List.setIfInBounds_toArray, List.set_cons_zero, List.set_cons_succ]
      refine wpAnyK_take (i := 6) (oi := ?_) (v := ?_) ?_ (by kernel_rfl) (by kernel_rfl) (by kernel_rfl) (fun _ _ _ h => h) (by decide) ?_ HS.out (fun _ => trivial) ?_
      rotate_left 2
      · (simp only [List.getElem?_toArray, List.getElem?_cons_succ, List.getElem?_cons_zero]; rfl)
      · (first | exact Or.inr ⟨by rfl, rfl⟩ | (refine Or.inl ⟨by rfl, ?_⟩; intro W hSw; clear hSw; go_simp; try with_reducible rfl))
      try simp only [Act.put, List.setIfInBounds_toArray, List.set_cons_zero, List.set_cons_succ]
      refine wpAnyK_take (i := 7) (oi := ?_) (v := ?_) ?_ (by kernel_rfl) (by kernel_rfl) (by kernel_rfl) (fun _ _ _ h => h) (by decide) ?_ HS.out (fun _ => trivial) ?_
      rotate_left 2
      · (simp only [List.getElem?_toArray, List.getElem?_cons_succ, List.getElem?_cons_zero]; rfl)
      · (first | exact Or.inr ⟨by rfl, rfl⟩ | (refine Or.inl ⟨by rfl, ?_⟩; intro W hSw; have hq := HC.out W hSw; clear hSw; go_simp; try with_reducible rfl))
      try simp only [Act.put, List.setIfInBounds_toArray, List.set_cons_zero, List.set_cons_succ]
      refine wpAnyK_take (i := 8) (oi := ?_) (v := ?_) ?_ (by kernel_rfl) (by kernel_rfl) (by kernel_rfl) (fun _ _ _ h => h) (by decide) ?_ HS.out (fun _ => trivial) ?_
      rotate_left 2
      · (simp only [List.getElem?_toArray, List.getElem?_cons_succ, List.getElem?_cons_zero]; rfl)
      · (first | exact Or.inr ⟨by rfl, rfl⟩ | (refine Or.inl ⟨by rfl, ?_⟩; intro W hSw; clear hSw; go_simp; try with_reducible rfl))
      try simp only [Act.put, List.setIfInBounds_toArray, List.set_cons_zero, List.set_cons_succ]
      refine wpAnyK_one (i := 9) (by kernel_rfl) rfl (fun K hK => ?_)
      go_simp
      have HS2 := Lib.hid (HS.out.alloc HS.out.size (.cells #[.string T, .int .i64 (v i)] 25))
      refine hK.out _ _ HS2.out (fun _ => trivial) ?_
      clear hK K
      try simp only [Act.put, List.setIfInBounds_toArray, List.set_cons_zero, List.set_cons_succ]
      have HOA := Lib.hid (HO1.out.drew.alloc (.cells #[.string T, .int .i64 (v i)] 25))
      have HOB := Lib.hid (HO2.out.drew.alloc (.cells #[.string T, .int .i64 (v i)] 25))
      have HY := Lib.hid (show ∀ j u, (fC (upN i, v i))[j]? = some u → (wr.drew.alloc (.cells #[.string T, .int .i64 (v i)] 25)).cell? ⟨wr.heap.size, j, none⟩ = some u from fun j u hu => by
        rcases j with _ | _ | j
        · simp [fC] at hu; rw [hT] at hu; subst hu; simp [go_sem]
        · simp [fC] at hu; subst hu; simp [go_sem]
        · simp [fC] at hu)
      refine wpAnyK_one (i := 10) (by kernel_rfl) rfl (fun K hK => ?_)
      refine step_appT1 (C := fC) (sz := 2) ?_ (.tmp 22) (.tmp 31) 22 ?_ w.heap.size 25 (.agg #[.string ByteArray.empty, .int .i64 0]) 24 ?_ infoBound ?_ (by omega) fC_len fC_one (.slice A1 (upL i v).length c1) (upL i v) ?_ ?_ wr.heap.size 1 ?_ (upN i, v i) HY.out ?_ ?_ HS2.out.size ?_
      · rfl
      · rfl
      · rfl
      · rfl
      · first | rfl | simp [Act.eval, upL_len]
      · rw [upL_len]; exact HOA.out
      · first | rfl | simp [Act.eval]
      · rw [upL_len]; unfold maxLen; omega
      · rw [upL_len]; omega
      intro g5 c5 w5 hown5 hg5 hat5
      rw [upL_len] at hown5 hg5 hat5 ⊢
      have hs5 : Below w.heap.size w w5 := HOA.out.grew HS2.out (Nat.le_refl _) HS2.out.size hg5
      have HS5 := Lib.hid hs5
      have HO5 := Lib.hid hown5
      have HO25 := Lib.hid (HOB.out.grown hg5 (fun k hk he => HNE.out k he hk))
      have HNE5 := Lib.hid (show ∀ k, (Value.slice A2 i c2).ownBlock = some k → k ≠ g5 from fun k hk => by
        rcases hat5 with h | h
        · intro e; subst e; exact HNE.out _ h hk
        · have := (HO2.out.lt k hk).2
          simp at h
          omega)
      have HG5 := Lib.hid (show g5 < w5.heap.size from by
        have := HO5.out.lt g5 rfl
        exact this.2)
      clear hs5 hown5 hg5 hat5
      refine hK.out _ _ HS5.out (fun _ => trivial) ?_
      clear hK K
      try simp only [Act.put, List.setIfInBounds_toArray, List.set_cons_zero, List.set_cons_succ]
      refine wpAnyK_one (i := 11) (by kernel_rfl) rfl (fun K hK => ?_)
      go_simp
      refine hK.out _ _ HS5.out (fun _ => trivial) ?_
      clear hK K
      try simp only [Act.put, List.setIfInBounds_toArray, List.set_cons_zero, List.set_cons_succ]
      refine wpAnyK_done (by kernel_rfl) ?_ _
      refine NoPanic.normal ?_
      go_upto_region 8 with (fail)
      have HB5 := Lib.hid HS5.out
      clear HS HS2 HOA HOB HY
      have HS := Lib.hid (show Below w.heap.size w w5.drew from HB5.out.drew)
      refine wp_region_noPanic ?_
      refine wp_region_K (fun W => Below w.heap.size w W) (fun _ => True) 99 (by kernel_rfl) ?_
      refine wpAnyK_take (i := 0) (oi := ?_) (v := ?_) ?_ (by kernel_rfl) (by kernel_rfl) (by kernel_rfl) (fun _ _ _ h => h) (by decide) ?_ HS.out (fun _ => trivial) ?_
      rotate_left 2
      · (simp only [List.getElem?_toArray, List.getElem?_cons_succ, List.getElem?_cons_zero]; rfl)
      · (first | exact Or.inr ⟨by rfl, rfl⟩ | (refine Or.inl ⟨by rfl, ?_⟩; intro W hSw; clear hSw; go_simp; try with_reducible rfl))
      try simp only [Act.put, List.setIfInBounds_toArray, List.set_cons_zero, List.set_cons_succ]
      refine wpAnyK_takeQ (i := 1) (oi := ?_) (v := .string D) ?_ (by kernel_rfl) (by kernel_rfl) (by kernel_rfl) (fun _ _ _ h => h) (by decide) ?_ HS.out (fun _ => trivial) ?_
      rotate_left 1
      · (simp only [List.getElem?_toArray, List.getElem?_cons_succ, List.getElem?_cons_zero]; rfl)
      · refine ⟨by rfl, fun W hW => ⟨5, #[.int .i64 i], ?_, HDG.out W⟩⟩
        first | kernel_rfl | (go_simp; done) | rfl
      try simp only [Act.put, List.setIfInBounds_toArray, List.set_cons_zero, List.set_cons_succ]
      refine wpAnyK_take (i := 2) (oi := ?_) (v := ?_) ?_ (by kernel_rfl) (by kernel_rfl) (by kernel_rfl) (fun _ _ _ h => h) (by decide) ?_ HS.out (fun _ => trivial) ?_
      rotate_left 2
      · (simp only [List.getElem?_toArray, List.getElem?_cons_succ, List.getElem?_cons_zero]; rfl)
      · (first | exact Or.inr ⟨by rfl, rfl⟩ | (refine Or.inl ⟨by rfl, ?_⟩; intro W hSw; have hq := HA2.out W; clear hSw; go_simp; try with_reducible rfl))
      try simp only [Act.put, List.setIfInBounds_toArray, List.set_cons_zero, List.set_cons_succ]
      refine wpAnyK_take (i := 3) (oi := ?_) (v := ?_) ?_ (by kernel_rfl) (by kernel_rfl) (by kernel_rfl) (fun _ _ _ h => h) (by decide) ?_ HS.out (fun _ => trivial) ?_
      rotate_left 2
      · (simp only [List.getElem?_toArray, List.getElem?_cons_succ, List.getElem?_cons_zero]; rfl)
      · (first | exact Or.inr ⟨by rfl, rfl⟩ | (refine Or.inl ⟨by rfl, ?_⟩; intro W hSw; have hq := HA3.out W; clear hSw; go_simp; try with_reducible rfl))
      try simp only [Act.put, List.setIfInBounds_toArray, List.set_cons_zero, List.set_cons_succ]
      refine wpAnyK_take (i := 4) (oi := ?_) (v := ?_) ?_ (by kernel_rfl) (by kernel_rfl) (by kernel_rfl) (fun _ _ _ h => h) (by decide) ?_ HS.out (fun _ => trivial) ?_
      rotate_left 2
      · (simp only [List.getElem?_toArray, List.getElem?_cons_succ, List.getElem?_cons_zero]; rfl)
      · (first | exact Or.inr ⟨by rfl, rfl⟩ | (refine Or.inl ⟨by rfl, ?_⟩; intro W hSw; clear hSw; go_simp; try with_reducible rfl))
      try simp only [Act.put, List.setIfInBounds_toArray, List.set_cons_zero, List.set_cons_succ]
      refine wpAnyK_take (i := 5) (oi := ?_) (v := ?_) ?_ (by kernel_rfl) (by kernel_rfl) (by kernel_rfl) (fun _ _ _ h => h) (by decide) ?_ HS.out (fun _ => trivial) ?_
      rotate_left 2
      · (simp only [List.getElem?_toArray, List.getElem?_cons_succ, List.getElem?_cons_zero]; rfl)
      · (first | exact Or.inr ⟨by rfl, rfl⟩ | (refine Or.inl ⟨by rfl, ?_⟩; intro W hSw; clear hSw; go_simp; try with_reducible rfl))
      try simp only [Act.put, List.setIfInBounds_toArray, List.set_cons_zero, List.set_cons_succ]
      refine wpAnyK_take (i := 6) (oi := ?_) (v := ?_) ?_ (by kernel_rfl) (by kernel_rfl) (by kernel_rfl) (fun _ _ _ h => h) (by decide) ?_ HS.out (fun _ => trivial) ?_
      rotate_left 2
      · (simp only [List.getElem?_toArray, List.getElem?_cons_succ, List.getElem?_cons_zero]; rfl)
      · (first | exact Or.inr ⟨by rfl, rfl⟩ | (refine Or.inl ⟨by rfl, ?_⟩; intro W hSw; clear hSw; go_simp; try with_reducible rfl))
      try simp only [Act.put, List.setIfInBounds_toArray, List.set_cons_zero, List.set_cons_succ]
      refine wpAnyK_take (i := 7) (oi := ?_) (v := ?_) ?_ (by kernel_rfl) (by kernel_rfl) (by kernel_rfl) (fun _ _ _ h => h) (by decide) ?_ HS.out (fun _ => trivial) ?_
      rotate_left 2
      · (simp only [List.getElem?_toArray, List.getElem?_cons_succ, List.getElem?_cons_zero]; rfl)
      · (first | exact Or.inr ⟨by rfl, rfl⟩ | (refine Or.inl ⟨by rfl, ?_⟩; intro W hSw; have hq := HC.out W hSw; clear hSw; go_simp; try with_reducible rfl))
      try simp only [Act.put, List.setIfInBounds_toArray, List.set_cons_zero, List.set_cons_succ]
      refine wpAnyK_take (i := 8) (oi := ?_) (v := ?_) ?_ (by kernel_rfl) (by kernel_rfl) (by kernel_rfl) (fun _ _ _ h => h) (by decide) ?_ HS.out (fun _ => trivial) ?_
      rotate_left 2
      · (simp only [List.getElem?_toArray, List.getElem?_cons_succ, List.getElem?_cons_zero]; rfl)
      · (first | exact Or.inr ⟨by rfl, rfl⟩ | (refine Or.inl ⟨by rfl, ?_⟩; intro W hSw; clear hSw; go_simp; try with_reducible rfl))
      try simp only [Act.put, List.setIfInBounds_toArray, List.set_cons_zero, List.set_cons_succ]
      refine wpAnyK_take (i := 10) (oi := ?_) (v := ?_) ?_ (by kernel_rfl) (by kernel_rfl) (by kernel_rfl) (fun _ _ _ h => h) (by decide) ?_ HS.out (fun _ => trivial) ?_
      rotate_left 2
      · (simp only [List.getElem?_toArray, List.getElem?_cons_succ, List.getElem?_cons_zero]; rfl)
      · (first | exact Or.inr ⟨by rfl, rfl⟩ | (refine Or.inl ⟨by rfl, ?_⟩; intro W hSw; clear hSw; go_simp; try with_reducible rfl))
      try simp only [Act.put, List.setIfInBounds_toArray, List.set_cons_zero, List.set_cons_succ]
      refine wpAnyK_one (i := 9) (by kernel_rfl) rfl (fun K hK => ?_)
      go_simp
      have HS6 := Lib.hid (HS.out.alloc HS.out.size (.cells #[.string T2, .int .i64 (v i)] 38))
      refine hK.out _ _ HS6.out (fun _ => trivial) ?_
      clear hK K
      try simp only [Act.put, List.setIfInBounds_toArray, List.set_cons_zero, List.set_cons_succ]
      have HOA := Lib.hid (show OwnT fC 2 (w5.drew.alloc (.cells #[.string T2, .int .i64 (v i)] 38)) w.heap.size 38 (.slice (some ⟨w5.heap.size, 0, none⟩) 1 1) [(loN i, v i)] from by
        rw [← hT2]; exact own_one w5.drew (loN i) (v i) w.heap.size HB5.out.size)
      have HOB := Lib.hid (HO5.out.drew.alloc (.cells #[.string T2, .int .i64 (v i)] 38))
      have HSL := Lib.hid (show SlT fC 2 (w5.drew.alloc (.cells #[.string T2, .int .i64 (v i)] 38)) A2 (loL i v) from OwnT.sl fC_len (by rw [loL_len]; exact HO25.out.drew.alloc (.cells #[.string T2, .int .i64 (v i)] 38)))
      refine wpAnyK_one (i := 11) (by kernel_rfl) rfl (fun K hK => ?_)
      refine step_appTsE (C := fC) (sz := 2) ?_ (.tmp 42) (.tmp 43) 37 ?_ w.heap.size 38 (.agg #[.string ByteArray.empty, .int .i64 0]) 24 ?_ infoStamp ?_ (by omega) fC_len fC_one w5.heap.size 1 [(loN i, v i)] ?_ HOA.out A2 i c2 (loL i v) (loL_len i v).symm ?_ HSL.out ?_ ?_ HS6.out.size ?_
      · rfl
      · rfl
      · rfl
      · rfl
      · first | rfl | simp [Act.eval]
      · first | rfl | simp [Act.eval]
      · rw [loL_len]; unfold maxLen; simp; omega
      · rw [loL_len]; simp; omega
      intro g6 c6 w6 hown6 hg6 hat6
      have HO26 := Lib.hid (show OwnT fC 2 w6 w.heap.size 38 (.slice (some ⟨g6, 0, none⟩) (i + 1) c6) (loL (i + 1) v) from by
        rw [loL_succ]
        rw [loL_len, List.length_singleton, Nat.add_comm] at hown6
        exact hown6)
      have HS7 := Lib.hid (show Below w.heap.size w w6 from HOA.out.grew HS6.out (Nat.le_refl _) HS6.out.size hg6)
      have HO16 := Lib.hid (HOB.out.grown hg6 (fun k hk he => by
        have e1 : g5 = k := Option.some.inj hk
        have e2 : w5.heap.size = k := Option.some.inj he
        have := HG5.out
        omega))
      have HNE6 := Lib.hid (show g5 ≠ g6 from by
        have := HG5.out
        rcases hat6 with h | h
        · omega
        · simp at h; omega)
      rw [loL_len, List.length_singleton]
      have hlen1 : 1 + i = i + 1 := Nat.add_comm _ _
      rw [hlen1]
      clear hown6 hg6 hat6 hlen1
      refine hK.out _ _ HS7.out (fun _ => trivial) ?_
      clear hK K
      try simp only [Act.put, List.setIfInBounds_toArray, List.set_cons_zero, List.set_cons_succ]
      refine wpAnyK_one (i := 12) (by kernel_rfl) rfl (fun K hK => ?_)
      go_simp
      refine hK.out _ _ HS7.out (fun _ => trivial) ?_
      clear hK K
      try simp only [Act.put, List.setIfInBounds_toArray, List.set_cons_zero, List.set_cons_succ]
      refine wpAnyK_done (by kernel_rfl) ?_ _
      refine NoPanic.normal ?_
      go_wp2_with fail
      go_roundw
      case rel =>
        refine ⟨i + 1, some ⟨g5, 0, none⟩, some ⟨g6, 0, none⟩, c5, c6, by omega, by go_num, by rw [upL_len], by rw [loL_len], ?_, ?_, fun k hk he => ?_, HS7.out⟩
        · rw [upL_len, upL_succ]; exact HO16.out
        · rw [loL_len]; exact HO26.out
        · rw [upL_len] at hk
          rw [loL_len] at he
          exact HNE6.out ((Option.some.inj hk).trans (Option.some.inj he).symm)
      case measure => simp [intOf]; omega
    · have hiN : i = N := by omega
      subst hiN
      have hsl1 := HO1.out.sl fC_len
      have hsl2 := HO2.out.sl fC_len
      have HF1 := Lib.hid (fresh_any (upL i v) (loL i v) A1 A2 c1 c2 wr hsl1 hsl2 (upL_ok i hN20 v) (loL_ok i hN20 v) (by rw [upL_len]; omega) (by rw [loL_len]; omega))
      rw [fresh_same i hN20 v, upL_len, loL_len] at HF1
      have HSL1 := Lib.hid (fun W (hW : Below wr.heap.size wr W) => hsl1.below hW)
      have HSL2 := Lib.hid (fun W (hW : Below wr.heap.size wr W) => hsl2.below hW)
      have hfm := HO2.out.form
      have HAW := Lib.hid awake9_any
      rw [upL_len]
      rw [loL_len] at HO2 ⊢
      clear hsl1 hsl2
      by_cases h0 : i = 0
      · subst h0
        have HF0 := Lib.hid (fun W => fresh_any [] [] none none 0 0 W (.inl rfl) (.inl rfl) (fun y hy => by simp at hy) (fun y hy => by simp at hy) (by simp) (by simp))
        rw [show freshM [] [] = true from rfl] at HF0
        clear hfm
        go_wp2_with fail
        refine HF1.out.mono ?_
        rintro e w1 ⟨rfl, hw1⟩
        have HW1 := Lib.hid (HBW.out.trans (hw1.mono HBW.out.size))
        clear hw1
        go_wp2_with fail
        refine (HF0.out _).mono ?_
        rintro e w2 ⟨rfl, hw2⟩
        have HW2 := Lib.hid (HW1.out.trans (hw2.mono HW1.out.size))
        clear hw2
        go_wp2_with fail
        refine (HAW.out _).mono ?_
        rintro e w3 ⟨rfl, hw3⟩
        have HW3 := Lib.hid (HW2.out.trans (hw3.mono HW2.out.size))
        clear hw3
        go_wp2_with fail
        go_ret
        exact ⟨rfl, HW3.out⟩
      · obtain ⟨A2', c2', hv2, hcl, hcm, hg2⟩ := hfm
        rw [loL_len] at hv2 hcl
        injection hv2 with hv2 _ hv3
        subst hv2 hv3
        obtain ⟨g2, rfl, hgb, hgl⟩ := hg2.resolve_left (fun h => by have := congrArg List.length h; rw [loL_len] at this; simp at this; exact h0 this)
        have d0 : ((i : Int) == 0) = false := beq_eq_false_iff_ne.mpr (by omega)
        obtain ⟨P, hP, m1⟩ : ∃ P : Nat, P < 256 ∧ bits .and .i64 which 255 = (P : Int) := ⟨(which % 256).toNat, by omega, by rw [and_ff]; omega⟩
        have hpp : Int.tmod (P : Int) (i : Int) = ((P % i : Nat) : Int) := rfl
        obtain ⟨k, hk⟩ : ∃ k, P % i = k := ⟨_, rfl⟩
        have hki : k < i := by rw [← hk]; exact Nat.mod_lt _ (by omega)
        rw [hk] at hpp
        clear hP hk hg2
        go_wp2_with fail
        refine HF1.out.mono ?_
        rintro e w1 ⟨rfl, hw1⟩
        have HW1 := Lib.hid hw1
        clear hw1
        have HM := Lib.hid (OwnT.made (C := fC) (sz := 2) w1 wr.heap.size HW1.out.size 38)
        have HSW := Lib.hid (HSL2.out _ (HW1.out.alloc HW1.out.size (.cells #[] 38)))
        have HL63 := Lib.hid (show (([] : List FRow).length + (loL i v).length) ≤ maxLen from by rw [loL_len]; unfold maxLen; simp; omega)
        have HLB := Lib.hid (show (([] : List FRow).length + (loL i v).length) * 24 ≤ 140737488355328 from by rw [loL_len]; simp; omega)
        have HLS := Lib.hid (show wr.heap.size ≤ (w1.alloc (.cells #[] 38)).heap.size from by have := HW1.out.size; simp; omega)
        have HLL := Lib.hid (loL_len i v)
        obtain ⟨r, hr⟩ : ∃ r, i - 1 - k = r := ⟨_, rfl⟩
        have hget : (loL i v)[k]? = some (loN r, v r) := by
          unfold loL
          rw [List.getElem?_map, rev_get i k hki, hr]; rfl
        have HGET := Lib.hid hget
        obtain ⟨o1, ho1⟩ : ∃ o, bits .or .i64 by' 1 = o := ⟨_, rfl⟩
        obtain ⟨x, hx⟩ : ∃ x, bits .xor .i64 (v r) o1 = x := ⟨_, rfl⟩
        have HX := Lib.hid (show x ≠ v r from by rw [← hx, ← ho1]; exact xor_odd _ _)
        have HR := Lib.hid hr
        have hkm : (k : Int) < (i : Int) := by omega
        clear hget hr
        go_wp2_with (first | (at_builtin; refine wpList_appTs rfl (.tmp 65) (.tmp 66) 37 rfl wr.heap.size 38 _ 24 rfl infoStamp rfl (by omega) fC_len fC_one w1.heap.size 0 [] rfl HM.out (some ⟨g2, 0, none⟩) i c2 (loL i v) HLL.out.symm rfl HSW.out HL63.out HLB.out HLS.out ?_; intro g3 c3 w3 hown3 hg3; rw [HLL.out] at hown3 ⊢; simp only [List.length_nil, Nat.zero_add, List.nil_append] at hown3; have HO3 := Lib.hid hown3; have HG3 := Lib.hid hg3; have hsc := stamp_cell hown3 hki HGET.out; obtain ⟨hc3, hf3, hb3⟩ := hsc; clear hown3 hg3) | fail)
        have HW3 := Lib.hid (show Below wr.heap.size wr w3 from HM.out.grew (HW1.out.alloc HW1.out.size (.cells #[] 38)) (Nat.le_refl _) HLS.out HG3.out)
        have HW4 := Lib.hid (HW3.out.setCell (p := ⟨g3, k * 2 + 1, none⟩) hb3 (.int .i64 x))
        have HT4 := Lib.hid (stamp_set (x := x) HO3.out hki HGET.out)
        generalize w3.setCell ⟨g3, k * 2 + 1, none⟩ (.int .i64 x) = w4 at *
        have HKI := Lib.hid hki
        clear hc3 hf3 hb3 hx ho1 HO3 HG3 hpp
        obtain ⟨k1, hk1⟩ : ∃ k1, k + 1 = k1 := ⟨_, rfl⟩
        have hkk : (k : Int) + 1 = (k1 : Int) := by omega
        have wk1 : IntKind.i64.wrap (k1 : Int) = (k1 : Int) := by rw [IntKind.wrap_i64]; omega
        have hk2 : (k1 : Int) ≤ (i : Int) := by omega
        have HK1 := Lib.hid hk1
        clear hk1
        have hk3 : (k : Int) ≤ (c2 : Int) := by omega
        have hic : (i : Int) ≤ (c2 : Int) := by omega
        have hc0 : ¬ c2 = 0 := by omega
        have HSL24 := Lib.hid (fun W (hW : Below w4.heap.size w4 W) => HSL2.out W (HW4.out.trans (hW.mono HW4.out.size)))
        have htl : ((loL i v).take k).length = k := by rw [List.length_take, loL_len]; have := HKI.out; omega
        have hdl : ((loL i v).drop k1).length = i - k1 := by rw [List.length_drop, loL_len]
        have HTL := Lib.hid htl
        have HDL := Lib.hid hdl
        clear htl hdl
        have HS := Lib.hid (show Below w4.heap.size w4 w4.drew from (Below.refl _ _).drew)
        refine wp_region_noPanic ?_
        refine wp_region_K (fun W => Below w4.heap.size w4 W) (fun _ => True) 99 (by kernel_rfl) ?_
        refine wpAnyK_take (i := 1) (oi := ?_) (v := ?_) ?_ (by kernel_rfl) (by kernel_rfl) (by kernel_rfl) (fun _ _ _ h => h) (by decide) ?_ HS.out (fun _ => trivial) ?_
        rotate_left 2
        · (simp only [List.getElem?_toArray, List.getElem?_cons_succ, List.getElem?_cons_zero]; rfl)
        · (first | exact Or.inr ⟨by rfl, rfl⟩ | (refine Or.inl ⟨by rfl, ?_⟩; intro W hSw; clear hSw; go_simp; try with_reducible rfl))
        try simp only [Act.put, List.setIfInBounds_toArray, List.set_cons_zero, List.set_cons_succ]
        refine wpAnyK_take (i := 2) (oi := ?_) (v := ?_) ?_ (by kernel_rfl) (by kernel_rfl) (by kernel_rfl) (fun _ _ _ h => h) (by decide) ?_ HS.out (fun _ => trivial) ?_
        rotate_left 2
        · (simp only [List.getElem?_toArray, List.getElem?_cons_succ, List.getElem?_cons_zero]; rfl)
        · (first | exact Or.inr ⟨by rfl, rfl⟩ | (refine Or.inl ⟨by rfl, ?_⟩; intro W hSw; clear hSw; go_simp; try with_reducible rfl))
        try simp only [Act.put, List.setIfInBounds_toArray, List.set_cons_zero, List.set_cons_succ]
        refine wpAnyK_take (i := 3) (oi := ?_) (v := ?_) ?_ (by kernel_rfl) (by kernel_rfl) (by kernel_rfl) (fun _ _ _ h => h) (by decide) ?_ HS.out (fun _ => trivial) ?_
        rotate_left 2
        · (simp only [List.getElem?_toArray, List.getElem?_cons_succ, List.getElem?_cons_zero]; rfl)
        · (first | exact Or.inr ⟨by rfl, rfl⟩ | (refine Or.inl ⟨by rfl, ?_⟩; intro W hSw; clear hSw; go_simp; try with_reducible rfl))
        try simp only [Act.put, List.setIfInBounds_toArray, List.set_cons_zero, List.set_cons_succ]
        refine wpAnyK_take (i := 5) (oi := ?_) (v := ?_) ?_ (by kernel_rfl) (by kernel_rfl) (by kernel_rfl) (fun _ _ _ h => h) (by decide) ?_ HS.out (fun _ => trivial) ?_
        rotate_left 2
        · (simp only [List.getElem?_toArray, List.getElem?_cons_succ, List.getElem?_cons_zero]; rfl)
        · (first | exact Or.inr ⟨by rfl, rfl⟩ | (refine Or.inl ⟨by rfl, ?_⟩; intro W hSw; clear hSw; go_simp; try with_reducible rfl))
        try simp only [Act.put, List.setIfInBounds_toArray, List.set_cons_zero, List.set_cons_succ]
        refine wpAnyK_take (i := 6) (oi := ?_) (v := ?_) ?_ (by kernel_rfl) (by kernel_rfl) (by kernel_rfl) (fun _ _ _ h => h) (by decide) ?_ HS.out (fun _ => trivial) ?_
        rotate_left 2
        · (simp only [List.getElem?_toArray, List.getElem?_cons_succ, List.getElem?_cons_zero]; rfl)
        · (first | exact Or.inr ⟨by rfl, rfl⟩ | (refine Or.inl ⟨by rfl, ?_⟩; intro W hSw; clear hSw; go_simp; try with_reducible rfl))
        try simp only [Act.put, List.setIfInBounds_toArray, List.set_cons_zero, List.set_cons_succ]
        refine wpAnyK_take (i := 7) (oi := ?_) (v := ?_) ?_ (by kernel_rfl) (by kernel_rfl) (by kernel_rfl) (fun _ _ _ h => h) (by decide) ?_ HS.out (fun _ => trivial) ?_
        rotate_left 2
        · (simp only [List.getElem?_toArray, List.getElem?_cons_succ, List.getElem?_cons_zero]; rfl)
        · (first | exact Or.inr ⟨by rfl, rfl⟩ | (refine Or.inl ⟨by rfl, ?_⟩; intro W hSw; clear hSw; go_simp; try with_reducible rfl))
        try simp only [Act.put, List.setIfInBounds_toArray, List.set_cons_zero, List.set_cons_succ]
        refine wpAnyK_take (i := 8) (oi := ?_) (v := ?_) ?_ (by kernel_rfl) (by kernel_rfl) (by kernel_rfl) (fun _ _ _ h => h) (by decide) ?_ HS.out (fun _ => trivial) ?_
        rotate_left 2
        · (simp only [List.getElem?_toArray, List.getElem?_cons_succ, List.getElem?_cons_zero]; rfl)
        · (first | exact Or.inr ⟨by rfl, rfl⟩ | (refine Or.inl ⟨by rfl, ?_⟩; intro W hSw; clear hSw; go_simp; try with_reducible rfl))
        try simp only [Act.put, List.setIfInBounds_toArray, List.set_cons_zero, List.set_cons_succ]
        generalize hA88 : (if c2 = k1 then (some ⟨g2, 0, none⟩ : Option Addr) else some ⟨g2, k1 * 2, none⟩) = A88
        have HA88 := Lib.hid hA88
        clear hA88
        refine wpAnyK_one (i := 0) (by kernel_rfl) rfl (fun K hK => ?_)
        go_simp
        have HS2 := Lib.hid (HS.out.alloc HS.out.size (.cells #[] 38))
        refine hK.out _ _ HS2.out (fun _ => trivial) ?_
        clear hK K
        try simp only [Act.put, List.setIfInBounds_toArray, List.set_cons_zero, List.set_cons_succ]
        have HM4 := Lib.hid (OwnT.made (C := fC) (sz := 2) w4.drew w4.heap.size (Nat.le_refl _) 38)
        have HSK := Lib.hid ((HSL24.out _ HS2.out).takeT k)
        refine wpAnyK_one (i := 4) (by kernel_rfl) rfl (fun K hK => ?_)
        refine step_appTsE (C := fC) (sz := 2) ?_ (.tmp 80) (.tmp 83) 37 ?_ w4.heap.size 38 (.agg #[.string ByteArray.empty, .int .i64 0]) 24 ?_ infoStamp ?_ (by omega) fC_len fC_one w4.heap.size 0 [] ?_ HM4.out (some ⟨g2, 0, none⟩) k c2 ((loL i v).take k) HTL.out.symm ?_ HSK.out ?_ ?_ HS2.out.size ?_
        · rfl
        · rfl
        · rfl
        · rfl
        · first | rfl | simp [Act.eval]
        · first | rfl | simp [Act.eval]
        · rw [HTL.out]; unfold maxLen; simp; omega
        · rw [HTL.out]; simp; omega
        intro g5 c5 w5 hown5 hg5 hat5
        rw [HTL.out] at hown5 ⊢
        simp only [List.length_nil, Nat.zero_add, List.nil_append] at hown5 ⊢
        have HS5 := Lib.hid (show Below w4.heap.size w4 w5 from HM4.out.grew HS2.out (Nat.le_refl _) HS2.out.size hg5)
        have HO5 := Lib.hid (show OwnT fC 2 w5 w4.heap.size 38 (.slice (some ⟨g5, 0, none⟩) ((loL i v).take k).length c5) ((loL i v).take k) from by rw [HTL.out]; exact hown5)
        clear hown5 hg5 hat5
        refine hK.out _ _ HS5.out (fun _ => trivial) ?_
        clear hK K
        try simp only [Act.put, List.setIfInBounds_toArray, List.set_cons_zero, List.set_cons_succ]
        have HSD := Lib.hid (show SlT fC 2 w5 A88 ((loL i v).drop k1) from by
          rw [← HA88.out]
          by_cases hq : c2 = k1
          · exact .inl (List.eq_nil_of_length_eq_zero (by rw [HDL.out]; omega))
          · rw [if_neg hq]
            have h := (HSL24.out w5 HS5.out).dropT k1
            rwa [Nat.zero_add] at h)
        refine wpAnyK_one (i := 9) (by kernel_rfl) rfl (fun K hK => ?_)
        refine step_appTsE (C := fC) (sz := 2) ?_ (.tmp 84) (.tmp 88) 37 ?_ w4.heap.size 38 (.agg #[.string ByteArray.empty, .int .i64 0]) 24 ?_ infoStamp ?_ (by omega) fC_len fC_one g5 c5 ((loL i v).take k) ?_ HO5.out _ (i - k1) (c2 - k1) ((loL i v).drop k1) HDL.out.symm ?_ HSD.out ?_ ?_ HS5.out.size ?_
        · rfl
        · rfl
        · rfl
        · rfl
        · rw [HTL.out]; first | rfl | simp [Act.eval]
        · first | rfl | simp [Act.eval]
        · rw [HTL.out, HDL.out]; unfold maxLen; omega
        · rw [HTL.out, HDL.out]; omega
        intro g6 c6 w6 hown6 hg6 hat6
        have HS6 := Lib.hid (show Below w4.heap.size w4 w6 from HO5.out.grew HS5.out (Nat.le_refl _) HS5.out.size hg6)
        have hn6 : ((loL i v).take k).length + ((loL i v).drop k1).length = i - 1 := by rw [HTL.out, HDL.out]; have := HK1.out; omega
        have hs6 := hown6
        rw [← List.length_append] at hs6
        have HG6 := Lib.hid (hs6.sl fC_len)
        have hap : ((loL i v).take k ++ (loL i v).drop k1).length = i - 1 := by rw [List.length_append]; exact hn6
        have HF3 := Lib.hid (fun W (hW : Below w6.heap.size w6 W) => fresh_any (upL i v) ((loL i v).take k ++ (loL i v).drop k1) A1 (some ⟨g6, 0, none⟩) c1 c6 W (HSL1.out W (HW4.out.trans ((HS6.out.trans (hW.mono HS6.out.size)).mono HW4.out.size))) (HG6.out.below hW) (upL_ok i hN20 v) (fun y hy => loL_ok i hN20 v y ((List.mem_append.mp hy).elim List.mem_of_mem_take List.mem_of_mem_drop)) (by rw [upL_len]; omega) (by rw [hap]; omega))
        rw [hap, upL_len, show freshM (upL i v) ((loL i v).take k ++ (loL i v).drop k1) = false from by rw [← HK1.out]; exact fresh_gone i hN20 v k HKI.out] at HF3
        have HF2 := Lib.hid (fun W (hW : Below w4.heap.size w4 W) => fresh_any (upL i v) ((loL i v).set k (loN r, x)) A1 (some ⟨g3, 0, none⟩) c1 c3 W (HSL1.out W (HW4.out.trans (hW.mono HW4.out.size))) (HT4.out.below hW) (upL_ok i hN20 v) (fun y hy => by
          rcases List.mem_or_eq_of_mem_set hy with h | h
          · exact loL_ok i hN20 v y h
          · rw [h]; exact loN_ok r (by have := HR.out; omega) x) (by rw [upL_len]; omega) (by rw [List.length_set, loL_len]; omega))
        rw [List.length_set, loL_len, upL_len, show freshM (upL i v) ((loL i v).set k (loN r, x)) = false from by rw [← HR.out]; exact fresh_turned i hN20 v k HKI.out x (by rw [HR.out]; exact HX.out)] at HF2
        rw [hn6]
        clear hown6 hg6 hat6 hn6 hs6 hap
        refine hK.out _ _ HS6.out (fun _ => trivial) ?_
        clear hK K
        try simp only [Act.put, List.setIfInBounds_toArray, List.set_cons_zero, List.set_cons_succ]
        refine wpAnyK_one (i := 10) (by kernel_rfl) rfl (fun K hK => ?_)
        go_simp
        refine hK.out _ _ HS6.out (fun _ => trivial) ?_
        clear hK K
        try simp only [Act.put, List.setIfInBounds_toArray, List.set_cons_zero, List.set_cons_succ]
        refine wpAnyK_done (by kernel_rfl) ?_ _
        refine NoPanic.normal ?_
        clear HS HS2 HM4 HSK HO5 HSD HS5 hkk wk1 hk2 hk3 hic hc0
        go_wp2_with fail
        refine (HF2.out _ HS6.out).mono ?_
        rintro e w7 ⟨rfl, hw7⟩
        have HW7 := Lib.hid hw7
        clear hw7
        go_wp2_with fail
        refine (HF3.out _ HW7.out).mono ?_
        rintro e w8 ⟨rfl, hw8⟩
        have HW8 := Lib.hid (HW7.out.trans (hw8.mono HW7.out.size))
        clear hw8
        go_wp2_with fail
        refine (HAW.out _).mono ?_
        rintro e w9 ⟨rfl, hw9⟩
        have HW9 := Lib.hid (HS6.out.trans ((HW8.out.trans (hw9.mono HW8.out.size)).mono HS6.out.size))
        have HWA := Lib.hid (HBW.out.trans ((HW4.out.trans (HW9.out.mono HW4.out.size)).mono HBW.out.size))
        clear hw9
        go_wp2_with fail
        go_ret
        exact ⟨rfl, HWA.out⟩

theorem numsI_of {w : World} {a : Option Addr} {len cap : Nat} {zs : List Int} (h : (a = none ∧ len = 0 ∧ cap = 0 ∧ zs = []) ∨
    ∃ x, a = some x ∧ len ≤ cap ∧ cap ≤ maxLen ∧ zs.length = cap ∧ (∀ i, i < zs.length → w.cell? (x.add i) = some (.int .i64 (zs.getD i 0))) ∧ ∀ n ∈ zs, (Lit.int .i64 n).wf = true) :
    len ≤ 9223372036854775807 ∧ NumsI w a len (fun i => zs.getD i 0) := by
  rcases h with ⟨rfl, rfl, rfl, rfl⟩ | ⟨x, rfl, hl, hm, hz, hcell, hwz⟩
  · exact ⟨by omega, .inl rfl⟩
  · refine ⟨by unfold maxLen at hm; omega, ?_⟩
    rcases Nat.eq_zero_or_pos len with h0 | h0
    · exact .inl h0
    · obtain ⟨b, off, spot⟩ := x
      have hc := hcell 0 (by omega)
      have hspot : spot = none := by simpa [Addr.add] using World.cell?_spot hc
      subst hspot
      have hadd : ∀ i, (⟨b, off, none⟩ : Addr).add i = ⟨b, off + i, none⟩ := fun i => by unfold Addr.add; split <;> simp_all
      refine .inr ⟨b, off, rfl, ?_, fun i hi => ?_⟩
      · rw [hadd] at hc
        rcases Nat.lt_or_ge b w.heap.size with hlt | hge
        · exact hlt
        · simp [World.cell?, Array.getElem?_eq_none hge] at hc
      · have := hcell i (by omega)
        rw [hadd] at this
        exact this
end Go.Proofs.Ytbghgjhenahcgaa
