/- Memory of pages: what is asked of a row of pages; Unmap; what Map refuses. -/
import Derived.Test.YtlifaldbdjcgjaaVmap
namespace Go.Proofs.Ytlifaldbdjcgjaa
open Go.ChangeShapes Go.WideShapes Go.ChangeAt Go.RowKit
open Go.Maps (Keyed)
set_option linter.unusedVariables false
set_option linter.unusedSimpArgs false

theorem wf_u64 {a : Int} (h0 : 0 ≤ a) (h1 : a < 18446744073709551616) : (Lit.int .u64 a).wf = true := by
  simp [Lit.wf, IntKind.min, IntKind.max, IntKind.bits, IntKind.signed]
  omega

theorem f_some {w : World} {M bm m : Nat} {most : Int} {f : Int → Option Nat} {mp : Int → Option Pg} (S : MemIn w M bm m most f mp) {x : Int} {g : Pg} (h : mp x = some g) : ∃ B, f x = some B := by
  have := S.both x
  rw [h] at this
  cases hf : f x with
  | some B => exact ⟨B, rfl⟩
  | none => rw [hf] at this; cases this

/-- The page at x is looked up: none. -/
theorem look_none {w : World} {M bm m : Nat} {most : Int} {f : Int → Option Nat} {mp : Int → Option Pg} (S : MemIn w M bm m most f mp) {x : Int} (h : mp x = none) (h0 : 0 ≤ x) (h1 : x < 18446744073709551616) (n : Nat) :
    (Instr.lookup 63 (.map (some bm)) (.int .u64 x) false).run Try.prog (w.drewN n) = .ok (.pointer none) (w.drewN n) := by
  have := S.map.lookupN x (wf_u64 h0 h1) n
  rw [f_none S h] at this
  exact this
theorem look_some {w : World} {M bm m : Nat} {most : Int} {f : Int → Option Nat} {mp : Int → Option Pg} (S : MemIn w M bm m most f mp) {x : Int} {g : Pg} (h : mp x = some g) (h0 : 0 ≤ x) (h1 : x < 18446744073709551616) :
    ∃ B, f x = some B ∧ Own w B 4097 (pgF g) ∧ ∀ n, (Instr.lookup 63 (.map (some bm)) (.int .u64 x) false).run Try.prog (w.drewN n) = .ok (.pointer (some ⟨B, 0, none⟩)) (w.drewN n) := by
  obtain ⟨B, hB⟩ := f_some S h
  refine ⟨B, hB, S.page x B g hB h, fun n => ?_⟩
  have := S.map.lookupN x (wf_u64 h0 h1) n
  rw [hB] at this
  exact this

theorem mapped_yes (R : Nat → Prop) (w : World) (M m : Nat) (most : Int) (mp : Int → Option Pg) (a : Int) (n : Nat) (h0 : 0 ≤ a) (hr : RowOk a n) (h : ∀ i : Nat, i < n → mp (a + i * 4096) ≠ none) (H : MemAt R w M m most mp) :
    Calls Try.prog 37 #[.pointer (some ⟨M, 0, none⟩), .int .u64 a, .int .i64 n] w fun e w' => e = .returned (.bool true) ∧ ∃ k, w' = w.drewN k := by
  obtain ⟨r1, r2, r3, r4⟩ := hr
  have HR := Lib.hid (show RowOk a n from ⟨r1, r2, r3, r4⟩)
  have HM := Lib.hid H
  have HF := Lib.hid h
  have ha : a < 140737488355328 := by omega
  clear r1 h H
  go_enter Try.func37, Try.ntmps37
  go_wp2_with (go_at_call 34; refine (rowOk_yes _ _ _ h0 HR.out).mono ?_; rintro e w' ⟨rfl, rfl⟩)
  go_loopw [13] (fun o wr => ∃ i : Nat, i ≤ n ∧ o = .int .i64 i ∧ ∃ k, wr = w.drewN k) (fun o _ => n - (intOf o).toNat)
  case atStart => exact ⟨0, Nat.zero_le _, rfl, 0, rfl⟩
  case round =>
    obtain ⟨i, hi, rfl, hk⟩ := hrel
    obtain ⟨bm, f, S, hRs⟩ : MemAt R wr M m most mp := by obtain ⟨k, rfl⟩ := hk; exact HM.out.drewN k
    have HK := Lib.hid hk
    have k1 := S.c1
    clear hk
    by_cases hlt : i < n
    · obtain ⟨g, hg⟩ := Option.ne_none_iff_exists'.1 (HF.out i hlt)
      obtain ⟨B, _, _, hl⟩ := look_some S hg (by omega) (by omega)
      clear hg
      go_wp2_with fail
      go_quiet ((go_at_call 36; exact Calls.quiet_of_same (place_q _ _ _ h0 ha (by omega) (by omega))))
      go_wp2
      go_roundw
      case rel => exact ⟨i + 1, by omega, by go_num, by obtain ⟨k, rfl⟩ := HK.out; exact ⟨k + nq, by rw [World.drewN_drewN]⟩⟩
      case measure => simp [intOf]; omega
    · obtain rfl : i = n := by omega
      clear hlt
      go_wp2
      go_ret
      exact ⟨rfl, HK.out⟩

theorem mapped_gap (R : Nat → Prop) (w : World) (M m : Nat) (most : Int) (mp : Int → Option Pg) (a : Int) (n : Nat) (h0 : 0 ≤ a) (hr : RowOk a n) (h : ∃ i : Nat, i < n ∧ mp (a + i * 4096) = none) (H : MemAt R w M m most mp) :
    Calls Try.prog 37 #[.pointer (some ⟨M, 0, none⟩), .int .u64 a, .int .i64 n] w fun e w' => e = .returned (.bool false) ∧ ∃ k, w' = w.drewN k := by
  obtain ⟨r1, r2, r3, r4⟩ := hr
  have HR := Lib.hid (show RowOk a n from ⟨r1, r2, r3, r4⟩)
  have HM := Lib.hid H
  have HF := Lib.hid h
  have ha : a < 140737488355328 := by omega
  clear r1 h H
  go_enter Try.func37, Try.ntmps37
  go_wp2_with (go_at_call 34; refine (rowOk_yes _ _ _ h0 HR.out).mono ?_; rintro e w' ⟨rfl, rfl⟩)
  go_loopw [13] (fun o wr => ∃ i : Nat, i ≤ n ∧ o = .int .i64 i ∧ (∀ j : Nat, j < i → mp (a + j * 4096) ≠ none) ∧ ∃ k, wr = w.drewN k) (fun o _ => n - (intOf o).toNat)
  case atStart => exact ⟨0, Nat.zero_le _, rfl, fun j hj => by omega, 0, rfl⟩
  case round =>
    obtain ⟨i, hi, rfl, hj, hk⟩ := hrel
    obtain ⟨bm, f, S, hRs⟩ : MemAt R wr M m most mp := by obtain ⟨k, rfl⟩ := hk; exact HM.out.drewN k
    have HK := Lib.hid hk
    have HJ := Lib.hid hj
    have k1 := S.c1
    clear hk hj
    by_cases hlt : i < n
    · cases hg : mp (a + i * 4096) with
      | none =>
        have hl := look_none S hg (by omega) (by omega)
        clear hg
        go_wp2_with fail
        go_quiet ((go_at_call 36; exact Calls.quiet_of_same (place_q _ _ _ h0 ha (by omega) (by omega))))
        go_wp2
        go_ret
        exact ⟨rfl, by obtain ⟨k, rfl⟩ := HK.out; exact ⟨k + nq, by rw [World.drewN_drewN]⟩⟩
      | some g =>
        obtain ⟨B, _, _, hl⟩ := look_some S hg (by omega) (by omega)
        have HG := Lib.hid hg
        clear hg
        go_wp2_with fail
        go_quiet ((go_at_call 36; exact Calls.quiet_of_same (place_q _ _ _ h0 ha (by omega) (by omega))))
        go_wp2
        go_roundw
        case rel => exact ⟨i + 1, by omega, by go_num, fun j hj => by rcases Nat.lt_or_eq_of_le (Nat.le_of_lt_succ hj) with h | h; exact HJ.out j h; rw [h, HG.out]; simp, by obtain ⟨k, rfl⟩ := HK.out; exact ⟨k + nq, by rw [World.drewN_drewN]⟩⟩
        case measure => simp [intOf]; omega
    · obtain ⟨j, hj, hm⟩ := HF.out
      exact absurd hm (HJ.out j (by omega))

theorem mapped_no (R : Nat → Prop) (w : World) (M m : Nat) (most : Int) (mp : Int → Option Pg) (a n : Int) (h0 : 0 ≤ a) (h1 : a < 18446744073709551616) (h : ¬ (RowOk a n ∧ ∀ i : Nat, (i : Int) < n → mp (a + i * 4096) ≠ none)) (H : MemAt R w M m most mp) :
    Calls Try.prog 37 #[.pointer (some ⟨M, 0, none⟩), .int .u64 a, .int .i64 n] w fun e w' => e = .returned (.bool false) ∧ ∃ k, w' = w.drewN k := by
  by_cases hr : RowOk a n
  · obtain ⟨N, rfl⟩ := Int.eq_ofNat_of_zero_le (show 0 ≤ n by have := hr.2.1; omega)
    refine mapped_gap R w M m most mp a N h0 hr (Classical.byContradiction fun hc => h ⟨hr, fun i hi hm => hc ⟨i, by omega, hm⟩⟩) H
  · have HR := Lib.hid hr
    clear h hr
    go_enter Try.func37, Try.ntmps37
    go_wp2_with (go_at_call 34; refine (rowOk_no _ _ _ h0 h1 HR.out).mono ?_; rintro e w' ⟨rfl, rfl⟩)
    go_ret
    exact ⟨rfl, 0, rfl⟩

/-- n pages fewer from a on. -/
def clrP (mp : Int → Option Pg) (a : Int) : Nat → Int → Option Pg
  | 0 => mp
  | k + 1 => upd (clrP mp a k) (a + k * 4096) none

theorem clrP_in (mp : Int → Option Pg) (a : Int) : ∀ (k i : Nat), i < k → clrP mp a k (a + i * 4096) = none
  | 0, i, hi => by omega
  | k + 1, i, hi => by
    show upd (clrP mp a k) (a + k * 4096) _ (a + i * 4096) = _
    by_cases e : i = k
    · subst e; rw [upd_same]
    · rw [upd_other _ _ (by omega)]
      exact clrP_in mp a k i (by omega)
theorem clrP_out (mp : Int → Option Pg) (a x : Int) : ∀ (k : Nat), (∀ i : Nat, i < k → x ≠ a + i * 4096) → clrP mp a k x = mp x
  | 0, _ => rfl
  | k + 1, h => by
    show upd (clrP mp a k) (a + k * 4096) _ x = _
    rw [upd_other _ _ (h k (by omega))]
    exact clrP_out mp a x k (fun i hi => h i (by omega))

theorem MemIn.removed {w w' : World} {M bm m m' : Nat} {most : Int} {f : Int → Option Nat} {mp : Int → Option Pg} (S : MemIn w M bm m most f mp) {x : Int} (hg : w.grownBy w' (some bm))
    (hP : PM w' Try.prog 25 .u64 bm m' (upd f x none)) (hm : m' ≤ m) : MemIn w' M bm m' most (upd f x none) (upd mp x none) := by
  have sub : ∀ a B, upd f x none a = some B → a ≠ x ∧ f a = some B := fun a B h => by
    by_cases e : a = x
    · rw [e, upd_same] at h; cases h
    · rw [upd_other f _ e] at h; exact ⟨e, h⟩
  have hMb : M ≠ bm := S.map.own_ne S.c0
  have k0 := hg.block M S.mlt (by simpa using hMb)
  have := S.fits
  refine ⟨(World.cell?_of_block k0).trans S.c0, (World.cell?_of_block k0).trans S.c1, Nat.lt_of_lt_of_le S.mlt hg.size, hP, fun a => ?_, fun a B g h1 h2 => ?_, fun a a' B h1 h2 => S.inj a a' B (sub _ _ h1).2 (sub _ _ h2).2, fun a B h => S.nos a B (sub _ _ h).2, S.low, S.high, by omega⟩
  · by_cases e : a = x
    · rw [e, upd_same, upd_same]; rfl
    · rw [upd_other f _ e, upd_other mp _ e]; exact S.both a
  · obtain ⟨e, h1⟩ := sub _ _ h1
    rw [upd_other mp _ e] at h2
    have ho := S.page a B g h1 h2
    exact ho.of_block (hg.block B ho.1 (by simpa using S.map.own_ne (ho.cell (i := 0) (by omega)))) hg.size

theorem step_delete_pm {P : Program} {ops : Array Oper} {o : Oper} {a : Act} {w : World} {K : Act → World → Prop} {Q : Exit → Act → World → Prop} {E : Prop} (hg : o.guard = none) (m x : Operand) (t k : TypeId) (hop : o.op = Op.call { callee := Callee.builtin Builtin.delete, args := #[m, x], argTypes := #[t, k] }) (e : TypeId) (q : IntKind)
    (hk : P.underlying k = some (.int q)) (ht : P.underlying t = some (.map k e)) (b n : Nat) (f : Int → Option Nat) (hm : a.eval m = .map (some b)) (hown : PM w P k q b n f)
    (x0 : Int) (hx : a.eval x = .int q x0) (hwf : (Lit.int q x0).wf = true)
    (hK : ∀ w', PM w' P k q b (if (f x0).isSome then n - 1 else n) (upd f x0 none) → w.grownBy w' (some b) → K (a.put o.dst (.tuple #[])) w') :
    if Region.wanted o (yielded ops a.tmps) = true then Oper.wp P o a w K Q else E := by
  have hw : Region.wanted o (yielded ops a.tmps) = true := by simp [Region.wanted, hg]
  rw [if_pos hw]
  obtain ⟨w', hrun, r1, r2⟩ := hown.delete hk ht x0 hwf o.type
  unfold Oper.wp
  simp [execOp, hop, resolve, invoke, builtin, hm, hx, hrun, Result.andThen]
  exact hK w' r1 r2.grown

theorem unmap_no (R : Nat → Prop) (w : World) (M m : Nat) (most : Int) (mp : Int → Option Pg) (a n : Int) (h0 : 0 ≤ a) (h1 : a < 18446744073709551616) (h : ¬ (RowOk a n ∧ ∀ i : Nat, (i : Int) < n → mp (a + i * 4096) ≠ none)) (H : MemAt R w M m most mp) :
    Calls Try.prog 17 #[.pointer (some ⟨M, 0, none⟩), .int .u64 a, .int .i64 n] w fun e w' => e = .returned (.bool false) ∧ ∃ k, w' = w.drewN k := by
  have HM := Lib.hid H
  have HF := Lib.hid h
  clear h H
  go_enter Try.func17, Try.ntmps17
  go_wp2_with (go_at_call 37; refine (mapped_no R _ M m most mp a n h0 h1 HF.out HM.out).mono ?_; rintro e w' ⟨rfl, hk⟩; have HK := Lib.hid hk; clear hk)
  go_ret
  exact ⟨rfl, HK.out⟩

set_option maxRecDepth 100000 in
set_option maxHeartbeats 1000000 in
theorem unmap_yes (R : Nat → Prop) (w : World) (M m : Nat) (most : Int) (mp : Int → Option Pg) (a : Int) (n : Nat) (h0 : 0 ≤ a) (hr : RowOk a n) (h : ∀ i : Nat, i < n → mp (a + i * 4096) ≠ none) (H : MemAt R w M m most mp) :
    Calls Try.prog 17 #[.pointer (some ⟨M, 0, none⟩), .int .u64 a, .int .i64 n] w fun e w' => e = .returned (.bool true) ∧ MemAt R w' M (m - n) most (clrP mp a n) ∧ Kept R w w' := by
  obtain ⟨r1, r2, r3, r4⟩ := hr
  have HR := Lib.hid (show RowOk a n from ⟨r1, r2, r3, r4⟩)
  have HM := Lib.hid H
  have HF := Lib.hid h
  have HR0 : Hid (∀ k, R k → k < w.heap.size) := by obtain ⟨bm, f, S, _, _, _, h⟩ := H; exact h
  have ha : a < 140737488355328 := by omega
  clear r1 h H
  go_enter Try.func17, Try.ntmps17
  go_wp2_with (go_at_call 37; refine (mapped_yes R _ M m most mp a n h0 HR.out HF.out HM.out).mono ?_; rintro e w1 ⟨rfl, hk⟩; have HK := Lib.hid hk; clear hk)
  have HM1 : Hid (MemAt R w1 M m most mp) := by obtain ⟨k, rfl⟩ := HK.out; exact HM.out.drewN k
  have HK1 : Hid (Kept R w w1) := by obtain ⟨k, rfl⟩ := HK.out; exact ⟨rfl, rfl, rfl, Nat.le_refl _, fun _ _ => rfl⟩
  clear HK HM
  go_loopw [14] (fun o wr => ∃ j : Nat, j ≤ n ∧ o = .int .i64 j ∧ MemAt R wr M (m - j) most (clrP mp a j) ∧ Kept R w wr) (fun o _ => n - (intOf o).toNat)
  case atStart => exact ⟨0, Nat.zero_le _, rfl, HM1.out, HK1.out⟩
  case round =>
    obtain ⟨j, hj, rfl, hm, hk⟩ := hrel
    have HM3 := Lib.hid hm
    have HK3 := Lib.hid hk
    clear hk HM1 HK1
    by_cases hlt : j < n
    · obtain ⟨bm, f, S, hRs⟩ := hm
      have k1 := S.c1
      have hMb : M ≠ bm := S.map.own_ne S.c1
      have hMl := S.mlt
      have hwf := wf_u64 (a := a + j * 4096) (by omega) (by omega)
      have hns : clrP mp a j (a + j * 4096) ≠ none := by
        rw [clrP_out mp a _ j (fun i hi => by omega)]
        exact HF.out j hlt
      obtain ⟨g, hg⟩ := Option.ne_none_iff_exists'.1 hns
      obtain ⟨B, hB⟩ := f_some S hg
      have HB := Lib.hid hB
      have hD := Lib.hid (show wr.drew.cell? ⟨M, 1, none⟩ = some (.map (some bm)) from k1)
      have hPM := Lib.hid (show PM wr.drew Try.prog 25 .u64 bm (m - j) f from S.map)
      clear hns hg hB
      go_wp2_with fail
      refine wp_region_noPanic ?_
      refine wp_region_held_drew (S := fun W => W.cell? ⟨M, 1, none⟩ = some (.map (some bm))) (by kernel_rfl) ?_ (fun hHeld => ?_)
      · exact hD.out
      refine wpAnyH_take (i := 0) (oi := ?_) (v := ?_) ?_ (by kernel_rfl) (by kernel_rfl) (by kernel_rfl) (fun _ _ _ h => h) ?_ (by assumption) ?_
      rotate_left 2
      · (simp only [List.getElem?_toArray, List.getElem?_cons_succ, List.getElem?_cons_zero]; rfl)
      · (refine Or.inl ⟨by rfl, ?_⟩; intro w hSw; (try dsimp only at hSw); go_simp; try with_reducible rfl)
      try simp only [Act.put, List.setIfInBounds_toArray, List.set_cons_zero, List.set_cons_succ]
      refine wpAnyH_take (i := 1) (oi := ?_) (v := ?_) ?_ (by kernel_rfl) (by kernel_rfl) (by kernel_rfl) (fun _ _ _ h => h) ?_ (by assumption) ?_
      rotate_left 2
      · (simp only [List.getElem?_toArray, List.getElem?_cons_succ, List.getElem?_cons_zero]; rfl)
      · (refine Or.inl ⟨by rfl, ?_⟩; intro w hSw; (try dsimp only at hSw); go_simp; try with_reducible rfl)
      try simp only [Act.put, List.setIfInBounds_toArray, List.set_cons_zero, List.set_cons_succ]
      refine wpAnyH_take (i := 2) (oi := ?_) (v := ?_) ?_ (by kernel_rfl) (by kernel_rfl) (by kernel_rfl) (fun _ _ _ h => h) ?_ (by assumption) ?_
      rotate_left 2
      · (simp only [List.getElem?_toArray, List.getElem?_cons_succ, List.getElem?_cons_zero]; rfl)
      · (refine Or.inl ⟨by rfl, ?_⟩; intro w hSw; (try dsimp only at hSw); go_simp; try with_reducible rfl)
      try simp only [Act.put, List.setIfInBounds_toArray, List.set_cons_zero, List.set_cons_succ]
      refine wpAnyH_take (i := 3) (oi := ?_) (v := ?_) ?_ (by kernel_rfl) (by kernel_rfl) (by kernel_rfl) (fun _ _ _ h => h) ?_ (by assumption) ?_
      rotate_left 2
      · (simp only [List.getElem?_toArray, List.getElem?_cons_succ, List.getElem?_cons_zero]; rfl)
      · (refine Or.inl ⟨by rfl, ?_⟩; intro w hSw; (try dsimp only at hSw); go_simp; try with_reducible rfl)
      try simp only [Act.put, List.setIfInBounds_toArray, List.set_cons_zero, List.set_cons_succ]
      refine wpAnyH_take (i := 4) (oi := ?_) (v := ?_) ?_ (by kernel_rfl) (by kernel_rfl) (by kernel_rfl) (fun _ _ _ h => h) ?_ (by assumption) ?_
      rotate_left 2
      · (simp only [List.getElem?_toArray, List.getElem?_cons_succ, List.getElem?_cons_zero]; rfl)
      · (refine Or.inl ⟨by rfl, ?_⟩; intro w hSw; (try dsimp only at hSw); go_simp; try with_reducible rfl)
      try simp only [Act.put, List.setIfInBounds_toArray, List.set_cons_zero, List.set_cons_succ]
      refine wpAnyH_take (i := 5) (oi := ?_) (v := ?_) ?_ (by kernel_rfl) (by kernel_rfl) (by kernel_rfl) (fun _ _ _ h => h) ?_ (by assumption) ?_
      rotate_left 2
      · (simp only [List.getElem?_toArray, List.getElem?_cons_succ, List.getElem?_cons_zero]; rfl)
      · (refine Or.inl ⟨by rfl, ?_⟩; intro w hSw; (try dsimp only at hSw); go_simp; try with_reducible rfl)
      try simp only [Act.put, List.setIfInBounds_toArray, List.set_cons_zero, List.set_cons_succ]
      refine wpAnyH_ready (rs := [6]) (by kernel_rfl) (by simp) ?_
      refine AllReadyH.cons (i := 6) rfl (fun K hK => ?_) ?_
      · go_simp
        (go_at_call 36; refine (place_any _ _ _ h0 ha (by omega) (by omega)).mono ?_; rintro e w' ⟨rfl, rfl⟩)
        refine hK.out _ _ ?_ (fun hHeld => ?_)
        · exact hD.out
        clear hK K
        refine wpAnyH_ready (rs := [7]) (by kernel_rfl) (by simp) ?_
        refine AllReadyH.cons (i := 7) rfl (fun K hK => ?_) ?_
        · refine step_delete_pm (by rfl) _ _ 63 25 (by rfl) 66 .u64 Try.underlying25 Try.underlying63 bm (m - j) f (by rfl) hPM.out (a + j * 4096) (by rfl) hwf ?_
          intro w3 hP3 hg3
          have hk3 : w3.cell? ⟨M, 1, none⟩ = some (.map (some bm)) := (World.cell?_of_block (hg3.block M hMl (by simpa using hMb))).trans k1
          refine hK.out _ _ ?_ (fun hHeld => ?_)
          · exact hk3
          clear hK K
          refine wpAnyH_done (by kernel_rfl) ?_ _
          refine NoPanic.normal ?_
          rw [HB.out] at hP3
          have HJ := Lib.hid (MemIn.removed S (w' := w3) ⟨hg3.os, hg3.tape, hg3.output, hg3.size, hg3.block⟩ hP3 (by simp))
          have HG3 := Lib.hid hg3
          clear hP3 hg3 hHeld
          go_wp2
          go_roundw
          case rel =>
            refine ⟨j + 1, by omega, by go_num, ⟨bm, upd f (a + j * 4096) none, by rw [show m - (j + 1) = m - j - 1 by omega]; exact HJ.out, hRs.1, hRs.2.1, fun a' B' hf' => ?_, fun k hk => ?_⟩, ?_⟩
            · by_cases e : a' = a + j * 4096
              · rw [e, upd_same] at hf'; cases hf'
              · rw [upd_other f _ e] at hf'; exact hRs.2.2.1 a' B' hf'
            · exact Nat.lt_of_lt_of_le (hRs.2.2.2 k hk) HG3.out.size
            · refine HK3.out.drew.grown HG3.out (fun k hk => HR0.out k hk) (fun k hk => ?_)
              cases hk; exact hRs.2.1
          case measure => simp [intOf]; omega
        exact AllReadyH.nil
      exact AllReadyH.nil
    · obtain rfl : j = n := by omega
      clear hlt
      go_wp2
      go_ret
      exact ⟨rfl, HM3.out, HK3.out⟩
end Go.Proofs.Ytlifaldbdjcgjaa
