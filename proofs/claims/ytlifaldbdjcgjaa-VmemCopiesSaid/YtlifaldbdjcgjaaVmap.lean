/- Memory of pages: Map. -/
import Derived.Test.YtlifaldbdjcgjaaVmem
namespace Go.Proofs.Ytlifaldbdjcgjaa
open Go.ChangeShapes Go.WideShapes Go.ChangeAt Go.RowKit
open Go.Maps (Keyed)
set_option linter.unusedVariables false
set_option linter.unusedSimpArgs false

theorem place_any (a i : Int) (w : World) (h0 : 0 ≤ a) (h1 : a < 140737488355328) (h2 : 0 ≤ i) (h3 : i ≤ 1024) : Calls Try.prog 36 #[.int .u64 a, .int .i64 i] w fun e w' => e = .returned (.int .u64 (a + i * 4096)) ∧ w = w' := by
  go_enter Try.func36, Try.ntmps36
  go_wp2
  go_ret
  exact ⟨rfl, rfl⟩
theorem place_q (a i : Int) (w : World) (h0 : 0 ≤ a) (h1 : a < 140737488355328) (h2 : 0 ≤ i) (h3 : i ≤ 1024) : Calls Try.prog 36 #[.int .u64 a, .int .i64 i] w fun e w' => e = .returned (.int .u64 (a + i * 4096)) ∧ w' = w :=
  (place_any a i w h0 h1 h2 h3).mono fun _ _ ⟨h, h'⟩ => ⟨h, h'.symm⟩

/-- n pages from a on are pages at all. -/
def RowOk (a n : Int) : Prop := a % 4096 = 0 ∧ 1 ≤ n ∧ n ≤ 1024 ∧ a + n * 4096 ≤ 140737488355328

theorem rowOk_yes (a n : Int) (w : World) (h0 : 0 ≤ a) (h : RowOk a n) : Calls Try.prog 34 #[.int .u64 a, .int .i64 n] w fun e w' => e = .returned (.bool true) ∧ w = w' := by
  obtain ⟨h1, h2, h3, h4⟩ := h
  have e1 : (a % 4096 != 0) = false := by rw [bne_eq_false_iff_eq]; exact h1
  have e2 : decide (n * 4096 ≤ 140737488355328 - a) = true := decide_eq_true (by omega)
  have e3 : a < 140737488355328 := by omega
  go_enter Try.func34, Try.ntmps34
  go_wp2
  go_ret
  exact ⟨rfl, rfl⟩

theorem rowOk_no (a n : Int) (w : World) (h0 : 0 ≤ a) (h1 : a < 18446744073709551616) (h : ¬ RowOk a n) : Calls Try.prog 34 #[.int .u64 a, .int .i64 n] w fun e w' => e = .returned (.bool false) ∧ w = w' := by
  unfold RowOk at h
  by_cases c1 : a % 4096 = 0
  · have e1 : (a % 4096 != 0) = false := by rw [bne_eq_false_iff_eq]; exact c1
    by_cases c2 : n < 1
    · clear h
      go_enter Try.func34, Try.ntmps34
      go_wp2
      go_ret
      exact ⟨rfl, rfl⟩
    · by_cases c3 : 1024 < n
      · clear h
        go_enter Try.func34, Try.ntmps34
        go_wp2
        go_ret
        exact ⟨rfl, rfl⟩
      · by_cases c4 : 140737488355328 ≤ a
        · clear h
          go_enter Try.func34, Try.ntmps34
          go_wp2
          go_ret
          exact ⟨rfl, rfl⟩
        · have e3 : a < 140737488355328 := by omega
          have e2 : decide (n * 4096 ≤ 140737488355328 - a) = false := decide_eq_false (by omega)
          have e4 : 1 ≤ n := by omega
          have e5 : n ≤ 1024 := by omega
          clear h c2 c3 c4 c1
          go_enter Try.func34, Try.ntmps34
          go_wp2
          go_ret
          exact ⟨rfl, rfl⟩
  · have e1 : (a % 4096 != 0) = true := by rw [bne_iff_ne]; exact c1
    clear h c1
    go_enter Try.func34, Try.ntmps34
    go_wp2
    go_ret
    exact ⟨rfl, rfl⟩

/-- n more pages from a on. -/
def setP (mp : Int → Option Pg) (a p : Int) : Nat → Int → Option Pg
  | 0 => mp
  | k + 1 => upd (setP mp a p k) (a + k * 4096) (some ⟨p, fun _ => 0⟩)

theorem setP_none (mp : Int → Option Pg) (a p : Int) {n : Nat} (h : ∀ i : Nat, i < n → mp (a + i * 4096) = none) : ∀ (j : Nat), j < n → ∀ k, k ≤ j → setP mp a p k (a + j * 4096) = none
  | j, hj, 0, _ => h j hj
  | j, hj, k + 1, hk => by
    show upd (setP mp a p k) (a + k * 4096) _ (a + j * 4096) = none
    rw [upd_other _ _ (by omega)]
    exact setP_none mp a p h j hj k (by omega)

theorem f_none {w : World} {M bm m : Nat} {most : Int} {f : Int → Option Nat} {mp : Int → Option Pg} (S : MemIn w M bm m most f mp) {x : Int} (h : mp x = none) : f x = none := by
  have := S.both x
  rw [h] at this
  cases hf : f x with
  | none => rfl
  | some B => rw [hf] at this; cases this

theorem MemIn.added {w w0 w' : World} {M bm m : Nat} {most : Int} {f : Int → Option Nat} {mp : Int → Option Pg} {g : Pg} (S : MemIn w M bm m most f mp) {x : Int} (hf : f x = none) (hw : Below w.heap.size w w0) (hg : w0.grownBy w' (some bm))
    (hP : PM w' Try.prog 25 .u64 bm (if (f x).isSome then m else m + 1) (upd f x (some w.heap.size))) (hO : Own w0 w.heap.size 4097 (pgF g)) (hfit : ((m + 1 : Nat) : Int) ≤ most) :
    MemIn w' M bm (m + 1) most (upd f x (some w.heap.size)) (upd mp x (some g)) := by
  have keep : ∀ k, k < w.heap.size → k ≠ bm → w'.heap[k]? = w.heap[k]? := fun k hk hne =>
    (hg.block k (Nat.lt_of_lt_of_le hk hw.size) (by simpa using hne)).trans (hw.block k hk)
  have hMb : M ≠ bm := S.map.own_ne S.c0
  have hbl := S.map.lt
  have hsz : w.heap.size ≤ w'.heap.size := Nat.le_trans hw.size hg.size
  rw [hf] at hP
  refine ⟨(World.cell?_of_block (keep M S.mlt hMb)).trans S.c0, (World.cell?_of_block (keep M S.mlt hMb)).trans S.c1, Nat.lt_of_lt_of_le S.mlt hsz, hP, fun a => ?_, fun a B g' h1 h2 => ?_, fun a a' B h1 h2 => ?_, fun a B h1 => ?_, S.low, S.high, hfit⟩
  · by_cases e : a = x
    · rw [e, upd_same, upd_same]; rfl
    · rw [upd_other f _ e, upd_other mp _ e]; exact S.both a
  · by_cases e : a = x
    · rw [e, upd_same] at h1 h2
      cases h1
      cases h2
      exact hO.grown hg (by simp; omega)
    · rw [upd_other f _ e] at h1
      rw [upd_other mp _ e] at h2
      have ho := S.page a B g' h1 h2
      exact ho.of_block (keep B ho.1 (S.map.own_ne (ho.cell (i := 0) (by omega)))) hsz
  · have hlt : ∀ a B, f a = some B → B < w.heap.size := fun a B h => by
      have hb := S.both a
      rw [h] at hb
      cases hm : mp a with
      | none => rw [hm] at hb; cases hb
      | some g' => exact (S.page a B g' h hm).1
    by_cases e1 : a = x <;> by_cases e2 : a' = x
    · rw [e1, e2]
    · rw [e1, upd_same] at h1
      rw [upd_other f _ e2] at h2
      cases h1
      have := hlt _ _ h2
      omega
    · rw [e2, upd_same] at h2
      rw [upd_other f _ e1] at h1
      cases h2
      have := hlt _ _ h1
      omega
    · rw [upd_other f _ e1] at h1
      rw [upd_other f _ e2] at h2
      exact S.inj a a' B h1 h2
  · by_cases e : a = x
    · rw [e, upd_same] at h1
      cases h1
      have := S.mlt
      omega
    · rw [upd_other f _ e] at h1
      exact S.nos a B h1

theorem own_page2 (p : Int) (w : World) : Own (w.alloc (.cells (Try.zeroCells70.setIfInBounds 0 (.int .i64 p)) 70)).drew w.heap.size 4097 (pgF ⟨p, fun _ => 0⟩) := by
  have h := own_page p w
  refine Own.congr (g := w.heap.size) (n := 4097) h (fun q _ => ?_)
  unfold pgF
  rfl

theorem MemIn.added_page {w w' : World} {M bm m : Nat} {most : Int} {f : Int → Option Nat} {mp : Int → Option Pg} (S : MemIn w M bm m most f mp) {x p : Int} (hf : f x = none) (hg : (w.alloc (.cells (Try.zeroCells70.setIfInBounds 0 (.int .i64 p)) 70)).drew.grownBy w' (some bm))
    (hP : PM w' Try.prog 25 .u64 bm (if (f x).isSome then m else m + 1) (upd f x (some w.heap.size))) (hfit : ((m + 1 : Nat) : Int) ≤ most) :
    MemIn w' M bm (m + 1) most (upd f x (some w.heap.size)) (upd mp x (some ⟨p, fun _ => 0⟩)) :=
  MemIn.added S hf (((Below.refl w.heap.size w).alloc (Nat.le_refl _) _).drew) hg hP (own_page2 p w) hfit

theorem step_mapUpdate_pm {P : Program} {ops : Array Oper} {o : Oper} {a : Act} {w : World} {K : Act → World → Prop} {Q : Exit → Act → World → Prop} {E : Prop} (hg : o.guard = none) (m x v : Operand) (t : TypeId) (hop : o.op = Op.mapUpdate t m x v) (k e : TypeId) (q : IntKind)
    (hk : P.underlying k = some (.int q)) (ht : P.underlying t = some (.map k e)) (b n : Nat) (f : Int → Option Nat) (hm : a.eval m = .map (some b)) (hown : PM w P k q b n f) (hn : n < maxLen)
    (x0 : Int) (hx : a.eval x = .int q x0) (hwf : (Lit.int q x0).wf = true) (B : Nat) (hv : a.eval v = .pointer (some ⟨B, 0, none⟩))
    (hK : ∀ w', PM w' P k q b (if (f x0).isSome then n else n + 1) (upd f x0 (some B)) → w.grownBy w' (some b) → K (a.put o.dst undef) w') :
    if Region.wanted o (yielded ops a.tmps) = true then Oper.wp P o a w K Q else E := by
  have hw : Region.wanted o (yielded ops a.tmps) = true := by simp [Region.wanted, hg]
  rw [if_pos hw]
  obtain ⟨w', hrun, r1, r2⟩ := hown.store hk ht hn x0 hwf B
  unfold Oper.wp
  simp [execOp, hop, hm, hx, hv, hrun, Result.andThen]
  exact hK w' r1 r2

set_option maxRecDepth 100000 in
set_option maxHeartbeats 1000000 in
theorem map_core (R : Nat → Prop) (w : World) (M m : Nat) (most : Int) (mp : Int → Option Pg) (a p : Int) (n : Nat) (h0 : 0 ≤ a) (hr : RowOk a n) (p0 : 0 ≤ p) (p1 : p ≤ 15) (hfree : ∀ i : Nat, i < n → mp (a + i * 4096) = none) (hfit : (m : Int) + n ≤ most) (H : MemAt R w M m most mp) :
    Calls Try.prog 13 #[.pointer (some ⟨M, 0, none⟩), .int .u64 a, .int .i64 n, .int .i64 p] w fun e w' => e = .returned (.int .i64 0) ∧ MemAt R w' M (m + n) most (setP mp a p n) ∧ Kept R w w' := by
  obtain ⟨r1, r2, r3, r4⟩ := hr
  have HR := Lib.hid (show RowOk a n from ⟨r1, r2, r3, r4⟩)
  have HM := Lib.hid H
  have HF := Lib.hid hfree
  have HR0 : Hid (∀ k, R k → k < w.heap.size) := by obtain ⟨bm, f, S, _, _, _, h⟩ := H; exact h
  have hmost := (show 0 ≤ most ∧ most ≤ 1024 by obtain ⟨bm, f, S, _⟩ := H; exact ⟨S.low, S.high⟩)
  obtain ⟨hm0, hm1⟩ := hmost
  have ha : a < 140737488355328 := by omega
  clear r1 hfree
  go_enter Try.func13, Try.ntmps13
  go_wp2_with (first | (go_at_call 34; refine (rowOk_yes _ _ _ h0 HR.out).mono ?_; rintro e w' ⟨rfl, rfl⟩) | (go_at_call 35; refine (protOk_yes _ _ p0 p1).mono ?_; rintro e w' ⟨rfl, rfl⟩))
  clear H
  go_loopw [21] (fun o wr => ∃ i : Nat, i ≤ n ∧ o = .int .i64 i ∧ ∃ k, wr = w.drewN k) (fun o _ => n - (intOf o).toNat)
  case atStart => exact ⟨0, Nat.zero_le _, rfl, 0, rfl⟩
  case round =>
    obtain ⟨i, hi, rfl, hk⟩ := hrel
    obtain ⟨bm, f, S, hRs⟩ : MemAt R wr M m most mp := by obtain ⟨k, rfl⟩ := hk; exact HM.out.drewN k
    have HK := Lib.hid hk
    have k1 := S.c1
    clear hk
    by_cases hlt : i < n
    · have hfr := HF.out i hlt
      have hl := fun n => S.map.lookupN (a + i * 4096) (by simp [Lit.wf, IntKind.min, IntKind.max, IntKind.bits, IntKind.signed]; omega) n
      have hb := S.both (a + i * 4096)
      rw [hfr] at hb
      cases hf : f (a + i * 4096) with
      | some B => rw [hf] at hb; cases hb
      | none =>
        rw [hf] at hl
        simp only [ptrV] at hl
        clear hb hf hfr
        go_wp2_with fail
        go_quiet ((go_at_call 36; exact Calls.quiet_of_same (place_q _ _ _ h0 ha (by omega) (by omega))))
        go_wp2
        go_roundw
        case rel => exact ⟨i + 1, by omega, by go_num, by obtain ⟨k, rfl⟩ := HK.out; exact ⟨k + nq, by rw [World.drewN_drewN]⟩⟩
        case measure => simp [intOf]; omega
    · obtain rfl : i = n := by omega
      have Hr := Lib.hid (show MemAt R wr M m most mp from ⟨bm, f, S, hRs⟩)
      clear hlt hi k1
      go_wp2_with (go_at_call 22; refine (free_any R _ M m most mp Hr.out).mono ?_; rintro e w2 ⟨rfl, hk2⟩)
      obtain ⟨k2, rfl⟩ := hk2
      have Hr2 := Lib.hid (Hr.out.drewN k2)
      have HK2 := Lib.hid (show Kept R w (wr.drewN k2) by obtain ⟨k, rfl⟩ := HK.out; rw [World.drewN_drewN]; exact ⟨rfl, rfl, rfl, Nat.le_refl _, fun _ _ => rfl⟩)
      clear Hr S hRs HK
      go_loopw [39] (fun o wr => ∃ j : Nat, j ≤ i ∧ o = .int .i64 j ∧ MemAt R wr M (m + j) most (setP mp a p j) ∧ Kept R w wr) (fun o _ => i - (intOf o).toNat)
      case atStart => exact ⟨0, Nat.zero_le _, rfl, Hr2.out, HK2.out⟩
      case round =>
        obtain ⟨j, hj, rfl, hm, hk⟩ := hrel
        have HM3 := Lib.hid hm
        have HK3 := Lib.hid hk
        clear hk Hr2 HK2
        by_cases hlt : j < i
        · obtain ⟨bm, f, S, hRs⟩ := hm
          have k1 := S.c1
          have hlt2 := S.mlt
          have hfit2 := S.fits
          have hhigh := S.high
          have hMb : M ≠ bm := S.map.own_ne S.c1
          have hwf : (Lit.int .u64 (a + j * 4096)).wf = true := by
            simp [Lit.wf, IntKind.min, IntKind.max, IntKind.bits, IntKind.signed]
            omega
          have hfx := Lib.hid (f_none S (setP_none mp a p HF.out j (by omega) j (Nat.le_refl _)))
          have hX := Lib.hid (fun X => show (wr.alloc X).drew.cell? ⟨M, 1, none⟩ = _ from (World.cell?_of_block (a := ⟨M, 1, none⟩) (Below.heap_alloc wr X M hlt2)).trans k1)
          have hD := Lib.hid (show wr.drew.cell? ⟨M, 1, none⟩ = some (.map (some bm)) from k1)
          have hPM := Lib.hid (fun (X : Obj) => PM.kept (w := wr) (w' := (wr.alloc X).drew) S.map (only_drew (World.grownBy_alloc wr X none)) (by simp))
          go_wp2_with fail
          refine wp_region_noPanic ?_
          refine wp_region_held_drew (S := fun W => W.cell? ⟨M, 1, none⟩ = some (.map (some bm))) (by kernel_rfl) ?_ (fun hHeld => ?_)
          · (first | assumption | exact hX.out _ | exact hD.out)
          refine wpAnyH_take (i := 0) (oi := ?_) (v := ?_) ?_ (by kernel_rfl) (by kernel_rfl) (by kernel_rfl) (fun _ _ _ h => h) ?_ (by assumption) ?_
          rotate_left 2
          · (simp only [List.getElem?_toArray, List.getElem?_cons_succ, List.getElem?_cons_zero]; rfl)
          · (refine Or.inl ⟨by rfl, ?_⟩; intro w hSw; (try dsimp only at hSw); go_simp; try with_reducible rfl)
          try simp only [Act.put, List.setIfInBounds_toArray, List.set_cons_zero, List.set_cons_succ]
          refine wpAnyH_take (i := 1) (oi := ?_) (v := ?_) ?_ (by kernel_rfl) (by kernel_rfl) (by kernel_rfl) (fun _ _ _ h => h) ?_ (by assumption) ?_
          rotate_left 2
          · (simp only [List.getElem?_toArray, List.getElem?_cons_succ, List.getElem?_cons_zero]; rfl)
          · (refine Or.inl ⟨by rfl, ?_⟩; intro w hSw; (try dsimp only at hSw); go_simp; try with_reducible rfl)
          try simp only [Act.put, List.setIfInBounds_toArray, List.set_cons_zero, List.set_cons_succ]
          refine wpAnyH_take (i := 2) (oi := ?_) (v := ?_) ?_ (by kernel_rfl) (by kernel_rfl) (by kernel_rfl) (fun _ _ _ h => h) ?_ (by assumption) ?_
          rotate_left 2
          · (simp only [List.getElem?_toArray, List.getElem?_cons_succ, List.getElem?_cons_zero]; rfl)
          · (refine Or.inl ⟨by rfl, ?_⟩; intro w hSw; (try dsimp only at hSw); go_simp; try with_reducible rfl)
          try simp only [Act.put, List.setIfInBounds_toArray, List.set_cons_zero, List.set_cons_succ]
          refine wpAnyH_take (i := 3) (oi := ?_) (v := ?_) ?_ (by kernel_rfl) (by kernel_rfl) (by kernel_rfl) (fun _ _ _ h => h) ?_ (by assumption) ?_
          rotate_left 2
          · (simp only [List.getElem?_toArray, List.getElem?_cons_succ, List.getElem?_cons_zero]; rfl)
          · (refine Or.inl ⟨by rfl, ?_⟩; intro w hSw; (try dsimp only at hSw); go_simp; try with_reducible rfl)
          try simp only [Act.put, List.setIfInBounds_toArray, List.set_cons_zero, List.set_cons_succ]
          refine wpAnyH_take (i := 4) (oi := ?_) (v := ?_) ?_ (by kernel_rfl) (by kernel_rfl) (by kernel_rfl) (fun _ _ _ h => h) ?_ (by assumption) ?_
          rotate_left 2
          · (simp only [List.getElem?_toArray, List.getElem?_cons_succ, List.getElem?_cons_zero]; rfl)
          · (refine Or.inl ⟨by rfl, ?_⟩; intro w hSw; (try dsimp only at hSw); go_simp; try with_reducible rfl)
          try simp only [Act.put, List.setIfInBounds_toArray, List.set_cons_zero, List.set_cons_succ]
          refine wpAnyH_take (i := 5) (oi := ?_) (v := ?_) ?_ (by kernel_rfl) (by kernel_rfl) (by kernel_rfl) (fun _ _ _ h => h) ?_ (by assumption) ?_
          rotate_left 2
          · (simp only [List.getElem?_toArray, List.getElem?_cons_succ, List.getElem?_cons_zero]; rfl)
          · (refine Or.inl ⟨by rfl, ?_⟩; intro w hSw; (try dsimp only at hSw); go_simp; try with_reducible rfl)
          try simp only [Act.put, List.setIfInBounds_toArray, List.set_cons_zero, List.set_cons_succ]
          refine wpAnyH_take (i := 7) (oi := ?_) (v := ?_) ?_ (by kernel_rfl) (by kernel_rfl) (by kernel_rfl) (fun _ _ _ h => h) ?_ (by assumption) ?_
          rotate_left 2
          · (simp only [List.getElem?_toArray, List.getElem?_cons_succ, List.getElem?_cons_zero]; rfl)
          · (refine Or.inl ⟨by rfl, ?_⟩; intro w hSw; (try dsimp only at hSw); go_simp; try with_reducible rfl)
          try simp only [Act.put, List.setIfInBounds_toArray, List.set_cons_zero, List.set_cons_succ]
          refine wpAnyH_take (i := 8) (oi := ?_) (v := ?_) ?_ (by kernel_rfl) (by kernel_rfl) (by kernel_rfl) (fun _ _ _ h => h) ?_ (by assumption) ?_
          rotate_left 2
          · (simp only [List.getElem?_toArray, List.getElem?_cons_succ, List.getElem?_cons_zero]; rfl)
          · (refine Or.inl ⟨by rfl, ?_⟩; intro w hSw; (try dsimp only at hSw); go_simp; try with_reducible rfl)
          try simp only [Act.put, List.setIfInBounds_toArray, List.set_cons_zero, List.set_cons_succ]
          refine wpAnyH_ready (rs := [6, 9]) (by kernel_rfl) (by simp) ?_
          refine AllReadyH.cons (i := 6) rfl (fun K hK => ?_) ?_
          · go_simp
            ((go_at_call 36; refine (place_any _ _ _ h0 ha (by omega) (by omega)).mono ?_; rintro e w' ⟨rfl, rfl⟩))
            refine hK.out _ _ ?_ (fun hHeld => ?_)
            · (first | assumption | exact hX.out _ | exact hD.out)
            clear hK K
            refine wpAnyH_ready (rs := [9]) (by kernel_rfl) (by simp) ?_
            refine AllReadyH.cons (i := 9) rfl (fun K hK => ?_) ?_
            · go_simp
              refine hK.out _ _ ?_ (fun hHeld => ?_)
              · (first | assumption | exact hX.out _ | exact hD.out)
              clear hK K
              refine wpAnyH_ready (rs := [10]) (by kernel_rfl) (by simp) ?_
              refine AllReadyH.cons (i := 10) rfl (fun K hK => ?_) ?_
              · refine step_mapUpdate_pm (by rfl) _ _ _ 63 (by rfl) 25 66 .u64 Try.underlying25 Try.underlying63 bm (m + j) f (by rfl) (hPM.out _) (by unfold maxLen; omega) (a + j * 4096) (by rfl) hwf wr.heap.size (by rfl) ?_
                intro w3 hP3 hg3
                have hk3 : w3.cell? ⟨M, 1, none⟩ = some (.map (some bm)) := (World.cell?_of_block (hg3.block M (by simp; omega) (by simpa using hMb))).trans (hX.out _)
                refine hK.out _ _ ?_ (fun hHeld => ?_)
                · exact hk3
                clear hK K
                refine wpAnyH_done (by kernel_rfl) ?_ _
                refine NoPanic.normal ?_
                have J := MemIn.added_page S hfx.out hg3 hP3 (by omega)
                have HJ := Lib.hid J
                have HG3 := Lib.hid hg3
                clear J hP3 hg3 hHeld
                go_wp2
                go_roundw
                case rel =>
                  refine ⟨j + 1, by omega, by go_num, ⟨bm, _, HJ.out, hRs.1, hRs.2.1, fun a' B hf' => ?_, fun k hk => ?_⟩, ?_⟩
                  · by_cases e : a' = a + j * 4096
                    · subst e
                      rw [upd_same] at hf'
                      cases hf'
                      intro h
                      have := hRs.2.2.2 _ h
                      omega
                    · rw [upd_other f _ e] at hf'
                      exact hRs.2.2.1 a' B hf'
                  · have := hRs.2.2.2 k hk
                    have := HG3.out.size
                    simp at this
                    omega
                  · refine (HK3.out.alloc (fun k hk => ?_) _).drew.grown HG3.out (fun k hk => ?_) (fun k hk => ?_)
                    · exact HR0.out k hk
                    · exact HR0.out k hk
                    · cases hk; exact hRs.2.1
                case measure => simp [intOf]; omega
              exact AllReadyH.nil
            exact AllReadyH.nil
          refine AllReadyH.cons (i := 9) rfl (fun K hK => ?_) ?_
          · go_simp
            refine hK.out _ _ ?_ (fun hHeld => ?_)
            · (first | assumption | exact hX.out _ | exact hD.out)
            clear hK K
            refine wpAnyH_ready (rs := [6]) (by kernel_rfl) (by simp) ?_
            refine AllReadyH.cons (i := 6) rfl (fun K hK => ?_) ?_
            · go_simp
              ((go_at_call 36; refine (place_any _ _ _ h0 ha (by omega) (by omega)).mono ?_; rintro e w' ⟨rfl, rfl⟩))
              refine hK.out _ _ ?_ (fun hHeld => ?_)
              · (first | assumption | exact hX.out _ | exact hD.out)
              clear hK K
              refine wpAnyH_ready (rs := [10]) (by kernel_rfl) (by simp) ?_
              refine AllReadyH.cons (i := 10) rfl (fun K hK => ?_) ?_
              · refine step_mapUpdate_pm (by rfl) _ _ _ 63 (by rfl) 25 66 .u64 Try.underlying25 Try.underlying63 bm (m + j) f (by rfl) (hPM.out _) (by unfold maxLen; omega) (a + j * 4096) (by rfl) hwf wr.heap.size (by rfl) ?_
                intro w3 hP3 hg3
                have hk3 : w3.cell? ⟨M, 1, none⟩ = some (.map (some bm)) := (World.cell?_of_block (hg3.block M (by simp; omega) (by simpa using hMb))).trans (hX.out _)
                refine hK.out _ _ ?_ (fun hHeld => ?_)
                · exact hk3
                clear hK K
                refine wpAnyH_done (by kernel_rfl) ?_ _
                refine NoPanic.normal ?_
                have J := MemIn.added_page S hfx.out hg3 hP3 (by omega)
                have HJ := Lib.hid J
                have HG3 := Lib.hid hg3
                clear J hP3 hg3 hHeld
                go_wp2
                go_roundw
                case rel =>
                  refine ⟨j + 1, by omega, by go_num, ⟨bm, _, HJ.out, hRs.1, hRs.2.1, fun a' B hf' => ?_, fun k hk => ?_⟩, ?_⟩
                  · by_cases e : a' = a + j * 4096
                    · subst e
                      rw [upd_same] at hf'
                      cases hf'
                      intro h
                      have := hRs.2.2.2 _ h
                      omega
                    · rw [upd_other f _ e] at hf'
                      exact hRs.2.2.1 a' B hf'
                  · have := hRs.2.2.2 k hk
                    have := HG3.out.size
                    simp at this
                    omega
                  · refine (HK3.out.alloc (fun k hk => ?_) _).drew.grown HG3.out (fun k hk => ?_) (fun k hk => ?_)
                    · exact HR0.out k hk
                    · exact HR0.out k hk
                    · cases hk; exact hRs.2.1
                case measure => simp [intOf]; omega
              exact AllReadyH.nil
            exact AllReadyH.nil
          exact AllReadyH.nil
        · obtain rfl : j = i := by omega
          clear hlt
          go_wp2
          go_ret
          exact ⟨rfl, HM3.out, HK3.out⟩
end Go.Proofs.Ytlifaldbdjcgjaa
