/- package cpu: Step. -/
import Derived.Test.YthbgmlmcjnlopaaMchN
namespace Go.Proofs.Ythbgmlmcjnlopaa
open Go.ChangeShapes Go.WideShapes Go.ChangeAt Go.RowKit
set_option linter.unusedVariables false
set_option linter.unusedSimpArgs false
set_option maxRecDepth 100000

theorem StAt.new {w w1 : World} {B : Nat} {s : StV} {old : Array Value} (h : w.heap[B]? = some (.cells old 79 (0, 0))) (hw : w.setRow B (stL s).toArray = w1) : StAt w1 B s := by
  subst hw
  have h2 := row_set (cells := (stL s).toArray) h
  refine ⟨lt_of_row' h2, fun j hj => ⟨?_, ?_⟩⟩
  · rw [cell_of_row' h2]
    simpa using stL_get s j hj
  · exact frozen_of_row _ _ _ _ _ h2

set_option maxHeartbeats 8000000 in
theorem step_any (R : Nat → Prop) (w : World) (C M m : Nat) (most : Int) (mp : Int → Option Pg) (s : StV) (fk fa : Int) (al : AlV) (HO : MpOk mp) (hso : StOk s) (hm : MemAt R w M m most mp) (hc : Own w C 24 (cpuF M s fk fa)) (hRC : R C)
    (hal : (fetchM mp s.ip 12 []).flt = false → (fetchM mp s.ip 12 []).e = 0 → AluD (fetchM mp s.ip 12 []).x (nextS s (fetchM mp s.ip 12 []).n) al) (r : StepR) (hr : stepM mp s fk fa al = r) :
    Calls Try.prog 17 #[.pointer (some ⟨C, 0, none⟩)] w fun e w' => StepQ R w C M m most r e w' := by
  have HB := Lib.hid (fetch_bd mp HO s.ip 12 [] (fun v hv => (nomatch hv)) rfl (by omega))
  have HSZ := Lib.hid hm.sz
  have HRC := Lib.hid hRC
  have HC := Lib.hid hc
  have HSO := Lib.hid hso
  have HAL := Lib.hid hal
  have HOK := Lib.hid HO
  unfold stepM at hr
  obtain ⟨FE, hFE⟩ : ∃ FE, fetchM mp s.ip 12 [] = FE := ⟨_, rfl⟩
  have HF := Lib.hid (fetch_any R w C M m most mp s fk fa HO hso.ip hm hc hRC FE hFE)
  rw [hFE] at HB HAL hr
  have HR := Lib.hid hr
  clear hm hc hRC hso hal HO hr hFE
  go_enter Try.func17, Try.ntmps17
  go_wp2_with fail
  refine HF.out.mono ?_
  intro e w1 hQ
  have HQ := Lib.hid hQ
  obtain rfl := hQ.e
  clear hQ HF
  obtain ⟨flt, fmp, ⟨xo, xa, xb, xl, xc, xi, xd⟩, fn, fe, fk', fa'⟩ := FE
  simp only [insV]
  go_upto_region 2 with (fail)
  obtain ⟨w2, hw2⟩ : ∃ w2, w1.alloc (.cells #[.int .i64 xo, .int .i64 xa, .int .i64 xb, .int .i64 xl, .int .i64 xc, .int .u64 xi, .int .i64 xd] 27) = w2 := ⟨_, rfl⟩
  obtain ⟨D, hD⟩ : ∃ D, w1.heap.size = D := ⟨_, rfl⟩
  have HB2 := Lib.hid (show Below w1.heap.size w1 w2 from by rw [← hw2]; exact (Below.refl _ _).alloc (Nat.le_refl _) _)
  have HZ2 := Lib.hid (show w2.heap[D]? = some (.cells (insA ⟨xo, xa, xb, xl, xc, xi, xd⟩) 27 (0, 0)) from by rw [← hw2, ← hD]; exact heap_alloc_new w1 _)
  have HSD := Lib.hid hD
  have hs2 : w2.heap.size = D + 1 := by rw [← hw2, ← hD]; simp
  have HS2 := Lib.hid hs2
  refine (congrArg _ hw2).mpr ?_
  try rw [hD]
  clear hw2 hD hs2
  cases flt with
  | true =>
    have hr := HR.out
    rw [if_pos rfl] at hr
    have he : fe = 17 := by
      rcases HB.out with h | h
      · exact h.2
      · exact absurd h.1 (by simp)
    subst he
    have hq := HQ.out
    have hY : StepQ R w C M m most r (.returned (.tuple #[.int .i64 0, .int .i64 17])) w2 := by
      rw [← hr]
      exact ⟨rfl, hq.mem.below HB2.out, (hq.cpu rfl).below HB2.out (hq.cpu rfl).1, (hq.kept.mono (fun k hk => ⟨hk.1, fun _ => hk.2⟩)).trans (Kept.of_below HB2.out (fun k hk => hq.mem.sz k hk.1))⟩
    have HY := Lib.hid hY
    clear hr hq hY
    go_wp2_with fail
    go_ret2
    exact HY.out
  | false =>
    have HB3 := HB.out
    rcases HB3 with h | ⟨_, hmp, hn, he⟩
    · exact absurd h.1 (by simp)
    · simp only at hmp hn he
      subst hmp
      rcases he with ⟨he, hins⟩ | he
      · subst he
        have hr := HR.out
        simp only [Bool.false_eq_true, if_false, ne_eq, not_true_eq_false] at hr
        have hq := HQ.out
        have hk1 : Kept R w w1 := hq.kept.mono (fun k hk => ⟨hk, fun h => absurd h (by simp)⟩)
        have hk2 : Kept R w w2 := hk1.trans (Kept.of_below HB2.out (fun k hk => hq.mem.sz k hk))
        have HK2 := Lib.hid hk2
        have HC2 := Lib.hid (hk2.own HC.out HRC.out)
        have HM2 := Lib.hid (show MemAt (fun k => R k ∨ k = D) w2 M m most fmp from (hq.mem.more HB2.out).weaken (fun k hk => by
          rcases hk with hk | hk
          · exact .inl hk
          · have h1 := HSD.out; have h2 := HS2.out; exact .inr ⟨by omega, by omega⟩))
        have HDR := Lib.hid (show ¬ R D from fun h => by have h1 := hq.mem.sz D h; have h2 := HSD.out; omega)
        have HIN := Lib.hid hins
        have HN := Lib.hid hn
        have HAL2 := Lib.hid (HAL.out rfl rfl)
        replace HR := Lib.hid hr
        clear hq hk1 hk2 hr hins hn HAL HB HQ
        go_upto_region 4 with (fail)
        go_upto_region 5 with (first
          | (refine wpList_load_mid rfl 79 _ rfl C 1 rfl (stL s) _ (cpu_range HC2.out) Try.underlying79 rfl (stL_len s) ?_)
          | (refine wpList_store_row rfl 79 _ _ rfl w2.heap.size (stL s).toArray rfl rfl 79 _ (heap_alloc_new _ _) (stL_size s) rfl (stL_one s) ?_))
        obtain ⟨B, hB⟩ : ∃ B, w2.heap.size = B := ⟨_, rfl⟩
        obtain ⟨w3, hw3⟩ : ∃ w3, w2.alloc (.cells #[.int .u64 0, .int .u64 0, .int .u64 0, .int .u64 0, .int .u64 0, .int .u64 0, .int .u64 0, .int .u64 0, .int .u64 0, .int .u64 0, .int .u64 0, .int .u64 0, .int .u64 0, .int .u64 0, .int .u64 0, .int .u64 0, .int .u64 0, .bool false, .bool false, .bool false, .bool false] 79) = w3 := ⟨_, rfl⟩
        have hb3 : Below w2.heap.size w2 w3 := by rw [← hw3]; exact (Below.refl _ _).alloc (Nat.le_refl _) _
        have hz3 : w3.heap[B]? = some (.cells #[.int .u64 0, .int .u64 0, .int .u64 0, .int .u64 0, .int .u64 0, .int .u64 0, .int .u64 0, .int .u64 0, .int .u64 0, .int .u64 0, .int .u64 0, .int .u64 0, .int .u64 0, .int .u64 0, .int .u64 0, .int .u64 0, .int .u64 0, .bool false, .bool false, .bool false, .bool false] 79 (0, 0)) := by rw [← hw3, ← hB]; exact heap_alloc_new w2 _
        rw [hw3, hB]
        obtain ⟨w4, hw4⟩ : ∃ w4, w3.setRow B (stL s).toArray = w4 := ⟨_, rfl⟩
        rw [hw4]
        have HBB := Lib.hid (show B ≠ D ∧ B ≠ C ∧ ¬ R B ∧ D ≠ C from by
          have h1 := HS2.out
          have h2 := HSZ.out C HRC.out
          have h3 := HK2.out.size
          have h4 := HSD.out
          exact ⟨by omega, by have := HC2.out.1; omega, fun h => by have := HSZ.out B h; omega, fun h => HDR.out (by rw [h]; exact HRC.out)⟩)
        have hm3 := HM2.out.more hb3
        have hb3s : B < w3.heap.size := lt_of_row' hz3
        have ho4 : ∀ k, k ≠ B → w4.heap[k]? = w3.heap[k]? := fun k hk => by rw [← hw4]; exact setRow_other _ _ k _ hk
        have hs4 : w4.heap.size = w3.heap.size := by rw [← hw4]; simp [World.setRow]
        obtain ⟨R4, hR4⟩ : ∃ R4, R4 = fun k => (R k ∨ k = D) ∨ (w2.heap.size ≤ k ∧ k < w3.heap.size) := ⟨_, rfl⟩
        have hB4 : R4 B := by rw [hR4]; exact .inr ⟨by omega, hb3s⟩
        have HR4 := Lib.hid (show (∀ k, R k → R4 k) ∧ R4 D ∧ R4 B ∧ R4 C from ⟨fun k hk => by rw [hR4]; exact .inl (.inl hk), by rw [hR4]; exact .inl (.inr rfl), hB4, by rw [hR4]; exact .inl (.inl HRC.out)⟩)
        rw [← hR4] at hm3
        have hkw4 : Kept R w2 w4 := by
          have h1 := Kept.of_below hb3 (R := R) (fun k hk => HM2.out.sz k (.inl hk))
          exact h1.trans (by rw [← hw4]; exact ⟨rfl, rfl, rfl, by simp [World.setRow], fun k hk => setRow_other _ _ k _ (fun e => HBB.out.2.2.1 (by rw [← e]; exact hk))⟩)
        have HX4 := Lib.hid (show Ctx R4 w4 C B M m most fmp s fk fa s from ⟨hm3.kept (by omega) (fun k _ hr => ho4 k (fun e => hr (by rw [e]; exact hB4))), hkw4.own HC2.out HRC.out, StAt.new hz3 hw4, HR4.out.2.2.2, hB4, HBB.out.2.1.symm, HOK.out, HSO.out⟩)
        have HZ4 := Lib.hid (show w4.heap[D]? = some (.cells (insA ⟨xo, xa, xb, xl, xc, xi, xd⟩) 27 (0, 0)) from (ho4 D HBB.out.1.symm).trans ((hb3.block D (lt_of_row' HZ2.out)).trans HZ2.out))
        have HK4 := Lib.hid (HK2.out.trans hkw4)
        clear hb3 hz3 hm3 hb3s ho4 hs4 hR4 hB4 hkw4 hw3 hw4 hB HM2 HC2
        have ci := HX4.out.st.ipc
        have hwn : IntKind.u64.wrap (fn : Int) = fn := by have := HN.out; rw [IntKind.wrap_u64]; omega
        have hwa : IntKind.u64.wrap (s.ip + (fn : Int)) = (s.ip + fn) % 18446744073709551616 := by rw [IntKind.wrap_u64]
        have hnb : 0 ≤ (s.ip + (fn : Int)) % 18446744073709551616 ∧ (s.ip + (fn : Int)) % 18446744073709551616 < 18446744073709551616 := by omega
        have HX5 := Lib.hid (show Ctx R4 (w4.setCell ⟨B, 16, none⟩ (.int .u64 ((s.ip + fn) % 18446744073709551616))) C B M m most fmp s fk fa (nextS s fn) from HX4.out.setIp hnb.1 hnb.2)
        have HZ5 := Lib.hid (show (w4.setCell ⟨B, 16, none⟩ (.int .u64 ((s.ip + fn) % 18446744073709551616))).heap[D]? = some (.cells (insA ⟨xo, xa, xb, xl, xc, xi, xd⟩) 27 (0, 0)) from (Below.heap_setCell w4 ⟨B, 16, none⟩ _ D HBB.out.1.symm).trans HZ4.out)
        have HK5 := Lib.hid (show Kept R w (w4.setCell ⟨B, 16, none⟩ (.int .u64 ((s.ip + fn) % 18446744073709551616))) from HK4.out.setCell HBB.out.2.2.1 _)
        clear hnb
        go_upto_region 6 with (fail)
        clear ci hwn hwa HX4 HZ4 HK4
        generalize w4.setCell ⟨B, 16, none⟩ (.int .u64 ((s.ip + fn) % 18446744073709551616)) = w5 at *
        have HDO := Lib.hid (do_any R4 w5 C B M m most fmp s fk fa (nextS s fn) ⟨xo, xa, xb, xl, xc, xi, xd⟩ al HX5.out HIN.out HAL2.out)
        go_wp2_with (refine wpList_load_row rfl 27 _ rfl D rfl 27 (insA ⟨xo, xa, xb, xl, xc, xi, xd⟩) (0, 0) _ HZ5.out Try.underlying27 rfl (ins_size _) ?_)
        refine HDO.out.mono ?_
        intro e w6 hP
        by_cases ho : (doM ⟨xo, xa, xb, xl, xc, xi, xd⟩ (nextS s fn) fmp al).ok = true
        · have hy := hP.toY ho
          have hr := HR.out
          rw [if_pos ho] at hr
          obtain rfl := hy.e
          generalize doM ⟨xo, xa, xb, xl, xc, xi, xd⟩ (nextS s fn) fmp al = o at *
          have HC6 := Lib.hid ((hy.kept.mono (R' := fun k => k = C) (fun k hk => by rw [hk]; exact ⟨HR4.out.2.2.2, HBB.out.2.1.symm⟩)).own HX5.out.cpu rfl)
          have HS6 := Lib.hid hy.st
          have HZ6 := Lib.hid (show w6.heap[D]? = some (.cells (insA ⟨xo, xa, xb, xl, xc, xi, xd⟩) 27 (0, 0)) from (hy.kept.block D ⟨HR4.out.2.1, HBB.out.1.symm⟩).trans HZ5.out)
          have HM6 := Lib.hid (hy.mem)
          have HK6 := Lib.hid (HK5.out.trans (hy.kept.mono (fun k hk => ⟨HR4.out.1 k hk, fun e => HBB.out.2.2.1 (by rw [← e]; exact hk)⟩)))
          have HC7 := Lib.hid (cpu_now HC6.out o.s)
          have HM7 := Lib.hid (show MemAt R (w6.setCells C 1 (stL o.s).toArray.toList) M m most o.mp from (HM6.out.kept (by rw [size_setCells']; exact Nat.le_refl _) (fun k hk hr => World.heap_setCells_other w6 C 1 _ hk (fun e => hr (by rw [e]; exact HR4.out.2.2.2)))).weaken HR4.out.1)
          have HK7 := Lib.hid (show Kept (fun k => R k ∧ k ≠ C) w (w6.setCells C 1 (stL o.s).toArray.toList) from (HK6.out.mono (fun k hk => hk.1)).trans (Kept.setCellsOut C 1 _ (fun k hk => Nat.lt_of_lt_of_le (HSZ.out k hk) HK6.out.size)))
          have HZ7 := Lib.hid (show (w6.setCells C 1 (stL o.s).toArray.toList).heap[D]? = some (.cells (insA ⟨xo, xa, xb, xl, xc, xi, xd⟩) 27 (0, 0)) from (World.heap_setCells_other w6 C 1 _ (lt_of_row' HZ6.out) HBB.out.2.2.2).trans HZ6.out)
          have HRR := Lib.hid hr
          clear hy hr hP HDO HAL2 HIN HX5 HZ5 HK5 HR ho
          go_upto_region 9 with (first
            | (refine wpList_load_mid rfl 79 _ rfl B 0 rfl (stL o.s) _ HS6.out.range Try.underlying79 rfl (stL_len o.s) ?_)
            | (refine wpList_store_mid rfl 79 _ _ rfl C 1 (stL o.s).toArray rfl rfl (cpu_there HC6.out o.s) (stL_size o.s) (stL_one o.s) ?_))
          generalize w6.setCells C 1 (stL o.s).toArray.toList = w7 at *
          have d0 : w7.cell? ⟨D, 0, none⟩ = some (.int .i64 xo) := by rw [cell_of_row' HZ7.out]; rfl
          have d5 : w7.cell? ⟨D, 5, none⟩ = some (.int .u64 xi) := by rw [cell_of_row' HZ7.out]; rfl
          by_cases c23 : xo = 23
          · have hb : ((xo : Int) == 23) = true := by rw [c23]; rfl
            have hr := HRR.out
            rw [if_pos c23] at hr
            have HY := Lib.hid (show StepQ R w C M m most r (.returned (.tuple #[.int .i64 (wrap64 (wrap64 xi + 256)), .int .i64 0])) w7 from by rw [← hr]; exact ⟨rfl, HM7.out, HC7.out, HK7.out⟩)
            clear hr c23
            go_wp2_with fail
            go_ret2
            exact HY.out
          · have hb : ((xo : Int) == 23) = false := beq_eq_false_iff_ne.mpr (by omega)
            have hr := HRR.out
            rw [if_neg c23] at hr
            have HY := Lib.hid (show StepQ R w C M m most r (.returned (.tuple #[.int .i64 0, .int .i64 0])) w7 from by rw [← hr]; exact ⟨rfl, HM7.out, HC7.out, HK7.out⟩)
            clear hr c23
            go_wp2_with fail
            go_ret2
            exact HY.out
        · have hy := hP.toN ho
          have hr := HR.out
          rw [if_neg ho] at hr
          obtain rfl := hy.e
          have HY := Lib.hid (show StepQ R w C M m most r (.returned (.tuple #[.int .i64 0, .int .i64 17])) w6 from by
            rw [← hr]
            exact ⟨rfl, hy.mem.weaken HR4.out.1, hy.cpu, (HK5.out.mono (fun k hk => hk.1)).trans (hy.kept.mono (fun k hk => ⟨HR4.out.1 k hk.1, hk.2, fun e => HBB.out.2.2.1 (by rw [← e]; exact hk.1)⟩))⟩)
          clear hy hr hP HDO HAL2 HIN HX5 HZ5 HK5 HR ho
          go_wp2_with fail
          go_ret2
          exact HY.out
      · subst he
        have hr := HR.out
        rw [if_neg (by simp), if_pos (by simp)] at hr
        have hq := HQ.out
        have hk1 : Kept R w w1 := hq.kept.mono (fun k hk => ⟨hk, fun h => absurd h (by simp)⟩)
        have hY : StepQ R w C M m most r (.returned (.tuple #[.int .i64 0, .int .i64 16])) w2 := by
          rw [← hr]
          have hc1 := hk1.own HC.out HRC.out
          exact ⟨rfl, hq.mem.below HB2.out, hc1.below HB2.out hc1.1, (hk1.trans (Kept.of_below HB2.out (fun k hk => hq.mem.sz k hk))).mono (fun k hk => hk.1)⟩
        have HY := Lib.hid hY
        clear hr hq hY hk1
        go_wp2_with fail
        go_ret2
        exact HY.out
end Go.Proofs.Ythbgmlmcjnlopaa
