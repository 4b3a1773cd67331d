/- law 7's At: behind the functions. -/
import Derived.Test.YtbjabncefhgefaaExpI0
namespace Go.Proofs.Ytbjabncefhgefaa
open Go.ChangeShapes Go.WideShapes Go.ChangeAt Go.RowKit
set_option linter.unusedVariables false
set_option linter.unusedSimpArgs false

set_option maxRecDepth 100000 in
set_option maxHeartbeats 8000000 in
theorem at7_tail (start n m rows n4 r1 m4 r2 Z : Nat) (ns : List (List Nat)) (ln : Nat) (N : Option Addr) (nc : Nat) (w wr : World) (hst : start ≤ 4096) (hm12 : m ≤ 12) (hn12 : n ≤ 12) (B3 b : List Nat) (g c : Nat)
    (HNT : Hid (∀ W, Below w.heap.size w W → SlT sC 1 W N ns)) (HNS : Hid (∀ s ∈ ns, TxOk s)) (HMN : Hid (m ≤ ns.length ∧ m ≤ ln)) (HLN : Hid ((ns.take 12).length = m))
    (er : (start : Int) + 40 = (rows : Int)) (en4 : (4 : Int) * (n : Int) = (n4 : Int)) (er1 : (rows : Int) + (n4 : Int) = (r1 : Int)) (em4 : (4 : Int) * (m : Int) = (m4 : Int)) (er2 : (r1 : Int) + (m4 : Int) = (r2 : Int)) (HZQ : Hid (r1 + 6 * m = Z ∧ r2 = r1 + 4 * m)) (hZb : Z ≤ 4300)
    (HO : Hid (OwnD wr (w.heap.size + 2) g c b)) (HBZ : Hid (Z ≤ b.length)) (hbm2 : b.length ≤ 7000) (HB : Hid (Below w.heap.size w wr))
    (HX : Hid (wr.heap[w.heap.size]? = some (.cells #[.int .i64 0, .int .i64 0] 26 (0, 0)))) (HY : Hid (wr.heap[w.heap.size + 1]? = some (.cells #[.int .i64 start, .int .i64 0] 26 (0, 0))))
    (HB3 : Hid (atN r1 r2 n (ns.take 12) 0 b = B3)) (a : Act)
    (ha : Has 167 [0, 2, 9, 10, 11, 12, 13, 14] [.int .i64 start, .slice N ln nc, .pointer (some ⟨w.heap.size, 0, none⟩), .int .i64 n, .int .i64 m, .pointer (some ⟨w.heap.size + 1, 0, none⟩), .slice (some ⟨g, 0, none⟩) b.length c, .int .i64 rows] a) : (dropS 12 bodyA).wp Try.prog (QA start b.length B3 w) a wr := by
  obtain ⟨u, rfl⟩ := hopen_0_2_9_10_11_12_13_14 ha
  clear ha
  conv => arg 2; whnf
  have hy1 : wr.cell? ⟨w.heap.size + 1, 1, none⟩ = some (.int .i64 0) := by rw [cell_of_row _ _ _ _ _ _ HY.out]; rfl
  have hyf : wr.frozen? ⟨w.heap.size + 1, 1, none⟩ = false := frozen_of_row _ _ _ _ _ HY.out
  obtain ⟨zz, hzz⟩ : ∃ zz : Int, (b.length : Int) - (start : Int) = zz := ⟨_, rfl⟩
  have HZZ := Lib.hid (show zz < 7001 ∧ -5000 < zz from by omega)
  obtain ⟨w9, hw9⟩ : ∃ w9, wr.setCell ⟨w.heap.size + 1, 1, none⟩ (.int .i64 zz) = w9 := ⟨_, rfl⟩
  replace HX := Lib.hid (show w9.heap[w.heap.size]? = some (.cells #[.int .i64 0, .int .i64 0] 26 (0, 0)) from by rw [← hw9]; exact (heap_setCell_other wr _ _ _ (by simp)).trans HX.out)
  replace HO := Lib.hid (show OwnD w9 (w.heap.size + 2) g c b from by
    rw [← hw9]
    refine HO.out.of_block (by simp) (heap_setCell_other wr _ _ _ ?_)
    have := HO.out.le
    show g ≠ w.heap.size + 1
    omega)
  replace HY := Lib.hid (show w9.heap[w.heap.size + 1]? = some (.cells #[.int .i64 start, .int .i64 zz] 26 (0, 0)) from by rw [← hw9]; exact heap_setCell_same wr (w.heap.size + 1) 1 _ _ _ HY.out)
  replace HB := Lib.hid (show Below w.heap.size w w9 from by rw [← hw9]; exact HB.out.setCell (p := ⟨w.heap.size + 1, 1, none⟩) (Nat.le_succ _) _)
  have HW9 := Lib.hid hw9
  clear hw9
  go_upto_region 28 with (fail)
  refine (congrArg _ HW9.out).mpr ?_
  clear hy1 hyf HW9
  go_wp2_with fail
  go_loopw [13, 20] (fun v13 v20 wr => ∃ (j g c : Nat) (b' : List Nat), j ≤ m ∧ v20 = .int .i64 j ∧ v13 = .slice (some ⟨g, 0, none⟩) b'.length c ∧ OwnD wr (w.heap.size + 2) g c b' ∧ Z ≤ b'.length ∧ b'.length ≤ 7000 + 201 * j ∧ Below w.heap.size w wr ∧ wr.heap[w.heap.size]? = some (.cells #[.int .i64 0, .int .i64 0] 26 (0, 0)) ∧ wr.heap[w.heap.size + 1]? = some (.cells #[.int .i64 start, .int .i64 zz] 26 (0, 0)) ∧ atN r1 r2 n ((ns.take 12).drop j) j b' = B3) (fun _ v20 _ => m - (intOf v20).toNat)
  case atStart => exact ⟨0, g, c, b, Nat.zero_le _, rfl, rfl, HO.out, HBZ.out, by omega, HB.out, HX.out, HY.out, HB3.out⟩
  case round =>
    obtain ⟨j, g, c, b', hj, rfl, rfl, ho, hbz', hbm', hbel, hx, hy, hat⟩ := hrel
    replace HO := Lib.hid ho
    replace HB := Lib.hid hbel
    replace HX := Lib.hid hx
    replace HY := Lib.hid hy
    replace HB3 := Lib.hid hat
    clear ho hbel hx hy hat
    by_cases hlt : j < m
    · have hjn : j < ns.length := by have := HMN.out; omega
      have hjl : j < ln := by have := HMN.out; omega
      obtain ⟨bn, off, rfl, hbl, q0⟩ := (HNT.out wr HB.out).st hjn
      have hok := HNS.out ns[j] (List.getElem_mem hjn)
      have hat := HB3.out
      rw [List.drop_eq_getElem_cons (by have := HLN.out; omega), List.getElem_take] at hat
      obtain ⟨s, hse⟩ : ∃ s, ns[j] = s := ⟨_, rfl⟩
      rw [hse] at hat hok q0
      simp only [atN, nStep] at hat
      have HSX := Lib.hid (fun W => src_txt (w := W) s hok.1)
      obtain ⟨T, hT⟩ : ∃ T, txt s = T := ⟨_, rfl⟩
      rw [hT] at q0 HSX
      have HOK := Lib.hid hok
      obtain ⟨j4, hj4⟩ : ∃ q, 4 * j = q := ⟨_, rfl⟩
      obtain ⟨p, hp1⟩ : ∃ q, r1 + j4 = q := ⟨_, rfl⟩
      obtain ⟨j2, hj2⟩ : ∃ q, 2 * j = q := ⟨_, rfl⟩
      obtain ⟨q, hq1⟩ : ∃ q, r2 + j2 = q := ⟨_, rfl⟩
      have ej4 : (4 : Int) * (j : Int) = (j4 : Int) := by omega
      have ep : (r1 : Int) + (j4 : Int) = (p : Int) := by omega
      have ej2 : (2 : Int) * (j : Int) = (j2 : Int) := by omega
      have eq' : (r2 : Int) + (j2 : Int) = (q : Int) := by omega
      obtain ⟨mx, hmx⟩ : ∃ mx, max n 1 = mx := ⟨_, rfl⟩
      have emx : max (n : Int) 1 = (mx : Int) := by omega
      have hmx0 : mx ≠ 0 := by omega
      have erem : Int.tmod (j : Int) (mx : Int) = ((j % mx : Nat) : Int) := rfl
      obtain ⟨rr, hrr⟩ : ∃ rr, j % mx = rr := ⟨_, rfl⟩
      have hrrb : rr ≤ 12 := by have := Nat.mod_le j mx; omega
      rw [hrr] at erem
      rw [hj4, hp1, hj2, hq1, hmx, hrr] at hat
      have HPQ := Lib.hid (show p + 4 ≤ Z ∧ q + 2 ≤ Z from by have := HZQ.out; omega)
      have hl1 := putL_len (b := b') (o := p) (n := 4) (by have := HPQ.out; omega) b'.length
      have hp := put7_any (some ⟨g, 0, none⟩) c b' p 4 (b'.length : Nat) b'.length wr HO.out.lb (by omega) HO.out.slB (by omega) (by omega) (by have := HPQ.out; omega) (u64_nat (by omega)) (by omega)
      obtain ⟨d1, hd1⟩ : ∃ q, putL b' p 4 b'.length = q := ⟨_, rfl⟩
      rw [hd1] at hp hl1 hat
      clear hd1 hj4 hp1 hj2 hq1 hmx hrr hse hT hok
      have hqs : ∀ W, Below wr.heap.size wr W → W.cell? ⟨bn, off + j, none⟩ = some (.string T) := fun W hW => (hW.cell (p := ⟨bn, off + j, none⟩) hbl).trans q0
      have HQS := Lib.hid hqs
      clear hqs q0
      go_wp2_with fail
      refine hp.mono ?_
      rintro e w8 ⟨g1', c1', rfl, ho, hw⟩
      have HW8 := Lib.hid hw
      replace HO := Lib.hid (ho.weaken (base' := w.heap.size + 2) (lt_of_row' HY.out))
      replace HX := Lib.hid ((hw.block w.heap.size (lt_of_row' HX.out)).trans HX.out)
      replace HY := Lib.hid ((hw.block (w.heap.size + 1) (lt_of_row' HY.out)).trans HY.out)
      replace HB := Lib.hid (HB.out.trans (hw.mono HB.out.size))
      clear hp ho hw
      have hl2 := putL_len (b := d1) (o := q) (n := 2) (by have := HPQ.out; omega) rr
      have hp := put7_any (some ⟨g1', 0, none⟩) c1' d1 q 2 (rr : Nat) rr w8 HO.out.lb (by omega) HO.out.slB (by omega) (by omega) (by have := HPQ.out; omega) (u64_nat (by omega)) (by omega)
      obtain ⟨d2, hd2⟩ : ∃ q', putL d1 q 2 rr = q' := ⟨_, rfl⟩
      rw [hd2] at hp hl2 hat
      rw [hl1] at hp hl2
      clear hd2
      go_wp2_with fail
      refine hp.mono ?_
      rintro e w10 ⟨g2', c2', rfl, ho, hw⟩
      have q0 := HQS.out w10 (HW8.out.trans (hw.mono HW8.out.size))
      replace HO := Lib.hid (ho.weaken (base' := w.heap.size + 2) (lt_of_row' HY.out))
      replace HX := Lib.hid ((hw.block w.heap.size (lt_of_row' HX.out)).trans HX.out)
      replace HY := Lib.hid ((hw.block (w.heap.size + 1) (lt_of_row' HY.out)).trans HY.out)
      replace HB := Lib.hid (HB.out.trans (hw.mono HB.out.size))
      have hoo := HO.out
      clear hp ho hw
      have hsl := HOK.out.2
      have HL2 := Lib.hid hl2
      clear hoo
      go_wp2_with (first
          | (at_builtin; refine wpList_appD rfl (.tmp 157) (.tmp 161) 9 rfl (.string T) HO.out HL2.out.symm rfl (HSX.out _) HOK.out.1 (by omega) (lt_of_row' HY.out) rfl rfl ?_; intro g5 c5 w5 hown5 hbel5; have HO5 := Lib.hid hown5; have HB5 := Lib.hid hbel5; clear hown5 hbel5)
          | (at_builtin; refine wpList_appD rfl (.tmp 162) (.tmp 163) 24 rfl (.slice (some ⟨w5.heap.size, 0, none⟩) 1 1) (HO5.out.alloc _) (by rw [List.length_append, HL2.out]) (show 1 = [0].length from rfl) (src_zero' w5) (fun v hv => by simp at hv; omega) (by omega) (Nat.le_trans (Nat.le_trans (lt_of_row' HY.out) HB5.out.size) (by simp)) rfl rfl ?_; intro g6 c6 w6 hown6 hbel6; have HO6 := Lib.hid hown6; have HB6 := Lib.hid hbel6; clear hown6 hbel6)
          | fail)
      have hlen : (d2 ++ s ++ [0]).length = b'.length + s.length + 1 := by simp only [List.length_append, List.length_singleton, HL2.out]
      have hs5 : w.heap.size + 2 ≤ w5.heap.size := Nat.le_trans (lt_of_row' HY.out) HB5.out.size
      have hch : Below (w.heap.size + 2) w10 w6 := (HB5.out.alloc hs5 _).trans HB6.out
      replace HX := Lib.hid ((hch.block w.heap.size (by omega)).trans HX.out)
      replace HY := Lib.hid ((hch.block (w.heap.size + 1) (by omega)).trans HY.out)
      replace HB := Lib.hid (HB.out.trans (hch.mono (by omega)))
      clear hs5 hch q0
      go_roundw
      case rel => exact ⟨j + 1, g6, c6, d2 ++ s ++ [0], by omega, by go_num, by rw [hlen], HO6.out, by omega, by omega, HB.out, HX.out, HY.out, hat⟩
      case measure => simp [intOf]; omega
    · obtain rfl : j = m := by omega
      have hat := HB3.out
      rw [List.drop_eq_nil_of_le (by have := HLN.out; omega)] at hat
      have hat' : b' = B3 := hat
      subst hat'
      have hy0 : wr.cell? ⟨w.heap.size + 1, 0, none⟩ = some (.int .i64 start) := by rw [cell_of_row _ _ _ _ _ _ HY.out]; rfl
      have hy1 : wr.cell? ⟨w.heap.size + 1, 1, none⟩ = some (.int .i64 zz) := by rw [cell_of_row _ _ _ _ _ _ HY.out]; rfl
      go_upto_region 34 with (fail)
      have HS := Lib.hid (show Below w.heap.size w wr.drew ∧ wr.drew.cell? ⟨w.heap.size + 1, 0, none⟩ = some (.int .i64 start) ∧ wr.drew.cell? ⟨w.heap.size + 1, 1, none⟩ = some (.int .i64 zz) from ⟨HB.out.drew, hy0, hy1⟩)
      clear hy0 hy1
      refine wp_region_noPanic ?_
      refine wp_region_K (fun W => Below w.heap.size w W ∧ W.cell? ⟨w.heap.size + 1, 0, none⟩ = some (.int .i64 start) ∧ W.cell? ⟨w.heap.size + 1, 1, none⟩ = some (.int .i64 zz)) (fun _ => True) 99 (by kernel_rfl) ?_
      refine wpAnyK_take (i := 0) (oi := ?_) (v := ?_) ?_ (by kernel_rfl) (by kernel_rfl) (by kernel_rfl) (fun _ _ _ h => h) (by decide) ?_ HS.out (fun _ => trivial) ?_
      rotate_left 2
      · (simp only [List.getElem?_toArray, List.getElem?_cons_succ, List.getElem?_cons_zero]; rfl)
      · (first | exact Or.inr ⟨by rfl, rfl⟩ | (refine Or.inl ⟨by rfl, ?_⟩; intro W hSw; clear hSw; go_simp; try with_reducible rfl))
      try simp only [Act.put, List.setIfInBounds_toArray, List.set_cons_zero, List.set_cons_succ]
      refine wpAnyK_take (i := 1) (oi := ?_) (v := ?_) ?_ (by kernel_rfl) (by kernel_rfl) (by kernel_rfl) (fun _ _ _ h => h) (by decide) ?_ HS.out (fun _ => trivial) ?_
      rotate_left 2
      · (simp only [List.getElem?_toArray, List.getElem?_cons_succ, List.getElem?_cons_zero]; rfl)
      · (first | exact Or.inr ⟨by rfl, rfl⟩ | (refine Or.inl ⟨by rfl, ?_⟩; intro W hSw; have hq0 := hSw.2.1; have hq1 := hSw.2.2; clear hSw; go_simp; try with_reducible rfl))
      try simp only [Act.put, List.setIfInBounds_toArray, List.set_cons_zero, List.set_cons_succ]
      refine wpAnyK_take (i := 2) (oi := ?_) (v := ?_) ?_ (by kernel_rfl) (by kernel_rfl) (by kernel_rfl) (fun _ _ _ h => h) (by decide) ?_ HS.out (fun _ => trivial) ?_
      rotate_left 2
      · (simp only [List.getElem?_toArray, List.getElem?_cons_succ, List.getElem?_cons_zero]; rfl)
      · (first | exact Or.inr ⟨by rfl, rfl⟩ | (refine Or.inl ⟨by rfl, ?_⟩; intro W hSw; clear hSw; go_simp; try with_reducible rfl))
      try simp only [Act.put, List.setIfInBounds_toArray, List.set_cons_zero, List.set_cons_succ]
      refine wpAnyK_one (i := 3) (o := ?_) (by kernel_rfl) ?_ (fun K hK => ?_)
      rotate_left 1
      · (simp only [List.getElem?_toArray, List.getElem?_cons_succ, List.getElem?_cons_zero]; rfl)
      refine step_store_row' rfl 26 _ _ rfl w.heap.size #[.int .i64 start, .int .i64 zz] ?_ ?_ 26 #[.int .i64 0, .int .i64 0] HX.out (by kernel_rfl) rfl (by simp [Value.oneCell']) ?_
      · first | rfl | simp [Act.eval]
      · first | rfl | simp [Act.eval]
      have HS2 := Lib.hid (show Below w.heap.size w (wr.drew.setRow w.heap.size #[.int .i64 start, .int .i64 zz]) ∧ (wr.drew.setRow w.heap.size #[.int .i64 start, .int .i64 zz]).cell? ⟨w.heap.size + 1, 0, none⟩ = some (.int .i64 start) ∧ (wr.drew.setRow w.heap.size #[.int .i64 start, .int .i64 zz]).cell? ⟨w.heap.size + 1, 1, none⟩ = some (.int .i64 zz) from
        ⟨below_setRow HS.out.1 (Nat.le_refl _) _, (cell_setRow_other _ _ _ _ (by simp)).trans HS.out.2.1, (cell_setRow_other _ _ _ _ (by simp)).trans HS.out.2.2⟩)
      have HR9 := Lib.hid (setRow_heap wr.drew w.heap.size _ #[.int .i64 start, .int .i64 zz] _ _ HX.out)
      have HO9 := Lib.hid (show OwnD (wr.drew.setRow w.heap.size #[.int .i64 start, .int .i64 zz]) w.heap.size g c b' from by
        refine (HO.out.weaken (base' := w.heap.size) (by omega)).of_block (by rw [size_setRow]; exact Nat.le_refl _) (setRow_other wr.drew _ _ _ ?_)
        have := HO.out.le
        omega)
      refine hK.out _ _ HS2.out (fun _ => trivial) ?_
      clear hK K
      try simp only [Act.put, List.setIfInBounds_toArray, List.set_cons_zero, List.set_cons_succ]
      refine wpAnyK_done (by kernel_rfl) ?_ _
      refine NoPanic.normal ?_
      generalize wr.drew.setRow w.heap.size #[.int .i64 start, .int .i64 zz] = w9 at *
      have k0 : w9.cell? ⟨w.heap.size, 0, none⟩ = some (.int .i64 start) := by rw [cell_of_row _ _ _ _ _ _ HR9.out]; rfl
      have k1 : w9.cell? ⟨w.heap.size, 1, none⟩ = some (.int .i64 zz) := by rw [cell_of_row _ _ _ _ _ _ HR9.out]; rfl
      go_wp2_with fail
      refine bodyPost_ret (v := .tuple #[.slice (some ⟨g, 0, none⟩) b'.length c, .agg #[.int .i64 start, .int .i64 zz]]) (by simp [results, Try.results28, go_sem, k0, k1]) rfl ?_
      exact ⟨g, c, by rw [hzz], HO9.out, HS2.out.1⟩
end Go.Proofs.Ytbjabncefhgefaa
