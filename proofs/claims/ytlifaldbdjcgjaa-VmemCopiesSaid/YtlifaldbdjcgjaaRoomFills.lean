/- RoomFills. -/
import Derived.Test.YtlifaldbdjcgjaaVunmap
import Derived.Test.YtlifaldbdjcgjaaRoomGaps
import Derived.Test.YtlifaldbdjcgjaaOwnL
namespace Go.Proofs.Ytlifaldbdjcgjaa
open Go.ChangeShapes Go.WideShapes Go.ChangeAt Go.RowKit
open Go.Maps (Keyed)
set_option linter.unusedVariables false
set_option linter.unusedSimpArgs false

theorem MemAt.reserve {R : Nat → Prop} {w w2 : World} {M m : Nat} {most : Int} {mp : Int → Option Pg} (H : MemAt R w M m most mp) (hs : w.heap.size ≤ w2.heap.size) (hb : ∀ k, k < w.heap.size → ¬ R k → w2.heap[k]? = w.heap[k]?) :
    MemAt (fun k => R k ∨ (w.heap.size ≤ k ∧ k < w2.heap.size)) w2 M m most mp := by
  obtain ⟨bm, f, S, hRM, hRb, hRB, hR⟩ := H
  have h2 := S.map.lt
  have hlt : ∀ a B, f a = some B → B < w.heap.size := fun a B h => by
    have hb := S.both a
    rw [h] at hb
    cases hm : mp a with
    | none => rw [hm] at hb; cases hb
    | some g' => exact (S.page a B g' h hm).1
  have kM := hb M S.mlt hRM
  refine ⟨bm, f, ⟨(World.cell?_of_block kM).trans S.c0, (World.cell?_of_block kM).trans S.c1, Nat.lt_of_lt_of_le S.mlt hs, S.map.of_block (hb bm h2 hRb), S.both, fun a B g h1 h2 => (S.page a B g h1 h2).of_block (hb B (hlt a B h1) (hRB a B h1)) hs, S.inj, S.nos, S.low, S.high, S.fits⟩, ?_, ?_, fun a B hf => ?_, fun k hk => ?_⟩
  · have := S.mlt
    rintro (h | h)
    · exact hRM h
    · omega
  · rintro (h | h)
    · exact hRb h
    · omega
  · have := hlt a B hf
    rintro (h | h)
    · exact hRB a B hf h
    · omega
  · rcases hk with h | h
    · have := hR k h; omega
    · exact h.2

/-- Place q of those that are filled: u units each. -/
def fillA (u q : Nat) : Int := 65536 * ((q * u : Nat) + 1)
def fillP (N u : Nat) : Nat → Int → Option Pg
  | 0 => fun _ => none
  | j + 1 => setP (fillP N u j) (fillA u j) 1 N

theorem fillA_lt {u q j : Nat} (h : q < j) : fillA u q + 65536 * u ≤ fillA u j := by
  unfold fillA
  have : q * u + u ≤ j * u := by
    have := Nat.mul_le_mul_right u (show q + 1 ≤ j from h)
    rw [Nat.add_mul, Nat.one_mul] at this
    exact this
  omega

theorem fill_in {N u : Nat} (hu : N ≤ 16 * u) : ∀ (j q i : Nat), q < j → i < N → fillP N u j (fillA u q + i * 4096) = some ⟨1, fun _ => 0⟩
  | 0, q, i, hq, hi => by omega
  | j + 1, q, i, hq, hi => by
    show setP (fillP N u j) (fillA u j) 1 N _ = _
    by_cases e : q = j
    · subst e; exact setP_in _ _ 1 N i hi
    · have := fillA_lt (u := u) (show q < j by omega)
      rw [setP_out _ _ 1 _ N (fun i' hi' => by omega)]
      exact fill_in hu j q i (by omega) hi

theorem fill_out {N u : Nat} (x : Int) : ∀ (j : Nat), (∀ q i : Nat, q < j → i < N → x ≠ fillA u q + i * 4096) → fillP N u j x = none
  | 0, _ => rfl
  | j + 1, h => by
    show setP (fillP N u j) (fillA u j) 1 N _ = _
    rw [setP_out _ _ 1 _ N (fun i hi => h j i (by omega) hi)]
    exact fill_out x j (fun q i hq hi => h q i (by omega) hi)

/-- The first page of each unit of a place that is filled is taken. -/
theorem fill_unit {N u : Nat} (hu : N ≤ 16 * u) (hu2 : 16 * u < N + 16) (h0 : 0 < u) {j t : Nat} (ht : t < j * u) : ∃ q i : Nat, q < j ∧ i < N ∧ q = t / u ∧ (65536 * ((t : Int) + 1)) = fillA u q + i * 4096 := by
  have hq : t / u < j := Nat.div_lt_of_lt_mul (by rw [Nat.mul_comm]; exact ht)
  have hm := Nat.mod_lt t h0
  have hd := Nat.div_add_mod t u
  refine ⟨t / u, 16 * (t % u), hq, by omega, rfl, ?_⟩
  unfold fillA
  rw [Nat.mul_comm u (t / u)] at hd
  generalize t / u * u = s at *
  omega

def fillL (u j : Nat) : List Value := (List.range j).map fun q => .int .u64 (fillA u q)
theorem fillL_len (u j : Nat) : (fillL u j).length = j := by simp [fillL]
theorem fillL_succ (u j : Nat) : fillL u (j + 1) = fillL u j ++ [.int .u64 (fillA u j)] := by simp [fillL, List.range_succ]
theorem fillL_at (u : Nat) {j q : Nat} (h : q < j) : (fillL u j)[q]?.getD undef = .int .u64 (fillA u q) := by simp [fillL, h]

theorem refill {N u : Nat} (hu : N ≤ 16 * u) {j q : Nat} (hq : q < j) : setP (clrP (fillP N u j) (fillA u q) N) (fillA u q) 1 N = fillP N u j := by
  funext x
  by_cases h : ∃ i : Nat, i < N ∧ x = fillA u q + i * 4096
  · obtain ⟨i, hi, rfl⟩ := h
    rw [setP_in _ _ 1 N i hi, fill_in hu j q i hq hi]
  · rw [setP_out _ _ 1 x N (fun i hi e => h ⟨i, hi, e⟩), clrP_out _ _ x N (fun i hi e => h ⟨i, hi, e⟩)]

theorem fillForm {w : World} {base u j : Nat} {e : TypeId} {v : Value} (h : OwnL w base e v (fillL u j)) : ∃ A cap, v = .slice A j cap ∧ j ≤ cap ∧ cap ≤ 9223372036854775807 ∧ (j = 0 ∨ ∃ g, A = some ⟨g, 0, none⟩ ∧ base ≤ g ∧ Own w g j (fun q => .int .u64 (fillA u q))) := by
  obtain ⟨A, cap, h1, h2, h3, h4⟩ := h.form
  rw [fillL_len] at h1 h2
  refine ⟨A, cap, h1, h2, by unfold maxLen at h3; omega, ?_⟩
  rcases h4 with h4 | ⟨g, h4, h5, h6⟩
  · left; have := fillL_len u j; rw [h4] at this; simpa using this.symm
  · rw [fillL_len] at h6
    exact .inr ⟨g, h4, h5, h6.congr fun q hq => fillL_at u hq⟩

theorem infoU64 : (Try.prog.info? 25).map (fun i => (i.zero, i.size, i.bytes)) = some (some (.int .u64 0), 1, 8) := by kernel_rfl

set_option maxRecDepth 100000 in
set_option maxHeartbeats 4000000 in
theorem fills_core (w : World) (A : Option Addr) (len cap : Nat) (f : Nat → Int) (n : Int) (hl : len ≤ 9223372036854775807) (hs : SlI w A len f) :
    Calls Try.prog 4 #[.int .i64 n, .slice A len cap] w fun e w' => e = .returned (.bool true) ∧ Below w.heap.size w w' := by
  have hR : ∀ k, k < w.heap.size → k < w.heap.size := fun _ h => h
  obtain ⟨N, hN, hN0, hN1⟩ : ∃ N : Nat, n % 64 + 200 = N ∧ 200 ≤ N ∧ N ≤ 263 := ⟨(n % 64 + 200).toNat, by omega, by omega, by omega⟩
  have hNb := and_63 n
  have hm0 : 0 ≤ n % 64 := by omega
  have hm1 : n % 64 ≤ 63 := by omega
  obtain ⟨u, hu, hu2, hu0, hu17⟩ : ∃ u : Nat, N ≤ 16 * u ∧ 16 * u < N + 16 ∧ 0 < u ∧ u ≤ 17 := ⟨(N + 15) / 16, by omega, by omega, by omega, by omega⟩
  have HN := Lib.hid hN
  clear hN
  go_enter Try.func4, Try.ntmps4
  go_wp2_with fail
  rw [HN.out]
  refine (newMem_any (· < w.heap.size) w 1024 hR (by omega) (by omega)).mono ?_
  rintro e w1 ⟨M, rfl, h1, k1⟩
  have H1 := Lib.hid h1
  have K1 := Lib.hid k1
  have HS := Lib.hid hs
  clear h1 k1 hs hNb hm0 hm1
  go_wp2_with fail
  go_loopw [6, 7, 8] (fun last v o wr => ∃ (j : Nat) (R : Nat → Prop), j ≤ 2 ∧ o = .int .i64 j ∧ (∀ k, k < w.heap.size → R k) ∧ (∀ k, v.ownBlock = some k → R k) ∧ (∃ l : Int, last = .int .u64 l ∧ 0 ≤ l ∧ l < fillA u j) ∧ OwnL wr w.heap.size 25 v (fillL u j) ∧ MemAt R wr M (j * N) 1024 (fillP N u j) ∧ Below w.heap.size w wr) (fun _ _ o _ => 5 - (intOf o).toNat)
  case atStart => exact ⟨0, (· < w.heap.size), by omega, rfl, hR, (fun k h => by cases h), ⟨0, rfl, by omega, by unfold fillA; omega⟩, OwnL.nil _ _ _, by rw [Nat.zero_mul]; exact H1.out, K1.out.below hR⟩
  case round =>
    obtain ⟨j, R, hj, rfl, hRw, hRv, ⟨l, rfl, hl0, hl1⟩, hown, hm, hb⟩ := hrel
    have HO := Lib.hid hown
    obtain ⟨A1, cap1, rfl, hc1, hc2, hrow⟩ := fillForm hown
    clear hrow
    have HM := Lib.hid hm
    have HB := Lib.hid hb
    have HRW := Lib.hid hRw
    have HRV := Lib.hid hRv
    clear hown hm hb hRw hRv H1 K1
    have hd : decide (fillA u j ≤ l) = false := decide_eq_false (by omega)
    have HL := Lib.hid (And.intro hl0 hl1)
    clear hl0 hl1
    have hju : j * u ≤ 34 := Nat.le_trans (Nat.mul_le_mul hj hu17) (by omega)
    have hjN : j * N ≤ 526 := Nat.le_trans (Nat.mul_le_mul hj hN1) (by omega)
    go_wp2_with fail
    refine (find_yes R wr M (j * N) 1024 (fillP N u j) N (j * u) (by omega) (by omega) ⟨by omega, by omega, by omega, by omega, by omega, fun i hi => fill_out _ j (fun q i' hq hi' => by have := fillA_lt (u := u) hq; unfold fillA at this ⊢; omega)⟩ (by omega) (fun t ht h => by obtain ⟨q, i, hq, hi, _, he⟩ := fill_unit hu hu2 hu0 ht; have h1 := h.2.2.2.2.2 0 (by omega); have h2 := fill_in hu j q i hq hi; rw [← he] at h2; simp at h1; rw [h1] at h2; cases h2) HM.out).mono ?_
    rintro e w2 ⟨rfl, n2, rfl⟩
    rw [show (65536 * (((j * u : Nat) : Int) + 1)) = fillA u j from rfl]
    have HM2 := Lib.hid (HM.out.drewN n2)
    have HB2 := Lib.hid (show Below w.heap.size w (wr.drewN n2) from HB.out.trans ⟨rfl, rfl, rfl, Nat.le_refl _, fun _ _ => rfl⟩)
    have HO2 := Lib.hid (HO.out.of_block (w' := wr.drewN n2) (Nat.le_refl _) (fun _ _ => rfl))
    clear HM HB HO
    generalize wr.drewN n2 = W2 at *
    have hA0 : 65536 ≤ fillA u j := by unfold fillA; omega
    have hA1 : fillA u j ≤ 2293760 := by unfold fillA; omega
    have hA2 : fillA u j % 65536 = 0 := by unfold fillA; omega
    have hA3 : fillA u j % 4096 = 0 := by omega
    have HA := Lib.hid (fun (i : Nat) (hi : i < N) => fill_out (N := N) (u := u) (fillA u j + i * 4096) j (fun q i' hq hi' => by have := fillA_lt (u := u) hq; omega))
    go_wp2_with fail
    refine (map_core R W2 M (j * N) 1024 (fillP N u j) (fillA u j) 1 N (by omega) ⟨hA3, by omega, by omega, by omega⟩ (by omega) (by omega) HA.out (by omega) HM2.out).mono ?_
    rintro e w3 ⟨rfl, h3, k3⟩
    have HM3 : Hid (MemAt R w3 M ((j + 1) * N) 1024 (fillP N u (j + 1))) := by rw [Nat.succ_mul]; exact h3
    have HB3 := Lib.hid (HB2.out.trans (k3.below HRW.out))
    have HO3 := Lib.hid (HO2.out.of_block k3.size (fun k hk => k3.block k (HRV.out k hk)))
    clear h3 k3 HM2 HB2 HO2 HA hA2 hA3
    have HWR := Lib.hid HB3.out.size
    have HA0 := Lib.hid (And.intro hA0 hA1)
    clear hd hA0 hA1 hR
    have HJU := Lib.hid hju
    have HJN := Lib.hid hjN
    have HU := Lib.hid (And.intro hu hu2)
    clear hju hjN hu hu2
    by_cases hj2 : j < 2
    · go_wp2_with (at_builtin; refine wpList_appL rfl _ _ 33 33 rfl w.heap.size 25 (.int .u64 0) 8 Try.underlying33 infoU64 rfl (.slice A1 j cap1) (fillL u j) rfl (HO3.out.alloc _) _ rfl [.int .u64 (fillA u j)] (src_one Try.underlying33 rfl (by simp [go_sem]) _) (by simp [maxLen, fillL_len]; omega) (by simp [fillL_len]; omega) (by have := HWR.out; simp; omega) ?_; intro A2 cap2 w4 hown4 hg4 hat4)
      have HG4 := Lib.hid hg4
      have HW4 := Lib.hid hown4
      have HAT := Lib.hid hat4
      clear hg4 hown4 hat4
      go_wp2
      go_roundw
      case rel =>
        have hal : ∀ k, k < w3.heap.size → (w3.alloc (.cells #[.int .u64 (fillA u j)] 25)).heap[k]? = w3.heap[k]? := fun k hk => Below.heap_alloc _ _ _ hk
        have hsz : w3.heap.size ≤ w4.heap.size := Nat.le_trans (by simp) HG4.out.size
        have hkeep : ∀ k, k < w3.heap.size → ¬ R k → w4.heap[k]? = w3.heap[k]? := fun k hk hr => (HG4.out.block k (by simp; omega) (fun e => hr (HRV.out k e.symm))).trans (hal k hk)
        refine ⟨j + 1, fun k => R k ∨ (w3.heap.size ≤ k ∧ k < w4.heap.size), by omega, by go_num, fun k hk => .inl (HRW.out k hk), fun k hk => ?_, ⟨fillA u j, rfl, by have := HA0.out; omega, by have := fillA_lt (u := u) (show j < j + 1 by omega); omega⟩, ?_, HM3.out.reserve hsz hkeep, ?_⟩
        · rcases HAT.out with h | h
          · exact .inl (HRV.out k (h ▸ hk))
          · have hk2 := h.symm.trans hk
            have h3 := (HW4.out.lt _ h).2
            injection hk2 with hk2
            subst hk2
            exact .inr ⟨by simp, h3⟩
        · rw [fillL_succ]
          exact HW4.out
        · exact (HO3.out.alloc _).grew (HB3.out.alloc HWR.out _) (Nat.le_refl _) HG4.out
      case measure => simp [intOf]; omega
    · obtain rfl : j = 2 := by omega
      go_wp2_with (at_builtin; refine wpList_appL rfl _ _ 33 33 rfl w.heap.size 25 (.int .u64 0) 8 Try.underlying33 infoU64 rfl (.slice A1 2 cap1) (fillL u 2) rfl (HO3.out.alloc _) _ rfl [.int .u64 (fillA u 2)] (src_one Try.underlying33 rfl (by simp [go_sem]) _) (by simp [maxLen, fillL_len]) (by simp [fillL_len]) (by have := HWR.out; simp; omega) ?_; intro A2 cap2 w4 hown4 hg4 hat4; have HG4 := Lib.hid hg4; have HW4 := Lib.hid hown4; have HAT := Lib.hid hat4; clear hg4 hown4 hat4)
      have hal : ∀ k, k < w3.heap.size → (w3.alloc (.cells #[.int .u64 (fillA u 2)] 25)).heap[k]? = w3.heap[k]? := fun k hk => Below.heap_alloc _ _ _ hk
      have hsz : w3.heap.size ≤ w4.heap.size := Nat.le_trans (by simp) HG4.out.size
      have hkeep : ∀ k, k < w3.heap.size → ¬ R k → w4.heap[k]? = w3.heap[k]? := fun k hk hr => (HG4.out.block k (by simp; omega) (fun e => hr (HRV.out k e.symm))).trans (hal k hk)
      have HM4 := Lib.hid (HM3.out.reserve hsz hkeep)
      have HB4 := Lib.hid ((HO3.out.alloc _).grew (HB3.out.alloc HWR.out _) (Nat.le_refl _) HG4.out)
      have hW := HW4.out
      rw [← fillL_succ] at hW
      obtain ⟨A3, cap3, e3, h31, h32, h33⟩ := fillForm hW
      have e4 : ((fillL u 2).length + 1) = 3 := by rw [fillL_len]
      have e5 : Value.slice A2 ((fillL u 2).length + 1) cap2 = .slice A3 3 cap3 := e3
      rw [e5]
      obtain ⟨g, rfl, hg0, hg3⟩ : ∃ g, A3 = some ⟨g, 0, none⟩ ∧ w.heap.size ≤ g ∧ Own w4 g 3 (fun q => .int .u64 (fillA u q)) := by
        rcases h33 with h | h
        · cases h
        · exact h
      have hQg : R g ∨ (w3.heap.size ≤ g ∧ g < w4.heap.size) := by
        have he : (Value.slice A2 ((fillL u 2).length + 1) cap2).ownBlock = some g := by rw [e5]; rfl
        rcases HAT.out with h | h
        · exact .inl (HRV.out g (h.symm.trans he))
        · have hk2 := h.symm.trans he
          injection hk2 with hk2
          exact .inr ⟨by rw [← hk2]; simp, hg3.1⟩
      obtain ⟨Q, hQ⟩ : ∃ Q : Nat → Prop, Q = fun k => R k ∨ (w3.heap.size ≤ k ∧ k < w4.heap.size) := ⟨_, rfl⟩
      have HQW : Hid (∀ k, k < w.heap.size → Q k) := fun k hk => by rw [hQ]; exact .inl (HRW.out k hk)
      have HQg : Hid (Q g) := by rw [hQ]; exact hQg
      have HG3 := Lib.hid hg3
      rw [← hQ] at HM4
      clear hal hsz hkeep hW e3 e4 e5 h33 hQg hg3 HG4 HW4 HAT HM3 HB3 HO3 HRW HRV h31 hQ
      go_loopw [11] (fun o wr => ∃ i : Nat, i ≤ len ∧ i ≤ 3 ∧ o = .int .i64 i ∧ MemAt Q wr M (3 * N) 1024 (fillP N u 3) ∧ Kept Q w4 wr) (fun o _ => len - (intOf o).toNat)
      case atStart => exact ⟨0, by omega, by omega, rfl, HM4.out, Kept.refl _ _⟩
      case round =>
        obtain ⟨i, hi, hi3, rfl, hm, hk⟩ := hrel
        have HM5 := Lib.hid hm
        have HK5 := Lib.hid hk
        clear hm hk HM4
        by_cases hlt : i < len ∧ i < 3
        · obtain ⟨hlt, hlt3⟩ := hlt
          obtain ⟨b, off, rfl, hbl, hr⟩ : ∃ b off, A = some ⟨b, off, none⟩ ∧ b < w.heap.size ∧ RowI w b off len f := by
            rcases HS.out with h | h
            · omega
            · exact h
          have hcq := (HK5.out.cell (p := ⟨b, off + i, none⟩) (HQW.out b hbl)).trans ((HB4.out.cell (p := ⟨b, off + i, none⟩) hbl).trans (hr i hlt))
          clear hr
          obtain ⟨y, hy⟩ : ∃ y, f i % 256 = y := ⟨_, rfl⟩
          have hyb := (and_ff (f i)).trans hy
          have hy0 : 0 ≤ y := by omega
          have hy1 : y ≤ 255 := by omega
          clear hy
          obtain ⟨q, hq, hq3⟩ : ∃ q : Nat, y % 3 = q ∧ q < 3 := ⟨(y % 3).toNat, by omega, by omega⟩
          have hcg := (HK5.out.cell (p := ⟨g, q, none⟩) HQg.out).trans (HG3.out.cell hq3)
          have hqu : q * u ≤ 34 := Nat.le_trans (Nat.mul_le_mul (show q ≤ 2 by omega) hu17) (by omega)
          have HA := Lib.hid (show 65536 ≤ fillA u q ∧ fillA u q ≤ 2293760 ∧ fillA u q % 65536 = 0 by unfold fillA; omega)
          have HQU := Lib.hid hqu
          clear hqu
          go_wp2_with fail
          refine (unmap_yes Q wr M (3 * N) 1024 (fillP N u 3) (fillA u q) N (by have := HA.out; omega) ⟨by have := HA.out; omega, by omega, by omega, by have := HA.out; omega⟩ (fun i' hi' => by rw [fill_in HU.out.1 3 q i' hq3 hi']; simp) HM5.out).mono ?_
          rintro e w5 ⟨rfl, h5, k5⟩
          have HM6 := Lib.hid h5
          have HK6 := Lib.hid (HK5.out.trans k5)
          clear h5 k5 HM5 HK5 hcg hcq
          go_wp2_with fail
          refine (find_yes Q w5 M (3 * N - N) 1024 (clrP (fillP N u 3) (fillA u q) N) N (q * u) (by omega) (by omega) ⟨by omega, by omega, by omega, by omega, by have := HQU.out; omega, fun i' hi' => clrP_in (fillP N u 3) (fillA u q) N i' (by omega)⟩ (by have := HQU.out; omega) (fun t ht h => by obtain ⟨q', i', hq', hi', _, he⟩ := fill_unit HU.out.1 HU.out.2 hu0 ht; have h1 := h.2.2.2.2.2 0 (by omega); have h2 := fill_in HU.out.1 3 q' i' (by omega) hi'; rw [← he] at h2; have h3 := clrP_out (fillP N u 3) (fillA u q) (65536 * ((t : Int) + 1)) N (fun i2 hi2 => by have := fillA_lt (u := u) hq'; have := HU.out; omega); simp at h1; rw [h1, h2] at h3; cases h3) HM6.out).mono ?_
          rintro e w6 ⟨rfl, n6, rfl⟩
          rw [show (65536 * (((q * u : Nat) : Int) + 1)) = fillA u q from rfl]
          have HM7 := Lib.hid (HM6.out.drewN n6)
          have HK7 := Lib.hid (show Kept Q w4 (w5.drewN n6) from HK6.out.trans ⟨rfl, rfl, rfl, Nat.le_refl _, fun _ _ => rfl⟩)
          clear HM6 HK6
          generalize w5.drewN n6 = W6 at *
          have hcg := (HK7.out.cell (p := ⟨g, q, none⟩) HQg.out).trans (HG3.out.cell hq3)
          go_wp2_with fail
          refine (map_core Q W6 M (3 * N - N) 1024 (clrP (fillP N u 3) (fillA u q) N) (fillA u q) 1 N (by have := HA.out; omega) ⟨by have := HA.out; omega, by omega, by omega, by have := HA.out; omega⟩ (by omega) (by omega) (fun i' hi' => clrP_in (fillP N u 3) (fillA u q) N i' hi') (by omega) HM7.out).mono ?_
          rintro e w7 ⟨rfl, h7, k7⟩
          have HM8 : Hid (MemAt Q w7 M (3 * N) 1024 (fillP N u 3)) := by
            rw [refill HU.out.1 hq3, show 3 * N - N + N = 3 * N by omega] at h7
            exact h7
          have HK8 := Lib.hid (HK7.out.trans k7)
          clear h7 k7 HM7 HK7 hcg
          go_wp2
          go_roundw
          case rel => exact ⟨i + 1, by omega, by omega, by go_num, HM8.out, HK8.out⟩
          case measure => simp [intOf]; omega
        · have hor : len ≤ i ∨ (i < len ∧ 3 ≤ i) := by omega
          clear hlt HS
          have HB5 := Lib.hid (HB4.out.trans (HK5.out.below HQW.out))
          rcases hor with hx | ⟨hx, hx'⟩
          all_goals
            go_wp2_with fail
            refine (find_bad wr M 1025 (.inr (by omega))).mono ?_
            rintro e w' ⟨rfl, rfl⟩
            go_wp2_with fail
            refine (find_bad wr M 0 (.inl (by omega))).mono ?_
            rintro e w' ⟨rfl, rfl⟩
            go_wp2_with fail
            refine (awake4_any _).mono ?_
            rintro e w8 ⟨rfl, hb8⟩
            have hb9 := HB5.out.trans (hb8.mono HB5.out.size)
            clear hb8
            go_wp2
            go_ret
            exact ⟨rfl, by go_grown⟩
end Go.Proofs.Ytlifaldbdjcgjaa
