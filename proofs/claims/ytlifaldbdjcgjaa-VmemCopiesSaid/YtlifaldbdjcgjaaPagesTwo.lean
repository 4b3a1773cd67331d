/- package vmem: Pages at two pages: the lower one first. -/
import Derived.Test.YtlifaldbdjcgjaaPages
import Derived.Test.YtlifaldbdjcgjaaSortTwo
import Derived.Test.YtlifaldbdjcgjaaVcopy
namespace Go.Proofs.Ytlifaldbdjcgjaa
open Go.ChangeShapes Go.WideShapes Go.ChangeAt Go.RowKit
open Go.Maps (Keyed)
open Go.ChangeMaps Go.MapKept
open Go.WideElems (Fit rd rg pl rd_key rd_val rg_of other_key)
set_option linter.unusedVariables false
set_option linter.unusedSimpArgs false

set_option maxHeartbeats 1000000 in
theorem pages_two (R : Nat → Prop) (w : World) (M : Nat) (most : Int) (mp : Int → Option Pg) (H : MemAt R w M 2 most mp) (a b : Int) (hab : a < b) (hkeys : ∀ x, mp x ≠ none → x = a ∨ x = b) :
    Calls Try.prog 30 #[.pointer (some ⟨M, 0, none⟩)] w fun e w' => ∃ g cap, e = .returned (.slice (some ⟨g, 0, none⟩) 2 cap) ∧ w.heap.size ≤ g ∧ RowXY w' g a b ∧ Below w.heap.size w w' := by
  obtain ⟨bm, f, S, _⟩ := H
  have HKEYS := Lib.hid hkeys
  have HAB := Lib.hid hab
  have HBOTH := Lib.hid S.both
  clear hkeys hab
  have k1 := S.c1
  obtain ⟨D, hown, hsz, hat⟩ := S.map
  have hbm := S.map.lt
  have hM := S.mlt
  have HOWN := Lib.hid hown
  have HSZ := Lib.hid hsz
  have HAT := Lib.hid hat
  obtain ⟨m, hm⟩ : ∃ m : Nat, 2 = m := ⟨_, rfl⟩
  rw [hm] at hown hsz S HOWN HSZ ⊢
  have HM2 := Lib.hid hm
  have h1 : 1 ≤ m := by omega
  have h12 : m ≤ 12 := by omega
  obtain ⟨i0, hi, hz0, hz1, hz2⟩ := info_parts infoU64P
  have hl : ∀ n ty, (Builtin.len_ #[63] ty #[.map (some bm)]).run Try.prog (w.drewN n) = .ok (.int .i64 m) (w.drewN n) := fun n ty => PM.len (w := w.drewN n) S.map Try.underlying63 ty
  clear S hown hsz hat hm
  go_enter Try.func30, Try.ntmps30
  have hm12 : (m : Int) ≤ 12 := by omega
  have hm1 : 1 ≤ (m : Int) := by omega
  have hl0 : ∀ ty, (Builtin.len_ #[63] ty #[.map (some bm)]).run Try.prog w = .ok (.int .i64 m) w := fun ty => hl 0 ty
  go_wp2_with (at_make; refine wpList_make_own _ rfl _ _ 33 rfl w.heap.size 25 i0 (.int .u64 0) 1 Try.underlying33 hi hz0 hz1 .i64 .i64 _ m rfl rfl rfl (by rw [hz2]; omega) (by unfold maxLen; omega) (Nat.le_refl _) ?_)
  intro w0 hown0 hgrow0
  have hB0 : Below w.heap.size w w0 := (Below.refl _ _).grown hgrow0 (Nat.le_refl _) (fun _ h => by cases h)
  have k0 : w0.cell? ⟨M, 1, none⟩ = some (Value.map (some bm)) := (hB0.cell hM).trans k1
  have HO0 : Hid (OwnL w0 w.heap.size 25 (.slice (some ⟨w.heap.size, 0, none⟩) 0 m) []) := hown0
  have HB0 := Lib.hid hB0
  have hs0 := hB0.size
  clear hl hl0 k1 hi hz0 hz1 hz2 hown0 hB0
  go_wp2_with (at_range; refine wpList_range_own _ rfl _ 63 rfl 25 66 (Maps.int_keyed Try.underlying25) Try.underlying63 _ bm m D rfl (HOWN.out.kept hgrow0 (by simp)) ?_)
  intro w1 hrg1 hg1 hs1
  have HB1 := Lib.hid (HB0.out.grown hg1 hs0 (fun _ h => by cases h))
  have HO1 := Lib.hid (HO0.out.of_block hg1.size (fun k hk => hg1.block k (HO0.out.lt k hk).2 (by simp)))
  have HRG1 := Lib.hid hrg1
  have hw1 : w0.heap.size < w1.heap.size := by omega
  have hr0 : w.heap.size < w0.heap.size := (HO0.out.lt _ rfl).2
  clear hrg1 hg1 k0 HOWN hgrow0
  go_wp2_with fail
  go_loopw [3] (fun v wr => ∃ (left : Lit → Bool) (cnt : Nat) (xs : List Value), xs.length + cnt = m ∧ (∀ x ∈ xs, ∃ c : Int, x = .int .u64 c ∧ mp c ≠ none ∧ left (.int .u64 c) = false) ∧ xs.Nodup ∧ OwnL wr w.heap.size 25 v xs ∧ (∀ k, v.ownBlock = some k → k ≠ w0.heap.size) ∧ wr.ranges Try.prog 25 ptrR bm w0.heap.size m D left cnt ∧ Below w.heap.size w wr) (fun _ wr => wr.rangeLeft bm w0.heap.size)
  case atStart =>
    refine ⟨_, _, [], ?_, ?_, List.nodup_nil, HO1.out, fun k hk => ?_, HRG1.out, HB1.out⟩
    · rw [HSZ.out]; simp
    · intro x hx; cases hx
    · cases hk; exact Nat.ne_of_lt hr0
  case round =>
    obtain ⟨left, cnt, xs, hcnt, hxs, hnd, hown, hne, hrg, hb⟩ := hrel
    have HND := Lib.hid hnd
    obtain ⟨A, cap, rfl, hc1, hc2, hrow⟩ := hown.form
    have HO := Lib.hid hown
    have HROW := Lib.hid hrow
    have HRG := Lib.hid hrg
    have HB := Lib.hid hb
    have HXS := Lib.hid hxs
    have HNE := Lib.hid hne
    clear hown hrg hb hxs hne hrow hnd HO1 HRG1 HB1 HO0 HB0
    go_wp2_with (at_next; refine wpList_next_ranges _ rfl _ rfl 25 (Maps.int_keyed Try.underlying25) ptrR (Value.int .u64) ptrV u64KeyInv ptrVInvP bm w0.heap.size m _ _ _ rfl HRG.out ?_ ?_)
    · intro hc0 _
      have e1 : xs.length = m := by omega
      rcases HROW.out with h | ⟨g, rfl, hbg, ho⟩
      · subst h; simp at e1; omega
      have hxy : ∃ x y : Int, (xs = [.int .u64 x, .int .u64 y]) ∧ min x y = a ∧ max x y = b := by
        have e2 : xs.length = 2 := by rw [e1]; exact HM2.out.symm
        rcases xs with _ | ⟨v1, _ | ⟨v2, _ | ⟨v3, r⟩⟩⟩
        · simp at e2
        · simp at e2
        · obtain ⟨x, rfl, hx1, _⟩ := HXS.out v1 (by simp)
          obtain ⟨y, rfl, hy1, _⟩ := HXS.out v2 (by simp)
          have hne : x ≠ y := fun e => by
            have := HND.out
            simp [e] at this
          have hx2 := HKEYS.out x hx1
          have hy2 := HKEYS.out y hy1
          have := HAB.out
          exact ⟨x, y, rfl, by omega, by omega⟩
        · simp at e2
      obtain ⟨x, y, hxs2, hmin, hmax⟩ := hxy
      have hru : RowXY wr g x y := by
        have h2 : (2 : Nat) = xs.length := by rw [hxs2]; rfl
        unfold RowXY
        rw [h2]
        refine ⟨ho.1, fun i hi => ?_⟩
        obtain ⟨c1, c2⟩ := ho.2 i hi
        refine ⟨c1.trans ?_, c2⟩
        rw [hxs2] at hi ⊢
        rcases (by simp at hi; omega : i = 0 ∨ i = 1) with rfl | rfl <;> rfl
      have HS : Hid (Calls Try.prog 46 #[.slice (some ⟨g, 0, none⟩) m cap] wr fun e w' => e = .returned (.tuple #[]) ∧ RowXY w' g a b ∧ wr.grownBy w' (some g)) := by
        rw [← HM2.out, ← hmin, ← hmax]
        exact sort_two wr g cap x y hru
      clear hxs2 hmin hmax
      clear hru ho
      go_wp2_with fail
      refine HS.out.mono ?_
      rintro e w3 ⟨rfl, h3, g3⟩
      have H3 := Lib.hid h3
      have G3 := Lib.hid g3
      clear h3 g3
      go_wp2_with fail
      go_ret
      exact ⟨g, cap, rfl, hbg, H3.out, HB.out.grown G3.out HB.out.size (fun k hk => by cases hk; exact hbg)⟩
    · intro x c kl y1 y2 w2 cnt2 hkey hlx hv hat2 hrg2 hlt hg2 hs2 hen
      obtain ⟨x', ex, rfl, hwx⟩ := Maps.keyOf_int_inv Try.underlying25 hkey
      cases ex
      have hfx : f x ≠ none := by
        have h1 := hat2 (.lit (.int .i64 (-1)))
        have h2 := hat2 .nil
        rw [HAT.out] at h1 h2
        cases hc : f x with
        | none => rw [hc] at h1 h2; simp [ptrD] at h1 h2; rw [← h1] at h2; cases h2
        | some B => simp
      have hmx : mp x ≠ none := fun e => by
        have h1 := HBOTH.out x
        rw [e] at h1
        cases hc : f x with
        | none => exact hfx hc
        | some B => rw [hc] at h1; cases h1
      have hnx : ∀ v ∈ xs, v ≠ Value.int .u64 x := fun v hv e => by
        obtain ⟨c', rfl, _, h2⟩ := HXS.out v hv
        injection e with _ e
        rw [e, hlx] at h2
        cases h2
      have HMX := Lib.hid hmx
      have HNX := Lib.hid hnx
      clear hfx hmx hnx hwx
      have hbm2 : w2.heap[bm]? = wr.heap[bm]? := hg2.block bm (Nat.lt_of_lt_of_le hbm HB.out.size) (by intro e; injection e with e; exact HRG.out.ne e.symm)
      have h1c := ranges_one (Maps.int_keyed Try.underlying25) HRG.out hlx hrg2 hbm2
      have HO2 := Lib.hid (HO.out.of_block hg2.size (fun k hk => hg2.block k (HO.out.lt k hk).2 (by intro e; injection e with e; exact HNE.out k hk e)))
      have HB2 := Lib.hid (HB.out.grown hg2 HB.out.size (fun k hk => by cases hk; exact Nat.le_of_lt hr0))
      have HRG2 := Lib.hid hrg2
      have hw2 : w.heap.size ≤ w2.heap.size := HB2.out.size
      have hr2 : w0.heap.size < w2.heap.size := hrg2.lt
      have HM := Lib.hid hlt
      have HLX := Lib.hid hlx
      clear hrg2 hg2 hbm2 hv hat2 hlx hkey hlt hs2
      go_wp2_with (at_builtin; refine wpList_appL rfl _ _ 33 33 rfl w.heap.size 25 (.int .u64 0) 8 Try.underlying33 infoU64P rfl (.slice A xs.length cap) xs rfl (HO2.out.alloc _) _ rfl [.int .u64 x] (src_one Try.underlying33 rfl (by simp [go_sem]) _) (by simp [maxLen]; omega) (by simp; omega) (by simp; omega) ?_; intro A2 cap2 w4 hown4 hg4 hat4)
      have HG4 := Lib.hid hg4
      have HW4 := Lib.hid hown4
      have HAT4 := Lib.hid hat4
      clear hg4 hown4 hat4 hen
      have hrg4 := (HRG2.out.alloc (.cells #[.int .u64 x] 25)).kept HG4.out (fun e => by have := (HO2.out.lt bm e.symm).1; omega) (fun e => HNE.out _ e.symm rfl)
      have HRG4 := Lib.hid hrg4
      clear hrg4
      go_wp2
      go_roundw
      case rel =>
        refine ⟨_, cnt2, xs ++ [.int .u64 x], by simp; omega, ?_, ?_, HW4.out, ?_, HRG4.out, (HO2.out.alloc _).grew (HB2.out.alloc hw2 _) (Nat.le_refl _) HG4.out⟩
        · intro z hz
          rcases List.mem_append.1 hz with h | h
          · obtain ⟨c', rfl, h2, h3⟩ := HXS.out z h
            exact ⟨c', rfl, h2, by simp [h3]⟩
          · exact ⟨x, List.mem_singleton.1 h, HMX.out, by simp [Lit.sameKey]⟩
        · rw [List.nodup_append]
          refine ⟨HND.out, by simp, fun v hv u hu => ?_⟩
          rw [List.mem_singleton.1 hu]
          exact HNX.out v hv
        · intro k hk
          rcases HAT4.out with h | h
          · exact HNE.out k (h ▸ hk)
          · have hk2 := h.symm.trans hk
            injection hk2 with hk2
            simp at hk2
            omega
      case measure => rw [HRG4.out.left_eq, HRG.out.left_eq]; exact HM.out
end Go.Proofs.Ytlifaldbdjcgjaa
