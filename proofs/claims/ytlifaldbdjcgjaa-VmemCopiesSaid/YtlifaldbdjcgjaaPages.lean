/- package vmem: Pages: as many numbers as pages. -/
import Derived.Test.YtlifaldbdjcgjaaVmem
import Derived.Test.YtlifaldbdjcgjaaSortU
import Derived.Test.YtlifaldbdjcgjaaOwnL
import Derived.OwnWalk
import Derived.Test.YtlifaldbdjcgjaaVaskA
namespace Go.Proofs.Ytlifaldbdjcgjaa
open Go.ChangeShapes Go.WideShapes Go.ChangeAt Go.RowKit
open Go.Maps (Keyed)
open Go.ChangeMaps Go.MapKept
open Go.WideElems (Fit rd rg pl rd_key rd_val rg_of other_key)
set_option linter.unusedVariables false
set_option linter.unusedSimpArgs false

theorem count_strike {α : Type} (p : α → Bool) (q : α → Bool) : ∀ (l : List α) (x : α), x ∈ l → p x = true → q x = true → (∀ y ∈ l, q y = true → y = x) → l.Nodup →
    (l.filter p).length = (l.filter fun y => p y && !q y).length + 1
  | [], x, hx, _, _, _, _ => by cases hx
  | a :: l, x, hx, hp, hq, hu, hn => by
    obtain ⟨n1, n2⟩ := List.nodup_cons.1 hn
    rcases List.mem_cons.1 hx with e | hx
    · subst e
      have hl : ∀ y ∈ l, q y = false := fun y hy => by
        cases h : q y with
        | false => rfl
        | true => have := hu y (List.mem_cons_of_mem _ hy) h; subst this; exact absurd hy n1
      rw [List.filter_cons, if_pos hp, List.filter_cons, if_neg (by simp [hq]), List.length_cons]
      congr 2
      apply List.filter_congr
      intro y hy
      simp [hl y hy]
    · have hax : q a = false := by
        cases h : q a with
        | false => rfl
        | true => have := hu a (List.mem_cons_self) h; subst this; exact absurd hx n1
      have ih := count_strike p q l x hx hp hq (fun y hy h => hu y (List.mem_cons_of_mem _ hy) h) n2
      rw [List.filter_cons, List.filter_cons]
      by_cases ha : p a = true
      · rw [if_pos ha, if_pos (by simp [ha, hax]), List.length_cons, List.length_cons, ih]
      · rw [if_neg ha, if_neg (by simp [ha]), ih]

section
variable {H : Type} {P : Program} {k : TypeId} {R : Value → Option (DataW H × List MemPlace)} {w w' : World} {b r n cnt cnt' : Nat} {D : DataW H} {left : Lit → Bool} {kl : Lit}
/-- One step takes one. -/
theorem ranges_one (K : Keyed P k) (h : w.ranges P k R b r n D left cnt) (hl : left kl = true) (h' : w'.ranges P k R b r n D (fun z => left z && !z.sameKey kl) cnt') (hb : w'.heap[b]? = w.heap[b]?) : cnt = cnt' + 1 := by
  obtain ⟨es, clock, since, seen, c0, h1, F, h3, h4, h5, h6, h7, h8, h9, h10, h11⟩ := h
  obtain ⟨es', clock', since', seen', c0', g1, F', g3, g4, g5, g6, g7, g8, g9, g10, g11⟩ := h'
  rw [hb, h1] at g1
  injection g1 with g1
  injection g1 with g1 g1'
  subst g1
  obtain ⟨x, hx, hxk⟩ := h9 kl hl
  have e1 : ∀ (s : Array Nat), (leftOf es s).size = (es.toList.filter fun e => !s.contains e.born).length := fun s => by
    unfold leftOf
    rw [← Array.toList_filter, Array.length_toList]
  have hst := (stamped_iff es clock).1 F.stamped
  have hn : es.toList.Nodup := by
    refine List.Pairwise.imp ?_ (List.pairwise_map.1 (List.nodup_iff_pairwise_ne.1 hst.2.1))
    intro a b hab e
    exact hab (by rw [e])
  have A : cnt = (es.toList.filter fun e => left (rg P k R e).1).length := by
    rw [← h7, e1]
    congr 1
    apply List.filter_congr
    intro y hy
    rw [h8 y hy]
  have B : cnt' = (es.toList.filter fun e => left (rg P k R e).1 && !(rg P k R e).1.sameKey kl).length := by
    rw [← g7, e1]
    congr 1
    apply List.filter_congr
    intro y hy
    rw [← g8 y hy]
  rw [A, B]
  subst hxk
  refine count_strike (fun e => left (rg P k R e).1) (fun e => (rg P k R e).1.sameKey (rg P k R x).1) es.toList x hx hl ?_ ?_ hn
  · show (rg P k R x).1.sameKey (rg P k R x).1 = true
    rw [same_iff_born K F hx hx]
    simp
  · intro y hy hs
    rw [same_iff_born K F hy hx] at hs
    exact born_inj hst.2.1 hy hx (by simpa using hs)
end

theorem infoU64P : (Try.prog.info? 25).map (fun i => (i.zero, i.size, i.bytes)) = some (some (.int .u64 0), 1, 8) := by kernel_rfl

set_option maxHeartbeats 1000000 in
theorem pages_any (R : Nat → Prop) (w : World) (M m : Nat) (most : Int) (mp : Int → Option Pg) (H : MemAt R w M m most mp) (h1 : 1 ≤ m) (h12 : m ≤ 12) :
    Calls Try.prog 30 #[.pointer (some ⟨M, 0, none⟩)] w fun e w' => ∃ g cap, e = .returned (.slice (some ⟨g, 0, none⟩) m cap) ∧ w.heap.size ≤ g ∧ RowU w' g m ∧ Below w.heap.size w w' := by
  obtain ⟨bm, f, S, _⟩ := H
  have k1 := S.c1
  obtain ⟨D, hown, hsz, hat⟩ := S.map
  have hbm := S.map.lt
  have hM := S.mlt
  have HOWN := Lib.hid hown
  have HSZ := Lib.hid hsz
  have HAT := Lib.hid hat
  obtain ⟨i0, hi, hz0, hz1, hz2⟩ := info_parts infoU64P
  have hl : ∀ n ty, (Builtin.len_ #[63] ty #[.map (some bm)]).run Try.prog (w.drewN n) = .ok (.int .i64 m) (w.drewN n) := fun n ty => PM.len (w := w.drewN n) S.map Try.underlying63 ty
  clear S hown hsz hat
  go_enter Try.func30, Try.ntmps30
  have hm12 : (m : Int) ≤ 12 := by omega
  have hm1 : 1 ≤ (m : Int) := by omega
  have hl0 : ∀ ty, (Builtin.len_ #[63] ty #[.map (some bm)]).run Try.prog w = .ok (.int .i64 m) w := fun ty => hl 0 ty
  go_wp2_with (at_make; refine wpList_make_own _ rfl _ _ 33 rfl w.heap.size 25 i0 (.int .u64 0) 1 Try.underlying33 hi hz0 hz1 .i64 .i64 _ m rfl rfl rfl (by rw [hz2]; omega) (by unfold maxLen; omega) (Nat.le_refl _) ?_)
  intro w0 hown0 hgrow0
  have hB0 : Below w.heap.size w w0 := (Below.refl _ _).grown hgrow0 (Nat.le_refl _) (fun _ h => by cases h)
  have k0 : w0.cell? ⟨M, 1, none⟩ = some (Value.map (some bm)) := (hB0.cell hM).trans k1
  have HO0 : Hid (OwnL w0 w.heap.size 25 (.slice (some ⟨w.heap.size, 0, none⟩) 0 m) []) := hown0
  have HB0 := Lib.hid hB0
  have hs0 := hB0.size
  clear hl hl0 k1 hi hz0 hz1 hz2 hown0 hB0
  go_wp2_with (at_range; refine wpList_range_own _ rfl _ 63 rfl 25 66 (Maps.int_keyed Try.underlying25) Try.underlying63 _ bm m D rfl (HOWN.out.kept hgrow0 (by simp)) ?_)
  intro w1 hrg1 hg1 hs1
  have HB1 := Lib.hid (HB0.out.grown hg1 hs0 (fun _ h => by cases h))
  have HO1 := Lib.hid (HO0.out.of_block hg1.size (fun k hk => hg1.block k (HO0.out.lt k hk).2 (by simp)))
  have HRG1 := Lib.hid hrg1
  have hw1 : w0.heap.size < w1.heap.size := by omega
  have hr0 : w.heap.size < w0.heap.size := (HO0.out.lt _ rfl).2
  clear hrg1 hg1 k0 HOWN hgrow0
  go_wp2_with fail
  go_loopw [3] (fun v wr => ∃ (left : Lit → Bool) (cnt : Nat) (xs : List Value), xs.length + cnt = m ∧ (∀ x ∈ xs, ∃ a : Int, x = .int .u64 a) ∧ OwnL wr w.heap.size 25 v xs ∧ (∀ k, v.ownBlock = some k → k ≠ w0.heap.size) ∧ wr.ranges Try.prog 25 ptrR bm w0.heap.size m D left cnt ∧ Below w.heap.size w wr) (fun _ wr => wr.rangeLeft bm w0.heap.size)
  case atStart =>
    refine ⟨_, _, [], ?_, ?_, HO1.out, fun k hk => ?_, HRG1.out, HB1.out⟩
    · rw [HSZ.out]; simp
    · intro x hx; cases hx
    · cases hk; exact Nat.ne_of_lt hr0
  case round =>
    obtain ⟨left, cnt, xs, hcnt, hxs, hown, hne, hrg, hb⟩ := hrel
    obtain ⟨A, cap, rfl, hc1, hc2, hrow⟩ := hown.form
    have HO := Lib.hid hown
    have HROW := Lib.hid hrow
    have HRG := Lib.hid hrg
    have HB := Lib.hid hb
    have HXS := Lib.hid hxs
    have HNE := Lib.hid hne
    clear hown hrg hb hxs hne hrow HO1 HRG1 HB1 HO0 HB0
    go_wp2_with (at_next; refine wpList_next_ranges _ rfl _ rfl 25 (Maps.int_keyed Try.underlying25) ptrR (Value.int .u64) (fun v : Value => v) (fun key kl hkey => by obtain ⟨x, rfl, _⟩ := Maps.keyOf_int_inv Try.underlying25 hkey; exact ⟨x, rfl⟩) (fun v y hv => ⟨v, rfl⟩) bm w0.heap.size m _ _ _ rfl HRG.out ?_ ?_)
    · intro hc0 _
      have e1 : xs.length = m := by omega
      rcases HROW.out with h | ⟨g, rfl, hbg, ho⟩
      · subst h; simp at e1; omega
      have hru : RowU wr g xs.length := by
        refine ⟨fun i => intOf (xs[i]?.getD undef), ho.1, fun i hi => ?_⟩
        obtain ⟨c1, c2⟩ := ho.2 i hi
        refine ⟨c1.trans ?_, c2⟩
        obtain ⟨a, ha⟩ := HXS.out xs[i] (List.getElem_mem hi)
        show some (xs[i]?.getD undef) = some (Value.int .u64 (intOf (xs[i]?.getD undef)))
        rw [List.getElem?_eq_getElem hi, Option.getD_some, ha]
        rfl
      have HS : Hid (Calls Try.prog 46 #[.slice (some ⟨g, 0, none⟩) m cap] wr fun e w' => e = .returned (.tuple #[]) ∧ RowU w' g m ∧ wr.grownBy w' (some g)) := by rw [← e1]; exact sort_any wr g xs.length cap (by omega) hru
      clear hru ho
      go_wp2_with fail
      refine HS.out.mono ?_
      rintro e w3 ⟨rfl, h3, g3⟩
      have H3 := Lib.hid h3
      have G3 := Lib.hid g3
      clear h3 g3
      go_wp2_with fail
      go_ret
      exact ⟨g, cap, rfl, hbg, H3.out, HB.out.grown G3.out HB.out.size (fun k hk => by cases hk; exact hbg)⟩
    · intro x c kl y1 y2 w2 cnt2 hkey hlx hv hat2 hrg2 hlt hg2 hs2 hen
      have hbm2 : w2.heap[bm]? = wr.heap[bm]? := hg2.block bm (Nat.lt_of_lt_of_le hbm HB.out.size) (by intro e; injection e with e; exact HRG.out.ne e.symm)
      have h1c := ranges_one (Maps.int_keyed Try.underlying25) HRG.out hlx hrg2 hbm2
      have HO2 := Lib.hid (HO.out.of_block hg2.size (fun k hk => hg2.block k (HO.out.lt k hk).2 (by intro e; injection e with e; exact HNE.out k hk e)))
      have HB2 := Lib.hid (HB.out.grown hg2 HB.out.size (fun k hk => by cases hk; exact Nat.le_of_lt hr0))
      have HRG2 := Lib.hid hrg2
      have hw2 : w.heap.size ≤ w2.heap.size := HB2.out.size
      have hr2 : w0.heap.size < w2.heap.size := hrg2.lt
      have HM := Lib.hid hlt
      clear hrg2 hg2 hbm2 hv hat2 hlx hkey hlt hs2
      go_wp2_with (at_builtin; refine wpList_appL rfl _ _ 33 33 rfl w.heap.size 25 (.int .u64 0) 8 Try.underlying33 infoU64P rfl (.slice A xs.length cap) xs rfl (HO2.out.alloc _) _ rfl [.int .u64 x] (src_one Try.underlying33 rfl (by simp [go_sem]) _) (by simp [maxLen]; omega) (by simp; omega) (by simp; omega) ?_; intro A2 cap2 w4 hown4 hg4 hat4)
      have HG4 := Lib.hid hg4
      have HW4 := Lib.hid hown4
      have HAT4 := Lib.hid hat4
      clear hg4 hown4 hat4 hen
      have hrg4 := (HRG2.out.alloc (.cells #[.int .u64 x] 25)).kept HG4.out (fun e => by have := (HO2.out.lt bm e.symm).1; omega) (fun e => HNE.out _ e.symm rfl)
      have HRG4 := Lib.hid hrg4
      clear hrg4
      go_wp2
      go_roundw
      case rel =>
        refine ⟨_, cnt2, xs ++ [.int .u64 x], by simp; omega, ?_, HW4.out, ?_, HRG4.out, (HO2.out.alloc _).grew (HB2.out.alloc hw2 _) (Nat.le_refl _) HG4.out⟩
        · intro z hz
          rcases List.mem_append.1 hz with h | h
          · exact HXS.out z h
          · exact ⟨x, List.mem_singleton.1 h⟩
        · intro k hk
          rcases HAT4.out with h | h
          · exact HNE.out k (h ▸ hk)
          · have hk2 := h.symm.trans hk
            injection hk2 with hk2
            simp at hk2
            omega
      case measure => rw [HRG4.out.left_eq, HRG.out.left_eq]; exact HM.out
end Go.Proofs.Ytlifaldbdjcgjaa
