/- package vmem: Copy. -/
import Derived.Test.YtlifaldbdjcgjaaPages
import Derived.Test.YtlifaldbdjcgjaaVmap
import Derived.Deep.MidRow
import Derived.Deep.Cut
namespace Go.Proofs.Ytlifaldbdjcgjaa
open Go.ChangeShapes Go.WideShapes Go.ChangeAt Go.RowKit
open Go.Maps (Keyed)
set_option linter.unusedVariables false
set_option linter.unusedSimpArgs false
set_option maxRecDepth 100000

theorem below_setRow' {B : Nat} {a w : World} {g : Nat} (h : Below B a w) (hg : B ≤ g) (cs : Array Value) : Below B a (w.setRow g cs) :=
  h.trans ⟨rfl, rfl, rfl, by simp [World.setRow], fun k hk => setRow_other w g k cs (by omega)⟩
/-- What has been passed already. -/
def seenP (left : Lit → Bool) (mp : Int → Option Pg) (x : Int) : Option Pg := if left (.int .u64 x) = true then none else mp x
def cellsP (g : Pg) : List Value := (List.range 4097).map (pgF g)
theorem cellsP_len (g : Pg) : (cellsP g).length = 4097 := by simp [cellsP]
theorem range_page {w : World} {B : Nat} {g : Pg} (h : Own w B 4097 (pgF g)) : w.rangeAt B 0 (cellsP g) := by
  intro j v hj
  have hl : j < 4097 := by
    rcases Nat.lt_or_ge j 4097 with h1 | h1
    · exact h1
    · rw [List.getElem?_eq_none (by rw [cellsP_len]; exact h1)] at hj; cases hj
  have e : (cellsP g)[j]? = some (pgF g j) := by simp [cellsP, hl]
  rw [e] at hj
  rw [← hj, Nat.zero_add]
  exact h.cell hl
theorem own_copy {w : World} {B : Nat} {t : TypeId} (g : Pg) (cs : Array Value) (h : cs = (cellsP g).toArray) (hr : w.heap[B]? = some (.cells cs t (0, 0))) : Own w B 4097 (pgF g) := by
  subst h
  refine ⟨?_, fun i hi => ⟨?_, ?_⟩⟩
  · rcases Nat.lt_or_ge B w.heap.size with h | h
    · exact h
    · rw [Array.getElem?_eq_none h] at hr; cases hr
  · rw [cell_of_row _ _ _ _ _ _ hr]
    simp [cellsP, hi]
  · exact frozen_of_row _ _ _ _ _ hr
theorem cellsP_one (g : Pg) : (cellsP g).toArray.all (·.oneCell') = true := by
  rw [Array.all_eq_true_iff_forall_mem]
  intro v hv
  simp only [List.mem_toArray, cellsP, List.mem_map] at hv
  obtain ⟨i, _, rfl⟩ := hv
  unfold pgF
  split <;> rfl
theorem pageInfo (cs : List Value) (h : cs.length = 4097) : (Try.prog.info? 70).map (·.size) = some cs.length := by
  rw [h]; kernel_rfl
theorem ptrVInvP : ∀ u y, ptrR u = some y → ∃ c, u = ptrV c := fun u y hv => by
  rcases ptrR_inv hv with ⟨rfl, _⟩ | ⟨b', rfl, _⟩
  · exact ⟨none, rfl⟩
  · exact ⟨some b', rfl⟩
theorem u64KeyInv : ∀ key kl, keyOf Try.prog 25 key = some kl → ∃ x, key = Value.int .u64 x := fun key kl hkey => by
  obtain ⟨x, rfl, _⟩ := Maps.keyOf_int_inv Try.underlying25 hkey
  exact ⟨x, rfl⟩

theorem MemIn.same {w w' : World} {M bm m : Nat} {most : Int} {f : Int → Option Nat} {mp : Int → Option Pg} (S : MemIn w M bm m most f mp) (hs : w.heap.size ≤ w'.heap.size) (hb : ∀ k, (k = M ∨ k = bm ∨ ∃ a, f a = some k) → w'.heap[k]? = w.heap[k]?) : MemIn w' M bm m most f mp :=
  ⟨(World.cell?_of_block (hb M (.inl rfl))).trans S.c0, (World.cell?_of_block (hb M (.inl rfl))).trans S.c1, Nat.lt_of_lt_of_le S.mlt hs, S.map.of_block (hb bm (.inr (.inl rfl))), S.both, fun a B g h1 h2 => (S.page a B g h1 h2).of_block (hb B (.inr (.inr ⟨a, h1⟩))) hs, S.inj, S.nos, S.low, S.high, S.fits⟩
theorem MemIn.some_page {w : World} {M bm m : Nat} {most : Int} {f : Int → Option Nat} {mp : Int → Option Pg} (S : MemIn w M bm m most f mp) {x : Int} {B : Nat} (h : f x = some B) : ∃ g, mp x = some g ∧ Own w B 4097 (pgF g) := by
  have hb := S.both x
  rw [h] at hb
  cases hm : mp x with
  | none => rw [hm] at hb; cases hb
  | some g => exact ⟨g, rfl, S.page x B g h hm⟩

set_option maxHeartbeats 4000000 in
theorem copy_any (R : Nat → Prop) (w : World) (M m : Nat) (most : Int) (mp : Int → Option Pg) (H : MemAt R w M m most mp) :
    Calls Try.prog 31 #[.pointer (some ⟨M, 0, none⟩)] w fun e w' => ∃ C, e = .returned (.pointer (some ⟨C, 0, none⟩)) ∧ MemAt (· < w.heap.size) w' C m most mp ∧ Below w.heap.size w w' := by
  obtain ⟨bm, f, S, _⟩ := H
  have k0 := S.c0
  have k1 := S.c1
  obtain ⟨D, hown, hsz, hat⟩ := S.map
  have hbm := S.map.lt
  have hM := S.mlt
  have HOWN := Lib.hid hown
  have HSZ := Lib.hid hsz
  have HAT := Lib.hid hat
  have HHAS := Lib.hid (fun x => PM.has ⟨D, hown, hsz, hat⟩ hat x)
  have HSS := Lib.hid S
  have K := Maps.int_keyed (P := Try.prog) Try.underlying25
  have hmm := @run_makeMap Try.prog
  obtain ⟨w0, hw0⟩ : ∃ q, (w.alloc (.map #[] 0)).alloc (.cells #[.int .i64 most, .map (some w.heap.size)] 65) = q := ⟨_, rfl⟩
  have hb0 : Below w.heap.size w w0 := by rw [← hw0]; exact ((Below.refl _ _).alloc (Nat.le_refl _) _).alloc (by simp) _
  have hs0 : w0.heap.size = w.heap.size + 2 := by rw [← hw0]; simp
  have hS0 : MemIn w0 (w.heap.size + 1) w.heap.size 0 most (fun _ => none) (fun _ => none) := by
    rw [← hw0]
    exact ⟨by simp [go_sem], by simp [go_sem], by simp, (PM.made w _ _ _).kept (World.grownBy_alloc _ _ none) (by simp), fun _ => rfl, fun _ _ _ h => by (cases h), fun _ _ _ h => by (cases h), fun _ _ h => by (cases h), S.low, S.high, by have := S.low; simpa using this⟩
  have HW0 := Lib.hid hw0
  have HB0 := Lib.hid hb0
  have HZ0 := Lib.hid hs0
  have HS0 := Lib.hid hS0
  have hk1 : w0.cell? ⟨M, 1, none⟩ = some (.map (some bm)) := (hb0.cell (p := ⟨M, 1, none⟩) hM).trans k1
  have hown0 := HOWN.out.kept (row := none) (w' := w0) ⟨hb0.os, hb0.tape, hb0.output, hb0.size, fun k hk _ => hb0.block k hk⟩ (by simp)
  clear S hown hsz hat hw0 hb0 hs0 hS0 k1
  go_enter Try.func31, Try.ntmps31
  go_upto_region 2 with (fail)
  refine (congrArg _ HW0.out).mpr ?_
  clear k0 hmm
  go_wp2_with (at_range; refine wpList_range_own _ rfl _ 63 rfl 25 66 K Try.underlying63 _ bm m D rfl hown0 ?_; intro w1 hrg1 hg1 hs1)
  have HB1 := Lib.hid (HB0.out.grown hg1 HB0.out.size (fun _ h => by cases h))
  have HRG1 := Lib.hid hrg1
  have HS1 := Lib.hid (HS0.out.same hg1.size (fun k hk => hg1.block k (by
    have h0 := HZ0.out
    rcases hk with rfl | rfl | ⟨a, ha⟩
    · omega
    · omega
    · cases ha) (by simp)))
  have hC0 : w.heap.size + 2 = w0.heap.size := HZ0.out.symm
  clear hrg1 hg1 hown0 hk1 HOWN hs1
  go_frame
  go_loopw [4, 5, 6] (fun _ _ _ wr => ∃ (left : Lit → Bool) (cnt j : Nat) (f2 : Int → Option Nat), wr.ranges Try.prog 25 ptrR bm w0.heap.size m D left cnt ∧ MemIn wr (w.heap.size + 1) w.heap.size j most f2 (seenP left mp) ∧ j + cnt = m ∧ (∀ x B, f2 x = some B → w.heap.size + 2 < B) ∧ Below w.heap.size w wr) (fun _ _ _ wr => wr.rangeLeft bm w0.heap.size)
  case atStart =>
    refine ⟨_, _, 0, fun _ => none, HRG1.out, ?_, by rw [HSZ.out]; omega, fun x B h => (by cases h), HB1.out⟩
    have e : seenP (Maps.has D) mp = fun _ => none := by
      funext x
      unfold seenP
      split
      · rfl
      · rename_i h
        rw [HHAS.out] at h
        have hb := HSS.out.both x
        cases hm : mp x with
        | none => rfl
        | some g => rw [hm] at hb; rw [hb] at h; simp at h
    rw [e]
    exact HS1.out
  case round =>
    obtain ⟨left, cnt, j, f2, hrg, hS2, hj, hge, hb⟩ := hrel
    have HRG := Lib.hid hrg
    have HS2 := Lib.hid hS2
    have HB := Lib.hid hb
    have HGE := Lib.hid hge
    have HJ := Lib.hid hj
    clear hrg hS2 hb hge hj HRG1 HS1 HB1
    go_wp2_with (at_next; refine wpList_next_ranges _ rfl _ rfl 25 K ptrR (Value.int .u64) ptrV u64KeyInv ptrVInvP bm w0.heap.size m D left cnt rfl HRG.out ?_ ?_)
    · intro hc0 hl0
      have HE := Lib.hid (show MemAt (· < w.heap.size) wr (w.heap.size + 1) m most mp from by
        have e : seenP left mp = mp := by funext x; unfold seenP; rw [hl0]; simp
        have hS := HS2.out
        rw [e, show j = m by have := HJ.out; omega] at hS
        exact ⟨w.heap.size, f2, hS, by omega, by omega, fun a B h hlt => by have := HGE.out a B h; omega, fun k hk => Nat.lt_of_lt_of_le hk HB.out.size⟩)
      clear hl0 hc0
      go_wp2_with fail
      go_ret
      exact ⟨w.heap.size + 1, rfl, HE.out, HB.out⟩
    · intro x c kl y pl w2 cnt2 hkey hlx hRc hat hrg2 hlt hg2 hs2 hen
      obtain ⟨x', ex, rfl, hwx⟩ := Maps.keyOf_int_inv Try.underlying25 hkey
      cases ex
      have hfx : f x = c ∧ c ≠ none := by
        have h1 := hat (.lit (.int .i64 (-1)))
        have h2 := hat .nil
        rw [HAT.out] at h1 h2
        cases hc : f x with
        | none => rw [hc] at h1 h2; simp [ptrD] at h1 h2; rw [← h1] at h2; cases h2
        | some B =>
          rw [hc] at h1
          rcases ptrR_inv hRc with ⟨e, e2⟩ | ⟨b', e, e2⟩
          · cases e2; simp [ptrD] at h1
          · cases e2
            simp [ptrD] at h1
            cases c with
            | none => simp [ptrV] at e
            | some c' =>
              simp [ptrV] at e
              exact ⟨by rw [e]; congr 1; omega, by simp⟩
      obtain ⟨rfl, hcn⟩ := hfx
      cases hfx : f x with
      | none => exact absurd hfx hcn
      | some B =>
        rw [hfx] at hen
        simp only [ptrV] at hen
        obtain ⟨g, hmx, hpg⟩ := HSS.out.some_page hfx
        have hBlt : B < w.heap.size := hpg.1
        have h1c := ranges_one K HRG.out hlx hrg2 (hg2.block bm (Nat.lt_of_lt_of_le hbm HB.out.size) (by intro e; injection e with e; omega))
        have hb2 : Below w.heap.size w w2 := HB.out.grown hg2 HB.out.size (fun k hk => by cases hk; omega)
        have hp2 : Own w2 B 4097 (pgF g) := hpg.below hb2 hBlt
        have hS3 : MemIn w2 (w.heap.size + 1) w.heap.size j most f2 (seenP left mp) := HS2.out.same hg2.size (fun k hk => by
          have hklt : k < wr.heap.size ∧ k ≠ w0.heap.size := by
            rcases hk with rfl | rfl | ⟨a, ha⟩
            · exact ⟨HS2.out.mlt, by omega⟩
            · exact ⟨HS2.out.map.lt, by omega⟩
            · have h1 := HGE.out a k ha
              obtain ⟨g', _, ho⟩ := HS2.out.some_page ha
              exact ⟨ho.1, by omega⟩
          exact hg2.block k hklt.1 (by intro e; injection e with e; exact hklt.2 e))
        have hfn : f2 x = none := by
          have hb3 := HS2.out.both x
          unfold seenP at hb3
          rw [hlx] at hb3
          cases h : f2 x with
          | none => rfl
          | some B' => rw [h] at hb3; simp at hb3
        obtain ⟨cs, hcs⟩ : ∃ cs, cellsP g = cs := ⟨_, rfl⟩
        have hcl : cs.length = 4097 := by rw [← hcs]; exact cellsP_len g
        have hra : w2.rangeAt B 0 cs := by rw [← hcs]; exact range_page hp2
        have hone : cs.toArray.all (·.oneCell') = true := by rw [← hcs]; exact cellsP_one g
        have hrz : (w2.alloc (.cells Try.zeroCells70 70)).heap[w2.heap.size]? = some (.cells Try.zeroCells70 70 (0, 0)) := heap_alloc_new w2 _
        obtain ⟨w3, hw3⟩ : ∃ q, (w2.alloc (.cells Try.zeroCells70 70)).setRow w2.heap.size cs.toArray = q := ⟨_, rfl⟩
        have hx3 : w3.heap[w2.heap.size]? = some (.cells cs.toArray 70 (0, 0)) := by rw [← hw3]; exact setRow_heap _ _ _ _ _ _ hrz
        have hb23 : Below w2.heap.size w2 w3 := by rw [← hw3]; exact below_setRow' ((Below.refl _ _).alloc (Nat.le_refl _) _) (Nat.le_refl _) _
        have HZS := Lib.hid (show Try.zeroCells70.size = cs.toArray.size from Try.zeroCells70_size.trans (by rw [List.size_toArray]; exact hcl.symm))
        have HOC := Lib.hid (own_copy g cs.toArray (by rw [hcs]) hx3)
        have HW3 := Lib.hid hw3
        have HB23 := Lib.hid hb23
        have HONE := Lib.hid hone
        have HRZ := Lib.hid hrz
        have HRA := Lib.hid hra
        have HCL := Lib.hid (pageInfo cs hcl)
        have HPM := Lib.hid (hS3.map.of_block (hb23.block _ hS3.map.lt))
        have hg23 : w2.grownBy w3 none := ⟨hb23.os, hb23.tape, hb23.output, hb23.size, fun k hk _ => hb23.block k hk⟩
        have HRG3 := Lib.hid (hrg2.kept hg23 (by simp) (by simp))
        have HB3 := Lib.hid (hb2.trans (hb23.mono hb2.size))
        have hz3 : w2.heap.size ≤ w3.heap.size := hb23.size
        have hr2 : w0.heap.size < w2.heap.size := hrg2.lt
        have HS3 := Lib.hid hS3
        have HSZ2 := Lib.hid hs2
        have HFN := Lib.hid hfn
        have HWX := Lib.hid hwx
        have HMX := Lib.hid hmx
        have HLT := Lib.hid hlt
        have HJC := Lib.hid h1c
        have hjm : j < maxLen := by have := HS3.out.fits; have := HS3.out.high; unfold maxLen; omega
        have hc1 : w3.cell? ⟨w.heap.size + 1, 1, none⟩ = some (.map (some w.heap.size)) := (hb23.cell (p := ⟨w.heap.size + 1, 1, none⟩) HS3.out.mlt).trans HS3.out.c1
        clear hfx hcn hkey hlx hRc hat hrg2 hg2 hs2 hpg hb2 hp2 hS3 hfn hcs hcl hra hwx hmx hlt h1c hone hrz hw3 hx3 hb23 hg23
        go_wp2_with (first
          | (refine wpList_load_mid rfl 70 _ rfl B 0 rfl cs _ HRA.out Try.underlying70 rfl HCL.out ?_)
          | (refine wpList_store_row rfl 70 _ _ rfl w2.heap.size cs.toArray rfl rfl 70 Try.zeroCells70 HRZ.out (by rw [List.size_toArray]; exact HCL.out) HZS.out HONE.out ?_; refine (congrArg _ HW3.out).mpr ?_)
          | (at_mapUpdate; refine wpList_mapUpdate_pm _ rfl _ _ _ 63 rfl 25 66 .u64 Try.underlying25 Try.underlying63 w.heap.size j f2 rfl HPM.out hjm x rfl HWX.out w2.heap.size rfl ?_; intro w4 hP4 hg4)
          | fail)
        have HP4 := Lib.hid hP4
        have HG4 := Lib.hid hg4
        clear hP4 hg4
        have HS4 := Lib.hid (HS3.out.added HFN.out HB23.out HG4.out HP4.out HOC.out (by have := HSS.out.fits; have := HJ.out; have := HJC.out; omega))
        have HRG4 := Lib.hid (HRG3.out.kept HG4.out (by simp; omega) (by simp; omega))
        have HB4 := Lib.hid (HB3.out.grown HG4.out HB3.out.size (fun k hk => by cases hk; exact Nat.le_refl _))
        have HSEEN := Lib.hid (show upd (seenP left mp) x (some g) = seenP (fun z => left z && !z.sameKey (.int .u64 x)) mp from by
          funext z
          unfold upd seenP
          by_cases e : z = x
          · subst e
            simp [Lit.sameKey, HMX.out]
          · simp [Lit.sameKey, e])
        go_frame
        go_roundw
        case rel =>
          refine ⟨fun z => left z && !z.sameKey (.int .u64 x), cnt2, j + 1, upd f2 x (some w2.heap.size), HRG4.out, by rw [← HSEEN.out]; exact HS4.out, by have := HJ.out; have := HJC.out; omega, fun z B' hz => ?_, HB4.out⟩
          unfold upd at hz
          split at hz
          · injection hz with hz; omega
          · exact HGE.out z B' hz
        case measure =>
          rw [HRG4.out.left_eq, HRG.out.left_eq]
          exact HLT.out
end Go.Proofs.Ytlifaldbdjcgjaa
