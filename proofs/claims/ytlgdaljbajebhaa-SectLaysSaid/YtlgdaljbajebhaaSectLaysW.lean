/- SectLays: the walk. -/
import Derived.Test.YtlgdaljbajebhaaSectLays
namespace Go.Proofs.Ytlgdaljbajebhaa
open Go.ChangeShapes Go.WideShapes Go.ChangeAt Go.RowKit
set_option linter.unusedVariables false

set_option maxRecDepth 100000 in
set_option maxHeartbeats 4000000 in
theorem lays_walk (AS : Option Addr) (l : List Trip) (cs0 : Nat) (w : World) (hS : SlT tripC 3 w AS l) :
    Calls Try.prog 10 #[.slice AS l.length cs0] w fun e w' => e = .returned (.bool true) ∧ Below w.heap.size w w' := by
  go_enter Try.func10, Try.ntmps10
  go_wp2_with fail
  refine (made_ex AS l cs0 w hS).mono ?_
  rintro e w1 ⟨L, n, g, c, F, hn1, hn6, rfl, ho, hm, hb⟩
  have HO1 := Lib.hid ho
  have HM := Lib.hid hm
  have HB1 := Lib.hid hb
  clear ho hm hb hS
  go_wp2_with fail
  refine (hparse_any g 0 _ c F w1 HO1.out.rowB).mono ?_
  rintro e w2 ⟨⟨v, rfl, hr⟩, hb⟩
  obtain ⟨cs, g2, rfl, hv, hsl, hg2⟩ := hr.ok HM.out (Nat.le_refl _) hn1 hn6
  have HB2 := Lib.hid (HB1.out.trans (hb.mono HB1.out.size))
  have HO2 := Lib.hid (HO1.out.below hb)
  have hrv := rvaS_bd L n
  have hat := atS_bd L n
  obtain ⟨N, hN⟩ : ∃ N : Nat, rvaS L n = N := ⟨(rvaS L n).toNat, by omega⟩
  have h144 : (readS F 64).size = (N : Int) := HM.out.size.trans hN
  have h148 : (readS F 64).headers = ((1024 : Nat) : Int) := HM.out.all.hd.hdrs
  have hsec : sectsS F 328 n = secs F 0 n := by unfold sectsS secs; rw [List.range_eq_range']
  have hlen : (secs F 0 n).length = n := by simp [secs]
  rw [hsec] at hsl
  have HL2 : Hid (HeadL w2 cs (readS F 64) g2 n (secs F 0 n)) := Lib.hid ⟨by rw [hlen]; exact hv, hsl, hg2, fun s hs => by
      simp only [secs, List.mem_map] at hs
      obtain ⟨j, _, rfl⟩ := hs
      exact sectS_bd HO1.out.by255 _, by omega, by rw [h148]; omega, by rw [h148]; omega⟩
  have hone := hv.one rfl
  have HCZ := Lib.hid hv.size
  have q4 := hv.c4
  rw [h144] at q4
  have hN4 : N ≤ 262144 := by omega
  have HN := Lib.hid hN4
  clear hr hb hsl hv HB1 HO1 hsec hrv hN hN4
  go_wp2_with (first
    | (refine wpList_store_row rfl 32 _ _ rfl w2.heap.size cs rfl rfl 32 _ (heap_alloc_new _ _) (by rw [HCZ.out]; rfl) (by rw [HCZ.out]; rfl) hone ?_
       rw [zero_head]
       have HG3 := Lib.hid (setRow_heap (w2.alloc (.cells (headC 0 0 0 0 0 0) 32)) w2.heap.size _ cs _ _ (heap_alloc_new _ _))
       have hb : Below w2.heap.size w2 ((w2.alloc (.cells (headC 0 0 0 0 0 0) 32)).setRow w2.heap.size cs) := below_setRow ((Below.refl _ w2).alloc (Nat.le_refl _) _) (Nat.le_refl _) _
       have HB3 := Lib.hid (HB2.out.trans (hb.mono HB2.out.size))
       have HO3 := Lib.hid (HO2.out.below hb)
       have HL3 := Lib.hid (HL2.out.below hb)
       clear hb HB2 HO2 HL2 hone
       generalize (w2.alloc (.cells (headC 0 0 0 0 0 0) 32)).setRow w2.heap.size cs = w3 at *
       generalize w2.heap.size = gh at *)
    | (refine wpList_load_row rfl 32 _ rfl gh rfl 32 cs (0, 0) _ HG3.out rfl rfl (by rw [HCZ.out]; rfl) ?_))
  refine (lays_any cs _ g2 n _ g 0 _ c F N 1024 w3 HL3.out HO3.out.rowB h144 HN.out h148).mono ?_
  rintro e w4 ⟨gi, rfl, ho, hb⟩
  have HG4 := Lib.hid ((hb.block gh (Array.getElem?_eq_some_iff.1 HG3.out).1).trans HG3.out)
  have HB4 := Lib.hid (HB3.out.trans (hb.mono HB3.out.size))
  have HL4 := Lib.hid (HL3.out.below hb)
  have HO4 := Lib.hid (HO3.out.below hb)
  have HI4 := Lib.hid ho
  have k4 := (cell_of_row _ _ 4 _ _ _ HG4.out).trans q4
  clear ho hb HG3 HB3 HO3 HL3
  go_wp2_with fail
  clear k4 q4 h144
  have hgh4 : gh < w4.heap.size := (Array.getElem?_eq_some_iff.1 HG4.out).1
  go_loopw [7, 8, 9, 10] (fun o7 _ _ _ wr => ∃ q : Nat, q ≤ N ∧ o7 = .int .i64 q ∧ Below w4.heap.size w4 wr) (fun o7 _ _ _ _ => N - (intOf o7).toNat)
  case atStart => exact ⟨0, by omega, rfl, Below.refl _ _⟩
  case round =>
    obtain ⟨q, hq, rfl, hb⟩ := hrel
    have HB := Lib.hid hb
    clear hb
    by_cases hlt : q < N
    · have hlt' : (q : Int) < N := by omega
      have HGR := Lib.hid ((HB.out.block gh hgh4).trans HG4.out)
      have HOF := Lib.hid (offset_any cs _ g2 n _ q wr (HL4.out.below HB.out) (by omega) (by have := HN.out; omega))
      rw [h148] at HOF
      have hq63 : (q : Int) ≤ 262144 := by have := HN.out; omega
      have HW := Lib.hid (img_want (N := N) (nb := atS L n) HM.out.all (Nat.le_refl _) q hlt)
      go_wp2_with (refine wpList_load_row rfl 32 _ rfl gh rfl 32 cs (0, 0) _ HGR.out rfl rfl (by rw [HCZ.out]; rfl) ?_)
      refine HOF.out.mono ?_
      rintro e u ⟨rfl, hb⟩
      have HBU := Lib.hid (HB.out.trans (hb.mono HB.out.size))
      have y0 := (HI4.out.below HBU.out).row q hlt
      rw [Nat.zero_add] at y0
      clear hb HOF HGR
      rcases HW.out with ⟨a, b⟩ | ⟨k, a, b, d⟩
      · have a' : offS ((1024 : Nat) : Int) (secs F 0 n) q = none := a
        rw [b] at y0
        rw [a']
        clear a a' b HW
        go_wp2_with fail
        go_roundw
        case rel => exact ⟨q + 1, by omega, by go_num, HBU.out⟩
        case measure => simp [intOf]; omega
      · have a' : offS ((1024 : Nat) : Int) (secs F 0 n) q = some (k : Int) := a
        have y1 := (HO4.out.below HBU.out).row k b
        rw [Nat.zero_add] at y1
        rw [d] at y0
        rw [a']
        have hk' : (k : Int) < (atS L n : Int) := by omega
        have hk0 : (0 : Int) ≤ k := by omega
        have hbk := HO4.out.by255 k
        clear a a' d HW
        generalize F k = z at *
        go_wp2_with fail
        go_roundw
        case rel => exact ⟨q + 1, by omega, by go_num, HBU.out⟩
        case measure => simp [intOf]; omega
    · obtain rfl : q = N := by omega
      have HA := Lib.hid (awake6_any wr)
      have HBW := Lib.hid (HB4.out.trans (HB.out.mono HB4.out.size))
      go_wp2_with (go_fit HA.out; rintro e w' ⟨rfl, hb⟩)
      go_ret
      exact ⟨rfl, HBW.out.trans (hb.mono HBW.out.size)⟩
end Go.Proofs.Ytlgdaljbajebhaa
