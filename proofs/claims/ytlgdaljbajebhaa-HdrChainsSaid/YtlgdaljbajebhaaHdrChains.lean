/- HdrChains. -/
import Derived.Test.YtlgdaljbajebhaaTrips
namespace Go.Proofs.Ytlgdaljbajebhaa
open Go.ChangeShapes Go.WideShapes Go.ChangeAt Go.RowKit
set_option linter.unusedVariables false

set_option maxRecDepth 100000 in
set_option maxHeartbeats 2000000 in
theorem chains_walk (AS : Option Addr) (l : List Trip) (cs : Nat) (w : World) (hS : SlT tripC 3 w AS l) :
    Calls Try.prog 4 #[.slice AS l.length cs] w fun e w' => e = .returned (.bool true) ∧ Below w.heap.size w w' := by
  go_enter Try.func4, Try.ntmps4
  go_wp2_with fail
  refine (made_ex AS l cs w hS).mono ?_
  rintro e w3 ⟨L, n, g, c, F, hn1, hn6, rfl, ho, hm, hb⟩
  have HB3 := Lib.hid hb
  have HO := Lib.hid ho
  have HM := Lib.hid hm
  clear hb ho hS hm
  go_wp2_with fail
  refine (hparse_any g 0 _ c F w3 HO.out.rowB).mono ?_
  rintro e w4 ⟨⟨v, rfl, hr⟩, hb⟩
  obtain ⟨cs2, g2, rfl, hv, hsl, hg2⟩ := hr.ok HM.out (Nat.le_refl _) (by omega) (by omega)
  have HB4 := Lib.hid (HB3.out.trans (hb.mono HB3.out.size))
  have hone := hv.one rfl
  have hcz := hv.size
  have q5 := hv.c5
  have q4 := hv.c4
  have q38 := hv.c38
  simp only [readS] at q5 q4
  rw [HM.out.all.hd.hdrs] at q5
  rw [HM.out.size] at q4
  have HSL := Lib.hid hsl
  clear hb hr HB3 HO hsl hv
  have hnn : ((n : Int) == 0) = false := by rw [beq_eq_false_iff_ne]; omega
  have HR1 := Lib.hid (fun W => round_any 1024 4096 W (by omega) (by omega) (by omega) (by omega))
  rw [show roundS 1024 4096 = 4096 by rfl] at HR1
  go_wp2_with (first
    | (refine wpList_store_row rfl 32 _ _ rfl w4.heap.size cs2 rfl rfl 32 _ (heap_alloc_new _ _) (by rw [hcz]; rfl) (by rw [hcz]; rfl) hone ?_
       rw [zero_head]
       have hg := setRow_heap (w4.alloc (.cells (headC 0 0 0 0 0 0) 32)) w4.heap.size _ cs2 _ _ (heap_alloc_new _ _)
       have hb45 : Below w4.heap.size w4 ((w4.alloc (.cells (headC 0 0 0 0 0 0) 32)).setRow w4.heap.size cs2) := below_setRow ((Below.refl _ w4).alloc (Nat.le_refl _) _) (Nat.le_refl _) _
       have HB5 := Lib.hid (HB4.out.trans (hb45.mono HB4.out.size))
       have HSL5 := Lib.hid (HSL.out.below hb45)
       clear hb45
       generalize (w4.alloc (.cells (headC 0 0 0 0 0 0) 32)).setRow w4.heap.size cs2 = w5 at *
       generalize w4.heap.size = gh at *
       have k5 := (cell_of_row _ _ 5 _ _ _ hg).trans q5
       have k4 := (cell_of_row _ _ 4 _ _ _ hg).trans q4
       have k38 := (cell_of_row _ _ 38 _ _ _ hg).trans q38
       clear hg q5 q4 q38)
    | (go_fit (HR1.out _); rintro e w' ⟨rfl, rfl⟩))
  clear hone hcz HSL HR1 HB4
  go_loopw [5, 6] (fun o5 o6 wr => ∃ i : Nat, i ≤ n ∧ o6 = .int .i64 i ∧ o5 = .int .i64 (rvaS L i) ∧ wr = w5) (fun _ o6 _ => n - (intOf o6).toNat)
  case atStart => exact ⟨0, by omega, rfl, rfl, rfl⟩
  case round =>
    obtain ⟨i, hi, rfl, rfl, rfl⟩ := hrel
    have hrv := rvaS_bd L i
    by_cases hlt : i < n
    · have hlt' : (i : Int) < n := by omega
      obtain ⟨_, d1, d2, _, _, _⟩ := HSL5.out.at6 i (by simp [sectsS]; omega)
      have hs := HM.out.all.sect hlt
      simp only [sectsS, List.getElem_map, List.getElem_range, hs] at d1 d2
      have hv := vS_bd (L i)
      have hf := fullS_bd (L i)
      have hrv2 := rvaS_bd L (i + 1)
      have hsum : rvaS L i + fullS (L i) = rvaS L (i + 1) := rfl
      have HR := Lib.hid (fun W => round_any (vS (L i)) 4096 W (by omega) (by omega) (by omega) (by omega))
      rw [show roundS (vS (L i)) 4096 = fullS (L i) from rfl] at HR
      clear hs
      obtain ⟨r2, hr2⟩ : ∃ r2, rvaS L (i + 1) = r2 := ⟨_, rfl⟩
      have HR2 := Lib.hid hr2
      rw [hr2] at hsum hrv2
      clear hr2
      go_wp2_with (go_fit (HR.out _); rintro e w' ⟨rfl, rfl⟩)
      go_roundw
      case rel => exact ⟨i + 1, by omega, by go_num, by rw [HR2.out], by simp⟩
      case measure => simp [intOf]; omega
    · obtain rfl : i = n := by omega
      have HA := Lib.hid (awake5_any wr)
      go_wp2_with (go_fit HA.out; rintro e w' ⟨rfl, hb⟩)
      go_ret
      exact ⟨rfl, HB5.out.trans (hb.mono HB5.out.size)⟩
end Go.Proofs.Ytlgdaljbajebhaa
