/- law 5: Made of nothing. -/
import Derived.Test.YtplgdpjbkdagfaaGreatMade
namespace Go.Proofs.YtplgdpjbkdagfaaGreat
set_option maxRecDepth 100000
open Go.ChangeShapes Go.WideShapes Go.ChangeAt Go.RowKit
set_option linter.unusedVariables false
set_option linter.unusedSimpArgs false

set_option maxRecDepth 100000 in
set_option maxHeartbeats 4000000 in
theorem made_none (AS : Option Addr) (cs : Nat) (L : Nat → Trip) (hLL : ∀ i, L i = (16, 512, 3)) (w : World) :
    Calls Tryz.prog 25 #[.slice AS 0 cs, .slice none 0 0] w fun e w' =>
      ∃ g c F, e = .returned (.slice (some ⟨g, 0, none⟩) (atS L 1) c) ∧ OwnC w' w.heap.size g (atS L 1) c F ∧ MadeP L 1 F ∧ Below w.heap.size w w' := by
  have HLL := Lib.hid hLL
  have HH0 := Lib.hid (heap_alloc_new w (.cells #[.int .i64 16, .int .i64 512, .int .i64 3] 88))
  have HBW := Lib.hid ((Below.refl w.heap.size w).alloc (Nat.le_refl _) (.cells #[.int .i64 16, .int .i64 512, .int .i64 3] 88))
  have HBLT : Hid (w.heap.size < (w.alloc (.cells #[.int .i64 16, .int .i64 512, .int .i64 3] 88)).heap.size) := Lib.hid (by simp)
  have hmin : min (1 : Int) 6 = 1 := rfl
  clear hLL
  go_enter Tryz.func25, Tryz.ntmps25
  go_wp2_with (first
    | (at_make; generalize w.alloc (.cells #[.int .i64 16, .int .i64 512, .int .i64 3] 88) = w0 at *; refine wpList_makeC rfl _ _ rfl w0.heap.size .i64 .i64 1024 rfl rfl (by omega) (Nat.le_refl _) ?_; intro w1 ho hb hs; have HO1 := Lib.hid ho; have HB1 := Lib.hid hb; clear ho hb hs)
    | (refine wpList_copyC rfl _ _ rfl (off := 0) (t := ⟨#[77, 90]⟩) HO1.out (by decide) (by decide) rfl rfl ?_; intro w2 ho hb hs; have HO2 := Lib.hid ho; have HB2 := Lib.hid (HB1.out.trans (hb.mono (Nat.le_refl _))); clear ho hb hs HO1 HB1))
  refine (put_at w0.heap.size _ _ _ _ _ _ 60 4 64 _ HO2.out HB2.out.size rfl rfl (by omega) (by omega) (by omega) (by omega) (by omega) (by omega)).mono ?_
  rintro e w3 ⟨g3, c3, rfl, ho, hb⟩
  have HO3 := Lib.hid ho
  have HB3 := Lib.hid (HB2.out.trans (hb.mono HB2.out.size))
  clear ho hb HO2 HB2
  have hc3 := HO3.out.len
  go_wp2_with (refine wpList_copyC rfl _ _ rfl (off := 64) (t := ⟨#[80, 69, 0, 0]⟩) HO3.out (by decide) (by decide) rfl rfl ?_; intro w4 ho hb hs; have HO4 := Lib.hid ho; have HB4 := Lib.hid (HB3.out.trans (hb.mono (Nat.le_refl _))); clear ho hb hs HO3 HB3)
  refine (put_at w0.heap.size _ _ _ _ _ _ 68 2 34404 _ HO4.out HB4.out.size rfl rfl (by omega) (by omega) (by omega) (by omega) (by omega) (by omega)).mono ?_
  rintro e w5 ⟨g5, c5, rfl, ho, hb⟩
  have HO5 := Lib.hid ho
  have HB5 := Lib.hid (HB4.out.trans (hb.mono HB4.out.size))
  clear ho hb HO4 HB4
  go_wp2_with fail
  refine (put_at w0.heap.size _ _ _ _ _ _ 70 2 1 _ HO5.out HB5.out.size rfl rfl (by omega) (by omega) (by omega) (by omega) (by omega) (by omega)).mono ?_
  rintro e w6 ⟨g6, c6, rfl, ho, hb⟩
  have HO6 := Lib.hid ho
  have HB6 := Lib.hid (HB5.out.trans (hb.mono HB5.out.size))
  clear ho hb HO5 HB5
  go_wp2_with fail
  refine (put_at w0.heap.size _ _ _ _ _ _ 72 4 77 _ HO6.out HB6.out.size rfl rfl (by omega) (by omega) (by omega) (by omega) (by omega) (by omega)).mono ?_
  rintro e w7 ⟨g7, c7, rfl, ho, hb⟩
  have HO7 := Lib.hid ho
  have HB7 := Lib.hid (HB6.out.trans (hb.mono HB6.out.size))
  clear ho hb HO6 HB6
  go_wp2_with fail
  refine (put_at w0.heap.size _ _ _ _ _ _ 84 2 240 _ HO7.out HB7.out.size rfl rfl (by omega) (by omega) (by omega) (by omega) (by omega) (by omega)).mono ?_
  rintro e w8 ⟨g8, c8, rfl, ho, hb⟩
  have HO8 := Lib.hid ho
  have HB8 := Lib.hid (HB7.out.trans (hb.mono HB7.out.size))
  clear ho hb HO7 HB7
  go_wp2_with fail
  refine (put_at w0.heap.size _ _ _ _ _ _ 86 2 8226 _ HO8.out HB8.out.size rfl rfl (by omega) (by omega) (by omega) (by omega) (by omega) (by omega)).mono ?_
  rintro e w9 ⟨g9, c9, rfl, ho, hb⟩
  have HO9 := Lib.hid ho
  have HB9 := Lib.hid (HB8.out.trans (hb.mono HB8.out.size))
  clear ho hb HO8 HB8
  go_wp2_with fail
  refine (put_at w0.heap.size _ _ _ _ _ _ 88 2 523 _ HO9.out HB9.out.size rfl rfl (by omega) (by omega) (by omega) (by omega) (by omega) (by omega)).mono ?_
  rintro e w10 ⟨g10, c10, rfl, ho, hb⟩
  have HO10 := Lib.hid ho
  have HB10 := Lib.hid (HB9.out.trans (hb.mono HB9.out.size))
  clear ho hb HO9 HB9
  go_wp2_with fail
  refine (put_at w0.heap.size _ _ _ _ _ _ 112 8 65536 _ HO10.out HB10.out.size rfl rfl (by omega) (by omega) (by omega) (by omega) (by omega) (by omega)).mono ?_
  rintro e w11 ⟨g11, c11, rfl, ho, hb⟩
  have HO11 := Lib.hid ho
  have HB11 := Lib.hid (HB10.out.trans (hb.mono HB10.out.size))
  clear ho hb HO10 HB10
  go_wp2_with fail
  refine (put_at w0.heap.size _ _ _ _ _ _ 120 4 4096 _ HO11.out HB11.out.size rfl rfl (by omega) (by omega) (by omega) (by omega) (by omega) (by omega)).mono ?_
  rintro e w12 ⟨g12, c12, rfl, ho, hb⟩
  have HO12 := Lib.hid ho
  have HB12 := Lib.hid (HB11.out.trans (hb.mono HB11.out.size))
  clear ho hb HO11 HB11
  go_wp2_with fail
  refine (put_at w0.heap.size _ _ _ _ _ _ 124 4 512 _ HO12.out HB12.out.size rfl rfl (by omega) (by omega) (by omega) (by omega) (by omega) (by omega)).mono ?_
  rintro e w13 ⟨g13, c13, rfl, ho, hb⟩
  have HO13 := Lib.hid ho
  have HB13 := Lib.hid (HB12.out.trans (hb.mono HB12.out.size))
  clear ho hb HO12 HB12
  go_wp2_with fail
  refine (put_at w0.heap.size _ _ _ _ _ _ 148 4 1024 _ HO13.out HB13.out.size rfl rfl (by omega) (by omega) (by omega) (by omega) (by omega) (by omega)).mono ?_
  rintro e w14 ⟨g14, c14, rfl, ho, hb⟩
  have HO14 := Lib.hid ho
  have HB14 := Lib.hid (HB13.out.trans (hb.mono HB13.out.size))
  clear ho hb HO13 HB13
  go_wp2_with fail
  refine (put_at w0.heap.size _ _ _ _ _ _ 196 4 16 _ HO14.out HB14.out.size rfl rfl (by omega) (by omega) (by omega) (by omega) (by omega) (by omega)).mono ?_
  rintro e w15 ⟨g15, c15, rfl, ho, hb⟩
  have HO15 := Lib.hid ho
  have HB15 := Lib.hid (HB14.out.trans (hb.mono HB14.out.size))
  clear ho hb HO14 HB14
  go_wp2_with fail
  have HF := Lib.hid (MadeI.start L 1 (by omega) (by omega))
  have HOL : Hid (OwnC w15 w0.heap.size g15 1024 c15 (preF 1)) := HO15
  obtain ⟨N, hNN⟩ : ∃ N : Nat, N = 1 := ⟨1, rfl⟩
  have HNN := Lib.hid hNN
  have hN1 : N ≤ 1 := by omega
  have hN2 : N ≤ 6 := by omega
  have hN3 : 1 ≤ N := by omega
  have hNI : (1 : Int) = N := by omega
  have HF2 : Hid (MadeI L N 0 (preF N)) := Lib.hid (by rw [← hNI]; exact HF.out)
  have HOL2 : Hid (OwnC w15 w0.heap.size g15 1024 c15 (preF N)) := Lib.hid (by rw [← hNI]; exact HOL.out)
  clear HO15 hmin HF HOL hNN hNI
  go_loopw [6, 7, 8, 9, 10, 11, 12, 13, 14] (fun o6 o7 o8 _ _ _ _ _ _ wr => ∃ (i g c : Nat) (F : Nat → Int), i ≤ N ∧ o6 = .slice (some ⟨g, 0, none⟩) (atS L i) c ∧ o7 = .int .i64 (rvaS L i) ∧ o8 = .int .i64 i ∧ OwnC wr w0.heap.size g (atS L i) c F ∧ MadeI L N i F ∧ Below w0.heap.size w0 wr) (fun _ _ o8 _ _ _ _ _ _ _ => N - (intOf o8).toNat)
  case atStart => exact ⟨0, g15, c15, _, by omega, rfl, rfl, rfl, HOL2.out, HF2.out, HB15.out⟩
  case round =>
    obtain ⟨i, g, c, F, hi, rfl, rfl, rfl, ho, hF, hb⟩ := hrel
    have HO := Lib.hid ho
    have HF := Lib.hid hF
    have HB := Lib.hid hb
    clear ho hF hb HOL2 HF2 HB15
    by_cases hlt : i < N
    · have hlt' : (i : Int) < N := by omega
      have hlt1 : (i : Int) < 1 := by omega
      have hlt2 : i = 0 := by omega
      have hcl : ∀ j v, (tripC (L i))[j]? = some v → w0.cell? ⟨w.heap.size, i * 3 + j, none⟩ = some v := fun j v hv => by
        rw [HLL.out, ] at hv
        rw [hlt2, cell_of_row _ _ _ _ _ _ HH0.out, Nat.zero_mul, Nat.zero_add, ← hv]
        match j with
        | 0 => rfl
        | 1 => rfl
        | 2 => rfl
        | j + 3 => rfl
      clear hlt2
      have HCLI := Lib.hid hcl
      have d0 : wr.cell? ⟨w.heap.size, i * 3, none⟩ = some (.int .i64 (L i).1) := (HB.out.cell (p := ⟨w.heap.size, _, none⟩) HBLT.out).trans (hcl 0 _ rfl)
      have d1 : wr.cell? ⟨w.heap.size, i * 3 + 1, none⟩ = some (.int .i64 (L i).2.1) := (HB.out.cell (p := ⟨w.heap.size, _, none⟩) HBLT.out).trans (hcl 1 _ rfl)
      have d2 : wr.cell? ⟨w.heap.size, i * 3 + 2, none⟩ = some (.int .i64 (L i).2.2) := (HB.out.cell (p := ⟨w.heap.size, _, none⟩) HBLT.out).trans (hcl 2 _ rfl)
      clear hcl
      have hat := atS_bd L i
      have hrv := rvaS_bd L i
      have hv := vS_bd (L i)
      have hfu := fullS_bd (L i)
      have hra := rawS_bd (L i)
      have hri := rightS_bd (L i)
      have m1 := and_3fff (L i).1
      have m2 := and_1fff (L i).2.1
      have m3 := and_7 (L i).2.2
      obtain ⟨p, hp⟩ : ∃ p : Nat, 328 + 40 * (i : Int) = p := ⟨328 + 40 * i, by omega⟩
      have hpn : p = 328 + 40 * i := by omega
      have hp6 : p ≤ 528 := by omega
      have HPN := Lib.hid hpn
      have HRD := Lib.hid (fun W => rround_any (vS (L i)) 4096 W (by omega) (by omega) (by omega) (by omega))
      have hvd : (L i).1 % 16384 + 1 = vS (L i) := rfl
      have hfd : roundS (vS (L i)) 4096 = fullS (L i) := rfl
      rw [hfd] at HRD
      have hrd : (L i).2.1 % 8192 / 512 * 512 % (fullS (L i) + 512) = rawS (L i) := rfl
      have hrr : (L i).2.2 % 8 = rightS (L i) := rfl
      have x0 := HO.out.row p (by omega)
      have x1 := HO.out.row (p + 1) (by omega)
      rw [Nat.zero_add] at x0 x1
      have z0 := (HO.out.wr p (by have := HO.out.len; omega)).2
      have z1 := (HO.out.wr (p + 1) (by have := HO.out.len; omega)).2
      have uw : ∀ x : Int, 0 ≤ x → x ≤ 1000000 → IntKind.u64.wrap x = x := fun x h0 h1 => by rw [IntKind.wrap_u64]; omega
      have wv := uw (vS (L i)) (by omega) (by omega)
      have wr' := uw (rvaS L i) (by omega) (by omega)
      have ww := uw (rawS (L i)) (by omega) (by omega)
      have wa := uw (atS L i) (by omega) (by omega)
      have wg := uw (rightS (L i)) (by omega) (by omega)
      have wi : IntKind.u8.wrap (48 + (i : Int)) = 48 + i := by rw [IntKind.wrap_u8]; omega
      obtain ⟨R, hR⟩ : ∃ R : Nat, rawS (L i) = R := ⟨(rawS (L i)).toNat, by omega⟩
      have HRR := Lib.hid hR
      clear uw hpn
      go_wp2_with (go_fit (HRD.out _); rintro e w' ⟨rfl, rfl⟩)
      have HQ0 := Lib.hid ((HO.out.set p 115 (by omega) (by omega) (by omega)).set (p + 1) (48 + (i : Int)) (by omega) (by omega) (by omega))
      have HB0 := Lib.hid ((HB.out.setCell (p := ⟨g, p, none⟩) HO.out.le (.int .u8 115)).setCell (p := ⟨g, p + 1, none⟩) HO.out.le (.int .u8 (48 + (i : Int))))
      clear HO HB x0 x1 z0 z1
      refine (put_at w0.heap.size _ _ _ _ _ _ (p + 8) 4 (vS (L i)) _ HQ0.out HB0.out.size (by omega) rfl (by omega) (by omega) (by omega) (by omega) (by omega) (by omega)).mono ?_
      rintro e v1 ⟨h1, k1, rfl, ho, hb⟩
      have HQ1 := Lib.hid ho
      have HB1 := Lib.hid (HB0.out.trans (hb.mono HB0.out.size))
      clear ho hb HQ0 HB0
      go_wp2_with fail
      refine (put_at w0.heap.size _ _ _ _ _ _ (p + 12) 4 (rvaS L i) _ HQ1.out HB1.out.size (by omega) rfl (by omega) (by omega) (by omega) (by omega) (by omega) (by omega)).mono ?_
      rintro e v2 ⟨h2, k2, rfl, ho, hb⟩
      have HQ2 := Lib.hid ho
      have HB2 := Lib.hid (HB1.out.trans (hb.mono HB1.out.size))
      clear ho hb HQ1 HB1
      go_wp2_with fail
      refine (put_at w0.heap.size _ _ _ _ _ _ (p + 16) 4 (R : Int) _ HQ2.out HB2.out.size (by omega) rfl (by omega) (by omega) (by omega) (by omega) (by omega) (by omega)).mono ?_
      rintro e v3 ⟨h3, k3, rfl, ho, hb⟩
      have HQ3 := Lib.hid ho
      have HB3 := Lib.hid (HB2.out.trans (hb.mono HB2.out.size))
      clear ho hb HQ2 HB2
      go_wp2_with fail
      refine (put_at w0.heap.size _ _ _ _ _ _ (p + 20) 4 ((atS L i : Nat) : Int) _ HQ3.out HB3.out.size (by omega) rfl (by omega) (by omega) (by omega) (by omega) (by omega) (by omega)).mono ?_
      rintro e v4 ⟨h4, k4, rfl, ho, hb⟩
      have HQ4 := Lib.hid ho
      have HB4 := Lib.hid (HB3.out.trans (hb.mono HB3.out.size))
      clear ho hb HQ3 HB3
      have e2 : v4.cell? ⟨w.heap.size, i * 3 + 2, none⟩ = some (.int .i64 (L i).2.2) := (HB4.out.cell (p := ⟨w.heap.size, _, none⟩) HBLT.out).trans (HCLI.out 2 _ rfl)
      clear d0 d1 d2
      go_wp2_with fail
      refine (put_at w0.heap.size _ _ _ _ _ _ (p + 36) 4 (rightS (L i) * 536870912) _ HQ4.out HB4.out.size (by omega) rfl (by omega) (by omega) (by omega) (by omega) (by omega) (by omega)).mono ?_
      rintro e v5 ⟨h5, k5, rfl, ho, hb⟩
      have HQ5 := Lib.hid ho
      have HB5 := Lib.hid (HB4.out.trans (hb.mono HB4.out.size))
      clear ho hb HQ4 HB4
      clear e2
      go_wp2_with (at_make; refine wpList_makeC rfl _ _ rfl w0.heap.size .i64 .i64 R rfl rfl (by omega) HB5.out.size ?_; intro v6 ho hb hs)
      have HM := Lib.hid ho
      have HQ6 := Lib.hid (HQ5.out.below hb)
      have HB6 := Lib.hid (HB5.out.trans (hb.mono HB5.out.size))
      have HNE : Hid (h5 ≠ v5.heap.size) := Lib.hid (by have := HQ5.out.lt; omega)
      clear ho hb hs HQ5 HB5
      generalize v5.heap.size = gm at *
      go_loopw [14] (fun o14 wr => ∃ k : Nat, k ≤ R ∧ o14 = .int .i64 k ∧ OwnC wr w0.heap.size gm R R (fun q => if q < k then (7 * (q : Int) + i + 1) % 256 else 0) ∧ OwnC wr w0.heap.size h5 (atS L i) k5 (putI (putI (putI (putI (putI (setF (setF F p 115) (p + 1) (48 + i)) (p + 8) (vS (L i)) 4) (p + 12) (rvaS L i) 4) (p + 16) (R : Int) 4) (p + 20) (atS L i) 4) (p + 36) (rightS (L i) * 536870912) 4) ∧ Below w0.heap.size w0 wr) (fun o14 _ => R - (intOf o14).toNat)
      case atStart => exact ⟨0, by omega, rfl, HM.out.congr (fun q => by simp) (fun q _ => by simp), HQ6.out, HB6.out⟩
      case round =>
        obtain ⟨k, hk, rfl, ho, hq, hb⟩ := hrel
        have HM := Lib.hid ho
        have HQ := Lib.hid hq
        have HB := Lib.hid hb
        clear ho hq hb
        by_cases hkl : k < R
        · have hkl' : (k : Int) < R := by omega
          have x0 := HM.out.row k hkl
          rw [Nat.zero_add] at x0
          have z0 := (HM.out.wr k hkl).2
          have wk : IntKind.u8.wrap ((k : Int) * 7 + i + 1) = (7 * (k : Int) + i + 1) % 256 := by rw [IntKind.wrap_u8]; omega
          have hRb : R < 8192 := by omega
          go_wp2_with fail
          go_roundw
          case rel => exact ⟨k + 1, by omega, by go_num, (HM.out.set k ((7 * (k : Int) + i + 1) % 256) hkl (by omega) (by omega)).congr (fun q => by split <;> omega) (fun q hq => by
            unfold setF
            by_cases e : q = k
            · subst e; simp
            · rw [if_neg e]
              show (if q < k then (7 * (q : Int) + i + 1) % 256 else 0) = _
              by_cases e2 : q < k
              · rw [if_pos e2, if_pos (by omega)]
              · rw [if_neg e2, if_neg (by omega)]), HQ.out.of_block (by simp) (heap_setCell_other _ _ _ _ HNE.out), HB.out.setCell HM.out.le _⟩
          case measure => simp [intOf]; omega
        · obtain rfl : k = R := by omega
          go_wp2_with (at_builtin; refine wpList_appC rfl _ _ rfl HQ.out (.inr ⟨gm, 0, rfl, HM.out.lt, HM.out.row⟩) HM.out.by255 (by omega) HB.out.size rfl rfl ?_; intro g' cap' w' ho hb)
          have hsum : rvaS L (i + 1) = rvaS L i + fullS (L i) := rfl
          have hatn : atS L (i + 1) = atS L i + k := by simp only [atS]; rw [HRR.out]; rfl
          go_roundw
          case rel =>
            refine ⟨i + 1, g', cap', _, by omega, by rw [hatn], by rw [hsum], by go_num, by rw [hatn]; exact ho, ?_, HB.out.trans hb⟩
            have hn := HF.out.next (by omega) (fun q => if q < k then (7 * (q : Int) + i + 1) % 256 else 0) (fun q hq => if_pos (by rw [HRR.out] at hq; omega))
            unfold secF at hn
            rw [← HPN.out, HRR.out] at hn
            exact hn
          case measure => simp [intOf]; omega
    · obtain rfl : i = N := by omega
      have wr' : IntKind.u64.wrap (rvaS L i) = rvaS L i := by
        have := rvaS_bd L i
        rw [IntKind.wrap_u64]; omega
      have hrv := rvaS_bd L i
      have hat := atS_bd L i
      go_wp2_with fail
      refine (put_at w0.heap.size _ _ _ _ _ _ 144 4 (rvaS L i) _ HO.out HB.out.size rfl rfl (by omega) (by omega) (by omega) (by omega) (by omega) (by omega)).mono ?_
      rintro e w' ⟨g', c', rfl, ho, hb⟩
      have HO2 := Lib.hid ho
      have HB2 := Lib.hid (HB.out.trans (hb.mono HB.out.size))
      clear ho hb HO HB
      go_wp2_with fail
      go_loopw [6, 15] (fun o6 o15 wr => wr = w' ∧ o15 = .int .i64 0 ∧ o6 = .slice (some ⟨g', 0, none⟩) (atS L i) c') (fun _ _ _ => 0)
      case atStart => exact ⟨rfl, rfl, rfl⟩
      case round =>
        obtain ⟨rfl, rfl, rfl⟩ := hrel
        go_wp2_with fail
        go_ret
        have hN := HNN.out
        have hb0 := HBW.out
        have e1 : atS L 1 = atS L i := by rw [hN]
        have hm := HF.out.done hN2
        have e2 : MadeP L 1 (putI F 144 (rvaS L i) 4) := by have h := hm; rw [hN] at h ⊢; exact h
        exact ⟨g', c', _, by rw [e1]; rfl, by rw [e1]; exact HO2.out.weaken hb0.size, e2, hb0.trans (HB2.out.mono hb0.size)⟩
end Go.Proofs.YtplgdpjbkdagfaaGreat
