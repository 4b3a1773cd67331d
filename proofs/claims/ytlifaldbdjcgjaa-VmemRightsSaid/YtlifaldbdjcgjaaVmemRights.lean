/- law 3: each right is asked for by itself. -/
import Derived.Test.YtlifaldbdjcgjaaVright
import Derived.RegionTactic
import Derived.Deep.QuietTactic
import Derived.BigQuiet
namespace Go.Proofs.Ytlifaldbdjcgjaa
open Go.ChangeShapes Go.WideShapes Go.ChangeAt Go.RowKit
open Go.Maps (Keyed)
set_option linter.unusedVariables false

set_option maxRecDepth 100000 in
set_option maxHeartbeats 4000000 in
theorem rights_core (w : World) (a' b' at' : Int) (A : Option Addr) (n cap : Nat) (h : Nat → Int) (hl : n ≤ cap) (hc : cap ≤ 9223372036854775807) (hs : SlB w A n h) (hn1 : 1 ≤ n) (hn2 : n ≤ 200) :
    Calls Try.prog 8 #[.int .i64 a', .int .i64 b', .int .i64 at', .slice A n cap] w fun e w' => e = .returned (.bool true) ∧ Below w.heap.size w w' := by
  obtain ⟨a, ha⟩ : ∃ a, a' % 8 = a := ⟨_, rfl⟩
  obtain ⟨b, hb⟩ : ∃ b, b' % 8 = b := ⟨_, rfl⟩
  have hka := (and_7 a').trans ha
  have hkb := (and_7 b').trans hb
  have a0 : 0 ≤ a := by omega
  have a1 : a ≤ 7 := by omega
  have b0 : 0 ≤ b := by omega
  have b1 : b ≤ 7 := by omega
  have HS := Lib.hid hs
  clear ha hb hs
  go_enter Try.func8, Try.ntmps8
  go_upto_region 1 with fail
  go_region
  have cA : (((w.alloc (.cells #[.int .i64 a] 3)).alloc (.cells #[.int .i64 b] 3)).drew).cell? ⟨w.heap.size, 0, none⟩ = some (.int .i64 a) := by simp [go_sem]
  have cB : (((w.alloc (.cells #[.int .i64 a] 3)).alloc (.cells #[.int .i64 b] 3)).drew).cell? ⟨w.heap.size + 1, 0, none⟩ = some (.int .i64 b) := by simp [go_sem]
  have HB2 := Lib.hid ((((Below.refl w.heap.size w).alloc (Nat.le_refl _) (.cells #[.int .i64 a] 3)).alloc (by simp) (.cells #[.int .i64 b] 3)).drew)
  have HZ2 := Lib.hid (show w.heap.size + 1 < (((w.alloc (.cells #[.int .i64 a] 3)).alloc (.cells #[.int .i64 b] 3)).drew).heap.size by simp)
  generalize ((w.alloc (.cells #[.int .i64 a] 3)).alloc (.cells #[.int .i64 b] 3)).drew = w2 at *
  have CA := Lib.hid cA
  have CB := Lib.hid cB
  clear cA cB
  have hn1' : ((n : Int) == 0) = false := by rw [beq_eq_false_iff_ne]; omega
  have hn2' : ¬ (200 : Int) < n := by omega
  obtain ⟨I, hI⟩ : ∃ I, w.heap.size = I := ⟨_, rfl⟩
  have HI := Lib.hid hI
  rw [hI] at CA CB HB2 HZ2 ⊢
  clear hI
  have HSR := Lib.hid (show SrcR (· < w2.heap.size) w2 A n h by
    rcases HS.out with e | ⟨g, off, hA, hg, hr⟩
    · exact .inl e
    · exact .inr ⟨g, off, hA, Nat.lt_of_lt_of_le hg HB2.out.size, fun j hj => (HB2.out.cell (p := ⟨g, off + j, none⟩) (by rw [HI.out] at hg; exact hg)).trans (hr j hj)⟩)
  have HNM := Lib.hid (newMem_any (· < w2.heap.size) w2 2 (fun _ h => h) (by omega) (by omega))
  have hn200 : (n : Int) ≤ 200 := by omega
  have HLC := Lib.hid (And.intro hl (And.intro hc (And.intro hn1 hn2)))
  clear hl hc hn1 hn2
  go_wp2_with fail
  refine HNM.out.mono ?_
  rintro e w3 ⟨M, rfl, h3, k3⟩
  have H3 := Lib.hid h3
  have K3 := Lib.hid k3
  clear h3 k3
  go_upto_region 5 with fail
  have c1 := (K3.out.cell (p := ⟨I, 0, none⟩) (show I < w2.heap.size by have := HZ2.out; omega)).trans CA.out
  have HM1 := Lib.hid (map_core (· < w2.heap.size) w3 M 0 2 (fun _ => none) 8192 a 1 (by omega) ⟨by omega, by omega, by omega, by omega⟩ (by omega) (by omega) (fun _ _ => rfl) (by omega) H3.out)
  clear HNM
  go_wp2_with fail
  refine HM1.out.mono ?_
  rintro e w4 ⟨rfl, h4, k4⟩
  have H4 := Lib.hid (show MemAt (· < w2.heap.size) w4 M 1 2 (setP (fun _ => none) 8192 a 1) from h4)
  have K4 := Lib.hid (K3.out.trans k4)
  clear h4 k4 c1 HM1 H3 K3
  have c2 := (K4.out.cell (p := ⟨I + 1, 0, none⟩) (show I + 1 < w2.heap.size by have := HZ2.out; omega)).trans CB.out
  have HM2 := Lib.hid (map_core (· < w2.heap.size) w4 M 1 2 (setP (fun _ => none) 8192 a 1) 12288 b 1 (by omega) ⟨by omega, by omega, by omega, by omega⟩ (by omega) (by omega) (fun i hi => by
    obtain rfl : i = 0 := by omega
    show upd (fun _ => none) (8192 + ((0 : Nat) : Int) * 4096) _ (12288 + ((0 : Nat) : Int) * 4096) = none
    rw [upd_other _ _ (by decide)]) (by omega) H4.out)
  go_wp2_with fail
  refine HM2.out.mono ?_
  rintro e w5 ⟨rfl, h5, k5⟩
  have H5 := Lib.hid (show MemAt (· < w2.heap.size) w5 M 2 2 (setP (setP (fun _ => none) 8192 a 1) 12288 b 1) from h5)
  have K5 := Lib.hid (K4.out.trans k5)
  have HG := Lib.hid (G2.made a b a0 a1 b0 b1)
  clear h5 k5 c2 HM2 H4 K4
  have HZ := Lib.hid (fun x h0 h1 => made_zero a b x h0 h1)
  generalize setP (setP (fun _ => none) 8192 a 1) 12288 b 1 = mp at *
  obtain ⟨K, hK⟩ : ∃ K : Nat, at' % 65536 = K := ⟨(at' % 65536).toNat, by omega⟩
  have hKb := (and_65535 at').trans hK
  obtain ⟨T, hTm⟩ : ∃ T : Nat, K % (8192 - n) = T := ⟨_, rfl⟩
  have hT : Int.tmod (K : Int) (8192 - (n : Int)) = T := by
    rw [show (8192 - (n : Int)) = ((8192 - n : Nat) : Int) by have := HLC.out; omega, ← hTm]; rfl
  have hT2 : T + n ≤ 8192 := by
    have := Nat.mod_lt K (show 0 < 8192 - n by have := HLC.out; omega)
    omega
  have hT3 : (T : Int) + n ≤ 8192 := by omega
  have HT2 := Lib.hid hT2
  have hmf : ∀ (fn : Fn) (first cap : Array Value) (w : World), (Instr.makeFunc fn first cap).run Try.prog w = .ok (.func fn first cap) w := fun _ _ _ _ => rfl
  clear hTm hK hT2
  go_upto_region 11 with fail
  obtain ⟨F, hF⟩ : ∃ F, decide ((T : Int) < 4096) = F := ⟨_, rfl⟩
  obtain ⟨S, hS⟩ : ∃ S, decide ((4096 : Int) < (T : Int) + n) = S := ⟨_, rfl⟩
  rw [hF, hS]
  have HF := Lib.hid hF
  have HSS := Lib.hid hS
  clear hF hS
  have hb6 : Below w5.heap.size w5 ((w5.alloc (.cells #[.bool F] 4)).alloc (.cells #[.bool S] 4)) := ((Below.refl _ _).alloc (Nat.le_refl _) _).alloc (by simp) _
  have cF : ((w5.alloc (.cells #[.bool F] 4)).alloc (.cells #[.bool S] 4)).cell? ⟨w5.heap.size, 0, none⟩ = some (.bool F) := by simp [go_sem]
  have cS : ((w5.alloc (.cells #[.bool F] 4)).alloc (.cells #[.bool S] 4)).cell? ⟨w5.heap.size + 1, 0, none⟩ = some (.bool S) := by simp [go_sem]
  have hz6 : ((w5.alloc (.cells #[.bool F] 4)).alloc (.cells #[.bool S] 4)).heap.size = w5.heap.size + 2 := by simp
  have h6 := H5.out.more hb6
  have hla := (hb6.cell (p := ⟨I, 0, none⟩) (Nat.lt_of_lt_of_le (show I < w2.heap.size by have := HZ2.out; omega) K5.out.size)).trans ((K5.out.cell (p := ⟨I, 0, none⟩) (show I < w2.heap.size by have := HZ2.out; omega)).trans CA.out)
  have hlb := (hb6.cell (p := ⟨I + 1, 0, none⟩) (Nat.lt_of_lt_of_le (show I + 1 < w2.heap.size by have := HZ2.out; omega) K5.out.size)).trans ((K5.out.cell (p := ⟨I + 1, 0, none⟩) (show I + 1 < w2.heap.size by have := HZ2.out; omega)).trans CB.out)
  have HSR6 := Lib.hid (show SrcR (fun k => k < w2.heap.size ∨ (w5.heap.size ≤ k ∧ k < ((w5.alloc (.cells #[.bool F] 4)).alloc (.cells #[.bool S] 4)).heap.size)) ((w5.alloc (.cells #[.bool F] 4)).alloc (.cells #[.bool S] 4)) A n h by
    rcases HSR.out with e | ⟨g, off, hA, hg, hr⟩
    · exact .inl e
    · exact .inr ⟨g, off, hA, .inl hg, fun j hj => (hb6.cell (p := ⟨g, off + j, none⟩) (Nat.lt_of_lt_of_le hg K5.out.size)).trans ((K5.out.cell (p := ⟨g, off + j, none⟩) hg).trans (hr j hj))⟩)
  have K6 := Lib.hid (K5.out.trans (Kept.of_below hb6 (fun k hk => Nat.lt_of_lt_of_le hk K5.out.size)))
  have H6 := Lib.hid h6
  have HRR := Lib.hid (show (I < w2.heap.size ∧ I + 1 < w2.heap.size) ∧ ((w5.heap.size ≤ w5.heap.size ∧ w5.heap.size < ((w5.alloc (.cells #[.bool F] 4)).alloc (.cells #[.bool S] 4)).heap.size) ∧ (w5.heap.size ≤ w5.heap.size + 1 ∧ w5.heap.size + 1 < ((w5.alloc (.cells #[.bool F] 4)).alloc (.cells #[.bool S] 4)).heap.size)) by
    have := HZ2.out
    rw [hz6]
    refine ⟨⟨by omega, by omega⟩, ⟨by omega, by omega⟩, by omega, by omega⟩)
  clear hb6 h6 hz6 H5 K5 HSR
  generalize (w5.alloc (.cells #[.bool F] 4)).alloc (.cells #[.bool S] 4) = w6 at *
  generalize w5.heap.size = E at *
  obtain ⟨R, hR⟩ : ∃ R : Nat → Prop, (fun k => k < w2.heap.size ∨ (E ≤ k ∧ k < w6.heap.size)) = R := ⟨_, rfl⟩
  have HRF := Lib.hid (show (∀ k, k < w2.heap.size → R k) ∧ R I ∧ R (I + 1) ∧ R E ∧ R (E + 1) by
    rw [← hR]
    exact ⟨fun k hk => .inl hk, .inl HRR.out.1.1, .inl HRR.out.1.2, .inr HRR.out.2.1, .inr HRR.out.2.2⟩)
  rw [hR] at H6 HSR6
  clear hR HRR
  obtain ⟨p2, hp2⟩ : ∃ p, bits .and .i64 a 2 = p := ⟨_, rfl⟩
  obtain ⟨q2, hq2⟩ : ∃ q, bits .and .i64 b 2 = q := ⟨_, rfl⟩
  have HP2 := Lib.hid (And.intro hp2 hq2)
  clear hq2
  go_cut [76] from 71 (fun v76 wx => v76 = .bool (F && (p2 != 0)) ∧ wx = w6)
  case first =>
    cases F <;> (by_cases p0 : p2 = 0)
    all_goals
      have P0 := Lib.hid p0
      first | (have e1 : (p2 != 0) = false := by simp [p0]) | (have e1 : (p2 != 0) = true := by simp [p0])
      have E1 := Lib.hid e1
      clear p0
      go_wp2_with fail
      go_meet
      case rel => exact ⟨by first | rfl | (rw [E1.out]; rfl), rfl⟩
  case rest =>
   obtain ⟨rfl, rfl⟩ := hcut
   obtain ⟨c, hc76⟩ : ∃ c, (F && (p2 != 0)) = c := ⟨_, rfl⟩
   have HC76 := Lib.hid hc76
   rw [hc76]
   clear hc76
   go_upto_if 76 with fail
   go_cut [13] from 71 (fun v13 wx => v13 = .int .u64 (whereI F p2 T) ∧ wx = wc)
   case first =>
     cases c
     · have HW := Lib.hid (show whereI F p2 (T : Int) = 8192 + T by
         unfold whereI
         rw [if_neg]
         rintro ⟨e1, e2⟩
         have := HC76.out
         simp [e1, e2] at this)
       go_wp2_with fail
       go_meet
       case rel => exact ⟨by rw [HW.out], rfl⟩
     · have HW := Lib.hid (show whereI F p2 (T : Int) = 12288 by
         unfold whereI
         rw [if_pos]
         have := HC76.out
         simpa using this)
       go_wp2_with fail
       go_meet
       case rel => exact ⟨by rw [HW.out], rfl⟩
   case rest =>
    obtain ⟨rfl, rfl⟩ := hcut
    have HA := Lib.hid (show ∀ (mp' : Int → Option Pg), G2 mp' a b → ∀ (need kind p q : Int), bits .and .i64 a need = p → bits .and .i64 b need = q → askS mp' need kind n (8192 + T) n = if mayB F S p q = true then (0, 0, none) else (kind, whereI F p T, none) from fun mp' hg need kind p q hp hq => by
      have e := ask2 hg a0 a1 b0 b1 need kind p q hp hq T n n (by have := HLC.out; omega) (by have := HLC.out; omega) (HT2.out) (Nat.le_refl _)
      rw [HF.out, HSS.out] at e
      exact e)
    have HM := Lib.hid (fun (W : World) (hk : Kept R wc W) (r p q : Int) (hp : bits .and .i64 a r = p) (hq : bits .and .i64 b r = q) => may_any W E I (E + 1) (I + 1) F S a b r p q ((hk.cell (p := ⟨E, 0, none⟩) HRF.out.2.2.2.1).trans cF) ((hk.cell (p := ⟨I, 0, none⟩) HRF.out.2.1).trans hla) ((hk.cell (p := ⟨E + 1, 0, none⟩) HRF.out.2.2.2.2).trans cS) ((hk.cell (p := ⟨I + 1, 0, none⟩) HRF.out.2.2.1).trans hlb) hp hq)
    clear cF cS hla hlb HF HSS CA CB
    obtain ⟨mw, hmw⟩ : ∃ mw, mayB F S p2 q2 = mw := ⟨_, rfl⟩
    have HMW := Lib.hid hmw
    have hwr := write_m R wc M 2 2 mp (8192 + T) A n cap h (by omega) (by omega) (by have := HLC.out; omega) HLC.out.1 HLC.out.2.1 HSR6.out HG.out.prot H6.out (mayB F S p2 q2) (whereI F p2 T) (HA.out mp HG.out 2 3 p2 q2 HP2.out.1 HP2.out.2)
    rw [hmw] at hwr
    have HWR := Lib.hid hwr
    obtain ⟨wh, hwh⟩ : ∃ wh, whereI F p2 (T : Int) = wh := ⟨_, rfl⟩
    rw [hwh] at HWR ⊢
    clear hmw hwr hwh
    go_wp2_with fail
    refine HWR.out.mono ?_
    rintro e w7 ⟨rfl, h7, k7⟩
    have H7 := Lib.hid h7
    have K7 := Lib.hid k7
    clear h7 k7 HWR H6 HSR6
    cases mw
    · simp only [if_true, if_false, Bool.false_eq_true, reduceIte] at H7
      go_upto_region 14 with fail
      have HROW := Lib.hid (heap_alloc_new w7 (.cells #[.int .i64 3, .int .u64 wh] 45))
      have c0 : (w7.alloc (.cells #[.int .i64 3, .int .u64 wh] 45)).cell? ⟨w7.heap.size, 0, none⟩ = some (.int .i64 3) := by rw [cell_of_row _ _ _ _ _ _ HROW.out]; rfl
      have c1 : (w7.alloc (.cells #[.int .i64 3, .int .u64 wh] 45)).cell? ⟨w7.heap.size, 1, none⟩ = some (.int .u64 wh) := by rw [cell_of_row _ _ _ _ _ _ HROW.out]; rfl
      have hb8 : Below w7.heap.size w7 (w7.alloc (.cells #[.int .i64 3, .int .u64 wh] 45)) := (Below.refl _ _).alloc (Nat.le_refl _) _
      have H8 := Lib.hid (H7.out.below hb8)
      have K8 := Lib.hid (K7.out.trans (Kept.of_below hb8 (fun k hk => by obtain ⟨_, _, _, _, _, _, hlow⟩ := H7.out; exact hlow k hk)))
      generalize w7.alloc (.cells #[.int .i64 3, .int .u64 wh] 45) = w8 at *
      have HSD := Lib.hid (show ∃ d, w8.drew = w8.drewN d from ⟨1, rfl⟩)
      have HM2 := Lib.hid (fun (W : World) (hW : ∃ d, W = w8.drewN d) => (by
        obtain ⟨d, rfl⟩ := hW
        have e := HM.out (w8.drewN d) (K8.out.trans ⟨rfl, rfl, rfl, Nat.le_refl _, fun _ _ => rfl⟩) 2 p2 q2 HP2.out.1 HP2.out.2
        rw [HMW.out] at e
        exact e : Calls Try.prog 27 #[.int .i64 2, .pointer (some ⟨E, 0, none⟩), .pointer (some ⟨I, 0, none⟩), .pointer (some ⟨E + 1, 0, none⟩), .pointer (some ⟨I + 1, 0, none⟩)] W fun e w' => e = .returned (.bool false) ∧ W = w'))
      refine wp_region_noPanic ?_
      refine wp_region_K (fun W => ∃ d, W = w8.drewN d) (fun _ => True) 99 (by kernel_rfl) ?_
      refine wpAnyK_take (i := 0) (oi := ?_) (v := ?_) ?_ (by kernel_rfl) (by kernel_rfl) (by kernel_rfl) (fun _ _ _ h => h) (by decide) ?_ HSD.out (fun _ => trivial) ?_
      rotate_left 2
      · (simp only [List.getElem?_toArray, List.getElem?_cons_succ, List.getElem?_cons_zero]; rfl)
      · (first | exact Or.inr ⟨by rfl, rfl⟩ | (refine Or.inl ⟨by rfl, ?_⟩; intro W hSw; obtain ⟨d, rfl⟩ := hSw; go_simp; try with_reducible rfl))
      try simp only [Act.put, List.setIfInBounds_toArray, List.set_cons_zero, List.set_cons_succ]
      refine wpAnyK_takeQ (i := 1) (oi := ?_) (v := .bool false) ?_ (by kernel_rfl) (by kernel_rfl) (by kernel_rfl) (fun _ _ _ h => h) (by decide) ?_ HSD.out (fun _ => trivial) ?_
      rotate_left 1
      · (simp only [List.getElem?_toArray, List.getElem?_cons_succ, List.getElem?_cons_zero]; rfl)
      · refine ⟨by rfl, fun W hW => ⟨27, #[.int .i64 2, .pointer (some ⟨E, 0, none⟩), .pointer (some ⟨I, 0, none⟩), .pointer (some ⟨E + 1, 0, none⟩), .pointer (some ⟨I + 1, 0, none⟩)], ?_, HM2.out W hW⟩⟩
        first | kernel_rfl | (go_simp; done) | rfl
      try simp only [Act.put, List.setIfInBounds_toArray, List.set_cons_zero, List.set_cons_succ]
      refine wpAnyK_take (i := 2) (oi := ?_) (v := ?_) ?_ (by kernel_rfl) (by kernel_rfl) (by kernel_rfl) (fun _ _ _ h => h) (by decide) ?_ HSD.out (fun _ => trivial) ?_
      rotate_left 2
      · (simp only [List.getElem?_toArray, List.getElem?_cons_succ, List.getElem?_cons_zero]; rfl)
      · (first | exact Or.inr ⟨by rfl, rfl⟩ | (refine Or.inl ⟨by rfl, ?_⟩; intro W hSw; obtain ⟨d, rfl⟩ := hSw; go_simp; try with_reducible rfl))
      try simp only [Act.put, List.setIfInBounds_toArray, List.set_cons_zero, List.set_cons_succ]
      refine wpAnyK_take (i := 3) (oi := ?_) (v := ?_) ?_ (by kernel_rfl) (by kernel_rfl) (by kernel_rfl) (fun _ _ _ h => h) (by decide) ?_ HSD.out (fun _ => trivial) ?_
      rotate_left 2
      · (simp only [List.getElem?_toArray, List.getElem?_cons_succ, List.getElem?_cons_zero]; rfl)
      · (first | exact Or.inr ⟨by rfl, rfl⟩ | (refine Or.inl ⟨by rfl, ?_⟩; intro W hSw; obtain ⟨d, rfl⟩ := hSw; go_simp; try with_reducible rfl))
      try simp only [Act.put, List.setIfInBounds_toArray, List.set_cons_zero, List.set_cons_succ]
      refine wpAnyK_take (i := 4) (oi := ?_) (v := ?_) ?_ (by kernel_rfl) (by kernel_rfl) (by kernel_rfl) (fun _ _ _ h => h) (by decide) ?_ HSD.out (fun _ => trivial) ?_
      rotate_left 2
      · (simp only [List.getElem?_toArray, List.getElem?_cons_succ, List.getElem?_cons_zero]; rfl)
      · (first | exact Or.inr ⟨by rfl, rfl⟩ | (refine Or.inl ⟨by rfl, ?_⟩; intro W hSw; obtain ⟨d, rfl⟩ := hSw; go_simp; try with_reducible rfl))
      try simp only [Act.put, List.setIfInBounds_toArray, List.set_cons_zero, List.set_cons_succ]
      refine wpAnyK_take (i := 5) (oi := ?_) (v := ?_) ?_ (by kernel_rfl) (by kernel_rfl) (by kernel_rfl) (fun _ _ _ h => h) (by decide) ?_ HSD.out (fun _ => trivial) ?_
      rotate_left 2
      · (simp only [List.getElem?_toArray, List.getElem?_cons_succ, List.getElem?_cons_zero]; rfl)
      · (first | exact Or.inr ⟨by rfl, rfl⟩ | (refine Or.inl ⟨by rfl, ?_⟩; intro W hSw; obtain ⟨d, rfl⟩ := hSw; go_simp; try with_reducible rfl))
      try simp only [Act.put, List.setIfInBounds_toArray, List.set_cons_zero, List.set_cons_succ]
      refine wpAnyK_take (i := 6) (oi := ?_) (v := ?_) ?_ (by kernel_rfl) (by kernel_rfl) (by kernel_rfl) (fun _ _ _ h => h) (by decide) ?_ HSD.out (fun _ => trivial) ?_
      rotate_left 2
      · (simp only [List.getElem?_toArray, List.getElem?_cons_succ, List.getElem?_cons_zero]; rfl)
      · (first | exact Or.inr ⟨by rfl, rfl⟩ | (refine Or.inl ⟨by rfl, ?_⟩; intro W hSw; obtain ⟨d, rfl⟩ := hSw; go_simp; try with_reducible rfl))
      try simp only [Act.put, List.setIfInBounds_toArray, List.set_cons_zero, List.set_cons_succ]
      refine wpAnyK_take (i := 7) (oi := ?_) (v := ?_) ?_ (by kernel_rfl) (by kernel_rfl) (by kernel_rfl) (fun _ _ _ h => h) (by decide) ?_ HSD.out (fun _ => trivial) ?_
      rotate_left 2
      · (simp only [List.getElem?_toArray, List.getElem?_cons_succ, List.getElem?_cons_zero]; rfl)
      · (first | exact Or.inr ⟨by rfl, rfl⟩ | (refine Or.inl ⟨by rfl, ?_⟩; intro W hSw; obtain ⟨d, rfl⟩ := hSw; go_simp; try with_reducible rfl))
      try simp only [Act.put, List.setIfInBounds_toArray, List.set_cons_zero, List.set_cons_succ]
      refine wpAnyK_takeQ (i := 8) (oi := ?_) (v := .bool false) ?_ (by kernel_rfl) (by kernel_rfl) (by kernel_rfl) (fun _ _ _ h => h) (by decide) ?_ HSD.out (fun _ => trivial) ?_
      rotate_left 1
      · (simp only [List.getElem?_toArray, List.getElem?_cons_succ, List.getElem?_cons_zero]; rfl)
      · refine ⟨by rfl, fun W hW => ⟨27, #[.int .i64 2, .pointer (some ⟨E, 0, none⟩), .pointer (some ⟨I, 0, none⟩), .pointer (some ⟨E + 1, 0, none⟩), .pointer (some ⟨I + 1, 0, none⟩)], ?_, HM2.out W hW⟩⟩
        first | kernel_rfl | (go_simp; done) | rfl
      try simp only [Act.put, List.setIfInBounds_toArray, List.set_cons_zero, List.set_cons_succ]
      refine wpAnyK_take (i := 9) (oi := ?_) (v := ?_) ?_ (by kernel_rfl) (by kernel_rfl) (by kernel_rfl) (fun _ _ _ h => h) (by decide) ?_ HSD.out (fun _ => trivial) ?_
      rotate_left 2
      · (simp only [List.getElem?_toArray, List.getElem?_cons_succ, List.getElem?_cons_zero]; rfl)
      · (first | exact Or.inr ⟨by rfl, rfl⟩ | (refine Or.inl ⟨by rfl, ?_⟩; intro W hSw; obtain ⟨d, rfl⟩ := hSw; go_simp; try with_reducible rfl))
      try simp only [Act.put, List.setIfInBounds_toArray, List.set_cons_zero, List.set_cons_succ]
      refine wpAnyK_take (i := 10) (oi := ?_) (v := ?_) ?_ (by kernel_rfl) (by kernel_rfl) (by kernel_rfl) (fun _ _ _ h => h) (by decide) ?_ HSD.out (fun _ => trivial) ?_
      rotate_left 2
      · (simp only [List.getElem?_toArray, List.getElem?_cons_succ, List.getElem?_cons_zero]; rfl)
      · (first | exact Or.inr ⟨by rfl, rfl⟩ | (refine Or.inl ⟨by rfl, ?_⟩; intro W hSw; obtain ⟨d, rfl⟩ := hSw; go_simp; try with_reducible rfl))
      try simp only [Act.put, List.setIfInBounds_toArray, List.set_cons_zero, List.set_cons_succ]
      refine wpAnyK_take (i := 11) (oi := ?_) (v := ?_) ?_ (by kernel_rfl) (by kernel_rfl) (by kernel_rfl) (fun _ _ _ h => h) (by decide) ?_ HSD.out (fun _ => trivial) ?_
      rotate_left 2
      · (simp only [List.getElem?_toArray, List.getElem?_cons_succ, List.getElem?_cons_zero]; rfl)
      · refine yieldsIf_load_row_g 45 (.tmp 14) w7.heap.size 45 #[.int .i64 3, .int .u64 wh] (0, 0) ?_ ?_ ?_ ?_ ?_ ?_
        · rfl
        · rfl
        · rfl
        · exact fun W hW => by obtain ⟨d, rfl⟩ := hW; exact HROW.out
        · rfl
        · rfl
      try simp only [Act.put, List.setIfInBounds_toArray, List.set_cons_zero, List.set_cons_succ]
      refine wpAnyK_take (i := 12) (oi := ?_) (v := ?_) ?_ (by kernel_rfl) (by kernel_rfl) (by kernel_rfl) (fun _ _ _ h => h) (by decide) ?_ HSD.out (fun _ => trivial) ?_
      rotate_left 2
      · (simp only [List.getElem?_toArray, List.getElem?_cons_succ, List.getElem?_cons_zero]; rfl)
      · (first | exact Or.inr ⟨by rfl, rfl⟩ | (refine Or.inl ⟨by rfl, ?_⟩; intro W hSw; obtain ⟨d, rfl⟩ := hSw; go_simp; try with_reducible rfl))
      try simp only [Act.put, List.setIfInBounds_toArray, List.set_cons_zero, List.set_cons_succ]
      refine wpAnyK_take (i := 13) (oi := ?_) (v := ?_) ?_ (by kernel_rfl) (by kernel_rfl) (by kernel_rfl) (fun _ _ _ h => h) (by decide) ?_ HSD.out (fun _ => trivial) ?_
      rotate_left 2
      · (simp only [List.getElem?_toArray, List.getElem?_cons_succ, List.getElem?_cons_zero]; rfl)
      · (first | exact Or.inr ⟨by rfl, rfl⟩ | (refine Or.inl ⟨by rfl, ?_⟩; intro W hSw; obtain ⟨d, rfl⟩ := hSw; go_simp; try with_reducible rfl))
      try simp only [Act.put, List.setIfInBounds_toArray, List.set_cons_zero, List.set_cons_succ]
      refine wpAnyK_take (i := 14) (oi := ?_) (v := ?_) ?_ (by kernel_rfl) (by kernel_rfl) (by kernel_rfl) (fun _ _ _ h => h) (by decide) ?_ HSD.out (fun _ => trivial) ?_
      rotate_left 2
      · (simp only [List.getElem?_toArray, List.getElem?_cons_succ, List.getElem?_cons_zero]; rfl)
      · (first | exact Or.inr ⟨by rfl, rfl⟩ | (refine Or.inl ⟨by rfl, ?_⟩; intro W hSw; obtain ⟨d, rfl⟩ := hSw; go_simp; try with_reducible rfl))
      try simp only [Act.put, List.setIfInBounds_toArray, List.set_cons_zero, List.set_cons_succ]
      refine wpAnyK_take (i := 15) (oi := ?_) (v := ?_) ?_ (by kernel_rfl) (by kernel_rfl) (by kernel_rfl) (fun _ _ _ h => h) (by decide) ?_ HSD.out (fun _ => trivial) ?_
      rotate_left 2
      · (simp only [List.getElem?_toArray, List.getElem?_cons_succ, List.getElem?_cons_zero]; rfl)
      · (first | exact Or.inr ⟨by rfl, rfl⟩ | (refine Or.inl ⟨by rfl, ?_⟩; intro W hSw; obtain ⟨d, rfl⟩ := hSw; go_simp; try with_reducible rfl))
      try simp only [Act.put, List.setIfInBounds_toArray, List.set_cons_zero, List.set_cons_succ]
      refine wpAnyK_take (i := 16) (oi := ?_) (v := ?_) ?_ (by kernel_rfl) (by kernel_rfl) (by kernel_rfl) (fun _ _ _ h => h) (by decide) ?_ HSD.out (fun _ => trivial) ?_
      rotate_left 2
      · (simp only [List.getElem?_toArray, List.getElem?_cons_succ, List.getElem?_cons_zero]; rfl)
      · (first | exact Or.inr ⟨by rfl, rfl⟩ | (refine Or.inl ⟨by rfl, ?_⟩; intro W hSw; obtain ⟨d, rfl⟩ := hSw; go_simp; try with_reducible rfl))
      try simp only [Act.put, List.setIfInBounds_toArray, List.set_cons_zero, List.set_cons_succ]
      refine wpAnyK_done (by kernel_rfl) ?_ _
      refine NoPanic.normal ?_
      have H9 := Lib.hid (H8.out.drewN 1)
      have K9 := Lib.hid (K8.out.drew)
      have HG9 := Lib.hid (show G2 mp a b from HG.out)
      clear H8 K8 c0 c1 HROW hb8 HM2 HSD H7 K7
      have hd9 : w8.drewN 1 = w8.drew := rfl
      rw [hd9] at H9
      clear hd9
      generalize w8.drew = w9 at *
      have hn300 : (n : Int) ≤ 200 := by have := HLC.out; omega
      go_upto_region 17 with (at_make; refine wpList_make_bytes _ rfl (.tmp 101) (.tmp 101) 43 rfl 5 (.int .u8 0) 1 (by kernel_rfl) (by kernel_rfl) rfl .i64 .i64 n (by simp [Act.eval, Act.put]) (by simp [Act.eval, Act.put]) (by omega) (by omega) ?_; intro w10 hw10 ho10; have HW10 := Lib.hid hw10; have HO10 := Lib.hid ho10; clear hw10 ho10)
      have H10 := Lib.hid (H9.out.more HW10.out)
      have HG10 := Lib.hid (show w9.heap.size < w10.heap.size from HO10.out.1)
      have K10 := Lib.hid (K9.out.trans (Kept.of_below HW10.out (fun k hk => by obtain ⟨_, _, _, _, _, _, hlow⟩ := H9.out; exact hlow k hk)))
      have HMC := Lib.hid (HM.out w10 K10.out 2 p2 q2 HP2.out.1 HP2.out.2)
      rw [HMW.out] at HMC
      obtain ⟨R10, hR10⟩ : ∃ R' : Nat → Prop, (fun k => R k ∨ (w9.heap.size ≤ k ∧ k < w10.heap.size)) = R' := ⟨_, rfl⟩
      rw [hR10] at H10
      have HR10 := Lib.hid (show (∀ k, R k → R10 k) ∧ R10 w9.heap.size by rw [← hR10]; exact ⟨fun k hk => .inl hk, .inr ⟨Nat.le_refl _, HG10.out⟩⟩)
      clear hR10 H9 HW10
      have HWB := Lib.hid (show ∃ (wb off : Nat), (∀ (W : World), Kept R10 w10 W → ∀ j, j < n → W.cell? ⟨wb, off + j, none⟩ = some (.int .u8 ((fun _ => 0) j))) ∧ wb = w9.heap.size ∧ off = 0 by
        refine ⟨w9.heap.size, 0, fun W hk j hj => ?_, rfl, rfl⟩
        rw [Nat.zero_add, hk.cell (p := ⟨w9.heap.size, j, none⟩) HR10.out.2]
        exact HO10.out.cell hj)
      have HPK := Lib.hid (peek_yes R10 w10 M 2 2 mp (8192 + T) n (by omega) (by omega) (by have := HLC.out; omega) (HG9.out.in T n HT2.out) H10.out)
      go_wp2_with fail
      refine HMC.out.mono ?_
      rintro e w' ⟨rfl, rfl⟩
      go_wp2_with fail
      refine HPK.out.mono ?_
      rintro e w11 ⟨rfl, hb11, ho11⟩
      have H11 := Lib.hid (H10.out.more hb11)
      have K11 := Lib.hid (Kept.of_below (R := R10) hb11 (fun k hk => by obtain ⟨_, _, _, _, _, _, hlow⟩ := H10.out; exact hlow k hk))
      have HX11 := Lib.hid (ho11.congr (f' := fun q => .int .u8 ((fun _ => 0) q)) (fun q hq => by
        show Value.int .u8 (byteAt mp (8192 + T + q)) = _
        rw [show byteAt mp (8192 + T + q) = (fun _ => 0) q from HZ.out _ (by omega) (by have := HT2.out; omega)]))
      obtain ⟨R11, hR11⟩ : ∃ R' : Nat → Prop, (fun k => R10 k ∨ (w10.heap.size ≤ k ∧ k < w11.heap.size)) = R' := ⟨_, rfl⟩
      rw [hR11] at H11
      have HR11 := Lib.hid (show (∀ k, R10 k → R11 k) ∧ R11 w10.heap.size by rw [← hR11]; exact ⟨fun k hk => .inl hk, .inr ⟨Nat.le_refl _, ho11.1⟩⟩)
      clear hR11 hb11 ho11 HPK HMC
      obtain ⟨p1, hp1⟩ : ∃ p, bits .and .i64 a 1 = p := ⟨_, rfl⟩
      obtain ⟨q1, hq1⟩ : ∃ q, bits .and .i64 b 1 = q := ⟨_, rfl⟩
      obtain ⟨p4, hp4⟩ : ∃ p, bits .and .i64 a 4 = p := ⟨_, rfl⟩
      obtain ⟨q4, hq4⟩ : ∃ q, bits .and .i64 b 4 = q := ⟨_, rfl⟩
      have HP14 := Lib.hid (And.intro (And.intro hp1 hq1) (And.intro hp4 hq4))
      clear hp1 hq1 hp4 hq4
      have hrd := read_m R11 w11 M 2 2 mp (8192 + T) n (by omega) (by omega) (by have := HLC.out; omega) HG9.out.prot H11.out (mayB F S p1 q1) (whereI F p1 T) (HA.out _ HG9.out 1 2 p1 q1 HP14.out.1.1 HP14.out.1.2)
      obtain ⟨mr, hmr⟩ : ∃ mr, mayB F S p1 q1 = mr := ⟨_, rfl⟩
      rw [hmr] at hrd
      have HMR := Lib.hid hmr
      have HRD := Lib.hid hrd
      clear hmr hrd
      go_wp2_with fail
      refine HRD.out.mono ?_
      rintro e w12 ⟨v12, ad12, R12, rfl, hs12, h12, k12, hgot12⟩
      have H12 := Lib.hid h12
      have K12 := Lib.hid (K11.out.trans (k12.mono HR11.out.1))
      have HX12 := Lib.hid (k12.own HX11.out HR11.out.2)
      have HS12 := Lib.hid hs12
      have HGOT12 := Lib.hid hgot12
      clear h12 k12 hs12 hgot12 HRD H11 K11 HX11
      obtain ⟨kr, hkr⟩ : ∃ kr : Int, (if mr = true then (0 : Int) else 2) = kr := ⟨_, rfl⟩
      have HKR := Lib.hid (show (kr == 0) = mr by rw [← hkr]; cases mr <;> rfl)
      rw [hkr]
      clear hkr
      go_upto_region 21 with fail
      have hb13 : Below w12.heap.size w12 (w12.alloc (.cells #[.int .i64 kr, .int .u64 ad12] 45)) := (Below.refl _ _).alloc (Nat.le_refl _) _
      have hrow13 := heap_alloc_new w12 (.cells #[.int .i64 kr, .int .u64 ad12] 45)
      have H13 := Lib.hid (H12.out.more hb13)
      have hk13 := Kept.of_below (R := R12) hb13 (fun k hk => by obtain ⟨_, _, _, _, _, _, hlow⟩ := H12.out; exact hlow k hk)
      have K13 := Lib.hid (K12.out.trans (hk13.mono (fun k hk => HS12.out k (HR11.out.1 k hk))))
      have HX13 := Lib.hid (hk13.own HX12.out (HS12.out _ HR11.out.2))
      have HGOT13 := Lib.hid (show mr = true → ∃ g, v12 = .slice (some ⟨g, 0, none⟩) n n ∧ R12 g ∧ Own (w12.alloc (.cells #[.int .i64 kr, .int .u64 ad12] 45)) g n (fun q => .int .u8 (byteAt mp (8192 + T + q))) from fun hq0 => by
        obtain ⟨g, e1, e2, e3⟩ := HGOT12.out hq0
        exact ⟨g, e1, e2, hk13.own e3 e2⟩)
      have HE13 := Lib.hid (show w12.heap.size < (w12.alloc (.cells #[.int .i64 kr, .int .u64 ad12] 45)).heap.size by simp)
      have HROW13 := Lib.hid hrow13
      clear hb13 hk13 hrow13 H12 K12 HX12 HGOT12
      generalize w12.alloc (.cells #[.int .i64 kr, .int .u64 ad12] 45) = w13 at *
      obtain ⟨R13, hR13⟩ : ∃ R' : Nat → Prop, (fun k => R12 k ∨ (w12.heap.size ≤ k ∧ k < w13.heap.size)) = R' := ⟨_, rfl⟩
      rw [hR13] at H13
      have HR13 := Lib.hid (show (∀ k, R12 k → R13 k) ∧ R13 w12.heap.size by rw [← hR13]; exact ⟨fun k hk => .inl hk, .inr ⟨Nat.le_refl _, HE13.out⟩⟩)
      clear hR13
      generalize w12.heap.size = E2 at *
      have hrn := run_m R13 w13 M 2 2 mp (8192 + T) n (by omega) (by omega) (by have := HLC.out; omega) HG9.out.prot H13.out (mayB F S p4 q4) (whereI F p4 T) (HA.out _ HG9.out 4 4 p4 q4 HP14.out.2.1 HP14.out.2.2)
      obtain ⟨mx, hmx⟩ : ∃ mx, mayB F S p4 q4 = mx := ⟨_, rfl⟩
      rw [hmx] at hrn
      have HMX := Lib.hid hmx
      have HRN := Lib.hid hrn
      clear hmx hrn
      go_wp2_with fail
      refine HRN.out.mono ?_
      rintro e w14 ⟨v14, ad14, R14, rfl, hs14, h14, k14, hgot14⟩
      have K14 := Lib.hid (K13.out.trans (k14.mono (fun k hk => HR13.out.1 k (HS12.out k (HR11.out.1 k hk)))))
      have HX14 := Lib.hid (k14.own HX13.out (HR13.out.1 _ (HS12.out _ HR11.out.2)))
      have HROW14 := Lib.hid ((k14.block E2 HR13.out.2).trans HROW13.out)
      have HGOT14 := Lib.hid (show mr = true → ∃ g, v12 = .slice (some ⟨g, 0, none⟩) n n ∧ Own w14 g n (fun q => .int .u8 (byteAt mp (8192 + T + q))) from fun hq0 => by
        obtain ⟨g, e1, e2, e3⟩ := HGOT13.out hq0
        exact ⟨g, e1, k14.own e3 (HR13.out.1 g e2)⟩)
      have HGX14 := Lib.hid (show mx = true → ∃ g, v14 = .slice (some ⟨g, 0, none⟩) n n ∧ Own w14 g n (fun q => .int .u8 (byteAt mp (8192 + T + q))) from fun hq0 => by
        obtain ⟨g, e1, e2, e3⟩ := hgot14 hq0
        exact ⟨g, e1, e3⟩)
      clear h14 k14 hs14 hgot14 HRN H13 K13 HX13 HGOT13 HROW13
      obtain ⟨kx, hkx⟩ : ∃ kx : Int, (if mx = true then (0 : Int) else 4) = kx := ⟨_, rfl⟩
      have HKX := Lib.hid (show (kx == 0) = mx by rw [← hkx]; cases mx <;> rfl)
      rw [hkx]
      clear hkx
      go_upto_region 22 with fail
      have hb15 : Below w14.heap.size w14 (w14.alloc (.cells #[.int .i64 kx, .int .u64 ad14] 45)) := (Below.refl _ _).alloc (Nat.le_refl _) _
      have hrow15 := heap_alloc_new w14 (.cells #[.int .i64 kx, .int .u64 ad14] 45)
      have cX : (w14.alloc (.cells #[.int .i64 kx, .int .u64 ad14] 45)).cell? ⟨w14.heap.size, 0, none⟩ = some (.int .i64 kx) := by rw [cell_of_row _ _ _ _ _ _ hrow15]; rfl
      have cR : (w14.alloc (.cells #[.int .i64 kx, .int .u64 ad14] 45)).cell? ⟨E2, 0, none⟩ = some (.int .i64 kr) := by
        rw [hb15.cell (p := ⟨E2, 0, none⟩) (Array.getElem?_eq_some_iff.1 HROW14.out).1, cell_of_row _ _ _ _ _ _ HROW14.out]; rfl
      have HX15 := Lib.hid (HX14.out.below hb15 HX14.out.1)
      have K15 := Lib.hid (K14.out.trans (Kept.of_below (R := R10) hb15 (fun k hk => by
        obtain ⟨_, _, _, _, _, _, hlow⟩ := H10.out
        exact Nat.lt_of_lt_of_le (hlow k hk) K14.out.size)))
      have HG15 := Lib.hid (show mr = true → ∃ g, v12 = .slice (some ⟨g, 0, none⟩) n n ∧ Own (w14.alloc (.cells #[.int .i64 kx, .int .u64 ad14] 45)) g n (fun q => .int .u8 (byteAt mp (8192 + T + q))) from fun hq0 => by
        obtain ⟨g, e1, e3⟩ := HGOT14.out hq0
        exact ⟨g, e1, e3.below hb15 e3.1⟩)
      have HGX15 := Lib.hid (show mx = true → ∃ g, v14 = .slice (some ⟨g, 0, none⟩) n n ∧ Own (w14.alloc (.cells #[.int .i64 kx, .int .u64 ad14] 45)) g n (fun q => .int .u8 (byteAt mp (8192 + T + q))) from fun hq0 => by
        obtain ⟨g, e1, e3⟩ := HGX14.out hq0
        exact ⟨g, e1, e3.below hb15 e3.1⟩)
      clear hb15 hrow15 H10 HX14 K14 HGOT14 HGX14 HROW14
      generalize w14.alloc (.cells #[.int .i64 kx, .int .u64 ad14] 45) = w15 at *
      generalize w14.heap.size = E3 at *
      obtain ⟨wb, off, hwb, hwb2⟩ := HWB.out
      have hsx : ∀ (d : Nat), (convert 43 9 (.slice (some ⟨w10.heap.size, 0, none⟩) n n)).run Try.prog (w15.drewN d) = .ok (.string (strF (fun _ => 0) 0 n)) (w15.drewN d) := fun d =>
        run_str (f := (fun _ => 0)) (fun i hi => by rw [Nat.zero_add]; exact HX15.out.cell hi)
      have hsw : ∀ (d c : Nat), (convert 43 9 (.slice (some ⟨wb, off, none⟩) n c)).run Try.prog (w15.drewN d) = .ok (.string (strF (fun _ => 0) 0 n)) (w15.drewN d) := fun d c =>
        run_str (f := (fun _ => 0)) (fun i hi => hwb _ (K15.out.trans ⟨rfl, rfl, rfl, Nat.le_refl _, fun _ _ => rfl⟩) i hi)
      have HHH := Lib.hid (show ∀ q, q < n → byteAt mp (8192 + T + q) = (fun _ => 0) q from fun q hq => by rw [HZ.out _ (by omega) (by have := HT2.out; omega)])
      have HGY := Lib.hid (show mr = true → ∃ g, v12 = .slice (some ⟨g, 0, none⟩) n n ∧ ∀ (d : Nat), (convert 43 9 (.slice (some ⟨g, 0, none⟩) n n)).run Try.prog (w15.drewN d) = .ok (.string (strF (fun _ => 0) 0 n)) (w15.drewN d) from fun hq0 => by
        obtain ⟨g, e1, e3⟩ := HG15.out hq0
        exact ⟨g, e1, fun d => run_str (f := (fun _ => 0)) (fun i hi => by rw [Nat.zero_add, ← HHH.out i hi]; exact e3.cell hi)⟩)
      have HGZ := Lib.hid (show mx = true → ∃ g, v14 = .slice (some ⟨g, 0, none⟩) n n ∧ ∀ (d : Nat), (convert 43 9 (.slice (some ⟨g, 0, none⟩) n n)).run Try.prog (w15.drewN d) = .ok (.string (strF (fun _ => 0) 0 n)) (w15.drewN d) from fun hq0 => by
        obtain ⟨g, e1, e3⟩ := HGX15.out hq0
        exact ⟨g, e1, fun d => run_str (f := (fun _ => 0)) (fun i hi => by rw [Nat.zero_add, ← HHH.out i hi]; exact e3.cell hi)⟩)
      have HSD := Lib.hid (show ∃ d, w15.drew = w15.drewN d from ⟨1, rfl⟩)
      have hmq : ∀ (r p q : Int) (c : Bool), bits .and .i64 a r = p → bits .and .i64 b r = q → mayB F S p q = c → ∀ (W : World) (hW : ∃ d, W = w15.drewN d), Calls Try.prog 27 #[.int .i64 r, .pointer (some ⟨E, 0, none⟩), .pointer (some ⟨I, 0, none⟩), .pointer (some ⟨E + 1, 0, none⟩), .pointer (some ⟨I + 1, 0, none⟩)] W fun e w' => e = .returned (.bool c) ∧ W = w' := fun r p q c hp hq hc W hW => by
        obtain ⟨d, rfl⟩ := hW
        have e := HM.out (w15.drewN d) ((K10.out.trans (K15.out.mono HR10.out.1)).trans ⟨rfl, rfl, rfl, Nat.le_refl _, fun _ _ => rfl⟩) r p q hp hq
        rw [hc] at e
        exact e
      have HMR1 := Lib.hid (hmq 1 p1 q1 mr HP14.out.1.1 HP14.out.1.2 HMR.out)
      have HMX4 := Lib.hid (hmq 4 p4 q4 mx HP14.out.2.1 HP14.out.2.2 HMX.out)
      clear hmq
      obtain ⟨rfl, rfl⟩ := hwb2
      generalize strF (fun _ => 0) 0 n = TW at *
      have ekr := HKR.out
      have ekx := HKX.out
      refine wp_region_noPanic ?_
      refine wp_region_K (fun W => ∃ d, W = w15.drewN d) (fun _ => True) 99 (by kernel_rfl) ?_
      refine wpAnyK_take (i := 0) (oi := ?_) (v := ?_) ?_ (by kernel_rfl) (by kernel_rfl) (by kernel_rfl) (fun _ _ _ h => h) (by decide) ?_ HSD.out (fun _ => trivial) ?_
      rotate_left 2
      · (simp only [List.getElem?_toArray, List.getElem?_cons_succ, List.getElem?_cons_zero]; rfl)
      · (refine Or.inl ⟨by rfl, ?_⟩; intro W hSw; obtain ⟨d, rfl⟩ := hSw; go_simp; try with_reducible rfl)
      try simp only [Act.put, List.setIfInBounds_toArray, List.set_cons_zero, List.set_cons_succ]
      refine wpAnyK_take (i := 1) (oi := ?_) (v := ?_) ?_ (by kernel_rfl) (by kernel_rfl) (by kernel_rfl) (fun _ _ _ h => h) (by decide) ?_ HSD.out (fun _ => trivial) ?_
      rotate_left 2
      · (simp only [List.getElem?_toArray, List.getElem?_cons_succ, List.getElem?_cons_zero]; rfl)
      · (refine Or.inl ⟨by rfl, ?_⟩; intro W hSw; obtain ⟨d, rfl⟩ := hSw; go_simp; try with_reducible rfl)
      try simp only [Act.put, List.setIfInBounds_toArray, List.set_cons_zero, List.set_cons_succ]
      refine wpAnyK_take (i := 2) (oi := ?_) (v := ?_) ?_ (by kernel_rfl) (by kernel_rfl) (by kernel_rfl) (fun _ _ _ h => h) (by decide) ?_ HSD.out (fun _ => trivial) ?_
      rotate_left 2
      · (simp only [List.getElem?_toArray, List.getElem?_cons_succ, List.getElem?_cons_zero]; rfl)
      · (refine Or.inl ⟨by rfl, ?_⟩; intro W hSw; obtain ⟨d, rfl⟩ := hSw; go_simp; try with_reducible rfl)
      try simp only [Act.put, List.setIfInBounds_toArray, List.set_cons_zero, List.set_cons_succ]
      refine wpAnyK_take (i := 3) (oi := ?_) (v := ?_) ?_ (by kernel_rfl) (by kernel_rfl) (by kernel_rfl) (fun _ _ _ h => h) (by decide) ?_ HSD.out (fun _ => trivial) ?_
      rotate_left 2
      · (simp only [List.getElem?_toArray, List.getElem?_cons_succ, List.getElem?_cons_zero]; rfl)
      · (refine Or.inl ⟨by rfl, ?_⟩; intro W hSw; obtain ⟨d, rfl⟩ := hSw; go_simp; try with_reducible rfl)
      try simp only [Act.put, List.setIfInBounds_toArray, List.set_cons_zero, List.set_cons_succ]
      refine wpAnyK_take (i := 4) (oi := ?_) (v := ?_) ?_ (by kernel_rfl) (by kernel_rfl) (by kernel_rfl) (fun _ _ _ h => h) (by decide) ?_ HSD.out (fun _ => trivial) ?_
      rotate_left 2
      · (simp only [List.getElem?_toArray, List.getElem?_cons_succ, List.getElem?_cons_zero]; rfl)
      · (refine Or.inl ⟨by rfl, ?_⟩; intro W hSw; obtain ⟨d, rfl⟩ := hSw; go_simp; try with_reducible rfl)
      try simp only [Act.put, List.setIfInBounds_toArray, List.set_cons_zero, List.set_cons_succ]
      refine wpAnyK_take (i := 5) (oi := ?_) (v := ?_) ?_ (by kernel_rfl) (by kernel_rfl) (by kernel_rfl) (fun _ _ _ h => h) (by decide) ?_ HSD.out (fun _ => trivial) ?_
      rotate_left 2
      · (simp only [List.getElem?_toArray, List.getElem?_cons_succ, List.getElem?_cons_zero]; rfl)
      · (refine Or.inl ⟨by rfl, ?_⟩; intro W hSw; obtain ⟨d, rfl⟩ := hSw; go_simp; try with_reducible rfl)
      try simp only [Act.put, List.setIfInBounds_toArray, List.set_cons_zero, List.set_cons_succ]
      refine wpAnyK_take (i := 6) (oi := ?_) (v := ?_) ?_ (by kernel_rfl) (by kernel_rfl) (by kernel_rfl) (fun _ _ _ h => h) (by decide) ?_ HSD.out (fun _ => trivial) ?_
      rotate_left 2
      · (simp only [List.getElem?_toArray, List.getElem?_cons_succ, List.getElem?_cons_zero]; rfl)
      · (refine Or.inl ⟨by rfl, ?_⟩; intro W hSw; obtain ⟨d, rfl⟩ := hSw; go_simp; try with_reducible rfl)
      try simp only [Act.put, List.setIfInBounds_toArray, List.set_cons_zero, List.set_cons_succ]
      refine wpAnyK_take (i := 7) (oi := ?_) (v := ?_) ?_ (by kernel_rfl) (by kernel_rfl) (by kernel_rfl) (fun _ _ _ h => h) (by decide) ?_ HSD.out (fun _ => trivial) ?_
      rotate_left 2
      · (simp only [List.getElem?_toArray, List.getElem?_cons_succ, List.getElem?_cons_zero]; rfl)
      · (refine Or.inl ⟨by rfl, ?_⟩; intro W hSw; obtain ⟨d, rfl⟩ := hSw; go_simp; try with_reducible rfl)
      try simp only [Act.put, List.setIfInBounds_toArray, List.set_cons_zero, List.set_cons_succ]
      refine wpAnyK_take (i := 8) (oi := ?_) (v := ?_) ?_ (by kernel_rfl) (by kernel_rfl) (by kernel_rfl) (fun _ _ _ h => h) (by decide) ?_ HSD.out (fun _ => trivial) ?_
      rotate_left 2
      · (simp only [List.getElem?_toArray, List.getElem?_cons_succ, List.getElem?_cons_zero]; rfl)
      · (refine Or.inl ⟨by rfl, ?_⟩; intro W hSw; obtain ⟨d, rfl⟩ := hSw; go_simp; try with_reducible rfl)
      try simp only [Act.put, List.setIfInBounds_toArray, List.set_cons_zero, List.set_cons_succ]
      refine wpAnyK_take (i := 9) (oi := ?_) (v := ?_) ?_ (by kernel_rfl) (by kernel_rfl) (by kernel_rfl) (fun _ _ _ h => h) (by decide) ?_ HSD.out (fun _ => trivial) ?_
      rotate_left 2
      · (simp only [List.getElem?_toArray, List.getElem?_cons_succ, List.getElem?_cons_zero]; rfl)
      · (refine Or.inl ⟨by rfl, ?_⟩; intro W hSw; obtain ⟨d, rfl⟩ := hSw; go_simp; try with_reducible rfl)
      try simp only [Act.put, List.setIfInBounds_toArray, List.set_cons_zero, List.set_cons_succ]
      refine wpAnyK_take (i := 10) (oi := ?_) (v := ?_) ?_ (by kernel_rfl) (by kernel_rfl) (by kernel_rfl) (fun _ _ _ h => h) (by decide) ?_ HSD.out (fun _ => trivial) ?_
      rotate_left 2
      · (simp only [List.getElem?_toArray, List.getElem?_cons_succ, List.getElem?_cons_zero]; rfl)
      · (refine Or.inl ⟨by rfl, ?_⟩; intro W hSw; obtain ⟨d, rfl⟩ := hSw; go_simp; try with_reducible rfl)
      try simp only [Act.put, List.setIfInBounds_toArray, List.set_cons_zero, List.set_cons_succ]
      refine wpAnyK_take (i := 11) (oi := ?_) (v := ?_) ?_ (by kernel_rfl) (by kernel_rfl) (by kernel_rfl) (fun _ _ _ h => h) (by decide) ?_ HSD.out (fun _ => trivial) ?_
      rotate_left 2
      · (simp only [List.getElem?_toArray, List.getElem?_cons_succ, List.getElem?_cons_zero]; rfl)
      · (refine Or.inl ⟨by rfl, ?_⟩; intro W hSw; obtain ⟨d, rfl⟩ := hSw; go_simp; try with_reducible rfl)
      try simp only [Act.put, List.setIfInBounds_toArray, List.set_cons_zero, List.set_cons_succ]
      refine wpAnyK_take (i := 12) (oi := ?_) (v := ?_) ?_ (by kernel_rfl) (by kernel_rfl) (by kernel_rfl) (fun _ _ _ h => h) (by decide) ?_ HSD.out (fun _ => trivial) ?_
      rotate_left 2
      · (simp only [List.getElem?_toArray, List.getElem?_cons_succ, List.getElem?_cons_zero]; rfl)
      · (refine Or.inl ⟨by rfl, ?_⟩; intro W hSw; obtain ⟨d, rfl⟩ := hSw; go_simp; try with_reducible rfl)
      try simp only [Act.put, List.setIfInBounds_toArray, List.set_cons_zero, List.set_cons_succ]
      refine wpAnyK_take (i := 13) (oi := ?_) (v := ?_) ?_ (by kernel_rfl) (by kernel_rfl) (by kernel_rfl) (fun _ _ _ h => h) (by decide) ?_ HSD.out (fun _ => trivial) ?_
      rotate_left 2
      · (simp only [List.getElem?_toArray, List.getElem?_cons_succ, List.getElem?_cons_zero]; rfl)
      · (refine Or.inl ⟨by rfl, ?_⟩; intro W hSw; obtain ⟨d, rfl⟩ := hSw; go_simp; try with_reducible rfl)
      try simp only [Act.put, List.setIfInBounds_toArray, List.set_cons_zero, List.set_cons_succ]
      refine wpAnyK_takeQ (i := 14) (oi := ?_) (v := .bool mr) ?_ (by kernel_rfl) (by kernel_rfl) (by kernel_rfl) (fun _ _ _ h => h) (by decide) ?_ HSD.out (fun _ => trivial) ?_
      rotate_left 1
      · (simp only [List.getElem?_toArray, List.getElem?_cons_succ, List.getElem?_cons_zero]; rfl)
      · refine ⟨by rfl, fun W hW => ⟨27, #[.int .i64 1, .pointer (some ⟨E, 0, none⟩), .pointer (some ⟨I, 0, none⟩), .pointer (some ⟨E + 1, 0, none⟩), .pointer (some ⟨I + 1, 0, none⟩)], ?_, HMR1.out W hW⟩⟩
        first | kernel_rfl | (go_simp; done) | rfl
      try simp only [Act.put, List.setIfInBounds_toArray, List.set_cons_zero, List.set_cons_succ]
      refine wpAnyK_take (i := 15) (oi := ?_) (v := ?_) ?_ (by kernel_rfl) (by kernel_rfl) (by kernel_rfl) (fun _ _ _ h => h) (by decide) ?_ HSD.out (fun _ => trivial) ?_
      rotate_left 2
      · (simp only [List.getElem?_toArray, List.getElem?_cons_succ, List.getElem?_cons_zero]; rfl)
      · (refine Or.inl ⟨by rfl, ?_⟩; intro W hSw; obtain ⟨d, rfl⟩ := hSw; go_simp; try with_reducible rfl)
      try simp only [Act.put, List.setIfInBounds_toArray, List.set_cons_zero, List.set_cons_succ]
      refine wpAnyK_take (i := 16) (oi := ?_) (v := ?_) ?_ (by kernel_rfl) (by kernel_rfl) (by kernel_rfl) (fun _ _ _ h => h) (by decide) ?_ HSD.out (fun _ => trivial) ?_
      rotate_left 2
      · (simp only [List.getElem?_toArray, List.getElem?_cons_succ, List.getElem?_cons_zero]; rfl)
      · (refine Or.inl ⟨by rfl, ?_⟩; intro W hSw; obtain ⟨d, rfl⟩ := hSw; go_simp; try with_reducible rfl)
      try simp only [Act.put, List.setIfInBounds_toArray, List.set_cons_zero, List.set_cons_succ]
      refine wpAnyK_take (i := 17) (oi := ?_) (v := ?_) ?_ (by kernel_rfl) (by kernel_rfl) (by kernel_rfl) (fun _ _ _ h => h) (by decide) ?_ HSD.out (fun _ => trivial) ?_
      rotate_left 2
      · (simp only [List.getElem?_toArray, List.getElem?_cons_succ, List.getElem?_cons_zero]; rfl)
      · (refine Or.inl ⟨by rfl, ?_⟩; intro W hSw; obtain ⟨d, rfl⟩ := hSw; go_simp; try with_reducible rfl)
      try simp only [Act.put, List.setIfInBounds_toArray, List.set_cons_zero, List.set_cons_succ]
      refine wpAnyK_take (i := 18) (oi := ?_) (v := ?_) ?_ (by kernel_rfl) (by kernel_rfl) (by kernel_rfl) (fun _ _ _ h => h) (by decide) ?_ HSD.out (fun _ => trivial) ?_
      rotate_left 2
      · (simp only [List.getElem?_toArray, List.getElem?_cons_succ, List.getElem?_cons_zero]; rfl)
      · (refine Or.inl ⟨by rfl, ?_⟩; intro W hSw; obtain ⟨d, rfl⟩ := hSw; go_simp; try with_reducible rfl)
      try simp only [Act.put, List.setIfInBounds_toArray, List.set_cons_zero, List.set_cons_succ]
      refine wpAnyK_take (i := 19) (oi := ?_) (v := ?_) ?_ (by kernel_rfl) (by kernel_rfl) (by kernel_rfl) (fun _ _ _ h => h) (by decide) ?_ HSD.out (fun _ => trivial) ?_
      rotate_left 2
      · (simp only [List.getElem?_toArray, List.getElem?_cons_succ, List.getElem?_cons_zero]; rfl)
      · (refine Or.inl ⟨by rfl, ?_⟩; intro W hSw; obtain ⟨d, rfl⟩ := hSw; go_simp; try with_reducible rfl)
      try simp only [Act.put, List.setIfInBounds_toArray, List.set_cons_zero, List.set_cons_succ]
      refine wpAnyK_take (i := 20) (oi := ?_) (v := ?_) ?_ (by kernel_rfl) (by kernel_rfl) (by kernel_rfl) (fun _ _ _ h => h) (by decide) ?_ HSD.out (fun _ => trivial) ?_
      rotate_left 2
      · (simp only [List.getElem?_toArray, List.getElem?_cons_succ, List.getElem?_cons_zero]; rfl)
      · (refine Or.inl ⟨by rfl, ?_⟩; intro W hSw; obtain ⟨d, rfl⟩ := hSw; go_simp; try with_reducible rfl)
      try simp only [Act.put, List.setIfInBounds_toArray, List.set_cons_zero, List.set_cons_succ]
      refine wpAnyK_take (i := 21) (oi := ?_) (v := ?_) ?_ (by kernel_rfl) (by kernel_rfl) (by kernel_rfl) (fun _ _ _ h => h) (by decide) ?_ HSD.out (fun _ => trivial) ?_
      rotate_left 2
      · (simp only [List.getElem?_toArray, List.getElem?_cons_succ, List.getElem?_cons_zero]; rfl)
      · (refine Or.inl ⟨by rfl, ?_⟩; intro W hSw; obtain ⟨d, rfl⟩ := hSw; go_simp; try with_reducible rfl)
      try simp only [Act.put, List.setIfInBounds_toArray, List.set_cons_zero, List.set_cons_succ]
      refine wpAnyK_takeQ (i := 22) (oi := ?_) (v := .bool mx) ?_ (by kernel_rfl) (by kernel_rfl) (by kernel_rfl) (fun _ _ _ h => h) (by decide) ?_ HSD.out (fun _ => trivial) ?_
      rotate_left 1
      · (simp only [List.getElem?_toArray, List.getElem?_cons_succ, List.getElem?_cons_zero]; rfl)
      · refine ⟨by rfl, fun W hW => ⟨27, #[.int .i64 4, .pointer (some ⟨E, 0, none⟩), .pointer (some ⟨I, 0, none⟩), .pointer (some ⟨E + 1, 0, none⟩), .pointer (some ⟨I + 1, 0, none⟩)], ?_, HMX4.out W hW⟩⟩
        first | kernel_rfl | (go_simp; done) | rfl
      try simp only [Act.put, List.setIfInBounds_toArray, List.set_cons_zero, List.set_cons_succ]
      refine wpAnyK_take (i := 23) (oi := ?_) (v := ?_) ?_ (by kernel_rfl) (by kernel_rfl) (by kernel_rfl) (fun _ _ _ h => h) (by decide) ?_ HSD.out (fun _ => trivial) ?_
      rotate_left 2
      · (simp only [List.getElem?_toArray, List.getElem?_cons_succ, List.getElem?_cons_zero]; rfl)
      · (refine Or.inl ⟨by rfl, ?_⟩; intro W hSw; obtain ⟨d, rfl⟩ := hSw; go_simp; try with_reducible rfl)
      try simp only [Act.put, List.setIfInBounds_toArray, List.set_cons_zero, List.set_cons_succ]
      refine wpAnyK_take (i := 24) (oi := ?_) (v := ?_) ?_ (by kernel_rfl) (by kernel_rfl) (by kernel_rfl) (fun _ _ _ h => h) (by decide) ?_ HSD.out (fun _ => trivial) ?_
      rotate_left 2
      · (simp only [List.getElem?_toArray, List.getElem?_cons_succ, List.getElem?_cons_zero]; rfl)
      · (refine Or.inl ⟨by rfl, ?_⟩; intro W hSw; obtain ⟨d, rfl⟩ := hSw; go_simp; try with_reducible rfl)
      try simp only [Act.put, List.setIfInBounds_toArray, List.set_cons_zero, List.set_cons_succ]
      refine wpAnyK_done (by kernel_rfl) ?_ _
      refine NoPanic.normal ?_
      have ekr2 : (kr != 0) = !mr := by rw [← HKR.out]; rfl
      have ekx2 : (kx != 0) = !mx := by rw [← HKX.out]; rfl
      have hx1 := hsx 1
      have hw1 := hsw 1
      have cR16 : w15.drew.cell? ⟨E2, 0, none⟩ = some (.int .i64 kr) := cR
      have cX16 : w15.drew.cell? ⟨E3, 0, none⟩ = some (.int .i64 kx) := cX
      have HBE := Lib.hid (show Below I w w15.drew from HB2.out.trans ((((K6.out.trans ((K10.out.trans (K15.out.mono HR10.out.1)).mono HRF.out.1)).below (fun k hk => hk)).mono (by have := HZ2.out; omega)).drew))
      have HGY1 := Lib.hid (fun h => (HGY.out h).imp fun g e => And.intro e.1 (e.2 1))
      have HGZ1 := Lib.hid (fun h => (HGZ.out h).imp fun g e => And.intro e.1 (e.2 1))
      rw [show w15.drewN 1 = w15.drew from rfl] at hx1 hw1 HGY1 HGZ1
      clear ekr ekx hsx hsw cR cX HGY HGZ hwb K15 HG15 HGX15 HX15 HSD HMR1 HMX4 HHH
      generalize w15.drew = w16 at *
      cases mr <;> cases mx
      all_goals
        try obtain ⟨gy, rfl, hy1⟩ := HGY1.out rfl
        try obtain ⟨gz, rfl, hz1⟩ := HGZ1.out rfl
        go_wp2_with (go_at_call 24; refine (awake3_any _).mono ?_; rintro e w17 ⟨rfl, hb17⟩; have HB17 := Lib.hid hb17; clear hb17)
        go_ret
        refine ⟨rfl, ?_⟩
        rw [HI.out]
        exact HBE.out.trans (HB17.out.mono (by have := HBE.out.size; have := HI.out; omega))
    · simp only [if_true, if_false, Bool.false_eq_true, reduceIte] at H7
      go_upto_region 14 with fail
      have HROW := Lib.hid (heap_alloc_new w7 (.cells #[.int .i64 0, .int .u64 0] 45))
      have c0 : (w7.alloc (.cells #[.int .i64 0, .int .u64 0] 45)).cell? ⟨w7.heap.size, 0, none⟩ = some (.int .i64 0) := by rw [cell_of_row _ _ _ _ _ _ HROW.out]; rfl
      have c1 : (w7.alloc (.cells #[.int .i64 0, .int .u64 0] 45)).cell? ⟨w7.heap.size, 1, none⟩ = some (.int .u64 0) := by rw [cell_of_row _ _ _ _ _ _ HROW.out]; rfl
      have hb8 : Below w7.heap.size w7 (w7.alloc (.cells #[.int .i64 0, .int .u64 0] 45)) := (Below.refl _ _).alloc (Nat.le_refl _) _
      have H8 := Lib.hid (H7.out.below hb8)
      have K8 := Lib.hid (K7.out.trans (Kept.of_below hb8 (fun k hk => by obtain ⟨_, _, _, _, _, _, hlow⟩ := H7.out; exact hlow k hk)))
      generalize w7.alloc (.cells #[.int .i64 0, .int .u64 0] 45) = w8 at *
      have HSD := Lib.hid (show ∃ d, w8.drew = w8.drewN d from ⟨1, rfl⟩)
      have HM2 := Lib.hid (fun (W : World) (hW : ∃ d, W = w8.drewN d) => (by
        obtain ⟨d, rfl⟩ := hW
        have e := HM.out (w8.drewN d) (K8.out.trans ⟨rfl, rfl, rfl, Nat.le_refl _, fun _ _ => rfl⟩) 2 p2 q2 HP2.out.1 HP2.out.2
        rw [HMW.out] at e
        exact e : Calls Try.prog 27 #[.int .i64 2, .pointer (some ⟨E, 0, none⟩), .pointer (some ⟨I, 0, none⟩), .pointer (some ⟨E + 1, 0, none⟩), .pointer (some ⟨I + 1, 0, none⟩)] W fun e w' => e = .returned (.bool true) ∧ W = w'))
      refine wp_region_noPanic ?_
      refine wp_region_K (fun W => ∃ d, W = w8.drewN d) (fun _ => True) 99 (by kernel_rfl) ?_
      refine wpAnyK_take (i := 0) (oi := ?_) (v := ?_) ?_ (by kernel_rfl) (by kernel_rfl) (by kernel_rfl) (fun _ _ _ h => h) (by decide) ?_ HSD.out (fun _ => trivial) ?_
      rotate_left 2
      · (simp only [List.getElem?_toArray, List.getElem?_cons_succ, List.getElem?_cons_zero]; rfl)
      · (first | exact Or.inr ⟨by rfl, rfl⟩ | (refine Or.inl ⟨by rfl, ?_⟩; intro W hSw; obtain ⟨d, rfl⟩ := hSw; go_simp; try with_reducible rfl))
      try simp only [Act.put, List.setIfInBounds_toArray, List.set_cons_zero, List.set_cons_succ]
      refine wpAnyK_takeQ (i := 1) (oi := ?_) (v := .bool true) ?_ (by kernel_rfl) (by kernel_rfl) (by kernel_rfl) (fun _ _ _ h => h) (by decide) ?_ HSD.out (fun _ => trivial) ?_
      rotate_left 1
      · (simp only [List.getElem?_toArray, List.getElem?_cons_succ, List.getElem?_cons_zero]; rfl)
      · refine ⟨by rfl, fun W hW => ⟨27, #[.int .i64 2, .pointer (some ⟨E, 0, none⟩), .pointer (some ⟨I, 0, none⟩), .pointer (some ⟨E + 1, 0, none⟩), .pointer (some ⟨I + 1, 0, none⟩)], ?_, HM2.out W hW⟩⟩
        first | kernel_rfl | (go_simp; done) | rfl
      try simp only [Act.put, List.setIfInBounds_toArray, List.set_cons_zero, List.set_cons_succ]
      refine wpAnyK_take (i := 2) (oi := ?_) (v := ?_) ?_ (by kernel_rfl) (by kernel_rfl) (by kernel_rfl) (fun _ _ _ h => h) (by decide) ?_ HSD.out (fun _ => trivial) ?_
      rotate_left 2
      · (simp only [List.getElem?_toArray, List.getElem?_cons_succ, List.getElem?_cons_zero]; rfl)
      · (first | exact Or.inr ⟨by rfl, rfl⟩ | (refine Or.inl ⟨by rfl, ?_⟩; intro W hSw; obtain ⟨d, rfl⟩ := hSw; go_simp; try with_reducible rfl))
      try simp only [Act.put, List.setIfInBounds_toArray, List.set_cons_zero, List.set_cons_succ]
      refine wpAnyK_take (i := 3) (oi := ?_) (v := ?_) ?_ (by kernel_rfl) (by kernel_rfl) (by kernel_rfl) (fun _ _ _ h => h) (by decide) ?_ HSD.out (fun _ => trivial) ?_
      rotate_left 2
      · (simp only [List.getElem?_toArray, List.getElem?_cons_succ, List.getElem?_cons_zero]; rfl)
      · (first | exact Or.inr ⟨by rfl, rfl⟩ | (refine Or.inl ⟨by rfl, ?_⟩; intro W hSw; obtain ⟨d, rfl⟩ := hSw; go_simp; try with_reducible rfl))
      try simp only [Act.put, List.setIfInBounds_toArray, List.set_cons_zero, List.set_cons_succ]
      refine wpAnyK_take (i := 4) (oi := ?_) (v := ?_) ?_ (by kernel_rfl) (by kernel_rfl) (by kernel_rfl) (fun _ _ _ h => h) (by decide) ?_ HSD.out (fun _ => trivial) ?_
      rotate_left 2
      · (simp only [List.getElem?_toArray, List.getElem?_cons_succ, List.getElem?_cons_zero]; rfl)
      · (first | exact Or.inr ⟨by rfl, rfl⟩ | (refine Or.inl ⟨by rfl, ?_⟩; intro W hSw; obtain ⟨d, rfl⟩ := hSw; go_simp; try with_reducible rfl))
      try simp only [Act.put, List.setIfInBounds_toArray, List.set_cons_zero, List.set_cons_succ]
      refine wpAnyK_take (i := 5) (oi := ?_) (v := ?_) ?_ (by kernel_rfl) (by kernel_rfl) (by kernel_rfl) (fun _ _ _ h => h) (by decide) ?_ HSD.out (fun _ => trivial) ?_
      rotate_left 2
      · (simp only [List.getElem?_toArray, List.getElem?_cons_succ, List.getElem?_cons_zero]; rfl)
      · (first | exact Or.inr ⟨by rfl, rfl⟩ | (refine Or.inl ⟨by rfl, ?_⟩; intro W hSw; obtain ⟨d, rfl⟩ := hSw; go_simp; try with_reducible rfl))
      try simp only [Act.put, List.setIfInBounds_toArray, List.set_cons_zero, List.set_cons_succ]
      refine wpAnyK_take (i := 6) (oi := ?_) (v := ?_) ?_ (by kernel_rfl) (by kernel_rfl) (by kernel_rfl) (fun _ _ _ h => h) (by decide) ?_ HSD.out (fun _ => trivial) ?_
      rotate_left 2
      · (simp only [List.getElem?_toArray, List.getElem?_cons_succ, List.getElem?_cons_zero]; rfl)
      · (first | exact Or.inr ⟨by rfl, rfl⟩ | (refine Or.inl ⟨by rfl, ?_⟩; intro W hSw; obtain ⟨d, rfl⟩ := hSw; go_simp; try with_reducible rfl))
      try simp only [Act.put, List.setIfInBounds_toArray, List.set_cons_zero, List.set_cons_succ]
      refine wpAnyK_take (i := 7) (oi := ?_) (v := ?_) ?_ (by kernel_rfl) (by kernel_rfl) (by kernel_rfl) (fun _ _ _ h => h) (by decide) ?_ HSD.out (fun _ => trivial) ?_
      rotate_left 2
      · (simp only [List.getElem?_toArray, List.getElem?_cons_succ, List.getElem?_cons_zero]; rfl)
      · (first | exact Or.inr ⟨by rfl, rfl⟩ | (refine Or.inl ⟨by rfl, ?_⟩; intro W hSw; obtain ⟨d, rfl⟩ := hSw; go_simp; try with_reducible rfl))
      try simp only [Act.put, List.setIfInBounds_toArray, List.set_cons_zero, List.set_cons_succ]
      refine wpAnyK_takeQ (i := 8) (oi := ?_) (v := .bool true) ?_ (by kernel_rfl) (by kernel_rfl) (by kernel_rfl) (fun _ _ _ h => h) (by decide) ?_ HSD.out (fun _ => trivial) ?_
      rotate_left 1
      · (simp only [List.getElem?_toArray, List.getElem?_cons_succ, List.getElem?_cons_zero]; rfl)
      · refine ⟨by rfl, fun W hW => ⟨27, #[.int .i64 2, .pointer (some ⟨E, 0, none⟩), .pointer (some ⟨I, 0, none⟩), .pointer (some ⟨E + 1, 0, none⟩), .pointer (some ⟨I + 1, 0, none⟩)], ?_, HM2.out W hW⟩⟩
        first | kernel_rfl | (go_simp; done) | rfl
      try simp only [Act.put, List.setIfInBounds_toArray, List.set_cons_zero, List.set_cons_succ]
      refine wpAnyK_take (i := 9) (oi := ?_) (v := ?_) ?_ (by kernel_rfl) (by kernel_rfl) (by kernel_rfl) (fun _ _ _ h => h) (by decide) ?_ HSD.out (fun _ => trivial) ?_
      rotate_left 2
      · (simp only [List.getElem?_toArray, List.getElem?_cons_succ, List.getElem?_cons_zero]; rfl)
      · (first | exact Or.inr ⟨by rfl, rfl⟩ | (refine Or.inl ⟨by rfl, ?_⟩; intro W hSw; obtain ⟨d, rfl⟩ := hSw; go_simp; try with_reducible rfl))
      try simp only [Act.put, List.setIfInBounds_toArray, List.set_cons_zero, List.set_cons_succ]
      refine wpAnyK_take (i := 10) (oi := ?_) (v := ?_) ?_ (by kernel_rfl) (by kernel_rfl) (by kernel_rfl) (fun _ _ _ h => h) (by decide) ?_ HSD.out (fun _ => trivial) ?_
      rotate_left 2
      · (simp only [List.getElem?_toArray, List.getElem?_cons_succ, List.getElem?_cons_zero]; rfl)
      · (first | exact Or.inr ⟨by rfl, rfl⟩ | (refine Or.inl ⟨by rfl, ?_⟩; intro W hSw; obtain ⟨d, rfl⟩ := hSw; go_simp; try with_reducible rfl))
      try simp only [Act.put, List.setIfInBounds_toArray, List.set_cons_zero, List.set_cons_succ]
      refine wpAnyK_take (i := 11) (oi := ?_) (v := undef) ?_ (by kernel_rfl) (by kernel_rfl) (by kernel_rfl) (fun _ _ _ h => h) (by decide) ?_ HSD.out (fun _ => trivial) ?_
      rotate_left 1
      · (simp only [List.getElem?_toArray, List.getElem?_cons_succ, List.getElem?_cons_zero]; rfl)
      · exact Or.inr ⟨by rfl, rfl⟩
      try simp only [Act.put, List.setIfInBounds_toArray, List.set_cons_zero, List.set_cons_succ]
      refine wpAnyK_take (i := 12) (oi := ?_) (v := undef) ?_ (by kernel_rfl) (by kernel_rfl) (by kernel_rfl) (fun _ _ _ h => h) (by decide) ?_ HSD.out (fun _ => trivial) ?_
      rotate_left 1
      · (simp only [List.getElem?_toArray, List.getElem?_cons_succ, List.getElem?_cons_zero]; rfl)
      · exact Or.inr ⟨by rfl, rfl⟩
      try simp only [Act.put, List.setIfInBounds_toArray, List.set_cons_zero, List.set_cons_succ]
      refine wpAnyK_take (i := 13) (oi := ?_) (v := undef) ?_ (by kernel_rfl) (by kernel_rfl) (by kernel_rfl) (fun _ _ _ h => h) (by decide) ?_ HSD.out (fun _ => trivial) ?_
      rotate_left 1
      · (simp only [List.getElem?_toArray, List.getElem?_cons_succ, List.getElem?_cons_zero]; rfl)
      · exact Or.inr ⟨by rfl, rfl⟩
      try simp only [Act.put, List.setIfInBounds_toArray, List.set_cons_zero, List.set_cons_succ]
      refine wpAnyK_take (i := 14) (oi := ?_) (v := undef) ?_ (by kernel_rfl) (by kernel_rfl) (by kernel_rfl) (fun _ _ _ h => h) (by decide) ?_ HSD.out (fun _ => trivial) ?_
      rotate_left 1
      · (simp only [List.getElem?_toArray, List.getElem?_cons_succ, List.getElem?_cons_zero]; rfl)
      · exact Or.inr ⟨by rfl, rfl⟩
      try simp only [Act.put, List.setIfInBounds_toArray, List.set_cons_zero, List.set_cons_succ]
      refine wpAnyK_take (i := 15) (oi := ?_) (v := ?_) ?_ (by kernel_rfl) (by kernel_rfl) (by kernel_rfl) (fun _ _ _ h => h) (by decide) ?_ HSD.out (fun _ => trivial) ?_
      rotate_left 2
      · (simp only [List.getElem?_toArray, List.getElem?_cons_succ, List.getElem?_cons_zero]; rfl)
      · (first | exact Or.inr ⟨by rfl, rfl⟩ | (refine Or.inl ⟨by rfl, ?_⟩; intro W hSw; obtain ⟨d, rfl⟩ := hSw; go_simp; try with_reducible rfl))
      try simp only [Act.put, List.setIfInBounds_toArray, List.set_cons_zero, List.set_cons_succ]
      refine wpAnyK_take (i := 16) (oi := ?_) (v := ?_) ?_ (by kernel_rfl) (by kernel_rfl) (by kernel_rfl) (fun _ _ _ h => h) (by decide) ?_ HSD.out (fun _ => trivial) ?_
      rotate_left 2
      · (simp only [List.getElem?_toArray, List.getElem?_cons_succ, List.getElem?_cons_zero]; rfl)
      · (first | exact Or.inr ⟨by rfl, rfl⟩ | (refine Or.inl ⟨by rfl, ?_⟩; intro W hSw; obtain ⟨d, rfl⟩ := hSw; go_simp; try with_reducible rfl))
      try simp only [Act.put, List.setIfInBounds_toArray, List.set_cons_zero, List.set_cons_succ]
      refine wpAnyK_done (by kernel_rfl) ?_ _
      refine NoPanic.normal ?_
      have H9 := Lib.hid (H8.out.drewN 1)
      have K9 := Lib.hid (K8.out.drew)
      have HG9 := Lib.hid (show G2 (putP mp (8192 + T) n h) a b from HG.out.put _ _ _)
      clear H8 K8 c0 c1 HROW hb8 HM2 HSD H7 K7
      have hd9 : w8.drewN 1 = w8.drew := rfl
      rw [hd9] at H9
      clear hd9
      generalize w8.drew = w9 at *
      have hn300 : (n : Int) ≤ 200 := by have := HLC.out; omega
      go_upto_region 17 with (at_make; refine wpList_make_bytes _ rfl (.tmp 101) (.tmp 101) 43 rfl 5 (.int .u8 0) 1 (by kernel_rfl) (by kernel_rfl) rfl .i64 .i64 n (by simp [Act.eval, Act.put]) (by simp [Act.eval, Act.put]) (by omega) (by omega) ?_; intro w10 hw10 ho10; have HW10 := Lib.hid hw10; have HO10 := Lib.hid ho10; clear hw10 ho10)
      have H10 := Lib.hid (H9.out.more HW10.out)
      have HG10 := Lib.hid (show w9.heap.size < w10.heap.size from HO10.out.1)
      have K10 := Lib.hid (K9.out.trans (Kept.of_below HW10.out (fun k hk => by obtain ⟨_, _, _, _, _, _, hlow⟩ := H9.out; exact hlow k hk)))
      have HMC := Lib.hid (HM.out w10 K10.out 2 p2 q2 HP2.out.1 HP2.out.2)
      rw [HMW.out] at HMC
      obtain ⟨R10, hR10⟩ : ∃ R' : Nat → Prop, (fun k => R k ∨ (w9.heap.size ≤ k ∧ k < w10.heap.size)) = R' := ⟨_, rfl⟩
      rw [hR10] at H10
      have HR10 := Lib.hid (show (∀ k, R k → R10 k) ∧ R10 w9.heap.size by rw [← hR10]; exact ⟨fun k hk => .inl hk, .inr ⟨Nat.le_refl _, HG10.out⟩⟩)
      clear hR10 H9 HW10
      have HWB := Lib.hid (show ∃ (wb off : Nat), (∀ (W : World), Kept R10 w10 W → ∀ j, j < n → W.cell? ⟨wb, off + j, none⟩ = some (.int .u8 (h j))) ∧ A = some ⟨wb, off, none⟩ by
        rcases HS.out with e | ⟨g, off, hA, hg, hr⟩
        · have := HLC.out; omega
        · refine ⟨g, off, fun W hk j hj => ?_, hA⟩
          have hRg : R g := HRF.out.1 g (Nat.lt_of_lt_of_le hg HB2.out.size)
          rw [hk.cell (p := ⟨g, off + j, none⟩) (HR10.out.1 g hRg), K10.out.cell (p := ⟨g, off + j, none⟩) hRg, K6.out.cell (p := ⟨g, off + j, none⟩) (Nat.lt_of_lt_of_le hg HB2.out.size), HB2.out.cell (p := ⟨g, off + j, none⟩) (by rw [← HI.out]; exact hg)]
          exact hr j hj)
      have HPK := Lib.hid (peek_yes R10 w10 M 2 2 (putP mp (8192 + T) n h) (8192 + T) n (by omega) (by omega) (by have := HLC.out; omega) (HG9.out.in T n HT2.out) H10.out)
      go_wp2_with fail
      refine HMC.out.mono ?_
      rintro e w' ⟨rfl, rfl⟩
      go_wp2_with fail
      refine HPK.out.mono ?_
      rintro e w11 ⟨rfl, hb11, ho11⟩
      have H11 := Lib.hid (H10.out.more hb11)
      have K11 := Lib.hid (Kept.of_below (R := R10) hb11 (fun k hk => by obtain ⟨_, _, _, _, _, _, hlow⟩ := H10.out; exact hlow k hk))
      have HX11 := Lib.hid (ho11.congr (f' := fun q => .int .u8 (h q)) (fun q hq => by
        show Value.int .u8 (byteAt (putP mp (8192 + T) n h) (8192 + T + q)) = _
        rw [show byteAt (putP mp (8192 + T) n h) (8192 + T + q) = h q from HG.out.putAt T n HT2.out h q hq]))
      obtain ⟨R11, hR11⟩ : ∃ R' : Nat → Prop, (fun k => R10 k ∨ (w10.heap.size ≤ k ∧ k < w11.heap.size)) = R' := ⟨_, rfl⟩
      rw [hR11] at H11
      have HR11 := Lib.hid (show (∀ k, R10 k → R11 k) ∧ R11 w10.heap.size by rw [← hR11]; exact ⟨fun k hk => .inl hk, .inr ⟨Nat.le_refl _, ho11.1⟩⟩)
      clear hR11 hb11 ho11 HPK HMC
      obtain ⟨p1, hp1⟩ : ∃ p, bits .and .i64 a 1 = p := ⟨_, rfl⟩
      obtain ⟨q1, hq1⟩ : ∃ q, bits .and .i64 b 1 = q := ⟨_, rfl⟩
      obtain ⟨p4, hp4⟩ : ∃ p, bits .and .i64 a 4 = p := ⟨_, rfl⟩
      obtain ⟨q4, hq4⟩ : ∃ q, bits .and .i64 b 4 = q := ⟨_, rfl⟩
      have HP14 := Lib.hid (And.intro (And.intro hp1 hq1) (And.intro hp4 hq4))
      clear hp1 hq1 hp4 hq4
      have hrd := read_m R11 w11 M 2 2 (putP mp (8192 + T) n h) (8192 + T) n (by omega) (by omega) (by have := HLC.out; omega) HG9.out.prot H11.out (mayB F S p1 q1) (whereI F p1 T) (HA.out _ HG9.out 1 2 p1 q1 HP14.out.1.1 HP14.out.1.2)
      obtain ⟨mr, hmr⟩ : ∃ mr, mayB F S p1 q1 = mr := ⟨_, rfl⟩
      rw [hmr] at hrd
      have HMR := Lib.hid hmr
      have HRD := Lib.hid hrd
      clear hmr hrd
      go_wp2_with fail
      refine HRD.out.mono ?_
      rintro e w12 ⟨v12, ad12, R12, rfl, hs12, h12, k12, hgot12⟩
      have H12 := Lib.hid h12
      have K12 := Lib.hid (K11.out.trans (k12.mono HR11.out.1))
      have HX12 := Lib.hid (k12.own HX11.out HR11.out.2)
      have HS12 := Lib.hid hs12
      have HGOT12 := Lib.hid hgot12
      clear h12 k12 hs12 hgot12 HRD H11 K11 HX11
      obtain ⟨kr, hkr⟩ : ∃ kr : Int, (if mr = true then (0 : Int) else 2) = kr := ⟨_, rfl⟩
      have HKR := Lib.hid (show (kr == 0) = mr by rw [← hkr]; cases mr <;> rfl)
      rw [hkr]
      clear hkr
      go_upto_region 21 with fail
      have hb13 : Below w12.heap.size w12 (w12.alloc (.cells #[.int .i64 kr, .int .u64 ad12] 45)) := (Below.refl _ _).alloc (Nat.le_refl _) _
      have hrow13 := heap_alloc_new w12 (.cells #[.int .i64 kr, .int .u64 ad12] 45)
      have H13 := Lib.hid (H12.out.more hb13)
      have hk13 := Kept.of_below (R := R12) hb13 (fun k hk => by obtain ⟨_, _, _, _, _, _, hlow⟩ := H12.out; exact hlow k hk)
      have K13 := Lib.hid (K12.out.trans (hk13.mono (fun k hk => HS12.out k (HR11.out.1 k hk))))
      have HX13 := Lib.hid (hk13.own HX12.out (HS12.out _ HR11.out.2))
      have HGOT13 := Lib.hid (show mr = true → ∃ g, v12 = .slice (some ⟨g, 0, none⟩) n n ∧ R12 g ∧ Own (w12.alloc (.cells #[.int .i64 kr, .int .u64 ad12] 45)) g n (fun q => .int .u8 (byteAt (putP mp (8192 + T) n h) (8192 + T + q))) from fun hq0 => by
        obtain ⟨g, e1, e2, e3⟩ := HGOT12.out hq0
        exact ⟨g, e1, e2, hk13.own e3 e2⟩)
      have HE13 := Lib.hid (show w12.heap.size < (w12.alloc (.cells #[.int .i64 kr, .int .u64 ad12] 45)).heap.size by simp)
      have HROW13 := Lib.hid hrow13
      clear hb13 hk13 hrow13 H12 K12 HX12 HGOT12
      generalize w12.alloc (.cells #[.int .i64 kr, .int .u64 ad12] 45) = w13 at *
      obtain ⟨R13, hR13⟩ : ∃ R' : Nat → Prop, (fun k => R12 k ∨ (w12.heap.size ≤ k ∧ k < w13.heap.size)) = R' := ⟨_, rfl⟩
      rw [hR13] at H13
      have HR13 := Lib.hid (show (∀ k, R12 k → R13 k) ∧ R13 w12.heap.size by rw [← hR13]; exact ⟨fun k hk => .inl hk, .inr ⟨Nat.le_refl _, HE13.out⟩⟩)
      clear hR13
      generalize w12.heap.size = E2 at *
      have hrn := run_m R13 w13 M 2 2 (putP mp (8192 + T) n h) (8192 + T) n (by omega) (by omega) (by have := HLC.out; omega) HG9.out.prot H13.out (mayB F S p4 q4) (whereI F p4 T) (HA.out _ HG9.out 4 4 p4 q4 HP14.out.2.1 HP14.out.2.2)
      obtain ⟨mx, hmx⟩ : ∃ mx, mayB F S p4 q4 = mx := ⟨_, rfl⟩
      rw [hmx] at hrn
      have HMX := Lib.hid hmx
      have HRN := Lib.hid hrn
      clear hmx hrn
      go_wp2_with fail
      refine HRN.out.mono ?_
      rintro e w14 ⟨v14, ad14, R14, rfl, hs14, h14, k14, hgot14⟩
      have K14 := Lib.hid (K13.out.trans (k14.mono (fun k hk => HR13.out.1 k (HS12.out k (HR11.out.1 k hk)))))
      have HX14 := Lib.hid (k14.own HX13.out (HR13.out.1 _ (HS12.out _ HR11.out.2)))
      have HROW14 := Lib.hid ((k14.block E2 HR13.out.2).trans HROW13.out)
      have HGOT14 := Lib.hid (show mr = true → ∃ g, v12 = .slice (some ⟨g, 0, none⟩) n n ∧ Own w14 g n (fun q => .int .u8 (byteAt (putP mp (8192 + T) n h) (8192 + T + q))) from fun hq0 => by
        obtain ⟨g, e1, e2, e3⟩ := HGOT13.out hq0
        exact ⟨g, e1, k14.own e3 (HR13.out.1 g e2)⟩)
      have HGX14 := Lib.hid (show mx = true → ∃ g, v14 = .slice (some ⟨g, 0, none⟩) n n ∧ Own w14 g n (fun q => .int .u8 (byteAt (putP mp (8192 + T) n h) (8192 + T + q))) from fun hq0 => by
        obtain ⟨g, e1, e2, e3⟩ := hgot14 hq0
        exact ⟨g, e1, e3⟩)
      clear h14 k14 hs14 hgot14 HRN H13 K13 HX13 HGOT13 HROW13
      obtain ⟨kx, hkx⟩ : ∃ kx : Int, (if mx = true then (0 : Int) else 4) = kx := ⟨_, rfl⟩
      have HKX := Lib.hid (show (kx == 0) = mx by rw [← hkx]; cases mx <;> rfl)
      rw [hkx]
      clear hkx
      go_upto_region 22 with fail
      have hb15 : Below w14.heap.size w14 (w14.alloc (.cells #[.int .i64 kx, .int .u64 ad14] 45)) := (Below.refl _ _).alloc (Nat.le_refl _) _
      have hrow15 := heap_alloc_new w14 (.cells #[.int .i64 kx, .int .u64 ad14] 45)
      have cX : (w14.alloc (.cells #[.int .i64 kx, .int .u64 ad14] 45)).cell? ⟨w14.heap.size, 0, none⟩ = some (.int .i64 kx) := by rw [cell_of_row _ _ _ _ _ _ hrow15]; rfl
      have cR : (w14.alloc (.cells #[.int .i64 kx, .int .u64 ad14] 45)).cell? ⟨E2, 0, none⟩ = some (.int .i64 kr) := by
        rw [hb15.cell (p := ⟨E2, 0, none⟩) (Array.getElem?_eq_some_iff.1 HROW14.out).1, cell_of_row _ _ _ _ _ _ HROW14.out]; rfl
      have HX15 := Lib.hid (HX14.out.below hb15 HX14.out.1)
      have K15 := Lib.hid (K14.out.trans (Kept.of_below (R := R10) hb15 (fun k hk => by
        obtain ⟨_, _, _, _, _, _, hlow⟩ := H10.out
        exact Nat.lt_of_lt_of_le (hlow k hk) K14.out.size)))
      have HG15 := Lib.hid (show mr = true → ∃ g, v12 = .slice (some ⟨g, 0, none⟩) n n ∧ Own (w14.alloc (.cells #[.int .i64 kx, .int .u64 ad14] 45)) g n (fun q => .int .u8 (byteAt (putP mp (8192 + T) n h) (8192 + T + q))) from fun hq0 => by
        obtain ⟨g, e1, e3⟩ := HGOT14.out hq0
        exact ⟨g, e1, e3.below hb15 e3.1⟩)
      have HGX15 := Lib.hid (show mx = true → ∃ g, v14 = .slice (some ⟨g, 0, none⟩) n n ∧ Own (w14.alloc (.cells #[.int .i64 kx, .int .u64 ad14] 45)) g n (fun q => .int .u8 (byteAt (putP mp (8192 + T) n h) (8192 + T + q))) from fun hq0 => by
        obtain ⟨g, e1, e3⟩ := HGX14.out hq0
        exact ⟨g, e1, e3.below hb15 e3.1⟩)
      clear hb15 hrow15 H10 HX14 K14 HGOT14 HGX14 HROW14
      generalize w14.alloc (.cells #[.int .i64 kx, .int .u64 ad14] 45) = w15 at *
      generalize w14.heap.size = E3 at *
      obtain ⟨wb, off, hwb, hwb2⟩ := HWB.out
      have hsx : ∀ (d : Nat), (convert 43 9 (.slice (some ⟨w10.heap.size, 0, none⟩) n n)).run Try.prog (w15.drewN d) = .ok (.string (strF h 0 n)) (w15.drewN d) := fun d =>
        run_str (f := h) (fun i hi => by rw [Nat.zero_add]; exact HX15.out.cell hi)
      have hsw : ∀ (d c : Nat), (convert 43 9 (.slice (some ⟨wb, off, none⟩) n c)).run Try.prog (w15.drewN d) = .ok (.string (strF h 0 n)) (w15.drewN d) := fun d c =>
        run_str (f := h) (fun i hi => hwb _ (K15.out.trans ⟨rfl, rfl, rfl, Nat.le_refl _, fun _ _ => rfl⟩) i hi)
      have HHH := Lib.hid (show ∀ q, q < n → byteAt (putP mp (8192 + T) n h) (8192 + T + q) = h q from fun q hq => by rw [HG.out.putAt T n HT2.out h q hq])
      have HGY := Lib.hid (show mr = true → ∃ g, v12 = .slice (some ⟨g, 0, none⟩) n n ∧ ∀ (d : Nat), (convert 43 9 (.slice (some ⟨g, 0, none⟩) n n)).run Try.prog (w15.drewN d) = .ok (.string (strF h 0 n)) (w15.drewN d) from fun hq0 => by
        obtain ⟨g, e1, e3⟩ := HG15.out hq0
        exact ⟨g, e1, fun d => run_str (f := h) (fun i hi => by rw [Nat.zero_add, ← HHH.out i hi]; exact e3.cell hi)⟩)
      have HGZ := Lib.hid (show mx = true → ∃ g, v14 = .slice (some ⟨g, 0, none⟩) n n ∧ ∀ (d : Nat), (convert 43 9 (.slice (some ⟨g, 0, none⟩) n n)).run Try.prog (w15.drewN d) = .ok (.string (strF h 0 n)) (w15.drewN d) from fun hq0 => by
        obtain ⟨g, e1, e3⟩ := HGX15.out hq0
        exact ⟨g, e1, fun d => run_str (f := h) (fun i hi => by rw [Nat.zero_add, ← HHH.out i hi]; exact e3.cell hi)⟩)
      have HSD := Lib.hid (show ∃ d, w15.drew = w15.drewN d from ⟨1, rfl⟩)
      have hmq : ∀ (r p q : Int) (c : Bool), bits .and .i64 a r = p → bits .and .i64 b r = q → mayB F S p q = c → ∀ (W : World) (hW : ∃ d, W = w15.drewN d), Calls Try.prog 27 #[.int .i64 r, .pointer (some ⟨E, 0, none⟩), .pointer (some ⟨I, 0, none⟩), .pointer (some ⟨E + 1, 0, none⟩), .pointer (some ⟨I + 1, 0, none⟩)] W fun e w' => e = .returned (.bool c) ∧ W = w' := fun r p q c hp hq hc W hW => by
        obtain ⟨d, rfl⟩ := hW
        have e := HM.out (w15.drewN d) ((K10.out.trans (K15.out.mono HR10.out.1)).trans ⟨rfl, rfl, rfl, Nat.le_refl _, fun _ _ => rfl⟩) r p q hp hq
        rw [hc] at e
        exact e
      have HMR1 := Lib.hid (hmq 1 p1 q1 mr HP14.out.1.1 HP14.out.1.2 HMR.out)
      have HMX4 := Lib.hid (hmq 4 p4 q4 mx HP14.out.2.1 HP14.out.2.2 HMX.out)
      clear hmq
      subst hwb2
      generalize strF h 0 n = TW at *
      have ekr := HKR.out
      have ekx := HKX.out
      refine wp_region_noPanic ?_
      refine wp_region_K (fun W => ∃ d, W = w15.drewN d) (fun _ => True) 99 (by kernel_rfl) ?_
      refine wpAnyK_take (i := 0) (oi := ?_) (v := ?_) ?_ (by kernel_rfl) (by kernel_rfl) (by kernel_rfl) (fun _ _ _ h => h) (by decide) ?_ HSD.out (fun _ => trivial) ?_
      rotate_left 2
      · (simp only [List.getElem?_toArray, List.getElem?_cons_succ, List.getElem?_cons_zero]; rfl)
      · (refine Or.inl ⟨by rfl, ?_⟩; intro W hSw; obtain ⟨d, rfl⟩ := hSw; go_simp; try with_reducible rfl)
      try simp only [Act.put, List.setIfInBounds_toArray, List.set_cons_zero, List.set_cons_succ]
      refine wpAnyK_take (i := 1) (oi := ?_) (v := ?_) ?_ (by kernel_rfl) (by kernel_rfl) (by kernel_rfl) (fun _ _ _ h => h) (by decide) ?_ HSD.out (fun _ => trivial) ?_
      rotate_left 2
      · (simp only [List.getElem?_toArray, List.getElem?_cons_succ, List.getElem?_cons_zero]; rfl)
      · (refine Or.inl ⟨by rfl, ?_⟩; intro W hSw; obtain ⟨d, rfl⟩ := hSw; go_simp; try with_reducible rfl)
      try simp only [Act.put, List.setIfInBounds_toArray, List.set_cons_zero, List.set_cons_succ]
      refine wpAnyK_take (i := 2) (oi := ?_) (v := ?_) ?_ (by kernel_rfl) (by kernel_rfl) (by kernel_rfl) (fun _ _ _ h => h) (by decide) ?_ HSD.out (fun _ => trivial) ?_
      rotate_left 2
      · (simp only [List.getElem?_toArray, List.getElem?_cons_succ, List.getElem?_cons_zero]; rfl)
      · (refine Or.inl ⟨by rfl, ?_⟩; intro W hSw; obtain ⟨d, rfl⟩ := hSw; go_simp; try with_reducible rfl)
      try simp only [Act.put, List.setIfInBounds_toArray, List.set_cons_zero, List.set_cons_succ]
      refine wpAnyK_take (i := 3) (oi := ?_) (v := ?_) ?_ (by kernel_rfl) (by kernel_rfl) (by kernel_rfl) (fun _ _ _ h => h) (by decide) ?_ HSD.out (fun _ => trivial) ?_
      rotate_left 2
      · (simp only [List.getElem?_toArray, List.getElem?_cons_succ, List.getElem?_cons_zero]; rfl)
      · (refine Or.inl ⟨by rfl, ?_⟩; intro W hSw; obtain ⟨d, rfl⟩ := hSw; go_simp; try with_reducible rfl)
      try simp only [Act.put, List.setIfInBounds_toArray, List.set_cons_zero, List.set_cons_succ]
      refine wpAnyK_take (i := 4) (oi := ?_) (v := ?_) ?_ (by kernel_rfl) (by kernel_rfl) (by kernel_rfl) (fun _ _ _ h => h) (by decide) ?_ HSD.out (fun _ => trivial) ?_
      rotate_left 2
      · (simp only [List.getElem?_toArray, List.getElem?_cons_succ, List.getElem?_cons_zero]; rfl)
      · (refine Or.inl ⟨by rfl, ?_⟩; intro W hSw; obtain ⟨d, rfl⟩ := hSw; go_simp; try with_reducible rfl)
      try simp only [Act.put, List.setIfInBounds_toArray, List.set_cons_zero, List.set_cons_succ]
      refine wpAnyK_take (i := 5) (oi := ?_) (v := ?_) ?_ (by kernel_rfl) (by kernel_rfl) (by kernel_rfl) (fun _ _ _ h => h) (by decide) ?_ HSD.out (fun _ => trivial) ?_
      rotate_left 2
      · (simp only [List.getElem?_toArray, List.getElem?_cons_succ, List.getElem?_cons_zero]; rfl)
      · (refine Or.inl ⟨by rfl, ?_⟩; intro W hSw; obtain ⟨d, rfl⟩ := hSw; go_simp; try with_reducible rfl)
      try simp only [Act.put, List.setIfInBounds_toArray, List.set_cons_zero, List.set_cons_succ]
      refine wpAnyK_take (i := 6) (oi := ?_) (v := ?_) ?_ (by kernel_rfl) (by kernel_rfl) (by kernel_rfl) (fun _ _ _ h => h) (by decide) ?_ HSD.out (fun _ => trivial) ?_
      rotate_left 2
      · (simp only [List.getElem?_toArray, List.getElem?_cons_succ, List.getElem?_cons_zero]; rfl)
      · (refine Or.inl ⟨by rfl, ?_⟩; intro W hSw; obtain ⟨d, rfl⟩ := hSw; go_simp; try with_reducible rfl)
      try simp only [Act.put, List.setIfInBounds_toArray, List.set_cons_zero, List.set_cons_succ]
      refine wpAnyK_take (i := 7) (oi := ?_) (v := ?_) ?_ (by kernel_rfl) (by kernel_rfl) (by kernel_rfl) (fun _ _ _ h => h) (by decide) ?_ HSD.out (fun _ => trivial) ?_
      rotate_left 2
      · (simp only [List.getElem?_toArray, List.getElem?_cons_succ, List.getElem?_cons_zero]; rfl)
      · (refine Or.inl ⟨by rfl, ?_⟩; intro W hSw; obtain ⟨d, rfl⟩ := hSw; go_simp; try with_reducible rfl)
      try simp only [Act.put, List.setIfInBounds_toArray, List.set_cons_zero, List.set_cons_succ]
      refine wpAnyK_take (i := 8) (oi := ?_) (v := ?_) ?_ (by kernel_rfl) (by kernel_rfl) (by kernel_rfl) (fun _ _ _ h => h) (by decide) ?_ HSD.out (fun _ => trivial) ?_
      rotate_left 2
      · (simp only [List.getElem?_toArray, List.getElem?_cons_succ, List.getElem?_cons_zero]; rfl)
      · (refine Or.inl ⟨by rfl, ?_⟩; intro W hSw; obtain ⟨d, rfl⟩ := hSw; go_simp; try with_reducible rfl)
      try simp only [Act.put, List.setIfInBounds_toArray, List.set_cons_zero, List.set_cons_succ]
      refine wpAnyK_take (i := 9) (oi := ?_) (v := ?_) ?_ (by kernel_rfl) (by kernel_rfl) (by kernel_rfl) (fun _ _ _ h => h) (by decide) ?_ HSD.out (fun _ => trivial) ?_
      rotate_left 2
      · (simp only [List.getElem?_toArray, List.getElem?_cons_succ, List.getElem?_cons_zero]; rfl)
      · (refine Or.inl ⟨by rfl, ?_⟩; intro W hSw; obtain ⟨d, rfl⟩ := hSw; go_simp; try with_reducible rfl)
      try simp only [Act.put, List.setIfInBounds_toArray, List.set_cons_zero, List.set_cons_succ]
      refine wpAnyK_take (i := 10) (oi := ?_) (v := ?_) ?_ (by kernel_rfl) (by kernel_rfl) (by kernel_rfl) (fun _ _ _ h => h) (by decide) ?_ HSD.out (fun _ => trivial) ?_
      rotate_left 2
      · (simp only [List.getElem?_toArray, List.getElem?_cons_succ, List.getElem?_cons_zero]; rfl)
      · (refine Or.inl ⟨by rfl, ?_⟩; intro W hSw; obtain ⟨d, rfl⟩ := hSw; go_simp; try with_reducible rfl)
      try simp only [Act.put, List.setIfInBounds_toArray, List.set_cons_zero, List.set_cons_succ]
      refine wpAnyK_take (i := 11) (oi := ?_) (v := ?_) ?_ (by kernel_rfl) (by kernel_rfl) (by kernel_rfl) (fun _ _ _ h => h) (by decide) ?_ HSD.out (fun _ => trivial) ?_
      rotate_left 2
      · (simp only [List.getElem?_toArray, List.getElem?_cons_succ, List.getElem?_cons_zero]; rfl)
      · (refine Or.inl ⟨by rfl, ?_⟩; intro W hSw; obtain ⟨d, rfl⟩ := hSw; go_simp; try with_reducible rfl)
      try simp only [Act.put, List.setIfInBounds_toArray, List.set_cons_zero, List.set_cons_succ]
      refine wpAnyK_take (i := 12) (oi := ?_) (v := ?_) ?_ (by kernel_rfl) (by kernel_rfl) (by kernel_rfl) (fun _ _ _ h => h) (by decide) ?_ HSD.out (fun _ => trivial) ?_
      rotate_left 2
      · (simp only [List.getElem?_toArray, List.getElem?_cons_succ, List.getElem?_cons_zero]; rfl)
      · (refine Or.inl ⟨by rfl, ?_⟩; intro W hSw; obtain ⟨d, rfl⟩ := hSw; go_simp; try with_reducible rfl)
      try simp only [Act.put, List.setIfInBounds_toArray, List.set_cons_zero, List.set_cons_succ]
      refine wpAnyK_take (i := 13) (oi := ?_) (v := ?_) ?_ (by kernel_rfl) (by kernel_rfl) (by kernel_rfl) (fun _ _ _ h => h) (by decide) ?_ HSD.out (fun _ => trivial) ?_
      rotate_left 2
      · (simp only [List.getElem?_toArray, List.getElem?_cons_succ, List.getElem?_cons_zero]; rfl)
      · (refine Or.inl ⟨by rfl, ?_⟩; intro W hSw; obtain ⟨d, rfl⟩ := hSw; go_simp; try with_reducible rfl)
      try simp only [Act.put, List.setIfInBounds_toArray, List.set_cons_zero, List.set_cons_succ]
      refine wpAnyK_takeQ (i := 14) (oi := ?_) (v := .bool mr) ?_ (by kernel_rfl) (by kernel_rfl) (by kernel_rfl) (fun _ _ _ h => h) (by decide) ?_ HSD.out (fun _ => trivial) ?_
      rotate_left 1
      · (simp only [List.getElem?_toArray, List.getElem?_cons_succ, List.getElem?_cons_zero]; rfl)
      · refine ⟨by rfl, fun W hW => ⟨27, #[.int .i64 1, .pointer (some ⟨E, 0, none⟩), .pointer (some ⟨I, 0, none⟩), .pointer (some ⟨E + 1, 0, none⟩), .pointer (some ⟨I + 1, 0, none⟩)], ?_, HMR1.out W hW⟩⟩
        first | kernel_rfl | (go_simp; done) | rfl
      try simp only [Act.put, List.setIfInBounds_toArray, List.set_cons_zero, List.set_cons_succ]
      refine wpAnyK_take (i := 15) (oi := ?_) (v := ?_) ?_ (by kernel_rfl) (by kernel_rfl) (by kernel_rfl) (fun _ _ _ h => h) (by decide) ?_ HSD.out (fun _ => trivial) ?_
      rotate_left 2
      · (simp only [List.getElem?_toArray, List.getElem?_cons_succ, List.getElem?_cons_zero]; rfl)
      · (refine Or.inl ⟨by rfl, ?_⟩; intro W hSw; obtain ⟨d, rfl⟩ := hSw; go_simp; try with_reducible rfl)
      try simp only [Act.put, List.setIfInBounds_toArray, List.set_cons_zero, List.set_cons_succ]
      refine wpAnyK_take (i := 16) (oi := ?_) (v := ?_) ?_ (by kernel_rfl) (by kernel_rfl) (by kernel_rfl) (fun _ _ _ h => h) (by decide) ?_ HSD.out (fun _ => trivial) ?_
      rotate_left 2
      · (simp only [List.getElem?_toArray, List.getElem?_cons_succ, List.getElem?_cons_zero]; rfl)
      · (refine Or.inl ⟨by rfl, ?_⟩; intro W hSw; obtain ⟨d, rfl⟩ := hSw; go_simp; try with_reducible rfl)
      try simp only [Act.put, List.setIfInBounds_toArray, List.set_cons_zero, List.set_cons_succ]
      refine wpAnyK_take (i := 17) (oi := ?_) (v := ?_) ?_ (by kernel_rfl) (by kernel_rfl) (by kernel_rfl) (fun _ _ _ h => h) (by decide) ?_ HSD.out (fun _ => trivial) ?_
      rotate_left 2
      · (simp only [List.getElem?_toArray, List.getElem?_cons_succ, List.getElem?_cons_zero]; rfl)
      · (refine Or.inl ⟨by rfl, ?_⟩; intro W hSw; obtain ⟨d, rfl⟩ := hSw; go_simp; try with_reducible rfl)
      try simp only [Act.put, List.setIfInBounds_toArray, List.set_cons_zero, List.set_cons_succ]
      refine wpAnyK_take (i := 18) (oi := ?_) (v := ?_) ?_ (by kernel_rfl) (by kernel_rfl) (by kernel_rfl) (fun _ _ _ h => h) (by decide) ?_ HSD.out (fun _ => trivial) ?_
      rotate_left 2
      · (simp only [List.getElem?_toArray, List.getElem?_cons_succ, List.getElem?_cons_zero]; rfl)
      · (refine Or.inl ⟨by rfl, ?_⟩; intro W hSw; obtain ⟨d, rfl⟩ := hSw; go_simp; try with_reducible rfl)
      try simp only [Act.put, List.setIfInBounds_toArray, List.set_cons_zero, List.set_cons_succ]
      refine wpAnyK_take (i := 19) (oi := ?_) (v := ?_) ?_ (by kernel_rfl) (by kernel_rfl) (by kernel_rfl) (fun _ _ _ h => h) (by decide) ?_ HSD.out (fun _ => trivial) ?_
      rotate_left 2
      · (simp only [List.getElem?_toArray, List.getElem?_cons_succ, List.getElem?_cons_zero]; rfl)
      · (refine Or.inl ⟨by rfl, ?_⟩; intro W hSw; obtain ⟨d, rfl⟩ := hSw; go_simp; try with_reducible rfl)
      try simp only [Act.put, List.setIfInBounds_toArray, List.set_cons_zero, List.set_cons_succ]
      refine wpAnyK_take (i := 20) (oi := ?_) (v := ?_) ?_ (by kernel_rfl) (by kernel_rfl) (by kernel_rfl) (fun _ _ _ h => h) (by decide) ?_ HSD.out (fun _ => trivial) ?_
      rotate_left 2
      · (simp only [List.getElem?_toArray, List.getElem?_cons_succ, List.getElem?_cons_zero]; rfl)
      · (refine Or.inl ⟨by rfl, ?_⟩; intro W hSw; obtain ⟨d, rfl⟩ := hSw; go_simp; try with_reducible rfl)
      try simp only [Act.put, List.setIfInBounds_toArray, List.set_cons_zero, List.set_cons_succ]
      refine wpAnyK_take (i := 21) (oi := ?_) (v := ?_) ?_ (by kernel_rfl) (by kernel_rfl) (by kernel_rfl) (fun _ _ _ h => h) (by decide) ?_ HSD.out (fun _ => trivial) ?_
      rotate_left 2
      · (simp only [List.getElem?_toArray, List.getElem?_cons_succ, List.getElem?_cons_zero]; rfl)
      · (refine Or.inl ⟨by rfl, ?_⟩; intro W hSw; obtain ⟨d, rfl⟩ := hSw; go_simp; try with_reducible rfl)
      try simp only [Act.put, List.setIfInBounds_toArray, List.set_cons_zero, List.set_cons_succ]
      refine wpAnyK_takeQ (i := 22) (oi := ?_) (v := .bool mx) ?_ (by kernel_rfl) (by kernel_rfl) (by kernel_rfl) (fun _ _ _ h => h) (by decide) ?_ HSD.out (fun _ => trivial) ?_
      rotate_left 1
      · (simp only [List.getElem?_toArray, List.getElem?_cons_succ, List.getElem?_cons_zero]; rfl)
      · refine ⟨by rfl, fun W hW => ⟨27, #[.int .i64 4, .pointer (some ⟨E, 0, none⟩), .pointer (some ⟨I, 0, none⟩), .pointer (some ⟨E + 1, 0, none⟩), .pointer (some ⟨I + 1, 0, none⟩)], ?_, HMX4.out W hW⟩⟩
        first | kernel_rfl | (go_simp; done) | rfl
      try simp only [Act.put, List.setIfInBounds_toArray, List.set_cons_zero, List.set_cons_succ]
      refine wpAnyK_take (i := 23) (oi := ?_) (v := ?_) ?_ (by kernel_rfl) (by kernel_rfl) (by kernel_rfl) (fun _ _ _ h => h) (by decide) ?_ HSD.out (fun _ => trivial) ?_
      rotate_left 2
      · (simp only [List.getElem?_toArray, List.getElem?_cons_succ, List.getElem?_cons_zero]; rfl)
      · (refine Or.inl ⟨by rfl, ?_⟩; intro W hSw; obtain ⟨d, rfl⟩ := hSw; go_simp; try with_reducible rfl)
      try simp only [Act.put, List.setIfInBounds_toArray, List.set_cons_zero, List.set_cons_succ]
      refine wpAnyK_take (i := 24) (oi := ?_) (v := ?_) ?_ (by kernel_rfl) (by kernel_rfl) (by kernel_rfl) (fun _ _ _ h => h) (by decide) ?_ HSD.out (fun _ => trivial) ?_
      rotate_left 2
      · (simp only [List.getElem?_toArray, List.getElem?_cons_succ, List.getElem?_cons_zero]; rfl)
      · (refine Or.inl ⟨by rfl, ?_⟩; intro W hSw; obtain ⟨d, rfl⟩ := hSw; go_simp; try with_reducible rfl)
      try simp only [Act.put, List.setIfInBounds_toArray, List.set_cons_zero, List.set_cons_succ]
      refine wpAnyK_done (by kernel_rfl) ?_ _
      refine NoPanic.normal ?_
      have ekr2 : (kr != 0) = !mr := by rw [← HKR.out]; rfl
      have ekx2 : (kx != 0) = !mx := by rw [← HKX.out]; rfl
      have hx1 := hsx 1
      have hw1 := hsw 1
      have cR16 : w15.drew.cell? ⟨E2, 0, none⟩ = some (.int .i64 kr) := cR
      have cX16 : w15.drew.cell? ⟨E3, 0, none⟩ = some (.int .i64 kx) := cX
      have HBE := Lib.hid (show Below I w w15.drew from HB2.out.trans ((((K6.out.trans ((K10.out.trans (K15.out.mono HR10.out.1)).mono HRF.out.1)).below (fun k hk => hk)).mono (by have := HZ2.out; omega)).drew))
      have HGY1 := Lib.hid (fun h => (HGY.out h).imp fun g e => And.intro e.1 (e.2 1))
      have HGZ1 := Lib.hid (fun h => (HGZ.out h).imp fun g e => And.intro e.1 (e.2 1))
      rw [show w15.drewN 1 = w15.drew from rfl] at hx1 hw1 HGY1 HGZ1
      clear ekr ekx hsx hsw cR cX HGY HGZ hwb K15 HG15 HGX15 HX15 HSD HMR1 HMX4 HHH
      generalize w15.drew = w16 at *
      cases mr <;> cases mx
      all_goals
        try obtain ⟨gy, rfl, hy1⟩ := HGY1.out rfl
        try obtain ⟨gz, rfl, hz1⟩ := HGZ1.out rfl
        go_wp2_with (go_at_call 24; refine (awake3_any _).mono ?_; rintro e w17 ⟨rfl, hb17⟩; have HB17 := Lib.hid hb17; clear hb17)
        go_ret
        refine ⟨rfl, ?_⟩
        rw [HI.out]
        exact HBE.out.trans (HB17.out.mono (by have := HBE.out.size; have := HI.out; omega))
end Go.Proofs.Ytlifaldbdjcgjaa
