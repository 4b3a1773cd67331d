/- law 17: what the document fixes; RunFuels. · law 17: RunEnds. · law 17: RunArgs: its gate; what its code comes to. · law 17: RunArgs, the walk. -/
import Derived.Test.YthbgmlmcjnlopaaMgQ
import Derived.Deep.Cut
namespace Go.Proofs.Ythbgmlmcjnlopaa
open Go.ChangeShapes Go.WideShapes Go.ChangeAt Go.RowKit
set_option linter.unusedVariables false
set_option linter.unusedSimpArgs false
set_option maxRecDepth 100000

/-- No gate. -/
def gmN : Int → StV → Unit → Bool × StV × Unit := fun _ s e => (false, s, e)
theorem gate_nil (w0 : World) (M m : Nat) (most : Int) : GateOk .nilFunc gmN (fun _ _ => True) (fun _ => False) w0 M m most :=
  ⟨fun R W C mp s fk fa n e hb _ _ => (pass_nil n C W).mono fun en W' h => ⟨h.1, R, hb.below h.2, trivial, fun _ hq => hq, Kept.of_below h.2 (fun q hq => hb.lt q hq.1)⟩, fun _ _ _ _ _ => trivial⟩
theorem call_nil (R : Nat → Prop) (w0 w : World) (M m : Nat) (most : Int) (mp : Int → Option Pg) (h : Mem0 R w0 w M m most mp) (at' sp a0 a1 a2 : Int) (hat : 0 ≤ at' ∧ at' < 18446744073709551616) (hsp : 0 ≤ sp ∧ sp < 18446744073709551616)
    (h0 : 0 ≤ a0 ∧ a0 < 18446744073709551616) (h1 : 0 ≤ a1 ∧ a1 < 18446744073709551616) (h2 : 0 ≤ a2 ∧ a2 < 18446744073709551616) (Fg k : Nat) (hF : FuelN w Fg k) (hRF : R Fg) (hk : k ≤ 9223372036854775807) (hF0 : w0.heap.size ≤ Fg)
    (o : RunR Unit) (ho : callM gmN mp at' sp a0 a1 a2 k () = o) :
    Calls Try.prog 31 #[.pointer (some ⟨M, 0, none⟩), .int .u64 at', .int .u64 sp, .agg #[.int .u64 a0, .int .u64 a1, .int .u64 a2], .pointer (some ⟨Fg, 0, none⟩), .nilFunc] w fun en w' => en = .returned (.tuple #[.int .u64 o.v, .int .i64 o.e]) ∧ ∃ R', Mem0 R' w0 w' M m most o.mp ∧ (∀ q, R q → R' q) ∧ FuelN w' Fg o.k ∧ Kept (fun q => R q ∧ q ≠ Fg) w w' := by
  refine (call_any R w0 w M m most mp h at' sp a0 a1 a2 hat hsp h0 h1 h2 Fg k hF hRF hk hF0 .nilFunc gmN (fun _ _ => True) (fun _ => False) (gate_nil w0 M m most) (fun q hq => hq.elim) () trivial rfl o ho).mono fun en w' hq => ⟨hq.1, ?_⟩
  obtain ⟨R', h1, h2⟩ := hq.2.ex
  exact ⟨R', h1, h2, hq.2.fuel, hq.2.kept.mono (fun q hq => ⟨hq.1, hq.2, fun h => h⟩)⟩
/-- The memory of these laws: code at 4096, and a page that may be read and written behind it. -/
def mp17 (n : Nat) (f : Nat → Int) : Int → Option Pg := putP (setP (setP noM 4096 4 1) 8192 3 1) 4096 n f
def codA17 : List Nat := [72, 137, 200, 195]
def mpA17 : Int → Option Pg := mp17 4 (fun i => bF codA17 i)
def mpB17 : Int → Option Pg := putP mpA17 12280 8 (le8 gateA)
theorem awR1 : callM gmN mpA17 4096 12288 7 0 0 3 () = ⟨7, 0, mpB17, 1, ()⟩ := by kernel_rfl
theorem awR2 : callM gmN mpB17 4096 12288 7 0 0 1 () = ⟨0, 18, putP mpB17 12280 8 (le8 gateA), 0, ()⟩ := by kernel_rfl
theorem fuel_in {R : Nat → Prop} {w0 w w' : World} {M m : Nat} {most : Int} {mp : Int → Option Pg} (h : Mem0 R w0 w M m most mp) (hb : Below w.heap.size w w') {n : Nat} (hf : FuelN w' w.heap.size n) : ∃ R', Mem0 R' w0 w' M m most mp ∧ R' w.heap.size ∧ (∀ q, R q → R' q) ∧ w0.heap.size ≤ w.heap.size :=
  ⟨_, h.below hb, .inr ⟨Nat.le_refl _, hf.bd⟩, fun q hq => .inl hq, h.kept.size⟩
set_option maxHeartbeats 4000000 in
theorem awake17_any (w : World) : Calls Try.prog 34 #[] w fun e w' => e = .returned (.bool true) ∧ Below w.heap.size w w' := by
  have HN := Lib.hid (mem0_new w 2 (by omega) (by omega))
  go_enter Try.func34, Try.ntmps34
  go_wp2_with fail
  refine HN.out.mono ?_
  rintro e w1 ⟨M, rfl, h1⟩
  have H1 := Lib.hid h1
  clear h1 HN
  go_wp2_with fail
  refine (mem0_map H1.out 4096 4 1 (by omega) ⟨by decide, by omega, by omega, by omega⟩ (by omega) (by omega) (fun i _ => rfl) (by omega) (by omega)).mono ?_
  rintro e w2 ⟨rfl, h2⟩
  have H2 := Lib.hid h2
  clear h2 H1
  go_wp2_with fail
  refine (mem0_map H2.out 8192 3 1 (by omega) ⟨by decide, by omega, by omega, by omega⟩ (by omega) (by omega) (fun i hi => by (obtain rfl : i = 0 := by omega); kernel_rfl) (by omega) (by omega)).mono ?_
  rintro e w3 ⟨rfl, h3⟩
  have H3 := Lib.hid h3
  clear h3 H2
  go_wp2_with fail
  obtain ⟨w4, hw4⟩ : ∃ w4, w3.alloc (.cells #[.int .u8 72, .int .u8 137, .int .u8 200, .int .u8 195] 5) = w4 := ⟨_, rfl⟩
  have hb4 : Below w3.heap.size w3 w4 := by rw [← hw4]; exact (Below.refl _ _).alloc (Nat.le_refl _) _
  have hz4 : w4.heap[w3.heap.size]? = some (.cells #[.int .u8 72, .int .u8 137, .int .u8 200, .int .u8 195] 5 (0, 0)) := by rw [← hw4]; exact heap_alloc_new w3 _
  rw [hw4]
  have H4 := Lib.hid (H3.out.below hb4)
  have HSRC := Lib.hid (show SrcR (fun k => k < w.heap.size ∨ (w3.heap.size ≤ k ∧ k < w4.heap.size)) w4 (some ⟨w3.heap.size, 0, none⟩) 4 (fun i => bF codA17 i) from .inr ⟨_, 0, rfl, .inr ⟨Nat.le_refl _, lt_of_row' hz4⟩, fun j hj => by
    rw [Nat.zero_add, cell_of_row' hz4]
    rcases (by omega : j = 0 ∨ j = 1 ∨ j = 2 ∨ j = 3) with rfl | rfl | rfl | rfl <;> rfl⟩)
  clear hb4 hz4 hw4 H3
  refine (mem0_poke H4.out 4096 _ 4 4 (fun i => bF codA17 i) (by omega) (by omega) (by omega) (by omega) (by omega) (fun i i0 i1 => ?_) HSRC.out (bn_bd' (by unfold Bn; decide))).mono ?_
  · rw [show (4096 : Int) + i - (4096 + i) % 4096 = 4096 by omega]
    exact fun h => absurd h (by decide)
  rintro e w5 ⟨rfl, h5, _⟩
  have H5 := Lib.hid (show Mem0 _ w w5 M (0 + 1 + 1) 2 mpA17 from h5)
  clear h5 H4 HSRC
  go_wp2_with fail
  refine (newFuel_any w5 3 (by omega)).mono ?_
  rintro e w6 ⟨rfl, hb6, hf6⟩
  obtain ⟨R6, h6, hr6, _, hg6⟩ := fuel_in H5.out hb6 hf6
  have H6 := Lib.hid h6
  have HR6 := Lib.hid (And.intro hr6 hg6)
  have HF6 := Lib.hid (show FuelN w6 w5.heap.size 3 from hf6)
  generalize w5.heap.size = Fg at *
  clear hb6 hf6 h6 hr6 hg6 H5
  go_wp2_with fail
  refine (call_nil R6 w w6 M _ 2 mpA17 H6.out 4096 12288 7 0 0 (by omega) (by omega) (by omega) (by omega) (by omega) Fg 3 HF6.out HR6.out.1 (by omega) HR6.out.2 _ awR1).mono ?_
  rintro e w7 ⟨rfl, R7, h7, hs7, hf7, _⟩
  have H7 := Lib.hid h7
  have HF7 := Lib.hid (show FuelN w7 Fg 1 from hf7)
  have HR7 := Lib.hid (hs7 Fg HR6.out.1)
  clear h7 hs7 hf7 H6 HF6
  go_wp2_with fail
  refine (call_nil R7 w w7 M _ 2 mpB17 H7.out 4096 12288 7 0 0 (by omega) (by omega) (by omega) (by omega) (by omega) Fg 1 HF7.out HR7.out (by omega) HR6.out.2 _ awR2).mono ?_
  rintro e w8 ⟨rfl, R8, h8, hs8, hf8, _⟩
  have H8 := Lib.hid h8
  have HF8 := Lib.hid (show FuelN w8 Fg 0 from hf8)
  clear h8 hs8 hf8 H7 HF7
  go_wp2_with fail
  refine (left_any w8 Fg 0 HF8.out (by omega)).mono ?_
  rintro e w9 ⟨rfl, rfl⟩
  go_wp2_with fail
  refine (gate_any w9).mono ?_
  rintro e w9 ⟨rfl, rfl⟩
  go_wp2
  go_ret
  exact ⟨rfl, H8.out.ends⟩
set_option maxHeartbeats 4000000 in
theorem fuels_core (w : World) (n : Int) (n1 : n ≤ 9223372036854775807) :
    Calls Try.prog 10 #[.int .i64 n] w fun e w' => e = .returned (.bool true) ∧ Below w.heap.size w w' := by
  have HN := Lib.hid (newFuel_any w n n1)
  obtain ⟨k, hk, hkb⟩ : ∃ k : Nat, n.toNat = k ∧ k ≤ 9223372036854775807 := ⟨_, rfl, by omega⟩
  have hmx : (if (n : Int) ≤ 0 then (0 : Int) else n) = k := by split <;> omega
  have HKB := Lib.hid hkb
  go_enter Try.func10, Try.ntmps10
  go_wp2_with fail
  refine HN.out.mono ?_
  rintro e w1 ⟨rfl, hb1, hf1⟩
  rw [hk] at hf1
  have HF1 := Lib.hid hf1
  have HB1 := Lib.hid hb1
  clear hf1 hb1 HN hkb
  obtain ⟨Fg, hFg⟩ : ∃ Fg, w.heap.size = Fg := ⟨_, rfl⟩
  have HFG := Lib.hid hFg
  rw [hFg] at HF1 ⊢
  clear hFg
  --M1
  go_wp2_with fail
  all_goals
    have hst : ∃ x : Int, x = ((k - 0 : Nat) : Int) ∧ x = n.toNat := ⟨_, rfl, by omega⟩
    have HK0 := Lib.hid (show Kept (· < Fg) w w1 from ⟨HB1.out.os, HB1.out.tape, HB1.out.output, HB1.out.size, fun q hq => HB1.out.block q (by rw [HFG.out]; exact hq)⟩)
    go_loopw [4, 5] (fun v4 v5 wr => ∃ (j : Nat) (d : Nat), j ≤ 50 ∧ v5 = .int .i64 j ∧ v4 = .int .i64 (d : Int) ∧ d ≤ 9223372036854775807 ∧ FuelN wr Fg d ∧ Kept (· < Fg) w wr) (fun _ v5 _ => 50 - (intOf v5).toNat)
    case atStart => exact ⟨0, k, by omega, rfl, by first | (rw [show n = (k : Int) by omega]) | (rw [show (0 : Int) = (k : Int) by omega]), HKB.out, HF1.out, HK0.out⟩
    case round =>
      clear HF1 HK0 hst
      obtain ⟨j, d, hj, rfl, rfl, hd, hf, hkp⟩ := hrel
      have HD := Lib.hid hd
      have HF := Lib.hid hf
      have HKP := Lib.hid hkp
      clear hd hf hkp
      by_cases hlt : j < 50
      · go_wp2_with fail
        refine (left_any wr Fg d HF.out HD.out).mono ?_
        rintro e w2 ⟨rfl, rfl⟩
        cases d with
        | zero =>
          go_wp2_with fail
          refine (take_no w2 Fg HF.out).mono ?_
          rintro e w3 ⟨rfl, hw3⟩
          have hf3 := fuelN_set2 HF.out
          have hk3 := (HKP.out.setCell (p := ⟨Fg, 0, none⟩) (fun e => Nat.lt_irrefl _ e) (.int .i64 (-1))).setCell (p := ⟨Fg, 0, none⟩) (fun e => Nat.lt_irrefl _ e) (.int .i64 0)
          rw [← hw3] at hf3 hk3
          have HF3 := Lib.hid hf3
          have HK3 := Lib.hid hk3
          clear hf3 hk3 hw3 HF HKP
          go_wp2_with fail
          go_roundw
          case rel => exact ⟨j + 1, 0, by omega, by go_num, rfl, by omega, HF3.out, HK3.out⟩
          case measure => simp [intOf]; omega
        | succ d =>
          have e1 : decide ((0 : Int) < ((d + 1 : Nat) : Int)) = true := decide_eq_true (by omega)
          have hdb := HD.out
          go_wp2_with fail
          refine (take_yes w2 Fg d HF.out (by have := HD.out; omega)).mono ?_
          rintro e w3 ⟨rfl, hw3⟩
          have hf3 := fuelN_set HF.out d
          have hk3 := HKP.out.setCell (p := ⟨Fg, 0, none⟩) (fun e => Nat.lt_irrefl _ e) (.int .i64 d)
          rw [← hw3] at hf3 hk3
          have HF3 := Lib.hid hf3
          have HK3 := Lib.hid hk3
          clear hf3 hk3 hw3 HF HKP
          go_wp2_with fail
          all_goals
            go_roundw
            case rel => exact ⟨j + 1, d, by omega, by go_num, by first | rfl | (congr 1; omega), by have := HD.out; omega, HF3.out, HK3.out⟩
            case measure => simp [intOf]; omega
      · obtain rfl : j = 50 := by omega
        go_wp2_with fail
        refine (left_any wr Fg d HF.out HD.out).mono ?_
        rintro e w2 ⟨rfl, rfl⟩
        go_wp2_with fail
        refine (awake17_any w2).mono ?_
        rintro e w3 ⟨rfl, hb3⟩
        have HB3 := Lib.hid hb3
        go_wp2
        go_ret
        refine ⟨rfl, ?_⟩
        have h1 : Below w.heap.size w w2 := ⟨HKP.out.os, HKP.out.tape, HKP.out.output, HKP.out.size, fun q hq => HKP.out.block q (by rw [← HFG.out]; exact hq)⟩
        have h2 := h1.trans (HB3.out.mono h1.size)
        first | exact h2 | (rw [HFG.out] at h2; exact h2)
end Go.Proofs.Ythbgmlmcjnlopaa
namespace Go.Proofs.Ythbgmlmcjnlopaa
open Go.ChangeShapes Go.WideShapes Go.ChangeAt Go.RowKit
set_option linter.unusedVariables false
set_option linter.unusedSimpArgs false
set_option maxRecDepth 100000

/-- The gate of RunEnds: what it is asked for, and a hundred more, lies in register 0. -/
def gmE : Int → StV → Unit → Bool × StV × Unit := fun n s e => (true, s.setR 0 (IntKind.u64.wrap (IntKind.u64.wrap n + 100)), e)
theorem ends1_any {R : Nat → Prop} {w0 w : World} {C M m : Nat} {most : Int} {mp : Int → Option Pg} {s : StV} {fk fa : Int} (h : Box R w0 w C M m most mp s fk fa) (n : Int) :
    Calls Try.prog 37 #[.int .i64 n, .pointer (some ⟨C, 0, none⟩)] w fun e w' => e = .returned (.bool true) ∧ Box R w0 w' C M m most mp (s.setR 0 (IntKind.u64.wrap (IntKind.u64.wrap n + 100))) fk fa ∧ Kept (fun k => k ≠ C) w w' := by
  obtain ⟨x, hx⟩ : ∃ x, IntKind.u64.wrap n = x := ⟨_, rfl⟩
  obtain ⟨y, hy⟩ : ∃ y, IntKind.u64.wrap (x + 100) = y := ⟨_, rfl⟩
  have hyb : 0 ≤ y ∧ y < 18446744073709551616 := by rw [← hy, IntKind.wrap_u64]; omega
  have H := Lib.hid h
  have HYB := Lib.hid hyb
  have HY := Lib.hid hy
  rw [hx]
  clear h hyb
  go_enter Try.func37, Try.ntmps37
  go_wp2_with fail
  refine (box_put H.out 0 (by omega) y HYB.out.1 HYB.out.2).mono ?_
  rintro e w1 ⟨rfl, h1, hk1⟩
  have H1 := Lib.hid h1
  have HK1 := Lib.hid hk1
  clear h1 hk1 hx hy
  go_wp2
  go_ret
  exact ⟨rfl, by rw [HY.out]; exact H1.out, HK1.out⟩
theorem gate_ends (w0 : World) (M m : Nat) (most : Int) : GateOk (.func (.func 37) #[] #[]) gmE (fun _ _ => True) (fun _ => False) w0 M m most := by
  refine ⟨fun R W C mp s fk fa n e hb _ _ => ?_, fun _ _ _ _ _ => trivial⟩
  have hb1 := hb.alloc (.cells #[.bool false] 4)
  have hz1 := heap_alloc_new W (.cells #[.bool false] 4)
  have hl1 : W.heap.size < (W.alloc (.cells #[.bool false] 4)).heap.size := by simp
  have hcl := hb.lt C hb.rC
  have hw0 := hb.kept.size
  have hbel : Below W.heap.size W (W.alloc (.cells #[.bool false] 4)) := (Below.refl _ _).alloc (Nat.le_refl _) _
  refine (pass_ends n C 0 W true (fun w1 => Box _ w0 w1 C M m most mp (s.setR 0 (IntKind.u64.wrap (IntKind.u64.wrap n + 100))) fk fa ∧ w1.heap[W.heap.size]? = some (.cells #[.bool false] 4 (0, 0)) ∧ Kept (fun k => k ≠ C) (W.alloc (.cells #[.bool false] 4)) w1) (fun w1 h => h.2.1)
    ((ends1_any hb1 n).mono fun e w1 h => ⟨h.1, h.2.1, (h.2.2.block W.heap.size (by omega)).trans hz1, h.2.2⟩)).mono ?_
  rintro en W' ⟨rfl, w1, ⟨h1, _, h3⟩, rfl⟩
  refine ⟨rfl, _, h1.setFar (o := 0) (.inr ⟨Nat.le_refl _, hl1⟩) (by omega) hw0 (.bool true), trivial, fun k hk => .inl hk, ?_⟩
  exact (((Kept.of_below (R := fun k => R k ∧ k ≠ C ∧ ¬ False) hbel (fun q hq => hb.lt q hq.1)).trans (h3.mono (fun q hq => hq.2.1))).setCell (p := ⟨W.heap.size, 0, none⟩) (fun hq => Nat.lt_irrefl _ (hb.lt _ hq.1)) (.bool true))
theorem call_ends (R : Nat → Prop) (w0 w : World) (M m : Nat) (most : Int) (mp : Int → Option Pg) (h : Mem0 R w0 w M m most mp) (at' sp a0 a1 a2 : Int) (hat : 0 ≤ at' ∧ at' < 18446744073709551616) (hsp : 0 ≤ sp ∧ sp < 18446744073709551616)
    (h0 : 0 ≤ a0 ∧ a0 < 18446744073709551616) (h1 : 0 ≤ a1 ∧ a1 < 18446744073709551616) (h2 : 0 ≤ a2 ∧ a2 < 18446744073709551616) (Fg k : Nat) (hF : FuelN w Fg k) (hRF : R Fg) (hk : k ≤ 9223372036854775807) (hF0 : w0.heap.size ≤ Fg)
    (o : RunR Unit) (ho : callM gmE mp at' sp a0 a1 a2 k () = o) :
    Calls Try.prog 31 #[.pointer (some ⟨M, 0, none⟩), .int .u64 at', .int .u64 sp, .agg #[.int .u64 a0, .int .u64 a1, .int .u64 a2], .pointer (some ⟨Fg, 0, none⟩), .func (.func 37) #[] #[]] w fun en w' => en = .returned (.tuple #[.int .u64 o.v, .int .i64 o.e]) ∧ ∃ R', Mem0 R' w0 w' M m most o.mp ∧ (∀ q, R q → R' q) ∧ FuelN w' Fg o.k ∧ Kept (fun q => R q ∧ q ≠ Fg) w w' := by
  refine (call_any R w0 w M m most mp h at' sp a0 a1 a2 hat hsp h0 h1 h2 Fg k hF hRF hk hF0 _ gmE (fun _ _ => True) (fun _ => False) (gate_ends w0 M m most) (fun q hq => hq.elim) () trivial rfl o ho).mono fun en w' hq => ⟨hq.1, ?_⟩
  obtain ⟨R', h1, h2⟩ := hq.2.ex
  exact ⟨R', h1, h2, hq.2.fuel, hq.2.kept.mono (fun q hq => ⟨hq.1, hq.2, fun h => h⟩)⟩
def codE17 : List Nat := [235, 254, 205, 7, 195]
def mpE0 : Int → Option Pg := mp17 5 (fun i => bF codE17 i)
def mpE1 : Int → Option Pg := putP mpE0 12280 8 (le8 gateA)
def mpE2 : Int → Option Pg := putP mpE1 12280 8 (le8 gateA)
def mpE3 : Int → Option Pg := putP mpE2 12280 8 (le8 gateA)
theorem stE1 : stepF mpE1 (startS 4096 12288 0 0 0) 0 0 = ⟨0, 0, mpE1, startS 4096 12288 0 0 0, 0, 0⟩ := by kernel_rfl
theorem wrE (mp : Int → Option Pg) (h : (askS mp 2 3 8 12280 8).1 = 0) : wrM mp (subM 12288) gateA st0 st0 = ⟨true, putP mp 12280 8 (le8 gateA), st0, 0, 0⟩ := by
  show wrM mp 12280 gateA st0 st0 = _
  unfold wrM
  rw [if_pos h]
theorem endE1 : ∀ N : Nat, runM gmN N mpE1 (startS 4096 12288 0 0 0) 0 0 () = ⟨0, 18, mpE1, 0, ()⟩
  | 0 => by
    unfold runM
    rw [if_neg (by decide)]
  | N + 1 => by
    unfold runM
    rw [if_neg (by decide), stE1, if_neg (by simp), if_pos rfl]
    exact endE1 N
theorem callE1 (N : Nat) : callM gmN mpE0 4096 12288 0 0 0 N () = ⟨0, 18, mpE1, 0, ()⟩ := by
  unfold callM
  rw [wrE mpE0 (by kernel_rfl), if_neg (by simp)]
  exact endE1 N
theorem stE2 : stepF mpE2 (startS 4098 12288 0 0 0) 0 0 = ⟨263, 0, mpE2, (startS 4098 12288 0 0 0).setIp 4100, 0, 0⟩ := by kernel_rfl
theorem callE2 (N : Nat) : callM gmN mpE1 4098 12288 0 0 0 (N + 1) () = ⟨0, 19, mpE2, N, ()⟩ := by
  unfold callM
  rw [wrE mpE1 (by kernel_rfl), if_neg (by simp)]
  show runM gmN (N + 1) mpE2 (startS 4098 12288 0 0 0) 0 0 () = _
  unfold runM
  rw [if_neg (by decide), stE2, if_neg (by simp), if_neg (by simp), if_neg (by unfold gmN; simp)]
theorem callE3 (N : Nat) : callM gmN mpE2 4098 8192 0 0 0 N () = ⟨0, 17, mpE2, N, ()⟩ := by
  have hw : wrM mpE2 (subM 8192) gateA st0 st0 = ⟨false, mpE2, st0, 3, 8184⟩ := by kernel_rfl
  unfold callM
  rw [hw, if_pos (by simp)]
theorem callE4 : callM gmE mpE2 4098 12288 0 0 0 2 () = ⟨107, 0, mpE3, 0, ()⟩ := by kernel_rfl
set_option maxHeartbeats 4000000 in
theorem ends_core (w : World) (n : Int) :
    Calls Try.prog 11 #[.int .i64 n] w fun e w' => e = .returned (.bool true) ∧ Below w.heap.size w w' := by
  have HN := Lib.hid (mem0_new w 2 (by omega) (by omega))
  obtain ⟨N, hN, hN5⟩ : ∃ N : Nat, bits .and .i64 n 511 = N ∧ N ≤ 511 := ⟨(n % 512).toNat, by rw [show (511 : Int) = ((2 ^ 9 - 1 : Nat) : Int) from by decide, i64_mask n 9 (by omega)]; omega, by omega⟩
  go_enter Try.func11, Try.ntmps11
  go_wp2_with fail
  refine HN.out.mono ?_
  rintro e w1 ⟨M, rfl, h1⟩
  have H1 := Lib.hid h1
  clear h1 HN
  go_wp2_with fail
  refine (mem0_map H1.out 4096 4 1 (by omega) ⟨by decide, by omega, by omega, by omega⟩ (by omega) (by omega) (fun i _ => rfl) (by omega) (by omega)).mono ?_
  rintro e w2 ⟨rfl, h2⟩
  have H2 := Lib.hid h2
  clear h2 H1
  go_wp2_with fail
  refine (mem0_map H2.out 8192 3 1 (by omega) ⟨by decide, by omega, by omega, by omega⟩ (by omega) (by omega) (fun i hi => by (obtain rfl : i = 0 := by omega); kernel_rfl) (by omega) (by omega)).mono ?_
  rintro e w3 ⟨rfl, h3⟩
  have H3 := Lib.hid h3
  clear h3 H2
  go_wp2_with fail
  obtain ⟨w4, hw4⟩ : ∃ w4, w3.alloc (.cells #[.int .u8 235, .int .u8 254, .int .u8 205, .int .u8 7, .int .u8 195] 5) = w4 := ⟨_, rfl⟩
  have hb4 : Below w3.heap.size w3 w4 := by rw [← hw4]; exact (Below.refl _ _).alloc (Nat.le_refl _) _
  have hz4 : w4.heap[w3.heap.size]? = some (.cells #[.int .u8 235, .int .u8 254, .int .u8 205, .int .u8 7, .int .u8 195] 5 (0, 0)) := by rw [← hw4]; exact heap_alloc_new w3 _
  rw [hw4]
  have H4 := Lib.hid (H3.out.below hb4)
  have HSRC := Lib.hid (show SrcR (fun k => k < w.heap.size ∨ (w3.heap.size ≤ k ∧ k < w4.heap.size)) w4 (some ⟨w3.heap.size, 0, none⟩) 5 (fun i => bF codE17 i) from .inr ⟨_, 0, rfl, .inr ⟨Nat.le_refl _, lt_of_row' hz4⟩, fun j hj => by
    rw [Nat.zero_add, cell_of_row' hz4]
    rcases (by omega : j = 0 ∨ j = 1 ∨ j = 2 ∨ j = 3 ∨ j = 4) with rfl | rfl | rfl | rfl | rfl <;> rfl⟩)
  clear hb4 hz4 hw4 H3
  refine (mem0_poke H4.out 4096 _ 5 5 (fun i => bF codE17 i) (by omega) (by omega) (by omega) (by omega) (by omega) (fun i i0 i1 => ?_) HSRC.out (bn_bd' (by unfold Bn; decide))).mono ?_
  · rw [show (4096 : Int) + i - (4096 + i) % 4096 = 4096 by omega]
    exact fun h => absurd h (by decide)
  rintro e w5 ⟨rfl, h5, _⟩
  have H5 := Lib.hid (show Mem0 _ w w5 M (0 + 1 + 1) 2 mpE0 from h5)
  clear h5 H4 HSRC
  go_wp2_with fail
  refine (newFuel_any w5 N (by omega)).mono ?_
  rintro e w6 ⟨rfl, hb6, hf6⟩
  obtain ⟨R6, h6, hr6, _, hg6⟩ := fuel_in H5.out hb6 hf6
  rw [Int.toNat_natCast] at hf6
  have H6 := Lib.hid h6
  have HR6 := Lib.hid (And.intro hr6 hg6)
  have HF6 := Lib.hid hf6
  generalize w5.heap.size = F1 at *
  clear hb6 hf6 h6 hr6 hg6 H5
  go_wp2_with fail
  refine (newFuel_any w6 (N + 2) (by omega)).mono ?_
  rintro e w7 ⟨rfl, hb7, hf7⟩
  obtain ⟨R7, h7, hr7, hs7, hg7⟩ := fuel_in H6.out hb7 hf7
  rw [show ((N : Int) + 2).toNat = (N + 1) + 1 by omega] at hf7
  have hf67 := HF6.out.blw hb7
  have hlt := HF6.out.bd
  have H7 := Lib.hid h7
  have HR7 := Lib.hid (And.intro hr7 (And.intro hg7 (And.intro (hs7 F1 HR6.out.1) HR6.out.2)))
  have HF7 := Lib.hid (And.intro hf7 hf67)
  obtain ⟨F2, hF2⟩ : ∃ F2, w6.heap.size = F2 := ⟨_, rfl⟩
  rw [hF2] at HR7 HF7 hlt ⊢
  have HNE := Lib.hid (show F1 ≠ F2 ∧ F2 ≠ F1 from ⟨by omega, by omega⟩)
  clear hb7 hf7 h7 hr7 hs7 hg7 hf67 hlt hF2 H6 HR6 HF6
  --M1
  go_wp2_with fail
  refine (call_nil R7 w w7 M _ 2 mpE0 H7.out 4096 12288 0 0 0 (by omega) (by omega) (by omega) (by omega) (by omega) F1 N HF7.out.2 HR7.out.2.2.1 (by omega) HR7.out.2.2.2 _ (callE1 N)).mono ?_
  rintro e w8 ⟨rfl, R8, h8, hs8, hf8, hk8⟩
  have H8 := Lib.hid h8
  have HF8 := Lib.hid (show FuelN w8 F1 0 ∧ FuelN w8 F2 (N + 1 + 1) from ⟨hf8, hk8.own HF7.out.1 ⟨HR7.out.1, HNE.out.2⟩⟩)
  have HR8 := Lib.hid (And.intro (hs8 F1 HR7.out.2.2.1) (hs8 F2 HR7.out.1))
  clear h8 hs8 hf8 hk8 H7 HF7
  go_wp2_with fail
  refine (call_nil R8 w w8 M _ 2 mpE1 H8.out 4098 12288 0 0 0 (by omega) (by omega) (by omega) (by omega) (by omega) F2 (N + 1 + 1) HF8.out.2 HR8.out.2 (by omega) HR7.out.2.1 _ (callE2 (N + 1))).mono ?_
  rintro e w9 ⟨rfl, R9, h9, hs9, hf9, hk9⟩
  have H9 := Lib.hid h9
  have HF9 := Lib.hid (show FuelN w9 F1 0 ∧ FuelN w9 F2 (N + 1) from ⟨hk9.own HF8.out.1 ⟨HR8.out.1, HNE.out.1⟩, hf9⟩)
  have HR9 := Lib.hid (And.intro (hs9 F1 HR8.out.1) (hs9 F2 HR8.out.2))
  clear h9 hs9 hf9 hk9 H8 HF8
  go_wp2_with fail
  refine (call_nil R9 w w9 M _ 2 mpE2 H9.out 4098 8192 0 0 0 (by omega) (by omega) (by omega) (by omega) (by omega) F2 (N + 1) HF9.out.2 HR9.out.2 (by omega) HR7.out.2.1 _ (callE3 (N + 1))).mono ?_
  rintro e w10 ⟨rfl, R10, h10, hs10, hf10, hk10⟩
  have H10 := Lib.hid h10
  have HF10 := Lib.hid (show FuelN w10 F1 0 ∧ FuelN w10 F2 (N + 1) from ⟨hk10.own HF9.out.1 ⟨HR9.out.1, HNE.out.1⟩, hf10⟩)
  have HR10 := Lib.hid (And.intro (hs10 F1 HR9.out.1) (hs10 F2 HR9.out.2))
  clear h10 hs10 hf10 hk10 H9 HF9
  go_wp2_with fail
  refine (newFuel_any w10 2 (by omega)).mono ?_
  rintro e w11 ⟨rfl, hb11, hf11⟩
  obtain ⟨R11, h11, hr11, hs11, hg11⟩ := fuel_in H10.out hb11 hf11
  have hl1 := HF10.out.1.bd
  have hl2 := HF10.out.2.bd
  have H11 := Lib.hid h11
  have HR11 := Lib.hid (And.intro hr11 (And.intro hg11 (And.intro (hs11 F1 HR10.out.1) (hs11 F2 HR10.out.2))))
  have HF11 := Lib.hid (And.intro (show FuelN w11 w10.heap.size 2 from hf11) (And.intro (HF10.out.1.blw hb11) (HF10.out.2.blw hb11)))
  obtain ⟨F3, hF3⟩ : ∃ F3, w10.heap.size = F3 := ⟨_, rfl⟩
  rw [hF3] at HR11 HF11 hl1 hl2 ⊢
  have HN3 := Lib.hid (show F1 ≠ F3 ∧ F2 ≠ F3 from ⟨by omega, by omega⟩)
  clear hb11 hf11 h11 hr11 hs11 hg11 hl1 hl2 hF3 H10 HF10
  go_wp2_with fail
  refine (call_ends R11 w w11 M _ 2 mpE2 H11.out 4098 12288 0 0 0 (by omega) (by omega) (by omega) (by omega) (by omega) F3 2 HF11.out.1 HR11.out.1 (by omega) HR11.out.2.1 _ callE4).mono ?_
  rintro e w12 ⟨rfl, R12, h12, hs12, hf12, hk12⟩
  have H12 := Lib.hid h12
  have HF12 := Lib.hid (And.intro (hk12.own HF11.out.2.1 ⟨HR11.out.2.2.1, HN3.out.1⟩) (hk12.own HF11.out.2.2 ⟨HR11.out.2.2.2, HN3.out.2⟩))
  clear h12 hs12 hf12 hk12 H11 HF11
  --M2
  go_wp2_with fail
  refine (left_any w12 F1 0 HF12.out.1 (by omega)).mono ?_
  rintro e w13 ⟨rfl, rfl⟩
  go_wp2_with fail
  refine (left_any w13 F2 (N + 1) HF12.out.2 (by omega)).mono ?_
  rintro e w13 ⟨rfl, rfl⟩
  go_wp2_with fail
  refine (awake17_any w13).mono ?_
  rintro e w14 ⟨rfl, hb14⟩
  have HE := Lib.hid (H12.out.ends.trans (hb14.mono H12.out.ends.size))
  go_wp2
  go_ret
  exact ⟨rfl, HE.out⟩
end Go.Proofs.Ythbgmlmcjnlopaa
namespace Go.Proofs.Ythbgmlmcjnlopaa
open Go.ChangeShapes Go.WideShapes Go.ChangeAt Go.RowKit
set_option linter.unusedVariables false
set_option linter.unusedSimpArgs false
set_option maxRecDepth 100000

section
variable {E : Type} {gm : Int → StV → E → Bool × StV × E} {k : Nat} {mp mp' : Int → Option Pg} {s s' s'' : StV} {fk fa fk' fa' n er : Int} {e e' : E}
theorem runM_end (h : s.ip = gateA) : runM gm k mp s fk fa e = ⟨s.r 0, 0, mp, k, e⟩ := by
  cases k <;> (unfold runM; rw [if_pos h])
theorem runM_step (h : s.ip ≠ gateA) (hs : stepF mp s fk fa = ⟨0, 0, mp', s', fk', fa'⟩) : runM gm (k + 1) mp s fk fa e = runM gm k mp' s' fk' fa' e := by
  rw [runM, if_neg h, hs]
  rw [if_neg (by simp), if_pos rfl]
theorem runM_gate (h : s.ip ≠ gateA) (hs : stepF mp s fk fa = ⟨n, 0, mp', s', fk', fa'⟩) (hn : n ≠ 0) (hg : gm (wrap64 (n - 256)) s' e = (true, s'', e')) : runM gm (k + 1) mp s fk fa e = runM gm k mp' s'' fk' fa' e' := by
  rw [runM, if_neg h, hs]
  rw [if_neg (by simp), if_neg hn]
  simp only
  rw [hg]
  rw [if_pos rfl]
theorem runM_fault (h : s.ip ≠ gateA) (hs : stepF mp s fk fa = ⟨n, er, mp', s', fk', fa'⟩) (he : er ≠ 0) : runM gm (k + 1) mp s fk fa e = ⟨0, er, mp', k, e⟩ := by
  rw [runM, if_neg h, hs]
  rw [if_pos he]
theorem callM_start {at' sp a0 a1 a2 : Int} (hw : wrM mp (subM sp) gateA st0 st0 = ⟨true, mp', st0, 0, 0⟩) : callM gm mp at' sp a0 a1 a2 k e = runM gm k mp' (startS at' sp a0 a1 a2) 0 0 e := by
  unfold callM
  rw [hw, if_neg (by simp)]
end
theorem own_same {w w' : World} {g n : Nat} {f : Nat → Value} (h : Own w g (n + 1) f) (he : w'.heap[g]? = w.heap[g]?) : Own w' g (n + 1) f := by
  have hc := (World.cell?_of_block (a := ⟨g, 0, none⟩) he).trans (h.cell (i := 0) (by omega))
  refine ⟨?_, fun i hi => ⟨(World.cell?_of_block he).trans (h.cell hi), (World.frozen?_of_block he).trans (Own.frozen h hi)⟩⟩
  rcases Nat.lt_or_ge g w'.heap.size with hlt | hge
  · exact hlt
  · simp [World.cell?, Array.getElem?_eq_none hge] at hc
/-- The gate of RunArgs: it takes register 9, where 3 is asked. -/
def gmA : Int → StV → Int → Bool × StV × Int := fun n s e => if n = 3 then (true, s, s.r 9) else (false, s, e)
theorem args1_any {R : Nat → Prop} {w0 w : World} {C M m P : Nat} {most : Int} {mp : Int → Option Pg} {s : StV} {fk fa : Int} (h : Box R w0 w C M m most mp s fk fa) (n e : Int) (hP : Own w P 1 (fun _ => .int .u64 e)) (hRP : R P) (hPC : P ≠ C) (hP0 : w0.heap.size ≤ P) :
    Calls Try.prog 33 #[.int .i64 n, .pointer (some ⟨C, 0, none⟩), .pointer (some ⟨P, 0, none⟩)] w fun en w' => en = .returned (.bool (gmA n s e).1) ∧ Box R w0 w' C M m most mp (gmA n s e).2.1 fk fa ∧ Own w' P 1 (fun _ => .int .u64 (gmA n s e).2.2) ∧ Kept (fun k => k ≠ P) w w' := by
  have H := Lib.hid h
  have HP := Lib.hid hP
  have HRP := Lib.hid (And.intro hRP (And.intro hPC hP0))
  have hc := hP.cell (i := 0) (by omega)
  have hz := Own.frozen hP (i := 0) (by omega)
  clear h hP hRP hPC hP0
  by_cases hn : n = 3
  · subst hn
    go_enter Try.func33, Try.ntmps33
    go_wp2_with fail
    refine (box_reg H.out 9 (by omega) (s.r 9) rfl).mono ?_
    rintro e1 w1 ⟨rfl, rfl⟩
    have h2 := H.out.setFar (o := 0) HRP.out.1 HRP.out.2.1 HRP.out.2.2 (.int .u64 (s.r 9))
    have ho2 := (Own.set HP.out (i := 0) (by omega) (.int .u64 (s.r 9))).congr (f' := fun _ => .int .u64 (s.r 9)) (fun i hi => by
      obtain rfl : i = 0 := by omega
      rw [if_pos rfl])
    have hk2 := (Kept.refl (fun k => k ≠ P) w1).setCell (p := ⟨P, 0, none⟩) (fun e => e rfl) (.int .u64 (s.r 9))
    have H2 := Lib.hid (And.intro h2 (And.intro ho2 hk2))
    clear h2 ho2 hk2
    go_wp2
    go_ret
    exact ⟨rfl, H2.out⟩
  · have hg : gmA n s e = (false, s, e) := by unfold gmA; rw [if_neg hn]
    rw [hg]
    go_enter Try.func33, Try.ntmps33
    go_wp2
    go_ret
    exact ⟨rfl, H.out, HP.out, Kept.refl _ _⟩
theorem gate_args (w0 : World) (M m P : Nat) (most : Int) (hP0 : w0.heap.size ≤ P) : GateOk (.func (.func 33) #[] #[.pointer (some ⟨P, 0, none⟩)]) gmA (fun (e : Int) W => Own W P 1 (fun _ => .int .u64 e)) (fun q => q = P) w0 M m most := by
  refine ⟨fun R W C mp s fk fa n e hb he hD => ?_, fun e W W' h1 h2 => own_same h2 (h1 P rfl)⟩
  have hb1 := hb.alloc (.cells #[.bool false] 4)
  have hz1 := heap_alloc_new W (.cells #[.bool false] 4)
  have hl1 : W.heap.size < (W.alloc (.cells #[.bool false] 4)).heap.size := by simp
  have hcl := hb.lt C hb.rC
  have hw0 := hb.kept.size
  have hPl := he.1
  have hbel : Below W.heap.size W (W.alloc (.cells #[.bool false] 4)) := (Below.refl _ _).alloc (Nat.le_refl _) _
  refine (pass_args n C P W (gmA n s e).1 (fun w1 => Box _ w0 w1 C M m most mp (gmA n s e).2.1 fk fa ∧ w1.heap[W.heap.size]? = some (.cells #[.bool false] 4 (0, 0)) ∧ Own w1 P 1 (fun _ => .int .u64 (gmA n s e).2.2) ∧ Kept (fun k => k ≠ P) (W.alloc (.cells #[.bool false] 4)) w1) (fun w1 h => h.2.1)
    ((args1_any hb1 n e (he.blw hbel) (.inl (hD P rfl).1) (hD P rfl).2 hP0).mono fun e w1 h => ⟨h.1, h.2.1, (h.2.2.2.block W.heap.size (by omega)).trans hz1, h.2.2.1, h.2.2.2⟩)).mono ?_
  rintro en W' ⟨rfl, w1, ⟨h1, _, h3, h4⟩, rfl⟩
  refine ⟨rfl, _, h1.setFar (o := 0) (.inr ⟨Nat.le_refl _, hl1⟩) (by omega) hw0 (.bool (gmA n s e).1), Own.setFar h3 (by omega) _, fun k hk => .inl hk, ?_⟩
  exact (((Kept.of_below (R := fun k => R k ∧ k ≠ C ∧ ¬ k = P) hbel (fun q hq => hb.lt q hq.1)).trans (h4.mono (fun q hq => hq.2.2))).setCell (p := ⟨W.heap.size, 0, none⟩) (fun hq => Nat.lt_irrefl _ (hb.lt _ hq.1)) (.bool (gmA n s e).1))
def iA1 : InsV := ⟨7, 2, 1, 0, 0, 0, 0⟩
def iA2 : InsV := ⟨7, 8, 1, 4, 0, 0, 0⟩
def iA3 : InsV := ⟨7, 1, 0, 0, 0, 0, 0⟩
def iA4 : InsV := ⟨8, 4, 9, 0, 0, 0, 0⟩
def iA5 : InsV := ⟨23, 0, 0, 0, 0, 3, 0⟩
def iA6 : InsV := ⟨2, 0, 0, 0, 0, 0, 0⟩
theorem tA1 : Tells ⟨7,0,0,2,1,3,192,0⟩ iA1 := ⟨by decide, rfl, rfl, rfl, by decide, by decide⟩
theorem tA2 : Tells ⟨7,4,0,2,49,3,192,0⟩ iA2 := ⟨by decide, rfl, rfl, rfl, by decide, by decide⟩
theorem tA3 : Tells ⟨7,0,0,2,1,3,192,0⟩ iA3 := ⟨by decide, rfl, rfl, rfl, by decide, by decide⟩
theorem tA4 : Tells ⟨8,0,0,2,137,3,192,0⟩ iA4 := ⟨by decide, rfl, rfl, rfl, by decide, by decide⟩
theorem tA5 : Tells ⟨23,0,0,0,205,0,0,3⟩ iA5 := ⟨by decide, rfl, rfl, rfl, by decide, by decide⟩
theorem eA1 : encM ⟨7,0,0,2,1,3,192,0⟩ iA1 = [72, 1, 209] := by decide
theorem eA2 : encM ⟨7,4,0,2,49,3,192,0⟩ iA2 = [76, 49, 193] := by decide
theorem eA3 : encM ⟨7,0,0,2,1,3,192,0⟩ iA3 = [72, 1, 200] := by decide
theorem eA4 : encM ⟨8,0,0,2,137,3,192,0⟩ iA4 = [73, 137, 225] := by decide
theorem eA5 : encM ⟨23,0,0,0,205,0,0,3⟩ iA5 = [205, 3] := by decide
def codG17 : List Nat := [72, 1, 209, 76, 49, 193, 72, 1, 200, 73, 137, 225, 205, 3, 195]
/-- The memory behind so many calls. -/
def mpG17 : Nat → Int → Option Pg
  | 0 => mp17 15 (fun i => bF codG17 i)
  | i + 1 => putP (mpG17 i) 11992 8 (le8 gateA)
structure FetG (mp : Int → Option Pg) : Prop where
  f1 : fetchM mp 4096 12 [] = ⟨false, mp, iA1, 3, 0, 0, 0⟩
  f2 : fetchM mp 4099 12 [] = ⟨false, mp, iA2, 3, 0, 0, 0⟩
  f3 : fetchM mp 4102 12 [] = ⟨false, mp, iA3, 3, 0, 0, 0⟩
  f4 : fetchM mp 4105 12 [] = ⟨false, mp, iA4, 3, 0, 0, 0⟩
  f5 : fetchM mp 4108 12 [] = ⟨false, mp, iA5, 2, 0, 0, 0⟩
  f6 : fetchM mp 4110 12 [] = ⟨false, mp, iA6, 1, 0, 0, 0⟩
  ask : askS mp 1 2 8 11992 8 = (0, 0, none)
  num : numM mp 11992 = gateA
theorem fetG1 : FetG (mpG17 1) := ⟨by kernel_rfl, by kernel_rfl, by kernel_rfl, by kernel_rfl, by kernel_rfl, by kernel_rfl, by kernel_rfl, by kernel_rfl⟩
theorem fetG2 : FetG (mpG17 2) := ⟨by kernel_rfl, by kernel_rfl, by kernel_rfl, by kernel_rfl, by kernel_rfl, by kernel_rfl, by kernel_rfl, by kernel_rfl⟩
def doA (x : InsV) (s : StV) : StV := (s.setR x.b (alC x s).v).setF (alC x s).z (alC x s).s (alC x s).c (alC x s).o
def xA (a0 a1 a2 : Int) : Int := bits .xor .u64 ((a0 + a1) % 18446744073709551616) a2
theorem callG {mp mp' : Int → Option Pg} (hf : FetG mp') (hw : wrM mp (subM 12000) gateA st0 st0 = ⟨true, mp', st0, 0, 0⟩) (a0 a1 a2 e : Int) (ha2 : Word a2) : callM gmA mp 4096 12000 a0 a1 a2 6 e = ⟨xA a0 a1 a2, 0, mp', 0, 11992⟩ := by
  rw [callM_start hw]
  obtain ⟨s0, h0⟩ : ∃ s, startS 4096 12000 a0 a1 a2 = s := ⟨_, rfl⟩
  obtain ⟨s1, h1⟩ : ∃ s, doA iA1 (nextS s0 3) = s := ⟨_, rfl⟩
  obtain ⟨s2, h2⟩ : ∃ s, doA iA2 (nextS s1 3) = s := ⟨_, rfl⟩
  obtain ⟨s3, h3⟩ : ∃ s, doA iA3 (nextS s2 3) = s := ⟨_, rfl⟩
  obtain ⟨s4, h4⟩ : ∃ s, (nextS s3 3).setR 9 (s3.r 4) = s := ⟨_, rfl⟩
  have i0 : s0.ip = 4096 := by rw [← h0]; rfl
  have i1 : s1.ip = 4099 := by rw [← h1]; show (s0.ip + (3 : Nat)) % 18446744073709551616 = _; rw [i0]; rfl
  have i2 : s2.ip = 4102 := by rw [← h2]; show (s1.ip + (3 : Nat)) % 18446744073709551616 = _; rw [i1]; rfl
  have i3 : s3.ip = 4105 := by rw [← h3]; show (s2.ip + (3 : Nat)) % 18446744073709551616 = _; rw [i2]; rfl
  have i4 : s4.ip = 4108 := by rw [← h4]; show (s3.ip + (3 : Nat)) % 18446744073709551616 = _; rw [i3]; rfl
  have q0 : s0.r 1 = a0 ∧ s0.r 2 = a1 ∧ s0.r 8 = a2 ∧ s0.r 4 = 11992 ∧ s0.r 0 = 0 := by rw [← h0]; exact ⟨rfl, rfl, rfl, rfl, rfl⟩
  have q1 : s1.r 1 = (a0 + a1) % 18446744073709551616 ∧ s1.r 8 = a2 ∧ s1.r 4 = 11992 ∧ s1.r 0 = 0 := by
    rw [← h1]
    refine ⟨?_, q0.2.2.1, q0.2.2.2.1, q0.2.2.2.2⟩
    show (s0.r 1 + s0.r 2) % 18446744073709551616 = _
    rw [q0.1, q0.2.1]
  have q2 : s2.r 1 = xA a0 a1 a2 ∧ s2.r 4 = 11992 ∧ s2.r 0 = 0 := by
    rw [← h2]
    refine ⟨?_, q1.2.2.1, q1.2.2.2⟩
    show bits .xor .u64 (s1.r 1) (s1.r 8) = _
    rw [q1.1, q1.2.1]; rfl
  have hx : Word (xA a0 a1 a2) := word_xor ⟨by omega, by omega⟩ ha2
  have hx0 := hx.low
  have hx1 := hx.high
  have q3 : s3.r 0 = xA a0 a1 a2 ∧ s3.r 4 = 11992 := by
    rw [← h3]
    refine ⟨?_, q2.2.1⟩
    show (s2.r 0 + s2.r 1) % 18446744073709551616 = _
    rw [q2.2.2, q2.1]; omega
  have q4 : s4.r 0 = xA a0 a1 a2 ∧ s4.r 4 = 11992 ∧ s4.r 9 = 11992 := by
    rw [← h4]
    exact ⟨q3.1, q3.2, q3.2⟩
  rw [h0]
  refine (runM_step (k := 5) (s' := s1) (by rw [i0]; decide) ((stepF_do (by rw [i0]; exact hf.f1) (show doM iA1 (nextS s0 3) mp' _ = _ from by rw [← h1]; rfl)).trans rfl)).trans ?_
  refine (runM_step (k := 4) (s' := s2) (by rw [i1]; decide) ((stepF_do (by rw [i1]; exact hf.f2) (show doM iA2 (nextS s1 3) mp' _ = _ from by rw [← h2]; rfl)).trans rfl)).trans ?_
  refine (runM_step (k := 3) (s' := s3) (by rw [i2]; decide) ((stepF_do (by rw [i2]; exact hf.f3) (show doM iA3 (nextS s2 3) mp' _ = _ from by rw [← h3]; rfl)).trans rfl)).trans ?_
  refine (runM_step (k := 2) (s' := s4) (by rw [i3]; decide) ((stepF_do (by rw [i3]; exact hf.f4) (show doM iA4 (nextS s3 3) mp' _ = _ from by rw [← h4]; rfl)).trans rfl)).trans ?_
  refine (runM_gate (k := 1) (s' := nextS s4 2) (s'' := nextS s4 2) (n := 259) (e' := 11992) (by rw [i4]; decide) ((stepF_do (by rw [i4]; exact hf.f5) (show doM iA5 (nextS s4 2) mp' _ = _ from rfl)).trans (by
    have : (if iA5.op = 23 then wrap64 (wrap64 (iA5.imm : Int) + 256) else 0 : Int) = 259 := by kernel_rfl
    rw [this])) (by decide) (by
    rw [show wrap64 (259 - 256) = 3 from by kernel_rfl]
    unfold gmA
    rw [if_pos rfl]
    show (true, nextS s4 2, s4.r 9) = _
    rw [q4.2.2])).trans ?_
  have i5 : (nextS s4 2).ip = 4110 := by show (s4.ip + (2 : Nat)) % 18446744073709551616 = _; rw [i4]; rfl
  refine (runM_step (k := 0) (s' := ((nextS (nextS s4 2) 1).setR 4 12000).setIp gateA) (by rw [i5]; decide) ((stepF_do (by rw [i5]; exact hf.f6) (show doM iA6 (nextS (nextS s4 2) 1) mp' _ = ⟨true, mp', ((nextS (nextS s4 2) 1).setR 4 12000).setIp gateA, 0, 0⟩ from by
    show rdM mp' (s4.r 4) (nextS (nextS s4 2) 1) (fun v => ((nextS (nextS s4 2) 1).setR 4 (addM (s4.r 4))).setIp v) = _
    unfold rdM
    rw [q4.2.1, hf.ask, if_pos rfl, hf.num]
    rfl)).trans rfl)).trans ?_
  rw [runM_end rfl]
  show (⟨s4.r 0, 0, mp', 0, 11992⟩ : RunR Int) = _
  rw [q4.1]
end Go.Proofs.Ythbgmlmcjnlopaa
namespace Go.Proofs.Ythbgmlmcjnlopaa
open Go.ChangeShapes Go.WideShapes Go.ChangeAt Go.RowKit
set_option linter.unusedVariables false
set_option linter.unusedSimpArgs false
set_option maxRecDepth 100000

theorem own_zeros1 (w : World) (T : TypeId) : Own (w.alloc (.cells #[.int .u64 0] T)) w.heap.size 1 (fun _ => .int .u64 0) := ⟨by simp, fun i hi => by
  obtain rfl : i = 0 := by omega
  exact ⟨by simp [go_sem], by simp [go_sem]⟩⟩
set_option maxHeartbeats 4000000 in
theorem args_core (w : World) (a0 a1 a2 b0 b1 b2 : Int) (ha0 : 0 ≤ a0 ∧ a0 < 18446744073709551616) (ha1 : 0 ≤ a1 ∧ a1 < 18446744073709551616) (ha2 : 0 ≤ a2 ∧ a2 < 18446744073709551616) (hb0 : 0 ≤ b0 ∧ b0 < 18446744073709551616) (hb1 : 0 ≤ b1 ∧ b1 < 18446744073709551616) (hb2 : 0 ≤ b2 ∧ b2 < 18446744073709551616) :
    Calls Try.prog 9 #[.agg #[.int .u64 a0, .int .u64 a1, .int .u64 a2], .agg #[.int .u64 b0, .int .u64 b1, .int .u64 b2]] w fun e w' => e = .returned (.bool true) ∧ Below w.heap.size w w' := by
  have HA := Lib.hid (And.intro ha0 (And.intro ha1 ha2))
  have HB := Lib.hid (And.intro hb0 (And.intro hb1 hb2))
  clear ha0 ha1 ha2 hb0 hb1 hb2
  go_enter Try.func9, Try.ntmps9
  go_wp2_with fail
  obtain ⟨w0, hw0⟩ : ∃ w0, (w.alloc (.cells #[.int .u64 a0, .int .u64 a1, .int .u64 a2] 64)).alloc (.cells #[.int .u64 b0, .int .u64 b1, .int .u64 b2] 64) = w0 := ⟨_, rfl⟩
  have hXA : w0.heap[w.heap.size]? = some (.cells #[.int .u64 a0, .int .u64 a1, .int .u64 a2] 64 (0, 0)) := by rw [← hw0, Below.heap_alloc _ _ _ (by simp)]; exact heap_alloc_new w _
  have hXB : w0.heap[w.heap.size + 1]? = some (.cells #[.int .u64 b0, .int .u64 b1, .int .u64 b2] 64 (0, 0)) := by
    rw [← hw0]
    have := heap_alloc_new (w.alloc (.cells #[.int .u64 a0, .int .u64 a1, .int .u64 a2] 64)) (.cells #[.int .u64 b0, .int .u64 b1, .int .u64 b2] 64)
    rw [show (w.alloc (.cells #[.int .u64 a0, .int .u64 a1, .int .u64 a2] 64)).heap.size = w.heap.size + 1 by simp] at this
    exact this
  have hB0 : Below w.heap.size w w0 := by rw [← hw0]; exact ((Below.refl _ _).alloc (Nat.le_refl _) _).alloc (by simp) _
  have HXA := Lib.hid hXA
  have HXB := Lib.hid hXB
  have HB0 := Lib.hid hB0
  rw [hw0]
  clear hw0 hXA hXB hB0
  refine (mem0_new w0 2 (by omega) (by omega)).mono ?_
  rintro e w1 ⟨M, rfl, h1⟩
  have H1 := Lib.hid h1
  clear h1
  go_wp2_with fail
  refine (encS tA1 _ eA1 (by decide) _).mono ?_
  rintro e w2 ⟨S1, rfl, h1, (hz1 : S1.size = 3), hb1⟩
  have HS1 := Lib.hid h1
  have HM1 := Lib.hid (H1.out.below hb1)
  clear h1 hb1 H1
  go_wp2_with fail
  refine (encS tA2 _ eA2 (by decide) _).mono ?_
  rintro e w3 ⟨S2, rfl, h2, (hz2 : S2.size = 3), hb2⟩
  have HS2 := Lib.hid h2
  have HM2 := Lib.hid (HM1.out.below hb2)
  clear h2 hb2 HM1
  go_wp2_with fail
  refine (encS tA3 _ eA3 (by decide) _).mono ?_
  rintro e w4 ⟨S3, rfl, h3, (hz3 : S3.size = 3), hb3⟩
  have HS3 := Lib.hid h3
  have HM3 := Lib.hid (HM2.out.below hb3)
  clear h3 hb3 HM2
  go_wp2_with fail
  refine (encS tA4 _ eA4 (by decide) _).mono ?_
  rintro e w5 ⟨S4, rfl, h4, (hz4 : S4.size = 3), hb4⟩
  have HS4 := Lib.hid h4
  have HM4 := Lib.hid (HM3.out.below hb4)
  clear h4 hb4 HM3
  go_wp2_with fail
  refine (encS tA5 _ eA5 (by decide) _).mono ?_
  rintro e w6 ⟨S5, rfl, h5, (hz5 : S5.size = 2), hb5⟩
  have HS5 := Lib.hid h5
  have HM5 := Lib.hid (HM4.out.below hb5)
  clear h5 hb5 HM4
  have hq1 : (⟨#[195]⟩ : ByteArray) = txN [195] := rfl
  obtain ⟨S, hS⟩ : ∃ S, S1 ++ S2 ++ S3 ++ S4 ++ S5 ++ txN [195] = S := ⟨_, rfl⟩
  have hSe : S = txN codG17 := by rw [← hS, HS1.out, HS2.out, HS3.out, HS4.out, HS5.out, txN_cat, txN_cat, txN_cat, txN_cat, txN_cat]; rfl
  have hSz : S.size = 15 := by rw [hSe, txN_size]; rfl
  have HSE := Lib.hid hSe
  clear hSe
  --M1
  go_wp2_with fail
  refine (mem0_map HM5.out 4096 4 1 (by omega) ⟨by decide, by omega, by omega, by omega⟩ (by omega) (by omega) (fun i _ => rfl) (by omega) (by omega)).mono ?_
  rintro e w7 ⟨rfl, h7⟩
  have H7 := Lib.hid h7
  clear h7 HM5
  go_wp2_with fail
  refine (mem0_map H7.out 8192 3 1 (by omega) ⟨by decide, by omega, by omega, by omega⟩ (by omega) (by omega) (fun i hi => by (obtain rfl : i = 0 := by omega); kernel_rfl) (by omega) (by omega)).mono ?_
  rintro e w8 ⟨rfl, h8⟩
  have H8 := Lib.hid h8
  clear h8 H7
  obtain ⟨Cv, wv, hcv, hov, hbv, hc1, hc2⟩ := conv_txN w8 codG17 (by unfold Bn; decide) (by decide)
  rw [← HSE.out] at hcv
  have HOV := Lib.hid hov
  have HC := Lib.hid (And.intro hc1 hc2)
  have HV := Lib.hid (H8.out.below hbv)
  clear hov hbv hc1 hc2
  --M2
  go_wp2_with fail
  refine (mem0_poke HV.out 4096 _ 15 Cv (fun i => bF codG17 i) (by omega) (by omega) (by omega) HC.out.1 HC.out.2 (fun j j0 j1 => ?_) (.inr ⟨w8.heap.size, 0, rfl, .inr ⟨Nat.le_refl _, HOV.out.1⟩, fun j hj => by rw [Nat.zero_add, HOV.out.cell hj]⟩) (bn_bd' (by unfold Bn; decide))).mono ?_
  · rw [show (4096 : Int) + j - (4096 + j) % 4096 = 4096 by omega]
    exact fun h => absurd h (by decide)
  rintro e w9 ⟨rfl, h9, _⟩
  obtain ⟨R9, h9'⟩ : ∃ R, Mem0 R w0 w9 M (0 + 1 + 1) 2 (mpG17 0) := ⟨_, h9⟩
  have H9 := Lib.hid h9'
  clear h9 h9' hcv HOV HC HV H8
  --M3
  go_wp2_with fail
  go_loopw [7] (fun v7 wr => ∃ i : Nat, i ≤ 2 ∧ v7 = .int .i64 i ∧ ∃ R, Mem0 R w0 wr M (0 + 1 + 1) 2 (mpG17 i)) (fun v7 _ => 2 - (intOf v7).toNat)
  case atStart => exact ⟨0, by omega, rfl, R9, H9.out⟩
  case round =>
    clear H9
    obtain ⟨i, hi, rfl, R, hm⟩ := hrel
    have HM := Lib.hid hm
    clear hm
    by_cases hlt : i < 2
    · have hxa := (HM.out.kept.block w.heap.size (lt_of_row' HXA.out)).trans HXA.out
      have hxb := (HM.out.kept.block (w.heap.size + 1) (lt_of_row' HXB.out)).trans HXB.out
      have ca0 : wr.cell? ⟨w.heap.size, 0, none⟩ = some (.int .u64 a0) := by rw [cell_of_row' hxa]; rfl
      have ca1 : wr.cell? ⟨w.heap.size, 1, none⟩ = some (.int .u64 a1) := by rw [cell_of_row' hxa]; rfl
      have ca2 : wr.cell? ⟨w.heap.size, 2, none⟩ = some (.int .u64 a2) := by rw [cell_of_row' hxa]; rfl
      have cb0 : wr.cell? ⟨w.heap.size + 1, 0, none⟩ = some (.int .u64 b0) := by rw [cell_of_row' hxb]; rfl
      have cb1 : wr.cell? ⟨w.heap.size + 1, 1, none⟩ = some (.int .u64 b1) := by rw [cell_of_row' hxb]; rfl
      have cb2 : wr.cell? ⟨w.heap.size + 1, 2, none⟩ = some (.int .u64 b2) := by rw [cell_of_row' hxb]; rfl
      clear hxa hxb
      rcases (by omega : i = 0 ∨ i = 1) with rfl | rfl
      · --M40
        go_upto_region 10 with (fail)
        obtain ⟨w10, hw10⟩ : ∃ w10, ((wr.alloc (.cells #[.int .u64 a0, .int .u64 a1, .int .u64 a2, .int .u64 b0, .int .u64 b1, .int .u64 b2] 64)).alloc (.cells #[.int .u64 a0, .int .u64 a1, .int .u64 a2] 64)).alloc (.cells #[.int .u64 0] 22) = w10 := ⟨_, rfl⟩
        have hb10 : Below wr.heap.size wr w10 := by rw [← hw10]; exact (((Below.refl _ _).alloc (Nat.le_refl _) _).alloc (by simp) _).alloc (by simp <;> omega) _
        have hx10 : w10.heap[wr.heap.size + 1]? = some (.cells #[.int .u64 a0, .int .u64 a1, .int .u64 a2] 64 (0, 0)) := by
          rw [← hw10, Below.heap_alloc _ _ _ (by simp)]
          have := heap_alloc_new (wr.alloc (.cells #[.int .u64 a0, .int .u64 a1, .int .u64 a2, .int .u64 b0, .int .u64 b1, .int .u64 b2] 64)) (.cells #[.int .u64 a0, .int .u64 a1, .int .u64 a2] 64)
          rw [show (wr.alloc (.cells #[.int .u64 a0, .int .u64 a1, .int .u64 a2, .int .u64 b0, .int .u64 b1, .int .u64 b2] 64)).heap.size = wr.heap.size + 1 by simp] at this
          exact this
        have hp10 : Own w10 (wr.heap.size + 1 + 1) 1 (fun _ => .int .u64 0) := by
          rw [← hw10]
          have := own_zeros1 ((wr.alloc (.cells #[.int .u64 a0, .int .u64 a1, .int .u64 a2, .int .u64 b0, .int .u64 b1, .int .u64 b2] 64)).alloc (.cells #[.int .u64 a0, .int .u64 a1, .int .u64 a2] 64)) 22
          rw [show ((wr.alloc (.cells #[.int .u64 a0, .int .u64 a1, .int .u64 a2, .int .u64 b0, .int .u64 b1, .int .u64 b2] 64)).alloc (.cells #[.int .u64 a0, .int .u64 a1, .int .u64 a2] 64)).heap.size = wr.heap.size + 1 + 1 by simp] at this
          exact this
        obtain ⟨R1, hm10, hr10⟩ : ∃ R1, Mem0 R1 w0 w10 M (0 + 1 + 1) 2 (mpG17 0) ∧ (∀ q, wr.heap.size ≤ q → q < w10.heap.size → R1 q) := ⟨_, HM.out.below hb10, fun q h1 h2 => .inr ⟨h1, h2⟩⟩
        have hw0 := HM.out.kept.size
        obtain ⟨X, hX⟩ : ∃ X, wr.heap.size + 1 = X := ⟨_, rfl⟩
        obtain ⟨P, hP⟩ : ∃ P, X + 1 = P := ⟨_, rfl⟩
        rw [hw10, hX, hP]
        rw [hX] at hx10
        rw [hX, hP] at hp10
        have HPX := Lib.hid (show R1 X ∧ R1 P ∧ X ≠ P ∧ w0.heap.size ≤ P from ⟨hr10 X (by omega) (lt_of_row' hx10), hr10 P (by omega) hp10.1, by omega, by omega⟩)
        have HM10 := Lib.hid hm10
        have HX10 := Lib.hid hx10
        have HP10 := Lib.hid hp10
        have hmf : ∀ (fn : Fn) (first cap : Array Value) (w : World), (Instr.makeFunc fn first cap).run Try.prog w = .ok (.func fn first cap) w := fun _ _ _ _ => rfl
        have hax := HA.out
        clear hw10 hb10 hx10 hp10 hm10 hr10 hw0 hX hP ca0 ca1 ca2 cb0 cb1 cb2 HM
        have HS := Lib.hid (show w10.drew.heap[X]? = some (.cells #[.int .u64 a0, .int .u64 a1, .int .u64 a2] 64 (0, 0)) from HX10.out)
        refine wp_region_noPanic ?_
        refine wp_region_K (fun W => W.heap[X]? = some (.cells #[.int .u64 a0, .int .u64 a1, .int .u64 a2] 64 (0, 0))) (fun _ => True) 99 (by kernel_rfl) ?_
        refine wpAnyK_take (i := 0) (oi := ?_) (v := ?_) ?_ (by kernel_rfl) (by kernel_rfl) (by kernel_rfl) (fun _ _ _ h => h) (by decide) ?_ HS.out (fun _ => trivial) ?_
        rotate_left 2
        · (simp only [List.getElem?_toArray, List.getElem?_cons_succ, List.getElem?_cons_zero]; rfl)
        · (first | exact Or.inr ⟨by rfl, rfl⟩ | (refine Or.inl ⟨by rfl, ?_⟩; intro W hSw; clear hSw; go_simp; try with_reducible rfl))
        try simp only [Act.put, List.setIfInBounds_toArray, List.set_cons_zero, List.set_cons_succ]
        refine wpAnyK_take (i := 1) (oi := ?_) (v := ?_) ?_ (by kernel_rfl) (by kernel_rfl) (by kernel_rfl) (fun _ _ _ h => h) (by decide) ?_ HS.out (fun _ => trivial) ?_
        rotate_left 2
        · (simp only [List.getElem?_toArray, List.getElem?_cons_succ, List.getElem?_cons_zero]; rfl)
        · refine yieldsIf_load_row_g 64 (.tmp 8) X 64 #[.int .u64 a0, .int .u64 a1, .int .u64 a2] (0, 0) ?_ ?_ ?_ ?_ ?_ ?_
          · rfl
          · rfl
          · first | rfl | simp [Act.eval]
          · exact fun W hW => hW
          · rfl
          · rfl
        try simp only [Act.put, List.setIfInBounds_toArray, List.set_cons_zero, List.set_cons_succ]
        refine wpAnyK_take (i := 3) (oi := ?_) (v := ?_) ?_ (by kernel_rfl) (by kernel_rfl) (by kernel_rfl) (fun _ _ _ h => h) (by decide) ?_ HS.out (fun _ => trivial) ?_
        rotate_left 2
        · (simp only [List.getElem?_toArray, List.getElem?_cons_succ, List.getElem?_cons_zero]; rfl)
        · (first | exact Or.inr ⟨by rfl, rfl⟩ | (refine Or.inl ⟨by rfl, ?_⟩; intro W hSw; clear hSw; go_simp; try with_reducible rfl))
        try simp only [Act.put, List.setIfInBounds_toArray, List.set_cons_zero, List.set_cons_succ]
        refine wpAnyK_one (i := 2) (o := ?_) (by kernel_rfl) ?_ (fun K hK => ?_)
        rotate_left 1
        · (simp only [List.getElem?_toArray, List.getElem?_cons_succ, List.getElem?_cons_zero]; rfl)
        go_simp
        go_at_call 32
        refine (newFuel_any w10.drew 6 (by omega)).mono ?_
        rintro e w11 ⟨rfl, hb11, hf11⟩
        have hbd : Below w10.heap.size w10 w10.drew := (Below.refl _ _).drew
        have hb11' : Below w10.heap.size w10 w11 := hbd.trans hb11
        obtain ⟨R11, hm11, hr11, hs11, hg11⟩ := fuel_in (w' := w11) HM10.out hb11' (n := 6) hf11
        have HM11 := Lib.hid hm11
        have HR11 := Lib.hid (And.intro hr11 (And.intro hg11 (And.intro (hs11 X HPX.out.1) (hs11 P HPX.out.2.1))))
        have HF11 := Lib.hid (show FuelN w11 w10.heap.size 6 from hf11)
        have HX11 := Lib.hid ((hb11'.block X (lt_of_row' HX10.out)).trans HX10.out)
        have HP11 := Lib.hid (HP10.out.blw hb11')
        have hlx := lt_of_row' HX10.out
        have hlp := HP10.out.1
        obtain ⟨Fg, hFg⟩ : ∃ Fg, w10.heap.size = Fg := ⟨_, rfl⟩
        rw [show w10.drew.heap.size = w10.heap.size from rfl]
        rw [hFg] at HR11 HF11 hlx hlp ⊢
        have HNE := Lib.hid (show P ≠ Fg ∧ X ≠ Fg from ⟨by omega, by omega⟩)
        clear hb11 hf11 hbd hb11' hm11 hr11 hs11 hg11 hlx hlp hFg HM10 HP10 HX10
        refine hK.out _ _ HX11.out (fun _ => trivial) ?_
        clear hK K
        try simp only [Act.put, List.setIfInBounds_toArray, List.set_cons_zero, List.set_cons_succ]
        --N0
        refine wpAnyK_one (i := 4) (o := ?_) (by kernel_rfl) ?_ (fun K hK => ?_)
        rotate_left 1
        · (simp only [List.getElem?_toArray, List.getElem?_cons_succ, List.getElem?_cons_zero]; rfl)
        go_simp
        go_at_call 31
        refine (call_any R11 w0 w11 M _ 2 (mpG17 0) HM11.out 4096 12000 a0 a1 a2 (by omega) (by omega) hax.1 hax.2.1 hax.2.2 Fg 6 HF11.out HR11.out.1 (by omega) HR11.out.2.1 _ gmA (fun (e : Int) W => Own W P 1 (fun _ => .int .u64 e)) (fun q => q = P) (gate_args w0 M _ P 2 HPX.out.2.2.2) (fun q hq => by rw [hq]; exact ⟨HR11.out.2.2.2, HNE.out.1⟩) 0 HP11.out rfl _ (callG (mp' := mpG17 1) fetG1 (by kernel_rfl) a0 a1 a2 0 ⟨hax.2.2.1, hax.2.2.2⟩)).mono ?_
        rintro e w12 ⟨rfl, hq⟩
        obtain ⟨R12, hm12, hs12⟩ := hq.ex
        have HM12 := Lib.hid (show Mem0 R12 w0 w12 M _ 2 (mpG17 1) from hm12)
        have HP12 := Lib.hid (show Own w12 P 1 (fun _ => .int .u64 11992) from hq.env)
        have HX12 := Lib.hid ((hq.kept.block X ⟨HR11.out.2.2.1, HNE.out.2, HPX.out.2.2.1⟩).trans HX11.out)
        clear hq hm12 hs12 HM11 HF11 HP11 HX11
        refine hK.out _ _ HX12.out (fun _ => trivial) ?_
        clear hK K
        try simp only [Act.put, List.setIfInBounds_toArray, List.set_cons_zero, List.set_cons_succ]
        refine wpAnyK_take (i := 5) (oi := ?_) (v := ?_) ?_ (by kernel_rfl) (by kernel_rfl) (by kernel_rfl) (fun _ _ _ h => h) (by decide) ?_ HX12.out (fun _ => trivial) ?_
        rotate_left 2
        · (simp only [List.getElem?_toArray, List.getElem?_cons_succ, List.getElem?_cons_zero]; rfl)
        · (first | exact Or.inr ⟨by rfl, rfl⟩ | (refine Or.inl ⟨by rfl, ?_⟩; intro W hSw; clear hSw; go_simp; try with_reducible rfl))
        try simp only [Act.put, List.setIfInBounds_toArray, List.set_cons_zero, List.set_cons_succ]
        refine wpAnyK_take (i := 6) (oi := ?_) (v := ?_) ?_ (by kernel_rfl) (by kernel_rfl) (by kernel_rfl) (fun _ _ _ h => h) (by decide) ?_ HX12.out (fun _ => trivial) ?_
        rotate_left 2
        · (simp only [List.getElem?_toArray, List.getElem?_cons_succ, List.getElem?_cons_zero]; rfl)
        · (first | exact Or.inr ⟨by rfl, rfl⟩ | (refine Or.inl ⟨by rfl, ?_⟩; intro W hSw; clear hSw; go_simp; try with_reducible rfl))
        try simp only [Act.put, List.setIfInBounds_toArray, List.set_cons_zero, List.set_cons_succ]
        refine wpAnyK_take (i := 7) (oi := ?_) (v := ?_) ?_ (by kernel_rfl) (by kernel_rfl) (by kernel_rfl) (fun _ _ _ h => h) (by decide) ?_ HX12.out (fun _ => trivial) ?_
        rotate_left 2
        · (simp only [List.getElem?_toArray, List.getElem?_cons_succ, List.getElem?_cons_zero]; rfl)
        · (first | exact Or.inr ⟨by rfl, rfl⟩ | (refine Or.inl ⟨by rfl, ?_⟩; intro W hSw; clear hSw; go_simp; try with_reducible rfl))
        try simp only [Act.put, List.setIfInBounds_toArray, List.set_cons_zero, List.set_cons_succ]
        refine wpAnyK_take (i := 8) (oi := ?_) (v := ?_) ?_ (by kernel_rfl) (by kernel_rfl) (by kernel_rfl) (fun _ _ _ h => h) (by decide) ?_ HX12.out (fun _ => trivial) ?_
        rotate_left 2
        · (simp only [List.getElem?_toArray, List.getElem?_cons_succ, List.getElem?_cons_zero]; rfl)
        · (first | exact Or.inr ⟨by rfl, rfl⟩ | (refine Or.inl ⟨by rfl, ?_⟩; intro W hSw; clear hSw; go_simp; try with_reducible rfl))
        try simp only [Act.put, List.setIfInBounds_toArray, List.set_cons_zero, List.set_cons_succ]
        refine wpAnyK_take (i := 9) (oi := ?_) (v := ?_) ?_ (by kernel_rfl) (by kernel_rfl) (by kernel_rfl) (fun _ _ _ h => h) (by decide) ?_ HX12.out (fun _ => trivial) ?_
        rotate_left 2
        · (simp only [List.getElem?_toArray, List.getElem?_cons_succ, List.getElem?_cons_zero]; rfl)
        · (first | exact Or.inr ⟨by rfl, rfl⟩ | (refine Or.inl ⟨by rfl, ?_⟩; intro W hSw; clear hSw; go_simp; try with_reducible rfl))
        try simp only [Act.put, List.setIfInBounds_toArray, List.set_cons_zero, List.set_cons_succ]
        refine wpAnyK_done (by kernel_rfl) ?_ _
        refine NoPanic.normal ?_
        have hcp := HP12.out.cell (i := 0) (by omega)
        have d0 : w12.cell? ⟨X, 0, none⟩ = some (.int .u64 a0) := by rw [cell_of_row' HX12.out]; rfl
        have d1 : w12.cell? ⟨X, 1, none⟩ = some (.int .u64 a1) := by rw [cell_of_row' HX12.out]; rfl
        have d2 : w12.cell? ⟨X, 2, none⟩ = some (.int .u64 a2) := by rw [cell_of_row' HX12.out]; rfl
        obtain ⟨Y, hY⟩ : ∃ Y, ((a0 : Int) + a1) % 18446744073709551616 = Y := ⟨_, rfl⟩
        have hwy : IntKind.u64.wrap (a0 + a1) = Y := by rw [IntKind.wrap_u64]; exact hY
        obtain ⟨Z, hZ⟩ : ∃ Z, bits .xor .u64 Y a2 = Z := ⟨_, rfl⟩
        rw [show xA a0 a1 a2 = Z by unfold xA; rw [hY, hZ]]
        clear hax hY hmf
        --O0
        go_wp2_with fail
        go_roundw
        case rel => exact ⟨1, by omega, by go_num, R12, HM12.out⟩
        case measure => simp [intOf]
      · --M41
        go_upto_region 10 with (fail)
        obtain ⟨w10, hw10⟩ : ∃ w10, ((wr.alloc (.cells #[.int .u64 a0, .int .u64 a1, .int .u64 a2, .int .u64 b0, .int .u64 b1, .int .u64 b2] 64)).alloc (.cells #[.int .u64 b0, .int .u64 b1, .int .u64 b2] 64)).alloc (.cells #[.int .u64 0] 22) = w10 := ⟨_, rfl⟩
        have hb10 : Below wr.heap.size wr w10 := by rw [← hw10]; exact (((Below.refl _ _).alloc (Nat.le_refl _) _).alloc (by simp) _).alloc (by simp <;> omega) _
        have hx10 : w10.heap[wr.heap.size + 1]? = some (.cells #[.int .u64 b0, .int .u64 b1, .int .u64 b2] 64 (0, 0)) := by
          rw [← hw10, Below.heap_alloc _ _ _ (by simp)]
          have := heap_alloc_new (wr.alloc (.cells #[.int .u64 a0, .int .u64 a1, .int .u64 a2, .int .u64 b0, .int .u64 b1, .int .u64 b2] 64)) (.cells #[.int .u64 b0, .int .u64 b1, .int .u64 b2] 64)
          rw [show (wr.alloc (.cells #[.int .u64 a0, .int .u64 a1, .int .u64 a2, .int .u64 b0, .int .u64 b1, .int .u64 b2] 64)).heap.size = wr.heap.size + 1 by simp] at this
          exact this
        have hp10 : Own w10 (wr.heap.size + 1 + 1) 1 (fun _ => .int .u64 0) := by
          rw [← hw10]
          have := own_zeros1 ((wr.alloc (.cells #[.int .u64 a0, .int .u64 a1, .int .u64 a2, .int .u64 b0, .int .u64 b1, .int .u64 b2] 64)).alloc (.cells #[.int .u64 b0, .int .u64 b1, .int .u64 b2] 64)) 22
          rw [show ((wr.alloc (.cells #[.int .u64 a0, .int .u64 a1, .int .u64 a2, .int .u64 b0, .int .u64 b1, .int .u64 b2] 64)).alloc (.cells #[.int .u64 b0, .int .u64 b1, .int .u64 b2] 64)).heap.size = wr.heap.size + 1 + 1 by simp] at this
          exact this
        obtain ⟨R1, hm10, hr10⟩ : ∃ R1, Mem0 R1 w0 w10 M (0 + 1 + 1) 2 (mpG17 1) ∧ (∀ q, wr.heap.size ≤ q → q < w10.heap.size → R1 q) := ⟨_, HM.out.below hb10, fun q h1 h2 => .inr ⟨h1, h2⟩⟩
        have hw0 := HM.out.kept.size
        obtain ⟨X, hX⟩ : ∃ X, wr.heap.size + 1 = X := ⟨_, rfl⟩
        obtain ⟨P, hP⟩ : ∃ P, X + 1 = P := ⟨_, rfl⟩
        rw [hw10, hX, hP]
        rw [hX] at hx10
        rw [hX, hP] at hp10
        have HPX := Lib.hid (show R1 X ∧ R1 P ∧ X ≠ P ∧ w0.heap.size ≤ P from ⟨hr10 X (by omega) (lt_of_row' hx10), hr10 P (by omega) hp10.1, by omega, by omega⟩)
        have HM10 := Lib.hid hm10
        have HX10 := Lib.hid hx10
        have HP10 := Lib.hid hp10
        have hmf : ∀ (fn : Fn) (first cap : Array Value) (w : World), (Instr.makeFunc fn first cap).run Try.prog w = .ok (.func fn first cap) w := fun _ _ _ _ => rfl
        have hax := HB.out
        clear hw10 hb10 hx10 hp10 hm10 hr10 hw0 hX hP ca0 ca1 ca2 cb0 cb1 cb2 HM
        have HS := Lib.hid (show w10.drew.heap[X]? = some (.cells #[.int .u64 b0, .int .u64 b1, .int .u64 b2] 64 (0, 0)) from HX10.out)
        refine wp_region_noPanic ?_
        refine wp_region_K (fun W => W.heap[X]? = some (.cells #[.int .u64 b0, .int .u64 b1, .int .u64 b2] 64 (0, 0))) (fun _ => True) 99 (by kernel_rfl) ?_
        refine wpAnyK_take (i := 0) (oi := ?_) (v := ?_) ?_ (by kernel_rfl) (by kernel_rfl) (by kernel_rfl) (fun _ _ _ h => h) (by decide) ?_ HS.out (fun _ => trivial) ?_
        rotate_left 2
        · (simp only [List.getElem?_toArray, List.getElem?_cons_succ, List.getElem?_cons_zero]; rfl)
        · (first | exact Or.inr ⟨by rfl, rfl⟩ | (refine Or.inl ⟨by rfl, ?_⟩; intro W hSw; clear hSw; go_simp; try with_reducible rfl))
        try simp only [Act.put, List.setIfInBounds_toArray, List.set_cons_zero, List.set_cons_succ]
        refine wpAnyK_take (i := 1) (oi := ?_) (v := ?_) ?_ (by kernel_rfl) (by kernel_rfl) (by kernel_rfl) (fun _ _ _ h => h) (by decide) ?_ HS.out (fun _ => trivial) ?_
        rotate_left 2
        · (simp only [List.getElem?_toArray, List.getElem?_cons_succ, List.getElem?_cons_zero]; rfl)
        · refine yieldsIf_load_row_g 64 (.tmp 8) X 64 #[.int .u64 b0, .int .u64 b1, .int .u64 b2] (0, 0) ?_ ?_ ?_ ?_ ?_ ?_
          · rfl
          · rfl
          · first | rfl | simp [Act.eval]
          · exact fun W hW => hW
          · rfl
          · rfl
        try simp only [Act.put, List.setIfInBounds_toArray, List.set_cons_zero, List.set_cons_succ]
        refine wpAnyK_take (i := 3) (oi := ?_) (v := ?_) ?_ (by kernel_rfl) (by kernel_rfl) (by kernel_rfl) (fun _ _ _ h => h) (by decide) ?_ HS.out (fun _ => trivial) ?_
        rotate_left 2
        · (simp only [List.getElem?_toArray, List.getElem?_cons_succ, List.getElem?_cons_zero]; rfl)
        · (first | exact Or.inr ⟨by rfl, rfl⟩ | (refine Or.inl ⟨by rfl, ?_⟩; intro W hSw; clear hSw; go_simp; try with_reducible rfl))
        try simp only [Act.put, List.setIfInBounds_toArray, List.set_cons_zero, List.set_cons_succ]
        refine wpAnyK_one (i := 2) (o := ?_) (by kernel_rfl) ?_ (fun K hK => ?_)
        rotate_left 1
        · (simp only [List.getElem?_toArray, List.getElem?_cons_succ, List.getElem?_cons_zero]; rfl)
        go_simp
        go_at_call 32
        refine (newFuel_any w10.drew 6 (by omega)).mono ?_
        rintro e w11 ⟨rfl, hb11, hf11⟩
        have hbd : Below w10.heap.size w10 w10.drew := (Below.refl _ _).drew
        have hb11' : Below w10.heap.size w10 w11 := hbd.trans hb11
        obtain ⟨R11, hm11, hr11, hs11, hg11⟩ := fuel_in (w' := w11) HM10.out hb11' (n := 6) hf11
        have HM11 := Lib.hid hm11
        have HR11 := Lib.hid (And.intro hr11 (And.intro hg11 (And.intro (hs11 X HPX.out.1) (hs11 P HPX.out.2.1))))
        have HF11 := Lib.hid (show FuelN w11 w10.heap.size 6 from hf11)
        have HX11 := Lib.hid ((hb11'.block X (lt_of_row' HX10.out)).trans HX10.out)
        have HP11 := Lib.hid (HP10.out.blw hb11')
        have hlx := lt_of_row' HX10.out
        have hlp := HP10.out.1
        obtain ⟨Fg, hFg⟩ : ∃ Fg, w10.heap.size = Fg := ⟨_, rfl⟩
        rw [show w10.drew.heap.size = w10.heap.size from rfl]
        rw [hFg] at HR11 HF11 hlx hlp ⊢
        have HNE := Lib.hid (show P ≠ Fg ∧ X ≠ Fg from ⟨by omega, by omega⟩)
        clear hb11 hf11 hbd hb11' hm11 hr11 hs11 hg11 hlx hlp hFg HM10 HP10 HX10
        refine hK.out _ _ HX11.out (fun _ => trivial) ?_
        clear hK K
        try simp only [Act.put, List.setIfInBounds_toArray, List.set_cons_zero, List.set_cons_succ]
        --N1
        refine wpAnyK_one (i := 4) (o := ?_) (by kernel_rfl) ?_ (fun K hK => ?_)
        rotate_left 1
        · (simp only [List.getElem?_toArray, List.getElem?_cons_succ, List.getElem?_cons_zero]; rfl)
        go_simp
        go_at_call 31
        refine (call_any R11 w0 w11 M _ 2 (mpG17 1) HM11.out 4096 12000 b0 b1 b2 (by omega) (by omega) hax.1 hax.2.1 hax.2.2 Fg 6 HF11.out HR11.out.1 (by omega) HR11.out.2.1 _ gmA (fun (e : Int) W => Own W P 1 (fun _ => .int .u64 e)) (fun q => q = P) (gate_args w0 M _ P 2 HPX.out.2.2.2) (fun q hq => by rw [hq]; exact ⟨HR11.out.2.2.2, HNE.out.1⟩) 0 HP11.out rfl _ (callG (mp' := mpG17 2) fetG2 (by kernel_rfl) b0 b1 b2 0 ⟨hax.2.2.1, hax.2.2.2⟩)).mono ?_
        rintro e w12 ⟨rfl, hq⟩
        obtain ⟨R12, hm12, hs12⟩ := hq.ex
        have HM12 := Lib.hid (show Mem0 R12 w0 w12 M _ 2 (mpG17 2) from hm12)
        have HP12 := Lib.hid (show Own w12 P 1 (fun _ => .int .u64 11992) from hq.env)
        have HX12 := Lib.hid ((hq.kept.block X ⟨HR11.out.2.2.1, HNE.out.2, HPX.out.2.2.1⟩).trans HX11.out)
        clear hq hm12 hs12 HM11 HF11 HP11 HX11
        refine hK.out _ _ HX12.out (fun _ => trivial) ?_
        clear hK K
        try simp only [Act.put, List.setIfInBounds_toArray, List.set_cons_zero, List.set_cons_succ]
        refine wpAnyK_take (i := 5) (oi := ?_) (v := ?_) ?_ (by kernel_rfl) (by kernel_rfl) (by kernel_rfl) (fun _ _ _ h => h) (by decide) ?_ HX12.out (fun _ => trivial) ?_
        rotate_left 2
        · (simp only [List.getElem?_toArray, List.getElem?_cons_succ, List.getElem?_cons_zero]; rfl)
        · (first | exact Or.inr ⟨by rfl, rfl⟩ | (refine Or.inl ⟨by rfl, ?_⟩; intro W hSw; clear hSw; go_simp; try with_reducible rfl))
        try simp only [Act.put, List.setIfInBounds_toArray, List.set_cons_zero, List.set_cons_succ]
        refine wpAnyK_take (i := 6) (oi := ?_) (v := ?_) ?_ (by kernel_rfl) (by kernel_rfl) (by kernel_rfl) (fun _ _ _ h => h) (by decide) ?_ HX12.out (fun _ => trivial) ?_
        rotate_left 2
        · (simp only [List.getElem?_toArray, List.getElem?_cons_succ, List.getElem?_cons_zero]; rfl)
        · (first | exact Or.inr ⟨by rfl, rfl⟩ | (refine Or.inl ⟨by rfl, ?_⟩; intro W hSw; clear hSw; go_simp; try with_reducible rfl))
        try simp only [Act.put, List.setIfInBounds_toArray, List.set_cons_zero, List.set_cons_succ]
        refine wpAnyK_take (i := 7) (oi := ?_) (v := ?_) ?_ (by kernel_rfl) (by kernel_rfl) (by kernel_rfl) (fun _ _ _ h => h) (by decide) ?_ HX12.out (fun _ => trivial) ?_
        rotate_left 2
        · (simp only [List.getElem?_toArray, List.getElem?_cons_succ, List.getElem?_cons_zero]; rfl)
        · (first | exact Or.inr ⟨by rfl, rfl⟩ | (refine Or.inl ⟨by rfl, ?_⟩; intro W hSw; clear hSw; go_simp; try with_reducible rfl))
        try simp only [Act.put, List.setIfInBounds_toArray, List.set_cons_zero, List.set_cons_succ]
        refine wpAnyK_take (i := 8) (oi := ?_) (v := ?_) ?_ (by kernel_rfl) (by kernel_rfl) (by kernel_rfl) (fun _ _ _ h => h) (by decide) ?_ HX12.out (fun _ => trivial) ?_
        rotate_left 2
        · (simp only [List.getElem?_toArray, List.getElem?_cons_succ, List.getElem?_cons_zero]; rfl)
        · (first | exact Or.inr ⟨by rfl, rfl⟩ | (refine Or.inl ⟨by rfl, ?_⟩; intro W hSw; clear hSw; go_simp; try with_reducible rfl))
        try simp only [Act.put, List.setIfInBounds_toArray, List.set_cons_zero, List.set_cons_succ]
        refine wpAnyK_take (i := 9) (oi := ?_) (v := ?_) ?_ (by kernel_rfl) (by kernel_rfl) (by kernel_rfl) (fun _ _ _ h => h) (by decide) ?_ HX12.out (fun _ => trivial) ?_
        rotate_left 2
        · (simp only [List.getElem?_toArray, List.getElem?_cons_succ, List.getElem?_cons_zero]; rfl)
        · (first | exact Or.inr ⟨by rfl, rfl⟩ | (refine Or.inl ⟨by rfl, ?_⟩; intro W hSw; clear hSw; go_simp; try with_reducible rfl))
        try simp only [Act.put, List.setIfInBounds_toArray, List.set_cons_zero, List.set_cons_succ]
        refine wpAnyK_done (by kernel_rfl) ?_ _
        refine NoPanic.normal ?_
        have hcp := HP12.out.cell (i := 0) (by omega)
        have d0 : w12.cell? ⟨X, 0, none⟩ = some (.int .u64 b0) := by rw [cell_of_row' HX12.out]; rfl
        have d1 : w12.cell? ⟨X, 1, none⟩ = some (.int .u64 b1) := by rw [cell_of_row' HX12.out]; rfl
        have d2 : w12.cell? ⟨X, 2, none⟩ = some (.int .u64 b2) := by rw [cell_of_row' HX12.out]; rfl
        obtain ⟨Y, hY⟩ : ∃ Y, ((b0 : Int) + b1) % 18446744073709551616 = Y := ⟨_, rfl⟩
        have hwy : IntKind.u64.wrap (b0 + b1) = Y := by rw [IntKind.wrap_u64]; exact hY
        obtain ⟨Z, hZ⟩ : ∃ Z, bits .xor .u64 Y b2 = Z := ⟨_, rfl⟩
        rw [show xA b0 b1 b2 = Z by unfold xA; rw [hY, hZ]]
        clear hax hY hmf
        --O1
        go_wp2_with fail
        go_roundw
        case rel => exact ⟨2, by omega, by go_num, R12, HM12.out⟩
        case measure => simp [intOf]
    · obtain rfl : i = 2 := by omega
      go_wp2_with fail
      refine (awake17_any wr).mono ?_
      rintro e w10 ⟨rfl, hb10⟩
      have HE := Lib.hid ((HB0.out.trans (HM.out.ends.mono HB0.out.size)).trans (hb10.mono (Nat.le_trans HB0.out.size HM.out.ends.size)))
      go_wp2
      go_ret
      exact ⟨rfl, HE.out⟩
end Go.Proofs.Ythbgmlmcjnlopaa
