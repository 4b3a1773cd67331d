/- slipwayref14.Encode. (mkencr.py) -/
import Derived.Test.YthbgmlmcjnlopaaMchW
namespace Go.Proofs.Ythbgmlmcjnlopaa
open Go.ChangeShapes Go.WideShapes Go.ChangeAt Go.RowKit
set_option linter.unusedVariables false
set_option linter.unusedSimpArgs false
set_option maxRecDepth 100000

theorem and_255u (x : Int) (h0 : 0 ≤ x) (h1 : x < 18446744073709551616) : bits .and .u64 x 255 = x % 256 := by
  obtain ⟨n, rfl⟩ : ∃ n : Nat, x = n := ⟨x.toNat, by omega⟩
  show IntKind.u64.wrap ((BitVec.ofInt 64 (n : Int) &&& BitVec.ofInt 64 ((2 ^ 8 - 1 : Nat) : Int)).toNat : Int) = _
  rw [BitVec.toNat_and]
  have e1 : (BitVec.ofInt 64 ((2 ^ 8 - 1 : Nat) : Int)).toNat = 2 ^ 8 - 1 := by decide
  have e2 : (BitVec.ofInt 64 (n : Int)).toNat = n := by rw [BitVec.ofInt_natCast, BitVec.toNat_ofNat]; exact Nat.mod_eq_of_lt (by omega)
  rw [e1, e2, Nat.and_two_pow_sub_one_eq_mod, IntKind.wrap_u64]
  omega
def hiN (n bit : Nat) : Nat := if 7 < n then bit else 0
theorem hiN_le (n bit : Nat) : hiN n bit ≤ bit := by unfold hiN; split <;> omega
theorem high_nat (n b : Nat) (w : World) : Calls Try.prog 40 #[.int .i64 n, .int .i64 b] w fun e w' => e = .returned (.int .i64 (hiN n b)) ∧ w' = w := by
  refine (high_any n b w).mono ?_
  rintro e w' ⟨rfl, rfl⟩
  refine ⟨?_, rfl⟩
  unfold hiN
  by_cases h : 7 < n
  · rw [if_pos h, if_pos (by omega)]
  · rw [if_neg h, if_neg (by omega)]; rfl
theorem one_at (n : Int) (N : Nat) (w : World) (hn : n % 256 = N) : Calls Try.prog 39 #[.int .i64 n] w fun e w' => ∃ S, e = .returned (.string S) ∧ S = txN [N] ∧ S.size = 1 ∧ Below w.heap.size w w' := by
  refine (one_any n w).mono ?_
  rintro e w' ⟨rfl, hb⟩
  exact ⟨_, rfl, by rw [hn]; rfl, by rw [txN_size]; rfl, hb⟩
theorem bytesR_at (v n : Nat) (w : World) (h1 : v < 18446744073709551616) (hn : n ≤ 8) : Calls Try.prog 41 #[.int .u64 v, .int .i64 n] w fun e w' => ∃ S, e = .returned (.string S) ∧ S = txN (leBytes v n) ∧ S.size = n ∧ Below w.heap.size w w' := by
  refine (bytesR_any v n w h1 hn).mono ?_
  rintro e w' ⟨rfl, hb⟩
  exact ⟨_, rfl, rfl, by rw [txN_size]; simp [leBytes], hb⟩
def aluB (n : Nat) : Nat := if n = 0 then 1 else if n = 1 then 41 else if n = 2 then 33 else if n = 3 then 9 else if n = 4 then 49 else if n = 7 then 57 else 133
theorem aluByte_at (n : Nat) (w : World) (hn : n = 0 ∨ n = 1 ∨ n = 2 ∨ n = 3 ∨ n = 4 ∨ n = 7 ∨ n = 8) : Calls Try.prog 42 #[.int .i64 n] w fun e w' => e = .returned (.int .u8 (aluB n)) ∧ w' = w := by
  rcases hn with rfl | rfl | rfl | rfl | rfl | rfl | rfl
  all_goals
    go_enter Try.func42, Try.ntmps42
    go_wp2
    go_ret
    exact ⟨rfl, rfl⟩
def oneB (o n : Nat) : Nat := if o = 14 then (if n = 0 then 192 else if n = 1 then 232 else 248) else if o = 15 then (if n = 5 then 192 else 200) else (if n = 9 then 224 else 232)
theorem oneByte_at (o n : Nat) (w : World) (hn : (o = 14 ∧ (n = 0 ∨ n = 1 ∨ n = 7)) ∨ (o = 15 ∧ (n = 5 ∨ n = 6)) ∨ (o = 16 ∧ (n = 9 ∨ n = 10))) : Calls Try.prog 43 #[.int .i64 o, .int .i64 n] w fun e w' => e = .returned (.int .u8 (oneB o n)) ∧ w' = w := by
  rcases hn with ⟨rfl, rfl | rfl | rfl⟩ | ⟨rfl, rfl | rfl⟩ | ⟨rfl, rfl | rfl⟩
  all_goals
    go_enter Try.func43, Try.ntmps43
    go_wp2
    go_ret
    exact ⟨rfl, rfl⟩
theorem aluB_le (n : Nat) : aluB n ≤ 133 := by unfold aluB; (repeat' split) <;> omega
theorem oneB_le (o n : Nat) : oneB o n ≤ 248 := by unfold oneB; (repeat' split) <;> omega
/-- What may be encoded. -/
structure EncD (x : InsV) : Prop where
  op : 1 ≤ x.op ∧ x.op ≤ 23
  a : x.a < 16
  b : x.b < 16
  imm : x.imm < 18446744073709551616
  cc : x.cc ≤ 13
  two : x.op = 7 → x.alu = 0 ∨ x.alu = 1 ∨ x.alu = 2 ∨ x.alu = 3 ∨ x.alu = 4 ∨ x.alu = 7 ∨ x.alu = 8
  one : 14 ≤ x.op → x.op ≤ 16 → (x.op = 14 ∧ (x.alu = 0 ∨ x.alu = 1 ∨ x.alu = 7)) ∨ (x.op = 15 ∧ (x.alu = 5 ∨ x.alu = 6)) ∨ (x.op = 16 ∧ (x.alu = 9 ∨ x.alu = 10))
  disp : -9223372036854775808 ≤ x.disp ∧ x.disp ≤ 9223372036854775807
def encP (x : InsV) : List Nat := if 7 < x.a then [65] else []
def encRW (x : InsV) : List Nat := [72 + hiN x.b 1 + hiN x.a 4]
def encRA (x : InsV) : List Nat := [72 + hiN x.a 1]
def encRB (x : InsV) : List Nat := [72 + hiN x.b 1]
def encRC (x : InsV) : List Nat := [72 + hiN x.a 4]
def encD4 (x : InsV) : List Nat := leBytes (x.disp % 18446744073709551616).toNat 4
def encD1 (x : InsV) : List Nat := [(x.disp % 256).toNat]
def encR (x : InsV) : List Nat :=
  if x.op = 1 then [144] else if x.op = 2 then [195] else if x.op = 3 then encP x ++ [80 + x.a % 8] else if x.op = 4 then encP x ++ [88 + x.a % 8]
  else if x.op = 5 then encRA x ++ [184 + x.a % 8] ++ leBytes x.imm 8 else if x.op = 6 then encP x ++ [184 + x.a % 8] ++ leBytes x.imm 4
  else if x.op = 7 then encRW x ++ [aluB x.alu] ++ [192 + 8 * (x.a % 8) + x.b % 8] else if x.op = 8 then encRW x ++ [137] ++ [192 + 8 * (x.a % 8) + x.b % 8]
  else if x.op = 9 then encRW x ++ [139] ++ [128 + 8 * (x.a % 8) + x.b % 8] ++ encD4 x else if x.op = 10 then encRW x ++ [137] ++ [128 + 8 * (x.a % 8) + x.b % 8] ++ encD4 x
  else if x.op = 11 then encRC x ++ [139] ++ [8 * (x.a % 8) + 5] ++ encD4 x else if x.op = 12 then encRC x ++ [137] ++ [8 * (x.a % 8) + 5] ++ encD4 x
  else if x.op = 13 then encRC x ++ [141] ++ [8 * (x.a % 8) + 5] ++ encD4 x
  else if x.op = 14 then encRB x ++ [131] ++ [(oneB 14 x.alu + x.b % 8) % 256] ++ [x.imm % 256] else if x.op = 15 then encRB x ++ [255] ++ [(oneB 15 x.alu + x.b % 8) % 256]
  else if x.op = 16 then encRB x ++ [193] ++ [(oneB 16 x.alu + x.b % 8) % 256] ++ [x.imm % 256]
  else if x.op = 17 then [232] ++ encD4 x else if x.op = 18 then [233] ++ encD4 x else if x.op = 19 then [235] ++ encD1 x else if x.op = 20 then [112 + x.cc] ++ encD1 x
  else if x.op = 21 then [255, 21] ++ encD4 x else if x.op = 22 then [255, 37] ++ encD4 x else [205] ++ [x.imm % 256]

set_option maxHeartbeats 16000000 in
theorem encR_any (x : InsV) (hx : EncD x) (w : World) : Calls Try.prog 14 #[insV x] w fun e w' => e = .returned (.string (txN (encR x))) ∧ Below w.heap.size w w' := by
  obtain ⟨⟨o1, o2⟩, ha, hb, hi, hcc, htwo, hone, hd1, hd2⟩ := hx
  obtain ⟨op, a, b, alu, cc, imm, disp⟩ := x
  simp only at o1 o2 ha hb hi hcc htwo hone hd1 hd2
  have HTW := Lib.hid htwo
  have HON := Lib.hid hone
  clear htwo hone
  have hb1 := hiN_le b 1
  have ha1 := hiN_le a 1
  have ha4 := hiN_le a 4
  have hal := aluB_le alu
  have hol := oneB_le 14 alu
  have hol5 := oneB_le 15 alu
  have hol6 := oneB_le 16 alu
  obtain ⟨D, hD⟩ : ∃ D : Nat, disp % 18446744073709551616 = D := ⟨(disp % 18446744073709551616).toNat, by omega⟩
  obtain ⟨D1, hD1⟩ : ∃ D1 : Nat, disp % 256 = D1 := ⟨(disp % 256).toNat, by omega⟩
  have hDD : D < 18446744073709551616 := by omega
  have hband := fun (n : Int) => and_7 n
  have hid64 : ∀ n : Int, 0 ≤ n → n ≤ 100000 → IntKind.i64.wrap n = n := fun n h0 h1 => by rw [IntKind.wrap_i64]; omega
  have w1 := hid64 (72 + (hiN b 1 : Nat)) (by omega) (by omega)
  have w2 := hid64 (72 + (hiN a 1 : Nat)) (by omega) (by omega)
  have w3 := hid64 (72 + (hiN a 4 : Nat)) (by omega) (by omega)
  have w4 := hid64 (72 + (hiN b 1 : Nat) + (hiN a 4 : Nat)) (by omega) (by omega)
  have HID := Lib.hid hid64
  have HWM := Lib.hid (fun n : Int => show IntKind.i64.wrap n % 256 = n % 256 from by rw [IntKind.wrap_i64]; omega)
  clear hid64
  unfold insV
  simp only
  go_enter Try.func14, Try.ntmps14
  go_upto_region 1 with (fail)
  obtain ⟨wc, hwc⟩ : ∃ wc, w.alloc (.cells #[.int .i64 op, .int .i64 a, .int .i64 b, .int .i64 alu, .int .i64 cc, .int .u64 imm, .int .i64 disp] 27) = wc := ⟨_, rfl⟩
  have hrow := heap_alloc_new w (.cells #[.int .i64 op, .int .i64 a, .int .i64 b, .int .i64 alu, .int .i64 cc, .int .u64 imm, .int .i64 disp] 27)
  have hbw : Below w.heap.size w wc := by rw [← hwc]; exact (Below.refl _ _).alloc (Nat.le_refl _) _
  obtain ⟨g, hg⟩ : ∃ g, w.heap.size = g := ⟨_, rfl⟩
  rw [hwc, hg] at hrow
  rw [hwc, hg]
  have HW := Lib.hid (show Below g w wc from hg ▸ hbw)
  have HGE := Lib.hid hg
  have HGS := Lib.hid (show g ≤ wc.heap.size from hg ▸ hbw.size)
  have hcell : ∀ W, Below wc.heap.size wc W → W.heap[g]? = some (.cells #[.int .i64 op, .int .i64 a, .int .i64 b, .int .i64 alu, .int .i64 cc, .int .u64 imm, .int .i64 disp] 27 (0, 0)) := fun W hW => (hW.block g (lt_of_row' hrow)).trans hrow
  have HC0 := Lib.hid (fun W (hW : Below wc.heap.size wc W) => show W.cell? ⟨g, 0, none⟩ = some (.int .i64 op) from by rw [cell_of_row' (hcell W hW)]; rfl)
  have HC1 := Lib.hid (fun W (hW : Below wc.heap.size wc W) => show W.cell? ⟨g, 1, none⟩ = some (.int .i64 a) from by rw [cell_of_row' (hcell W hW)]; rfl)
  have HC2 := Lib.hid (fun W (hW : Below wc.heap.size wc W) => show W.cell? ⟨g, 2, none⟩ = some (.int .i64 b) from by rw [cell_of_row' (hcell W hW)]; rfl)
  have HC3 := Lib.hid (fun W (hW : Below wc.heap.size wc W) => show W.cell? ⟨g, 3, none⟩ = some (.int .i64 alu) from by rw [cell_of_row' (hcell W hW)]; rfl)
  have HC4 := Lib.hid (fun W (hW : Below wc.heap.size wc W) => show W.cell? ⟨g, 4, none⟩ = some (.int .i64 cc) from by rw [cell_of_row' (hcell W hW)]; rfl)
  have HC5 := Lib.hid (fun W (hW : Below wc.heap.size wc W) => show W.cell? ⟨g, 5, none⟩ = some (.int .u64 imm) from by rw [cell_of_row' (hcell W hW)]; rfl)
  have HC6 := Lib.hid (fun W (hW : Below wc.heap.size wc W) => show W.cell? ⟨g, 6, none⟩ = some (.int .i64 disp) from by rw [cell_of_row' (hcell W hW)]; rfl)
  have HB0 := Lib.hid (Below.refl wc.heap.size wc)
  clear hcell hrow hbw hwc hg
  have HS := Lib.hid (show Below wc.heap.size wc wc.drew from HB0.out.drew)
  refine wp_region_noPanic ?_
  refine wp_region_K (fun W => Below wc.heap.size wc W) (fun _ => True) 99 (by kernel_rfl) ?_
  refine wpAnyK_take (i := 0) (oi := ?_) (v := ?_) ?_ (by kernel_rfl) (by kernel_rfl) (by kernel_rfl) (fun _ _ _ h => h) (by decide) ?_ HS.out (fun _ => trivial) ?_
  rotate_left 2
  · (simp only [List.getElem?_toArray, List.getElem?_cons_succ, List.getElem?_cons_zero]; rfl)
  · (first | exact Or.inr ⟨by rfl, rfl⟩ | (refine Or.inl ⟨by rfl, ?_⟩; intro W hSw; clear hSw; go_simp; try with_reducible rfl))
  try simp only [Act.put, List.setIfInBounds_toArray, List.set_cons_zero, List.set_cons_succ]
  refine wpAnyK_take (i := 3) (oi := ?_) (v := ?_) ?_ (by kernel_rfl) (by kernel_rfl) (by kernel_rfl) (fun _ _ _ h => h) (by decide) ?_ HS.out (fun _ => trivial) ?_
  rotate_left 2
  · (simp only [List.getElem?_toArray, List.getElem?_cons_succ, List.getElem?_cons_zero]; rfl)
  · (first | exact Or.inr ⟨by rfl, rfl⟩ | (refine Or.inl ⟨by rfl, ?_⟩; intro W hSw; clear hSw; go_simp; try with_reducible rfl))
  try simp only [Act.put, List.setIfInBounds_toArray, List.set_cons_zero, List.set_cons_succ]
  refine wpAnyK_take (i := 1) (oi := ?_) (v := ?_) ?_ (by kernel_rfl) (by kernel_rfl) (by kernel_rfl) (fun _ _ _ h => h) (by decide) ?_ HS.out (fun _ => trivial) ?_
  rotate_left 2
  · (simp only [List.getElem?_toArray, List.getElem?_cons_succ, List.getElem?_cons_zero]; rfl)
  · (first | exact Or.inr ⟨by rfl, rfl⟩ | (refine Or.inl ⟨by rfl, ?_⟩; intro W hSw; have hq := HC1.out W hSw; clear hSw; go_simp; try with_reducible rfl))
  try simp only [Act.put, List.setIfInBounds_toArray, List.set_cons_zero, List.set_cons_succ]
  refine wpAnyK_take (i := 4) (oi := ?_) (v := ?_) ?_ (by kernel_rfl) (by kernel_rfl) (by kernel_rfl) (fun _ _ _ h => h) (by decide) ?_ HS.out (fun _ => trivial) ?_
  rotate_left 2
  · (simp only [List.getElem?_toArray, List.getElem?_cons_succ, List.getElem?_cons_zero]; rfl)
  · (first | exact Or.inr ⟨by rfl, rfl⟩ | (refine Or.inl ⟨by rfl, ?_⟩; intro W hSw; have hq := HC2.out W hSw; clear hSw; go_simp; try with_reducible rfl))
  try simp only [Act.put, List.setIfInBounds_toArray, List.set_cons_zero, List.set_cons_succ]
  refine wpAnyK_take (i := 2) (oi := ?_) (v := ?_) ?_ (by kernel_rfl) (by kernel_rfl) (by kernel_rfl) (fun _ _ _ h => h) (by decide) ?_ HS.out (fun _ => trivial) ?_
  rotate_left 2
  · (simp only [List.getElem?_toArray, List.getElem?_cons_succ, List.getElem?_cons_zero]; rfl)
  · (first | exact Or.inr ⟨by rfl, rfl⟩ | (refine Or.inl ⟨by rfl, ?_⟩; intro W hSw; clear hSw; go_simp; try with_reducible rfl))
  try simp only [Act.put, List.setIfInBounds_toArray, List.set_cons_zero, List.set_cons_succ]
  refine wpAnyK_take (i := 5) (oi := ?_) (v := ?_) ?_ (by kernel_rfl) (by kernel_rfl) (by kernel_rfl) (fun _ _ _ h => h) (by decide) ?_ HS.out (fun _ => trivial) ?_
  rotate_left 2
  · (simp only [List.getElem?_toArray, List.getElem?_cons_succ, List.getElem?_cons_zero]; rfl)
  · (first | exact Or.inr ⟨by rfl, rfl⟩ | (refine Or.inl ⟨by rfl, ?_⟩; intro W hSw; clear hSw; go_simp; try with_reducible rfl))
  try simp only [Act.put, List.setIfInBounds_toArray, List.set_cons_zero, List.set_cons_succ]
  refine wpAnyK_take (i := 6) (oi := ?_) (v := ?_) ?_ (by kernel_rfl) (by kernel_rfl) (by kernel_rfl) (fun _ _ _ h => h) (by decide) ?_ HS.out (fun _ => trivial) ?_
  rotate_left 2
  · (simp only [List.getElem?_toArray, List.getElem?_cons_succ, List.getElem?_cons_zero]; rfl)
  · (first | exact Or.inr ⟨by rfl, rfl⟩ | (refine Or.inl ⟨by rfl, ?_⟩; intro W hSw; clear hSw; go_simp; try with_reducible rfl))
  try simp only [Act.put, List.setIfInBounds_toArray, List.set_cons_zero, List.set_cons_succ]
  refine wpAnyK_take (i := 7) (oi := ?_) (v := ?_) ?_ (by kernel_rfl) (by kernel_rfl) (by kernel_rfl) (fun _ _ _ h => h) (by decide) ?_ HS.out (fun _ => trivial) ?_
  rotate_left 2
  · (simp only [List.getElem?_toArray, List.getElem?_cons_succ, List.getElem?_cons_zero]; rfl)
  · (first | exact Or.inr ⟨by rfl, rfl⟩ | (refine Or.inl ⟨by rfl, ?_⟩; intro W hSw; clear hSw; go_simp; try with_reducible rfl))
  try simp only [Act.put, List.setIfInBounds_toArray, List.set_cons_zero, List.set_cons_succ]
  refine wpAnyK_done (by kernel_rfl) ?_ _
  refine NoPanic.normal ?_
  have HB1 := Lib.hid HS.out
  clear HS HB0
  generalize wc.drew = wr1 at *
  have c1 := HC1.out wr1 HB1.out
  have hwd : IntKind.u64.wrap disp = D := by rw [IntKind.wrap_u64]; exact hD
  go_upto_region 5 with (fail)
  all_goals
    obtain ⟨SP, hSP⟩ : ∃ SP : ByteArray, SP = txN (encP ⟨op, a, b, alu, cc, imm, disp⟩) := ⟨_, rfl⟩
    first
      | (have hq5 : (⟨#[65]⟩ : ByteArray) = SP := (by rw [hSP]; unfold encP; rw [if_pos (by show 7 < a; omega)]; rfl)
         have hzP : SP.size = 1 := (by rw [← hq5]; rfl)
         rw [hq5]; clear hq5)
      | (have hq5 : (⟨#[]⟩ : ByteArray) = SP := (by rw [hSP]; unfold encP; rw [if_neg (by show ¬ 7 < a; omega)]; rfl)
         have hzP : SP.size = 0 := (by rw [← hq5]; rfl)
         rw [hq5]; clear hq5)
    have HXSP := Lib.hid hSP
    clear hSP c1
    have HS := Lib.hid (show Below wc.heap.size wc wr1.drew from HB1.out.drew)
    refine wp_region_noPanic ?_
    refine wp_region_K (fun W => Below wc.heap.size wc W) (fun _ => True) 99 (by kernel_rfl) ?_
    refine wpAnyK_take (i := 0) (oi := ?_) (v := ?_) ?_ (by kernel_rfl) (by kernel_rfl) (by kernel_rfl) (fun _ _ _ h => h) (by decide) ?_ HS.out (fun _ => trivial) ?_
    rotate_left 2
    · (simp only [List.getElem?_toArray, List.getElem?_cons_succ, List.getElem?_cons_zero]; rfl)
    · (first | exact Or.inr ⟨by rfl, rfl⟩ | (refine Or.inl ⟨by rfl, ?_⟩; intro W hSw; clear hSw; go_simp; try with_reducible rfl))
    try simp only [Act.put, List.setIfInBounds_toArray, List.set_cons_zero, List.set_cons_succ]
    refine wpAnyK_take (i := 4) (oi := ?_) (v := ?_) ?_ (by kernel_rfl) (by kernel_rfl) (by kernel_rfl) (fun _ _ _ h => h) (by decide) ?_ HS.out (fun _ => trivial) ?_
    rotate_left 2
    · (simp only [List.getElem?_toArray, List.getElem?_cons_succ, List.getElem?_cons_zero]; rfl)
    · (first | exact Or.inr ⟨by rfl, rfl⟩ | (refine Or.inl ⟨by rfl, ?_⟩; intro W hSw; clear hSw; go_simp; try with_reducible rfl))
    try simp only [Act.put, List.setIfInBounds_toArray, List.set_cons_zero, List.set_cons_succ]
    refine wpAnyK_take (i := 1) (oi := ?_) (v := ?_) ?_ (by kernel_rfl) (by kernel_rfl) (by kernel_rfl) (fun _ _ _ h => h) (by decide) ?_ HS.out (fun _ => trivial) ?_
    rotate_left 2
    · (simp only [List.getElem?_toArray, List.getElem?_cons_succ, List.getElem?_cons_zero]; rfl)
    · (first | exact Or.inr ⟨by rfl, rfl⟩ | (refine Or.inl ⟨by rfl, ?_⟩; intro W hSw; have hq := HC2.out W hSw; clear hSw; go_simp; try with_reducible rfl))
    try simp only [Act.put, List.setIfInBounds_toArray, List.set_cons_zero, List.set_cons_succ]
    refine wpAnyK_take (i := 5) (oi := ?_) (v := ?_) ?_ (by kernel_rfl) (by kernel_rfl) (by kernel_rfl) (fun _ _ _ h => h) (by decide) ?_ HS.out (fun _ => trivial) ?_
    rotate_left 2
    · (simp only [List.getElem?_toArray, List.getElem?_cons_succ, List.getElem?_cons_zero]; rfl)
    · (first | exact Or.inr ⟨by rfl, rfl⟩ | (refine Or.inl ⟨by rfl, ?_⟩; intro W hSw; have hq := HC1.out W hSw; clear hSw; go_simp; try with_reducible rfl))
    try simp only [Act.put, List.setIfInBounds_toArray, List.set_cons_zero, List.set_cons_succ]
    refine wpAnyK_one (i := 2) (o := ?_) (by kernel_rfl) ?_ (fun K hK => ?_)
    rotate_left 1
    · (simp only [List.getElem?_toArray, List.getElem?_cons_succ, List.getElem?_cons_zero]; rfl)
    go_simp
    go_at_call 40
    refine (high_nat b 1 _).mono ?_
    rintro e _ ⟨rfl, rfl⟩
    refine hK.out _ _ HS.out (fun _ => trivial) ?_
    clear hK K
    try simp only [Act.put, List.setIfInBounds_toArray, List.set_cons_zero, List.set_cons_succ]
    refine wpAnyK_take (i := 3) (oi := ?_) (v := ?_) ?_ (by kernel_rfl) (by kernel_rfl) (by kernel_rfl) (fun _ _ _ h => h) (by decide) ?_ HS.out (fun _ => trivial) ?_
    rotate_left 2
    · (simp only [List.getElem?_toArray, List.getElem?_cons_succ, List.getElem?_cons_zero]; rfl)
    · (first | exact Or.inr ⟨by rfl, rfl⟩ | (refine Or.inl ⟨by rfl, ?_⟩; intro W hSw; clear hSw; go_simp; try with_reducible rfl))
    try simp only [Act.put, List.setIfInBounds_toArray, List.set_cons_zero, List.set_cons_succ]
    refine wpAnyK_one (i := 6) (o := ?_) (by kernel_rfl) ?_ (fun K hK => ?_)
    rotate_left 1
    · (simp only [List.getElem?_toArray, List.getElem?_cons_succ, List.getElem?_cons_zero]; rfl)
    go_simp
    go_at_call 40
    refine (high_nat a 4 _).mono ?_
    rintro e _ ⟨rfl, rfl⟩
    refine hK.out _ _ HS.out (fun _ => trivial) ?_
    clear hK K
    try simp only [Act.put, List.setIfInBounds_toArray, List.set_cons_zero, List.set_cons_succ]
    refine wpAnyK_take (i := 7) (oi := ?_) (v := ?_) ?_ (by kernel_rfl) (by kernel_rfl) (by kernel_rfl) (fun _ _ _ h => h) (by decide) ?_ HS.out (fun _ => trivial) ?_
    rotate_left 2
    · (simp only [List.getElem?_toArray, List.getElem?_cons_succ, List.getElem?_cons_zero]; rfl)
    · (first | exact Or.inr ⟨by rfl, rfl⟩ | (refine Or.inl ⟨by rfl, ?_⟩; intro W hSw; clear hSw; go_simp; try with_reducible rfl))
    try simp only [Act.put, List.setIfInBounds_toArray, List.set_cons_zero, List.set_cons_succ]
    refine wpAnyK_one (i := 8) (o := ?_) (by kernel_rfl) ?_ (fun K hK => ?_)
    rotate_left 1
    · (simp only [List.getElem?_toArray, List.getElem?_cons_succ, List.getElem?_cons_zero]; rfl)
    go_simp
    go_at_call 39
    refine (one_at _ (72 + hiN b 1 + hiN a 4) _ ?_).mono ?_
    (next => first | exact HIM.out | (rw [HWM.out]; omega) | (rw [HWM.out, HID.out] <;> omega) | (rw [HID.out] <;> omega) | omega)
    rintro e wq2 ⟨S6, rfl, hS6, hzS6, hbq⟩
    have HXS6 := Lib.hid hS6
    clear hS6
    have HQ3 := Lib.hid (HS.out.trans (hbq.mono HS.out.size))
    clear hbq
    refine hK.out _ _ HQ3.out (fun _ => trivial) ?_
    clear hK K
    try simp only [Act.put, List.setIfInBounds_toArray, List.set_cons_zero, List.set_cons_succ]
    refine wpAnyK_take (i := 9) (oi := ?_) (v := ?_) ?_ (by kernel_rfl) (by kernel_rfl) (by kernel_rfl) (fun _ _ _ h => h) (by decide) ?_ HQ3.out (fun _ => trivial) ?_
    rotate_left 2
    · (simp only [List.getElem?_toArray, List.getElem?_cons_succ, List.getElem?_cons_zero]; rfl)
    · (first | exact Or.inr ⟨by rfl, rfl⟩ | (refine Or.inl ⟨by rfl, ?_⟩; intro W hSw; clear hSw; go_simp; try with_reducible rfl))
    try simp only [Act.put, List.setIfInBounds_toArray, List.set_cons_zero, List.set_cons_succ]
    refine wpAnyK_done (by kernel_rfl) ?_ _
    refine NoPanic.normal ?_
    have HBR5 := Lib.hid HQ3.out
    clear HS HB1 HQ3
    go_upto_region 6 with (fail)
    have HS := Lib.hid (show Below wc.heap.size wc wq2.drew from HBR5.out.drew)
    refine wp_region_noPanic ?_
    refine wp_region_K (fun W => Below wc.heap.size wc W) (fun _ => True) 99 (by kernel_rfl) ?_
    refine wpAnyK_take (i := 0) (oi := ?_) (v := ?_) ?_ (by kernel_rfl) (by kernel_rfl) (by kernel_rfl) (fun _ _ _ h => h) (by decide) ?_ HS.out (fun _ => trivial) ?_
    rotate_left 2
    · (simp only [List.getElem?_toArray, List.getElem?_cons_succ, List.getElem?_cons_zero]; rfl)
    · (first | exact Or.inr ⟨by rfl, rfl⟩ | (refine Or.inl ⟨by rfl, ?_⟩; intro W hSw; clear hSw; go_simp; try with_reducible rfl))
    try simp only [Act.put, List.setIfInBounds_toArray, List.set_cons_zero, List.set_cons_succ]
    refine wpAnyK_take (i := 5) (oi := ?_) (v := ?_) ?_ (by kernel_rfl) (by kernel_rfl) (by kernel_rfl) (fun _ _ _ h => h) (by decide) ?_ HS.out (fun _ => trivial) ?_
    rotate_left 2
    · (simp only [List.getElem?_toArray, List.getElem?_cons_succ, List.getElem?_cons_zero]; rfl)
    · (first | exact Or.inr ⟨by rfl, rfl⟩ | (refine Or.inl ⟨by rfl, ?_⟩; intro W hSw; clear hSw; go_simp; try with_reducible rfl))
    try simp only [Act.put, List.setIfInBounds_toArray, List.set_cons_zero, List.set_cons_succ]
    refine wpAnyK_take (i := 10) (oi := ?_) (v := ?_) ?_ (by kernel_rfl) (by kernel_rfl) (by kernel_rfl) (fun _ _ _ h => h) (by decide) ?_ HS.out (fun _ => trivial) ?_
    rotate_left 2
    · (simp only [List.getElem?_toArray, List.getElem?_cons_succ, List.getElem?_cons_zero]; rfl)
    · (first | exact Or.inr ⟨by rfl, rfl⟩ | (refine Or.inl ⟨by rfl, ?_⟩; intro W hSw; clear hSw; go_simp; try with_reducible rfl))
    try simp only [Act.put, List.setIfInBounds_toArray, List.set_cons_zero, List.set_cons_succ]
    refine wpAnyK_take (i := 1) (oi := ?_) (v := ?_) ?_ (by kernel_rfl) (by kernel_rfl) (by kernel_rfl) (fun _ _ _ h => h) (by decide) ?_ HS.out (fun _ => trivial) ?_
    rotate_left 2
    · (simp only [List.getElem?_toArray, List.getElem?_cons_succ, List.getElem?_cons_zero]; rfl)
    · (first | exact Or.inr ⟨by rfl, rfl⟩ | (refine Or.inl ⟨by rfl, ?_⟩; intro W hSw; have hq := HC1.out W hSw; clear hSw; go_simp; try with_reducible rfl))
    try simp only [Act.put, List.setIfInBounds_toArray, List.set_cons_zero, List.set_cons_succ]
    refine wpAnyK_take (i := 6) (oi := ?_) (v := ?_) ?_ (by kernel_rfl) (by kernel_rfl) (by kernel_rfl) (fun _ _ _ h => h) (by decide) ?_ HS.out (fun _ => trivial) ?_
    rotate_left 2
    · (simp only [List.getElem?_toArray, List.getElem?_cons_succ, List.getElem?_cons_zero]; rfl)
    · (first | exact Or.inr ⟨by rfl, rfl⟩ | (refine Or.inl ⟨by rfl, ?_⟩; intro W hSw; have hq := HC2.out W hSw; clear hSw; go_simp; try with_reducible rfl))
    try simp only [Act.put, List.setIfInBounds_toArray, List.set_cons_zero, List.set_cons_succ]
    refine wpAnyK_take (i := 11) (oi := ?_) (v := ?_) ?_ (by kernel_rfl) (by kernel_rfl) (by kernel_rfl) (fun _ _ _ h => h) (by decide) ?_ HS.out (fun _ => trivial) ?_
    rotate_left 2
    · (simp only [List.getElem?_toArray, List.getElem?_cons_succ, List.getElem?_cons_zero]; rfl)
    · (first | exact Or.inr ⟨by rfl, rfl⟩ | (refine Or.inl ⟨by rfl, ?_⟩; intro W hSw; have hq := HC1.out W hSw; clear hSw; go_simp; try with_reducible rfl))
    try simp only [Act.put, List.setIfInBounds_toArray, List.set_cons_zero, List.set_cons_succ]
    refine wpAnyK_one (i := 2) (o := ?_) (by kernel_rfl) ?_ (fun K hK => ?_)
    rotate_left 1
    · (simp only [List.getElem?_toArray, List.getElem?_cons_succ, List.getElem?_cons_zero]; rfl)
    go_simp
    go_at_call 40
    refine (high_nat a 1 _).mono ?_
    rintro e _ ⟨rfl, rfl⟩
    refine hK.out _ _ HS.out (fun _ => trivial) ?_
    clear hK K
    try simp only [Act.put, List.setIfInBounds_toArray, List.set_cons_zero, List.set_cons_succ]
    refine wpAnyK_take (i := 3) (oi := ?_) (v := ?_) ?_ (by kernel_rfl) (by kernel_rfl) (by kernel_rfl) (fun _ _ _ h => h) (by decide) ?_ HS.out (fun _ => trivial) ?_
    rotate_left 2
    · (simp only [List.getElem?_toArray, List.getElem?_cons_succ, List.getElem?_cons_zero]; rfl)
    · (first | exact Or.inr ⟨by rfl, rfl⟩ | (refine Or.inl ⟨by rfl, ?_⟩; intro W hSw; clear hSw; go_simp; try with_reducible rfl))
    try simp only [Act.put, List.setIfInBounds_toArray, List.set_cons_zero, List.set_cons_succ]
    refine wpAnyK_one (i := 4) (o := ?_) (by kernel_rfl) ?_ (fun K hK => ?_)
    rotate_left 1
    · (simp only [List.getElem?_toArray, List.getElem?_cons_succ, List.getElem?_cons_zero]; rfl)
    go_simp
    go_at_call 39
    refine (one_at _ (72 + hiN a 1) _ ?_).mono ?_
    (next => first | exact HIM.out | (rw [HWM.out]; omega) | (rw [HWM.out, HID.out] <;> omega) | (rw [HID.out] <;> omega) | omega)
    rintro e wq4 ⟨S7, rfl, hS7, hzS7, hbq⟩
    have HXS7 := Lib.hid hS7
    clear hS7
    have HQ5 := Lib.hid (HS.out.trans (hbq.mono HS.out.size))
    clear hbq
    refine hK.out _ _ HQ5.out (fun _ => trivial) ?_
    clear hK K
    try simp only [Act.put, List.setIfInBounds_toArray, List.set_cons_zero, List.set_cons_succ]
    refine wpAnyK_one (i := 7) (o := ?_) (by kernel_rfl) ?_ (fun K hK => ?_)
    rotate_left 1
    · (simp only [List.getElem?_toArray, List.getElem?_cons_succ, List.getElem?_cons_zero]; rfl)
    go_simp
    go_at_call 40
    refine (high_nat b 1 _).mono ?_
    rintro e _ ⟨rfl, rfl⟩
    refine hK.out _ _ HQ5.out (fun _ => trivial) ?_
    clear hK K
    try simp only [Act.put, List.setIfInBounds_toArray, List.set_cons_zero, List.set_cons_succ]
    refine wpAnyK_take (i := 8) (oi := ?_) (v := ?_) ?_ (by kernel_rfl) (by kernel_rfl) (by kernel_rfl) (fun _ _ _ h => h) (by decide) ?_ HQ5.out (fun _ => trivial) ?_
    rotate_left 2
    · (simp only [List.getElem?_toArray, List.getElem?_cons_succ, List.getElem?_cons_zero]; rfl)
    · (first | exact Or.inr ⟨by rfl, rfl⟩ | (refine Or.inl ⟨by rfl, ?_⟩; intro W hSw; clear hSw; go_simp; try with_reducible rfl))
    try simp only [Act.put, List.setIfInBounds_toArray, List.set_cons_zero, List.set_cons_succ]
    refine wpAnyK_one (i := 9) (o := ?_) (by kernel_rfl) ?_ (fun K hK => ?_)
    rotate_left 1
    · (simp only [List.getElem?_toArray, List.getElem?_cons_succ, List.getElem?_cons_zero]; rfl)
    go_simp
    go_at_call 39
    refine (one_at _ (72 + hiN b 1) _ ?_).mono ?_
    (next => first | exact HIM.out | (rw [HWM.out]; omega) | (rw [HWM.out, HID.out] <;> omega) | (rw [HID.out] <;> omega) | omega)
    rintro e wq6 ⟨S8, rfl, hS8, hzS8, hbq⟩
    have HXS8 := Lib.hid hS8
    clear hS8
    have HQ7 := Lib.hid (HQ5.out.trans (hbq.mono HQ5.out.size))
    clear hbq
    refine hK.out _ _ HQ7.out (fun _ => trivial) ?_
    clear hK K
    try simp only [Act.put, List.setIfInBounds_toArray, List.set_cons_zero, List.set_cons_succ]
    refine wpAnyK_one (i := 12) (o := ?_) (by kernel_rfl) ?_ (fun K hK => ?_)
    rotate_left 1
    · (simp only [List.getElem?_toArray, List.getElem?_cons_succ, List.getElem?_cons_zero]; rfl)
    go_simp
    go_at_call 40
    refine (high_nat a 4 _).mono ?_
    rintro e _ ⟨rfl, rfl⟩
    refine hK.out _ _ HQ7.out (fun _ => trivial) ?_
    clear hK K
    try simp only [Act.put, List.setIfInBounds_toArray, List.set_cons_zero, List.set_cons_succ]
    refine wpAnyK_take (i := 13) (oi := ?_) (v := ?_) ?_ (by kernel_rfl) (by kernel_rfl) (by kernel_rfl) (fun _ _ _ h => h) (by decide) ?_ HQ7.out (fun _ => trivial) ?_
    rotate_left 2
    · (simp only [List.getElem?_toArray, List.getElem?_cons_succ, List.getElem?_cons_zero]; rfl)
    · (first | exact Or.inr ⟨by rfl, rfl⟩ | (refine Or.inl ⟨by rfl, ?_⟩; intro W hSw; clear hSw; go_simp; try with_reducible rfl))
    try simp only [Act.put, List.setIfInBounds_toArray, List.set_cons_zero, List.set_cons_succ]
    refine wpAnyK_one (i := 14) (o := ?_) (by kernel_rfl) ?_ (fun K hK => ?_)
    rotate_left 1
    · (simp only [List.getElem?_toArray, List.getElem?_cons_succ, List.getElem?_cons_zero]; rfl)
    go_simp
    go_at_call 39
    refine (one_at _ (72 + hiN a 4) _ ?_).mono ?_
    (next => first | exact HIM.out | (rw [HWM.out]; omega) | (rw [HWM.out, HID.out] <;> omega) | (rw [HID.out] <;> omega) | omega)
    rintro e wq8 ⟨S9, rfl, hS9, hzS9, hbq⟩
    have HXS9 := Lib.hid hS9
    clear hS9
    have HQ9 := Lib.hid (HQ7.out.trans (hbq.mono HQ7.out.size))
    clear hbq
    refine hK.out _ _ HQ9.out (fun _ => trivial) ?_
    clear hK K
    try simp only [Act.put, List.setIfInBounds_toArray, List.set_cons_zero, List.set_cons_succ]
    refine wpAnyK_take (i := 15) (oi := ?_) (v := ?_) ?_ (by kernel_rfl) (by kernel_rfl) (by kernel_rfl) (fun _ _ _ h => h) (by decide) ?_ HQ9.out (fun _ => trivial) ?_
    rotate_left 2
    · (simp only [List.getElem?_toArray, List.getElem?_cons_succ, List.getElem?_cons_zero]; rfl)
    · (first | exact Or.inr ⟨by rfl, rfl⟩ | (refine Or.inl ⟨by rfl, ?_⟩; intro W hSw; clear hSw; go_simp; try with_reducible rfl))
    try simp only [Act.put, List.setIfInBounds_toArray, List.set_cons_zero, List.set_cons_succ]
    refine wpAnyK_take (i := 16) (oi := ?_) (v := ?_) ?_ (by kernel_rfl) (by kernel_rfl) (by kernel_rfl) (fun _ _ _ h => h) (by decide) ?_ HQ9.out (fun _ => trivial) ?_
    rotate_left 2
    · (simp only [List.getElem?_toArray, List.getElem?_cons_succ, List.getElem?_cons_zero]; rfl)
    · (first | exact Or.inr ⟨by rfl, rfl⟩ | (refine Or.inl ⟨by rfl, ?_⟩; intro W hSw; clear hSw; go_simp; try with_reducible rfl))
    try simp only [Act.put, List.setIfInBounds_toArray, List.set_cons_zero, List.set_cons_succ]
    refine wpAnyK_take (i := 17) (oi := ?_) (v := ?_) ?_ (by kernel_rfl) (by kernel_rfl) (by kernel_rfl) (fun _ _ _ h => h) (by decide) ?_ HQ9.out (fun _ => trivial) ?_
    rotate_left 2
    · (simp only [List.getElem?_toArray, List.getElem?_cons_succ, List.getElem?_cons_zero]; rfl)
    · (first | exact Or.inr ⟨by rfl, rfl⟩ | (refine Or.inl ⟨by rfl, ?_⟩; intro W hSw; clear hSw; go_simp; try with_reducible rfl))
    try simp only [Act.put, List.setIfInBounds_toArray, List.set_cons_zero, List.set_cons_succ]
    refine wpAnyK_done (by kernel_rfl) ?_ _
    refine NoPanic.normal ?_
    have HBR6 := Lib.hid HQ9.out
    clear HS HBR5 HQ5 HQ7 HQ9
    go_upto_region 7 with (fail)
    have HS := Lib.hid (show Below wc.heap.size wc wq8.drew from HBR6.out.drew)
    refine wp_region_noPanic ?_
    refine wp_region_K (fun W => Below wc.heap.size wc W) (fun _ => True) 99 (by kernel_rfl) ?_
    refine wpAnyK_take (i := 0) (oi := ?_) (v := ?_) ?_ (by kernel_rfl) (by kernel_rfl) (by kernel_rfl) (fun _ _ _ h => h) (by decide) ?_ HS.out (fun _ => trivial) ?_
    rotate_left 2
    · (simp only [List.getElem?_toArray, List.getElem?_cons_succ, List.getElem?_cons_zero]; rfl)
    · (first | exact Or.inr ⟨by rfl, rfl⟩ | (refine Or.inl ⟨by rfl, ?_⟩; intro W hSw; clear hSw; go_simp; try with_reducible rfl))
    try simp only [Act.put, List.setIfInBounds_toArray, List.set_cons_zero, List.set_cons_succ]
    refine wpAnyK_take (i := 4) (oi := ?_) (v := ?_) ?_ (by kernel_rfl) (by kernel_rfl) (by kernel_rfl) (fun _ _ _ h => h) (by decide) ?_ HS.out (fun _ => trivial) ?_
    rotate_left 2
    · (simp only [List.getElem?_toArray, List.getElem?_cons_succ, List.getElem?_cons_zero]; rfl)
    · (first | exact Or.inr ⟨by rfl, rfl⟩ | (refine Or.inl ⟨by rfl, ?_⟩; intro W hSw; clear hSw; go_simp; try with_reducible rfl))
    try simp only [Act.put, List.setIfInBounds_toArray, List.set_cons_zero, List.set_cons_succ]
    refine wpAnyK_take (i := 1) (oi := ?_) (v := ?_) ?_ (by kernel_rfl) (by kernel_rfl) (by kernel_rfl) (fun _ _ _ h => h) (by decide) ?_ HS.out (fun _ => trivial) ?_
    rotate_left 2
    · (simp only [List.getElem?_toArray, List.getElem?_cons_succ, List.getElem?_cons_zero]; rfl)
    · (first | exact Or.inr ⟨by rfl, rfl⟩ | (refine Or.inl ⟨by rfl, ?_⟩; intro W hSw; have hq := HC6.out W hSw; clear hSw; go_simp; try with_reducible rfl))
    try simp only [Act.put, List.setIfInBounds_toArray, List.set_cons_zero, List.set_cons_succ]
    refine wpAnyK_take (i := 5) (oi := ?_) (v := ?_) ?_ (by kernel_rfl) (by kernel_rfl) (by kernel_rfl) (fun _ _ _ h => h) (by decide) ?_ HS.out (fun _ => trivial) ?_
    rotate_left 2
    · (simp only [List.getElem?_toArray, List.getElem?_cons_succ, List.getElem?_cons_zero]; rfl)
    · (first | exact Or.inr ⟨by rfl, rfl⟩ | (refine Or.inl ⟨by rfl, ?_⟩; intro W hSw; have hq := HC6.out W hSw; clear hSw; go_simp; try with_reducible rfl))
    try simp only [Act.put, List.setIfInBounds_toArray, List.set_cons_zero, List.set_cons_succ]
    refine wpAnyK_take (i := 2) (oi := ?_) (v := ?_) ?_ (by kernel_rfl) (by kernel_rfl) (by kernel_rfl) (fun _ _ _ h => h) (by decide) ?_ HS.out (fun _ => trivial) ?_
    rotate_left 2
    · (simp only [List.getElem?_toArray, List.getElem?_cons_succ, List.getElem?_cons_zero]; rfl)
    · (first | exact Or.inr ⟨by rfl, rfl⟩ | (refine Or.inl ⟨by rfl, ?_⟩; intro W hSw; clear hSw; go_simp; try with_reducible rfl))
    try simp only [Act.put, List.setIfInBounds_toArray, List.set_cons_zero, List.set_cons_succ]
    refine wpAnyK_one (i := 3) (o := ?_) (by kernel_rfl) ?_ (fun K hK => ?_)
    rotate_left 1
    · (simp only [List.getElem?_toArray, List.getElem?_cons_succ, List.getElem?_cons_zero]; rfl)
    go_simp
    go_at_call 41
    refine (bytesR_at D 4 _ (by omega) (by omega)).mono ?_
    rintro e wq9 ⟨S10, rfl, hS10, hzS10, hbq⟩
    have HXS10 := Lib.hid hS10
    clear hS10
    have HQ10 := Lib.hid (HS.out.trans (hbq.mono HS.out.size))
    clear hbq
    refine hK.out _ _ HQ10.out (fun _ => trivial) ?_
    clear hK K
    try simp only [Act.put, List.setIfInBounds_toArray, List.set_cons_zero, List.set_cons_succ]
    refine wpAnyK_one (i := 6) (o := ?_) (by kernel_rfl) ?_ (fun K hK => ?_)
    rotate_left 1
    · (simp only [List.getElem?_toArray, List.getElem?_cons_succ, List.getElem?_cons_zero]; rfl)
    go_simp
    go_at_call 39
    refine (one_at _ (D1) _ ?_).mono ?_
    (next => first | exact HIM.out | (rw [HWM.out]; omega) | (rw [HWM.out, HID.out] <;> omega) | (rw [HID.out] <;> omega) | omega)
    rintro e wq10 ⟨S11, rfl, hS11, hzS11, hbq⟩
    have HXS11 := Lib.hid hS11
    clear hS11
    have HQ11 := Lib.hid (HQ10.out.trans (hbq.mono HQ10.out.size))
    clear hbq
    refine hK.out _ _ HQ11.out (fun _ => trivial) ?_
    clear hK K
    try simp only [Act.put, List.setIfInBounds_toArray, List.set_cons_zero, List.set_cons_succ]
    refine wpAnyK_take (i := 7) (oi := ?_) (v := ?_) ?_ (by kernel_rfl) (by kernel_rfl) (by kernel_rfl) (fun _ _ _ h => h) (by decide) ?_ HQ11.out (fun _ => trivial) ?_
    rotate_left 2
    · (simp only [List.getElem?_toArray, List.getElem?_cons_succ, List.getElem?_cons_zero]; rfl)
    · (first | exact Or.inr ⟨by rfl, rfl⟩ | (refine Or.inl ⟨by rfl, ?_⟩; intro W hSw; clear hSw; go_simp; try with_reducible rfl))
    try simp only [Act.put, List.setIfInBounds_toArray, List.set_cons_zero, List.set_cons_succ]
    refine wpAnyK_take (i := 8) (oi := ?_) (v := ?_) ?_ (by kernel_rfl) (by kernel_rfl) (by kernel_rfl) (fun _ _ _ h => h) (by decide) ?_ HQ11.out (fun _ => trivial) ?_
    rotate_left 2
    · (simp only [List.getElem?_toArray, List.getElem?_cons_succ, List.getElem?_cons_zero]; rfl)
    · (first | exact Or.inr ⟨by rfl, rfl⟩ | (refine Or.inl ⟨by rfl, ?_⟩; intro W hSw; clear hSw; go_simp; try with_reducible rfl))
    try simp only [Act.put, List.setIfInBounds_toArray, List.set_cons_zero, List.set_cons_succ]
    refine wpAnyK_done (by kernel_rfl) ?_ _
    refine NoPanic.normal ?_
    have HBR7 := Lib.hid HQ11.out
    clear HS HBR6 HQ10 HQ11
    have hX10 : S10 = txN (encD4 ⟨op, a, b, alu, cc, imm, disp⟩) := by rw [HXS10.out]; unfold encD4; rw [show (disp % 18446744073709551616).toNat = D by omega]
    have hX11 : S11 = txN (encD1 ⟨op, a, b, alu, cc, imm, disp⟩) := by rw [HXS11.out]; unfold encD1; rw [show (disp % 256).toNat = D1 by omega]
    replace HXS10 := Lib.hid hX10
    replace HXS11 := Lib.hid hX11
    clear hX10 hX11 hD hD1 hd1 hd2 hDD hwd w1 w2 w3 w4 hb1 ha1 ha4
    have c0 := HC0.out wq10 HBR7.out
    have c3 := HC3.out wq10 HBR7.out
    have c4 := HC4.out wq10 HBR7.out
    have c5 := HC5.out wq10 HBR7.out
    have c6 := HC6.out wq10 HBR7.out
    rcases (by omega : op = 1 ∨ op = 2 ∨ op = 3 ∨ op = 4 ∨ op = 5 ∨ op = 6 ∨ op = 7 ∨ op = 8 ∨ op = 9 ∨ op = 10 ∨ op = 11 ∨ op = 12 ∨ op = 13 ∨ op = 14 ∨ op = 15 ∨ op = 16 ∨ op = 17 ∨ op = 18 ∨ op = 19 ∨ op = 20 ∨ op = 21 ∨ op = 22 ∨ op = 23) with rfl | rfl | rfl | rfl | rfl | rfl | rfl | rfl | rfl | rfl | rfl | rfl | rfl | rfl | rfl | rfl | rfl | rfl | rfl | rfl | rfl | rfl | rfl
    · go_wp2
      go_ret
      refine ⟨?_, by rw [HGE.out]; exact HW.out.trans ((HBR7.out).mono HGS.out)⟩
      show Ending.returned (.string (txN [144])) = _
      first | (simp only [txN_cat, encR]; done) | (simp only [txN_cat, encR]; rfl) | (simp only [encR]; rfl)
    · go_wp2
      go_ret
      refine ⟨?_, by rw [HGE.out]; exact HW.out.trans ((HBR7.out).mono HGS.out)⟩
      show Ending.returned (.string (txN [195])) = _
      first | (simp only [txN_cat, encR]; done) | (simp only [txN_cat, encR]; rfl) | (simp only [encR]; rfl)
    · go_wp2_with (first | (go_at_call 39; refine (one_at _ (80 + a % 8) _ ?_).mono ?_; (next => first | exact HIM.out | (rw [HWM.out]; omega) | (rw [HWM.out, HID.out] <;> omega) | (rw [HID.out] <;> omega) | omega); rintro e wqT0 ⟨T0, rfl, hT0, hzT0, hbqT0⟩; have HXT0 := Lib.hid hT0; clear hT0))
      go_ret
      refine ⟨?_, by rw [HGE.out]; exact HW.out.trans (((HBR7.out.trans (hbqT0.mono HBR7.out.size))).mono HGS.out)⟩
      show Ending.returned (.string (SP ++ T0)) = _
      rw [HXSP.out, HXT0.out]
      first | (simp only [txN_cat, encR]; done) | (simp only [txN_cat, encR]; rfl) | (simp only [encR]; rfl)
    · go_wp2_with (first | (go_at_call 39; refine (one_at _ (88 + a % 8) _ ?_).mono ?_; (next => first | exact HIM.out | (rw [HWM.out]; omega) | (rw [HWM.out, HID.out] <;> omega) | (rw [HID.out] <;> omega) | omega); rintro e wqT0 ⟨T0, rfl, hT0, hzT0, hbqT0⟩; have HXT0 := Lib.hid hT0; clear hT0))
      go_ret
      refine ⟨?_, by rw [HGE.out]; exact HW.out.trans (((HBR7.out.trans (hbqT0.mono HBR7.out.size))).mono HGS.out)⟩
      show Ending.returned (.string (SP ++ T0)) = _
      rw [HXSP.out, HXT0.out]
      first | (simp only [txN_cat, encR]; done) | (simp only [txN_cat, encR]; rfl) | (simp only [encR]; rfl)
    · go_upto_region 18 with (fail)
      -- region 18
      have HS := Lib.hid (show Below wc.heap.size wc wq10.drew from HBR7.out.drew)
      refine wp_region_noPanic ?_
      refine wp_region_K (fun W => Below wc.heap.size wc W) (fun _ => True) 99 (by kernel_rfl) ?_
      refine wpAnyK_take (i := 0) (oi := ?_) (v := ?_) ?_ (by kernel_rfl) (by kernel_rfl) (by kernel_rfl) (fun _ _ _ h => h) (by decide) ?_ HS.out (fun _ => trivial) ?_
      rotate_left 2
      · (simp only [List.getElem?_toArray, List.getElem?_cons_succ, List.getElem?_cons_zero]; rfl)
      · (first | exact Or.inr ⟨by rfl, rfl⟩ | (refine Or.inl ⟨by rfl, ?_⟩; intro W hSw; clear hSw; go_simp; try with_reducible rfl))
      try simp only [Act.put, List.setIfInBounds_toArray, List.set_cons_zero, List.set_cons_succ]
      refine wpAnyK_take (i := 1) (oi := ?_) (v := ?_) ?_ (by kernel_rfl) (by kernel_rfl) (by kernel_rfl) (fun _ _ _ h => h) (by decide) ?_ HS.out (fun _ => trivial) ?_
      rotate_left 2
      · (simp only [List.getElem?_toArray, List.getElem?_cons_succ, List.getElem?_cons_zero]; rfl)
      · (first | exact Or.inr ⟨by rfl, rfl⟩ | (refine Or.inl ⟨by rfl, ?_⟩; intro W hSw; clear hSw; go_simp; try with_reducible rfl))
      try simp only [Act.put, List.setIfInBounds_toArray, List.set_cons_zero, List.set_cons_succ]
      refine wpAnyK_take (i := 5) (oi := ?_) (v := ?_) ?_ (by kernel_rfl) (by kernel_rfl) (by kernel_rfl) (fun _ _ _ h => h) (by decide) ?_ HS.out (fun _ => trivial) ?_
      rotate_left 2
      · (simp only [List.getElem?_toArray, List.getElem?_cons_succ, List.getElem?_cons_zero]; rfl)
      · (first | exact Or.inr ⟨by rfl, rfl⟩ | (refine Or.inl ⟨by rfl, ?_⟩; intro W hSw; clear hSw; go_simp; try with_reducible rfl))
      try simp only [Act.put, List.setIfInBounds_toArray, List.set_cons_zero, List.set_cons_succ]
      refine wpAnyK_take (i := 2) (oi := ?_) (v := ?_) ?_ (by kernel_rfl) (by kernel_rfl) (by kernel_rfl) (fun _ _ _ h => h) (by decide) ?_ HS.out (fun _ => trivial) ?_
      rotate_left 2
      · (simp only [List.getElem?_toArray, List.getElem?_cons_succ, List.getElem?_cons_zero]; rfl)
      · (first | exact Or.inr ⟨by rfl, rfl⟩ | (refine Or.inl ⟨by rfl, ?_⟩; intro W hSw; clear hSw; go_simp; try with_reducible rfl))
      try simp only [Act.put, List.setIfInBounds_toArray, List.set_cons_zero, List.set_cons_succ]
      refine wpAnyK_take (i := 6) (oi := ?_) (v := ?_) ?_ (by kernel_rfl) (by kernel_rfl) (by kernel_rfl) (fun _ _ _ h => h) (by decide) ?_ HS.out (fun _ => trivial) ?_
      rotate_left 2
      · (simp only [List.getElem?_toArray, List.getElem?_cons_succ, List.getElem?_cons_zero]; rfl)
      · (first | exact Or.inr ⟨by rfl, rfl⟩ | (refine Or.inl ⟨by rfl, ?_⟩; intro W hSw; have hq := HC5.out W hSw; clear hSw; go_simp; try with_reducible rfl))
      try simp only [Act.put, List.setIfInBounds_toArray, List.set_cons_zero, List.set_cons_succ]
      refine wpAnyK_one (i := 3) (o := ?_) (by kernel_rfl) ?_ (fun K hK => ?_)
      rotate_left 1
      · (simp only [List.getElem?_toArray, List.getElem?_cons_succ, List.getElem?_cons_zero]; rfl)
      go_simp
      go_at_call 39
      refine (one_at _ (184 + a % 8) _ ?_).mono ?_
      (next => first | exact HIM.out | (rw [HWM.out]; omega) | (rw [HWM.out, HID.out] <;> omega) | (rw [HID.out] <;> omega) | omega)
      rintro e wq11 ⟨T0, rfl, hT0, hzT0, hbq⟩
      have HXT0 := Lib.hid hT0
      clear hT0
      have HQ12 := Lib.hid (HS.out.trans (hbq.mono HS.out.size))
      clear hbq
      refine hK.out _ _ HQ12.out (fun _ => trivial) ?_
      clear hK K
      try simp only [Act.put, List.setIfInBounds_toArray, List.set_cons_zero, List.set_cons_succ]
      refine wpAnyK_take (i := 4) (oi := ?_) (v := ?_) ?_ (by kernel_rfl) (by kernel_rfl) (by kernel_rfl) (fun _ _ _ h => h) (by decide) ?_ HQ12.out (fun _ => trivial) ?_
      rotate_left 2
      · (simp only [List.getElem?_toArray, List.getElem?_cons_succ, List.getElem?_cons_zero]; rfl)
      · (first | exact Or.inr ⟨by rfl, rfl⟩ | (refine Or.inl ⟨by rfl, ?_⟩; intro W hSw; clear hSw; go_simp; try with_reducible rfl))
      try simp only [Act.put, List.setIfInBounds_toArray, List.set_cons_zero, List.set_cons_succ]
      refine wpAnyK_one (i := 7) (o := ?_) (by kernel_rfl) ?_ (fun K hK => ?_)
      rotate_left 1
      · (simp only [List.getElem?_toArray, List.getElem?_cons_succ, List.getElem?_cons_zero]; rfl)
      go_simp
      go_at_call 41
      refine (bytesR_at imm 8 _ (by omega) (by omega)).mono ?_
      rintro e wq12 ⟨T1, rfl, hT1, hzT1, hbq⟩
      have HXT1 := Lib.hid hT1
      clear hT1
      have HQ13 := Lib.hid (HQ12.out.trans (hbq.mono HQ12.out.size))
      clear hbq
      refine hK.out _ _ HQ13.out (fun _ => trivial) ?_
      clear hK K
      try simp only [Act.put, List.setIfInBounds_toArray, List.set_cons_zero, List.set_cons_succ]
      refine wpAnyK_take (i := 8) (oi := ?_) (v := ?_) ?_ (by kernel_rfl) (by kernel_rfl) (by kernel_rfl) (fun _ _ _ h => h) (by decide) ?_ HQ13.out (fun _ => trivial) ?_
      rotate_left 2
      · (simp only [List.getElem?_toArray, List.getElem?_cons_succ, List.getElem?_cons_zero]; rfl)
      · (first | exact Or.inr ⟨by rfl, rfl⟩ | (refine Or.inl ⟨by rfl, ?_⟩; intro W hSw; clear hSw; go_simp; try with_reducible rfl))
      try simp only [Act.put, List.setIfInBounds_toArray, List.set_cons_zero, List.set_cons_succ]
      refine wpAnyK_take (i := 9) (oi := ?_) (v := ?_) ?_ (by kernel_rfl) (by kernel_rfl) (by kernel_rfl) (fun _ _ _ h => h) (by decide) ?_ HQ13.out (fun _ => trivial) ?_
      rotate_left 2
      · (simp only [List.getElem?_toArray, List.getElem?_cons_succ, List.getElem?_cons_zero]; rfl)
      · (first | exact Or.inr ⟨by rfl, rfl⟩ | (refine Or.inl ⟨by rfl, ?_⟩; intro W hSw; clear hSw; go_simp; try with_reducible rfl))
      try simp only [Act.put, List.setIfInBounds_toArray, List.set_cons_zero, List.set_cons_succ]
      refine wpAnyK_done (by kernel_rfl) ?_ _
      refine NoPanic.normal ?_
      go_wp2
      go_ret
      refine ⟨?_, by rw [HGE.out]; exact HW.out.trans ((HQ13.out).mono HGS.out)⟩
      show Ending.returned (.string (S7 ++ T0 ++ T1)) = _
      rw [HXS7.out, HXT0.out, HXT1.out]
      first | (simp only [txN_cat, encR]; done) | (simp only [txN_cat, encR]; rfl) | (simp only [encR]; rfl)
    · go_upto_region 20 with (fail)
      -- region 20
      have HS := Lib.hid (show Below wc.heap.size wc wq10.drew from HBR7.out.drew)
      refine wp_region_noPanic ?_
      refine wp_region_K (fun W => Below wc.heap.size wc W) (fun _ => True) 99 (by kernel_rfl) ?_
      refine wpAnyK_take (i := 0) (oi := ?_) (v := ?_) ?_ (by kernel_rfl) (by kernel_rfl) (by kernel_rfl) (fun _ _ _ h => h) (by decide) ?_ HS.out (fun _ => trivial) ?_
      rotate_left 2
      · (simp only [List.getElem?_toArray, List.getElem?_cons_succ, List.getElem?_cons_zero]; rfl)
      · (first | exact Or.inr ⟨by rfl, rfl⟩ | (refine Or.inl ⟨by rfl, ?_⟩; intro W hSw; clear hSw; go_simp; try with_reducible rfl))
      try simp only [Act.put, List.setIfInBounds_toArray, List.set_cons_zero, List.set_cons_succ]
      refine wpAnyK_take (i := 1) (oi := ?_) (v := ?_) ?_ (by kernel_rfl) (by kernel_rfl) (by kernel_rfl) (fun _ _ _ h => h) (by decide) ?_ HS.out (fun _ => trivial) ?_
      rotate_left 2
      · (simp only [List.getElem?_toArray, List.getElem?_cons_succ, List.getElem?_cons_zero]; rfl)
      · (first | exact Or.inr ⟨by rfl, rfl⟩ | (refine Or.inl ⟨by rfl, ?_⟩; intro W hSw; clear hSw; go_simp; try with_reducible rfl))
      try simp only [Act.put, List.setIfInBounds_toArray, List.set_cons_zero, List.set_cons_succ]
      refine wpAnyK_take (i := 5) (oi := ?_) (v := ?_) ?_ (by kernel_rfl) (by kernel_rfl) (by kernel_rfl) (fun _ _ _ h => h) (by decide) ?_ HS.out (fun _ => trivial) ?_
      rotate_left 2
      · (simp only [List.getElem?_toArray, List.getElem?_cons_succ, List.getElem?_cons_zero]; rfl)
      · (first | exact Or.inr ⟨by rfl, rfl⟩ | (refine Or.inl ⟨by rfl, ?_⟩; intro W hSw; clear hSw; go_simp; try with_reducible rfl))
      try simp only [Act.put, List.setIfInBounds_toArray, List.set_cons_zero, List.set_cons_succ]
      refine wpAnyK_take (i := 2) (oi := ?_) (v := ?_) ?_ (by kernel_rfl) (by kernel_rfl) (by kernel_rfl) (fun _ _ _ h => h) (by decide) ?_ HS.out (fun _ => trivial) ?_
      rotate_left 2
      · (simp only [List.getElem?_toArray, List.getElem?_cons_succ, List.getElem?_cons_zero]; rfl)
      · (first | exact Or.inr ⟨by rfl, rfl⟩ | (refine Or.inl ⟨by rfl, ?_⟩; intro W hSw; clear hSw; go_simp; try with_reducible rfl))
      try simp only [Act.put, List.setIfInBounds_toArray, List.set_cons_zero, List.set_cons_succ]
      refine wpAnyK_take (i := 6) (oi := ?_) (v := ?_) ?_ (by kernel_rfl) (by kernel_rfl) (by kernel_rfl) (fun _ _ _ h => h) (by decide) ?_ HS.out (fun _ => trivial) ?_
      rotate_left 2
      · (simp only [List.getElem?_toArray, List.getElem?_cons_succ, List.getElem?_cons_zero]; rfl)
      · (first | exact Or.inr ⟨by rfl, rfl⟩ | (refine Or.inl ⟨by rfl, ?_⟩; intro W hSw; have hq := HC5.out W hSw; clear hSw; go_simp; try with_reducible rfl))
      try simp only [Act.put, List.setIfInBounds_toArray, List.set_cons_zero, List.set_cons_succ]
      refine wpAnyK_one (i := 3) (o := ?_) (by kernel_rfl) ?_ (fun K hK => ?_)
      rotate_left 1
      · (simp only [List.getElem?_toArray, List.getElem?_cons_succ, List.getElem?_cons_zero]; rfl)
      go_simp
      go_at_call 39
      refine (one_at _ (184 + a % 8) _ ?_).mono ?_
      (next => first | exact HIM.out | (rw [HWM.out]; omega) | (rw [HWM.out, HID.out] <;> omega) | (rw [HID.out] <;> omega) | omega)
      rintro e wq13 ⟨T0, rfl, hT0, hzT0, hbq⟩
      have HXT0 := Lib.hid hT0
      clear hT0
      have HQ14 := Lib.hid (HS.out.trans (hbq.mono HS.out.size))
      clear hbq
      refine hK.out _ _ HQ14.out (fun _ => trivial) ?_
      clear hK K
      try simp only [Act.put, List.setIfInBounds_toArray, List.set_cons_zero, List.set_cons_succ]
      refine wpAnyK_take (i := 4) (oi := ?_) (v := ?_) ?_ (by kernel_rfl) (by kernel_rfl) (by kernel_rfl) (fun _ _ _ h => h) (by decide) ?_ HQ14.out (fun _ => trivial) ?_
      rotate_left 2
      · (simp only [List.getElem?_toArray, List.getElem?_cons_succ, List.getElem?_cons_zero]; rfl)
      · (first | exact Or.inr ⟨by rfl, rfl⟩ | (refine Or.inl ⟨by rfl, ?_⟩; intro W hSw; clear hSw; go_simp; try with_reducible rfl))
      try simp only [Act.put, List.setIfInBounds_toArray, List.set_cons_zero, List.set_cons_succ]
      refine wpAnyK_one (i := 7) (o := ?_) (by kernel_rfl) ?_ (fun K hK => ?_)
      rotate_left 1
      · (simp only [List.getElem?_toArray, List.getElem?_cons_succ, List.getElem?_cons_zero]; rfl)
      go_simp
      go_at_call 41
      refine (bytesR_at imm 4 _ (by omega) (by omega)).mono ?_
      rintro e wq14 ⟨T1, rfl, hT1, hzT1, hbq⟩
      have HXT1 := Lib.hid hT1
      clear hT1
      have HQ15 := Lib.hid (HQ14.out.trans (hbq.mono HQ14.out.size))
      clear hbq
      refine hK.out _ _ HQ15.out (fun _ => trivial) ?_
      clear hK K
      try simp only [Act.put, List.setIfInBounds_toArray, List.set_cons_zero, List.set_cons_succ]
      refine wpAnyK_take (i := 8) (oi := ?_) (v := ?_) ?_ (by kernel_rfl) (by kernel_rfl) (by kernel_rfl) (fun _ _ _ h => h) (by decide) ?_ HQ15.out (fun _ => trivial) ?_
      rotate_left 2
      · (simp only [List.getElem?_toArray, List.getElem?_cons_succ, List.getElem?_cons_zero]; rfl)
      · (first | exact Or.inr ⟨by rfl, rfl⟩ | (refine Or.inl ⟨by rfl, ?_⟩; intro W hSw; clear hSw; go_simp; try with_reducible rfl))
      try simp only [Act.put, List.setIfInBounds_toArray, List.set_cons_zero, List.set_cons_succ]
      refine wpAnyK_take (i := 9) (oi := ?_) (v := ?_) ?_ (by kernel_rfl) (by kernel_rfl) (by kernel_rfl) (fun _ _ _ h => h) (by decide) ?_ HQ15.out (fun _ => trivial) ?_
      rotate_left 2
      · (simp only [List.getElem?_toArray, List.getElem?_cons_succ, List.getElem?_cons_zero]; rfl)
      · (first | exact Or.inr ⟨by rfl, rfl⟩ | (refine Or.inl ⟨by rfl, ?_⟩; intro W hSw; clear hSw; go_simp; try with_reducible rfl))
      try simp only [Act.put, List.setIfInBounds_toArray, List.set_cons_zero, List.set_cons_succ]
      refine wpAnyK_done (by kernel_rfl) ?_ _
      refine NoPanic.normal ?_
      go_wp2
      go_ret
      refine ⟨?_, by rw [HGE.out]; exact HW.out.trans ((HQ15.out).mono HGS.out)⟩
      show Ending.returned (.string (SP ++ T0 ++ T1)) = _
      rw [HXSP.out, HXT0.out, HXT1.out]
      first | (simp only [txN_cat, encR]; done) | (simp only [txN_cat, encR]; rfl) | (simp only [encR]; rfl)
    · have hal7 := HTW.out rfl
      go_wp2_with (first | (go_at_call 42; refine (aluByte_at alu _ hal7).mono ?_; rintro e _ ⟨rfl, rfl⟩) | (go_at_call 39; refine (one_at _ (aluB alu) _ ?_).mono ?_; (next => first | exact HIM.out | (rw [HWM.out]; omega) | (rw [HWM.out, HID.out] <;> omega) | (rw [HID.out] <;> omega) | omega); rintro e wqT0 ⟨T0, rfl, hT0, hzT0, hbqT0⟩; have HXT0 := Lib.hid hT0; clear hT0) | (go_at_call 39; refine (one_at _ (192 + 8 * (a % 8) + b % 8) _ ?_).mono ?_; (next => first | exact HIM.out | (rw [HWM.out]; omega) | (rw [HWM.out, HID.out] <;> omega) | (rw [HID.out] <;> omega) | omega); rintro e wqT1 ⟨T1, rfl, hT1, hzT1, hbqT1⟩; have HXT1 := Lib.hid hT1; clear hT1))
      go_ret
      refine ⟨?_, by rw [HGE.out]; exact HW.out.trans ((((HBR7.out.trans (hbqT0.mono HBR7.out.size)).trans (hbqT1.mono (HBR7.out.trans (hbqT0.mono HBR7.out.size)).size))).mono HGS.out)⟩
      show Ending.returned (.string (S6 ++ T0 ++ T1)) = _
      rw [HXS6.out, HXT0.out, HXT1.out]
      first | (simp only [txN_cat, encR]; done) | (simp only [txN_cat, encR]; rfl) | (simp only [encR]; rfl)
    · go_wp2_with (first | (go_at_call 39; refine (one_at _ (192 + 8 * (a % 8) + b % 8) _ ?_).mono ?_; (next => first | exact HIM.out | (rw [HWM.out]; omega) | (rw [HWM.out, HID.out] <;> omega) | (rw [HID.out] <;> omega) | omega); rintro e wqT0 ⟨T0, rfl, hT0, hzT0, hbqT0⟩; have HXT0 := Lib.hid hT0; clear hT0))
      go_ret
      refine ⟨?_, by rw [HGE.out]; exact HW.out.trans (((HBR7.out.trans (hbqT0.mono HBR7.out.size))).mono HGS.out)⟩
      show Ending.returned (.string (S6 ++ txN [137] ++ T0)) = _
      rw [HXS6.out, HXT0.out]
      first | (simp only [txN_cat, encR]; done) | (simp only [txN_cat, encR]; rfl) | (simp only [encR]; rfl)
    · go_wp2_with (first | (go_at_call 39; refine (one_at _ (128 + 8 * (a % 8) + b % 8) _ ?_).mono ?_; (next => first | exact HIM.out | (rw [HWM.out]; omega) | (rw [HWM.out, HID.out] <;> omega) | (rw [HID.out] <;> omega) | omega); rintro e wqT0 ⟨T0, rfl, hT0, hzT0, hbqT0⟩; have HXT0 := Lib.hid hT0; clear hT0))
      go_ret
      refine ⟨?_, by rw [HGE.out]; exact HW.out.trans (((HBR7.out.trans (hbqT0.mono HBR7.out.size))).mono HGS.out)⟩
      show Ending.returned (.string (S6 ++ txN [139] ++ T0 ++ S10)) = _
      rw [HXS6.out, HXT0.out, HXS10.out]
      first | (simp only [txN_cat, encR]; done) | (simp only [txN_cat, encR]; rfl) | (simp only [encR]; rfl)
    · go_wp2_with (first | (go_at_call 39; refine (one_at _ (128 + 8 * (a % 8) + b % 8) _ ?_).mono ?_; (next => first | exact HIM.out | (rw [HWM.out]; omega) | (rw [HWM.out, HID.out] <;> omega) | (rw [HID.out] <;> omega) | omega); rintro e wqT0 ⟨T0, rfl, hT0, hzT0, hbqT0⟩; have HXT0 := Lib.hid hT0; clear hT0))
      go_ret
      refine ⟨?_, by rw [HGE.out]; exact HW.out.trans (((HBR7.out.trans (hbqT0.mono HBR7.out.size))).mono HGS.out)⟩
      show Ending.returned (.string (S6 ++ txN [137] ++ T0 ++ S10)) = _
      rw [HXS6.out, HXT0.out, HXS10.out]
      first | (simp only [txN_cat, encR]; done) | (simp only [txN_cat, encR]; rfl) | (simp only [encR]; rfl)
    · go_wp2_with (first | (go_at_call 39; refine (one_at _ (8 * (a % 8) + 5) _ ?_).mono ?_; (next => first | exact HIM.out | (rw [HWM.out]; omega) | (rw [HWM.out, HID.out] <;> omega) | (rw [HID.out] <;> omega) | omega); rintro e wqT0 ⟨T0, rfl, hT0, hzT0, hbqT0⟩; have HXT0 := Lib.hid hT0; clear hT0))
      go_ret
      refine ⟨?_, by rw [HGE.out]; exact HW.out.trans (((HBR7.out.trans (hbqT0.mono HBR7.out.size))).mono HGS.out)⟩
      show Ending.returned (.string (S9 ++ txN [139] ++ T0 ++ S10)) = _
      rw [HXS9.out, HXT0.out, HXS10.out]
      first | (simp only [txN_cat, encR]; done) | (simp only [txN_cat, encR]; rfl) | (simp only [encR]; rfl)
    · go_wp2_with (first | (go_at_call 39; refine (one_at _ (8 * (a % 8) + 5) _ ?_).mono ?_; (next => first | exact HIM.out | (rw [HWM.out]; omega) | (rw [HWM.out, HID.out] <;> omega) | (rw [HID.out] <;> omega) | omega); rintro e wqT0 ⟨T0, rfl, hT0, hzT0, hbqT0⟩; have HXT0 := Lib.hid hT0; clear hT0))
      go_ret
      refine ⟨?_, by rw [HGE.out]; exact HW.out.trans (((HBR7.out.trans (hbqT0.mono HBR7.out.size))).mono HGS.out)⟩
      show Ending.returned (.string (S9 ++ txN [137] ++ T0 ++ S10)) = _
      rw [HXS9.out, HXT0.out, HXS10.out]
      first | (simp only [txN_cat, encR]; done) | (simp only [txN_cat, encR]; rfl) | (simp only [encR]; rfl)
    · go_wp2_with (first | (go_at_call 39; refine (one_at _ (8 * (a % 8) + 5) _ ?_).mono ?_; (next => first | exact HIM.out | (rw [HWM.out]; omega) | (rw [HWM.out, HID.out] <;> omega) | (rw [HID.out] <;> omega) | omega); rintro e wqT0 ⟨T0, rfl, hT0, hzT0, hbqT0⟩; have HXT0 := Lib.hid hT0; clear hT0))
      go_ret
      refine ⟨?_, by rw [HGE.out]; exact HW.out.trans (((HBR7.out.trans (hbqT0.mono HBR7.out.size))).mono HGS.out)⟩
      show Ending.returned (.string (S9 ++ txN [141] ++ T0 ++ S10)) = _
      rw [HXS9.out, HXT0.out, HXS10.out]
      first | (simp only [txN_cat, encR]; done) | (simp only [txN_cat, encR]; rfl) | (simp only [encR]; rfl)
    · have hmk : bits .and .u64 (imm : Int) 255 = (imm : Int) % 256 := by rw [and_255u _ (by omega) (by omega)]
      have hon7 := HON.out (by decide) (by decide)
      go_upto_region 36 with (fail)
      -- region 36
      have HS := Lib.hid (show Below wc.heap.size wc wq10.drew from HBR7.out.drew)
      refine wp_region_noPanic ?_
      refine wp_region_K (fun W => Below wc.heap.size wc W) (fun _ => True) 99 (by kernel_rfl) ?_
      refine wpAnyK_take (i := 0) (oi := ?_) (v := ?_) ?_ (by kernel_rfl) (by kernel_rfl) (by kernel_rfl) (fun _ _ _ h => h) (by decide) ?_ HS.out (fun _ => trivial) ?_
      rotate_left 2
      · (simp only [List.getElem?_toArray, List.getElem?_cons_succ, List.getElem?_cons_zero]; rfl)
      · (first | exact Or.inr ⟨by rfl, rfl⟩ | (refine Or.inl ⟨by rfl, ?_⟩; intro W hSw; clear hSw; go_simp; try with_reducible rfl))
      try simp only [Act.put, List.setIfInBounds_toArray, List.set_cons_zero, List.set_cons_succ]
      refine wpAnyK_take (i := 2) (oi := ?_) (v := ?_) ?_ (by kernel_rfl) (by kernel_rfl) (by kernel_rfl) (fun _ _ _ h => h) (by decide) ?_ HS.out (fun _ => trivial) ?_
      rotate_left 2
      · (simp only [List.getElem?_toArray, List.getElem?_cons_succ, List.getElem?_cons_zero]; rfl)
      · (first | exact Or.inr ⟨by rfl, rfl⟩ | (refine Or.inl ⟨by rfl, ?_⟩; intro W hSw; clear hSw; go_simp; try with_reducible rfl))
      try simp only [Act.put, List.setIfInBounds_toArray, List.set_cons_zero, List.set_cons_succ]
      refine wpAnyK_take (i := 4) (oi := ?_) (v := ?_) ?_ (by kernel_rfl) (by kernel_rfl) (by kernel_rfl) (fun _ _ _ h => h) (by decide) ?_ HS.out (fun _ => trivial) ?_
      rotate_left 2
      · (simp only [List.getElem?_toArray, List.getElem?_cons_succ, List.getElem?_cons_zero]; rfl)
      · (first | exact Or.inr ⟨by rfl, rfl⟩ | (refine Or.inl ⟨by rfl, ?_⟩; intro W hSw; clear hSw; go_simp; try with_reducible rfl))
      try simp only [Act.put, List.setIfInBounds_toArray, List.set_cons_zero, List.set_cons_succ]
      refine wpAnyK_take (i := 8) (oi := ?_) (v := ?_) ?_ (by kernel_rfl) (by kernel_rfl) (by kernel_rfl) (fun _ _ _ h => h) (by decide) ?_ HS.out (fun _ => trivial) ?_
      rotate_left 2
      · (simp only [List.getElem?_toArray, List.getElem?_cons_succ, List.getElem?_cons_zero]; rfl)
      · (first | exact Or.inr ⟨by rfl, rfl⟩ | (refine Or.inl ⟨by rfl, ?_⟩; intro W hSw; clear hSw; go_simp; try with_reducible rfl))
      try simp only [Act.put, List.setIfInBounds_toArray, List.set_cons_zero, List.set_cons_succ]
      refine wpAnyK_take (i := 12) (oi := ?_) (v := ?_) ?_ (by kernel_rfl) (by kernel_rfl) (by kernel_rfl) (fun _ _ _ h => h) (by decide) ?_ HS.out (fun _ => trivial) ?_
      rotate_left 2
      · (simp only [List.getElem?_toArray, List.getElem?_cons_succ, List.getElem?_cons_zero]; rfl)
      · (first | exact Or.inr ⟨by rfl, rfl⟩ | (refine Or.inl ⟨by rfl, ?_⟩; intro W hSw; clear hSw; go_simp; try with_reducible rfl))
      try simp only [Act.put, List.setIfInBounds_toArray, List.set_cons_zero, List.set_cons_succ]
      refine wpAnyK_take (i := 1) (oi := ?_) (v := ?_) ?_ (by kernel_rfl) (by kernel_rfl) (by kernel_rfl) (fun _ _ _ h => h) (by decide) ?_ HS.out (fun _ => trivial) ?_
      rotate_left 2
      · (simp only [List.getElem?_toArray, List.getElem?_cons_succ, List.getElem?_cons_zero]; rfl)
      · (first | exact Or.inr ⟨by rfl, rfl⟩ | (refine Or.inl ⟨by rfl, ?_⟩; intro W hSw; clear hSw; go_simp; try with_reducible rfl))
      try simp only [Act.put, List.setIfInBounds_toArray, List.set_cons_zero, List.set_cons_succ]
      refine wpAnyK_take (i := 3) (oi := ?_) (v := ?_) ?_ (by kernel_rfl) (by kernel_rfl) (by kernel_rfl) (fun _ _ _ h => h) (by decide) ?_ HS.out (fun _ => trivial) ?_
      rotate_left 2
      · (simp only [List.getElem?_toArray, List.getElem?_cons_succ, List.getElem?_cons_zero]; rfl)
      · (first | exact Or.inr ⟨by rfl, rfl⟩ | (refine Or.inl ⟨by rfl, ?_⟩; intro W hSw; have hq := HC0.out W hSw; clear hSw; go_simp; try with_reducible rfl))
      try simp only [Act.put, List.setIfInBounds_toArray, List.set_cons_zero, List.set_cons_succ]
      refine wpAnyK_take (i := 5) (oi := ?_) (v := ?_) ?_ (by kernel_rfl) (by kernel_rfl) (by kernel_rfl) (fun _ _ _ h => h) (by decide) ?_ HS.out (fun _ => trivial) ?_
      rotate_left 2
      · (simp only [List.getElem?_toArray, List.getElem?_cons_succ, List.getElem?_cons_zero]; rfl)
      · (first | exact Or.inr ⟨by rfl, rfl⟩ | (refine Or.inl ⟨by rfl, ?_⟩; intro W hSw; have hq := HC3.out W hSw; clear hSw; go_simp; try with_reducible rfl))
      try simp only [Act.put, List.setIfInBounds_toArray, List.set_cons_zero, List.set_cons_succ]
      refine wpAnyK_take (i := 13) (oi := ?_) (v := ?_) ?_ (by kernel_rfl) (by kernel_rfl) (by kernel_rfl) (fun _ _ _ h => h) (by decide) ?_ HS.out (fun _ => trivial) ?_
      rotate_left 2
      · (simp only [List.getElem?_toArray, List.getElem?_cons_succ, List.getElem?_cons_zero]; rfl)
      · (first | exact Or.inr ⟨by rfl, rfl⟩ | (refine Or.inl ⟨by rfl, ?_⟩; intro W hSw; have hq := HC5.out W hSw; clear hSw; go_simp; try with_reducible rfl))
      try simp only [Act.put, List.setIfInBounds_toArray, List.set_cons_zero, List.set_cons_succ]
      refine wpAnyK_take (i := 14) (oi := ?_) (v := ?_) ?_ (by kernel_rfl) (by kernel_rfl) (by kernel_rfl) (fun _ _ _ h => h) (by decide) ?_ HS.out (fun _ => trivial) ?_
      rotate_left 2
      · (simp only [List.getElem?_toArray, List.getElem?_cons_succ, List.getElem?_cons_zero]; rfl)
      · (first | exact Or.inr ⟨by rfl, rfl⟩ | (refine Or.inl ⟨by rfl, ?_⟩; intro W hSw; clear hSw; go_simp; try with_reducible rfl))
      try simp only [Act.put, List.setIfInBounds_toArray, List.set_cons_zero, List.set_cons_succ]
      refine wpAnyK_take (i := 15) (oi := ?_) (v := ?_) ?_ (by kernel_rfl) (by kernel_rfl) (by kernel_rfl) (fun _ _ _ h => h) (by decide) ?_ HS.out (fun _ => trivial) ?_
      rotate_left 2
      · (simp only [List.getElem?_toArray, List.getElem?_cons_succ, List.getElem?_cons_zero]; rfl)
      · (first | exact Or.inr ⟨by rfl, rfl⟩ | (refine Or.inl ⟨by rfl, ?_⟩; intro W hSw; clear hSw; go_simp; try with_reducible rfl))
      try simp only [Act.put, List.setIfInBounds_toArray, List.set_cons_zero, List.set_cons_succ]
      refine wpAnyK_one (i := 6) (o := ?_) (by kernel_rfl) ?_ (fun K hK => ?_)
      rotate_left 1
      · (simp only [List.getElem?_toArray, List.getElem?_cons_succ, List.getElem?_cons_zero]; rfl)
      go_simp
      go_at_call 43
      refine (oneByte_at 14 alu _ hon7).mono ?_
      rintro e _ ⟨rfl, rfl⟩
      refine hK.out _ _ HS.out (fun _ => trivial) ?_
      clear hK K
      try simp only [Act.put, List.setIfInBounds_toArray, List.set_cons_zero, List.set_cons_succ]
      refine wpAnyK_take (i := 7) (oi := ?_) (v := ?_) ?_ (by kernel_rfl) (by kernel_rfl) (by kernel_rfl) (fun _ _ _ h => h) (by decide) ?_ HS.out (fun _ => trivial) ?_
      rotate_left 2
      · (simp only [List.getElem?_toArray, List.getElem?_cons_succ, List.getElem?_cons_zero]; rfl)
      · (first | exact Or.inr ⟨by rfl, rfl⟩ | (refine Or.inl ⟨by rfl, ?_⟩; intro W hSw; clear hSw; go_simp; try with_reducible rfl))
      try simp only [Act.put, List.setIfInBounds_toArray, List.set_cons_zero, List.set_cons_succ]
      refine wpAnyK_take (i := 9) (oi := ?_) (v := ?_) ?_ (by kernel_rfl) (by kernel_rfl) (by kernel_rfl) (fun _ _ _ h => h) (by decide) ?_ HS.out (fun _ => trivial) ?_
      rotate_left 2
      · (simp only [List.getElem?_toArray, List.getElem?_cons_succ, List.getElem?_cons_zero]; rfl)
      · (first | exact Or.inr ⟨by rfl, rfl⟩ | (refine Or.inl ⟨by rfl, ?_⟩; intro W hSw; clear hSw; go_simp; try with_reducible rfl))
      try simp only [Act.put, List.setIfInBounds_toArray, List.set_cons_zero, List.set_cons_succ]
      refine wpAnyK_one (i := 10) (o := ?_) (by kernel_rfl) ?_ (fun K hK => ?_)
      rotate_left 1
      · (simp only [List.getElem?_toArray, List.getElem?_cons_succ, List.getElem?_cons_zero]; rfl)
      go_simp
      go_at_call 39
      refine (one_at _ ((oneB 14 alu + b % 8) % 256) _ ?_).mono ?_
      (next => first | exact HIM.out | (rw [HWM.out]; omega) | (rw [HWM.out, HID.out] <;> omega) | (rw [HID.out] <;> omega) | omega)
      rintro e wq16 ⟨T0, rfl, hT0, hzT0, hbq⟩
      have HXT0 := Lib.hid hT0
      clear hT0
      have HQ17 := Lib.hid (HS.out.trans (hbq.mono HS.out.size))
      clear hbq
      refine hK.out _ _ HQ17.out (fun _ => trivial) ?_
      clear hK K
      try simp only [Act.put, List.setIfInBounds_toArray, List.set_cons_zero, List.set_cons_succ]
      refine wpAnyK_take (i := 11) (oi := ?_) (v := ?_) ?_ (by kernel_rfl) (by kernel_rfl) (by kernel_rfl) (fun _ _ _ h => h) (by decide) ?_ HQ17.out (fun _ => trivial) ?_
      rotate_left 2
      · (simp only [List.getElem?_toArray, List.getElem?_cons_succ, List.getElem?_cons_zero]; rfl)
      · (first | exact Or.inr ⟨by rfl, rfl⟩ | (refine Or.inl ⟨by rfl, ?_⟩; intro W hSw; clear hSw; go_simp; try with_reducible rfl))
      try simp only [Act.put, List.setIfInBounds_toArray, List.set_cons_zero, List.set_cons_succ]
      refine wpAnyK_one (i := 16) (o := ?_) (by kernel_rfl) ?_ (fun K hK => ?_)
      rotate_left 1
      · (simp only [List.getElem?_toArray, List.getElem?_cons_succ, List.getElem?_cons_zero]; rfl)
      go_simp
      go_at_call 39
      refine (one_at _ (imm % 256) _ ?_).mono ?_
      (next => first | exact HIM.out | (rw [HWM.out]; omega) | (rw [HWM.out, HID.out] <;> omega) | (rw [HID.out] <;> omega) | omega)
      rintro e wq17 ⟨T1, rfl, hT1, hzT1, hbq⟩
      have HXT1 := Lib.hid hT1
      clear hT1
      have HQ18 := Lib.hid (HQ17.out.trans (hbq.mono HQ17.out.size))
      clear hbq
      refine hK.out _ _ HQ18.out (fun _ => trivial) ?_
      clear hK K
      try simp only [Act.put, List.setIfInBounds_toArray, List.set_cons_zero, List.set_cons_succ]
      refine wpAnyK_take (i := 17) (oi := ?_) (v := ?_) ?_ (by kernel_rfl) (by kernel_rfl) (by kernel_rfl) (fun _ _ _ h => h) (by decide) ?_ HQ18.out (fun _ => trivial) ?_
      rotate_left 2
      · (simp only [List.getElem?_toArray, List.getElem?_cons_succ, List.getElem?_cons_zero]; rfl)
      · (first | exact Or.inr ⟨by rfl, rfl⟩ | (refine Or.inl ⟨by rfl, ?_⟩; intro W hSw; clear hSw; go_simp; try with_reducible rfl))
      try simp only [Act.put, List.setIfInBounds_toArray, List.set_cons_zero, List.set_cons_succ]
      refine wpAnyK_take (i := 18) (oi := ?_) (v := ?_) ?_ (by kernel_rfl) (by kernel_rfl) (by kernel_rfl) (fun _ _ _ h => h) (by decide) ?_ HQ18.out (fun _ => trivial) ?_
      rotate_left 2
      · (simp only [List.getElem?_toArray, List.getElem?_cons_succ, List.getElem?_cons_zero]; rfl)
      · (first | exact Or.inr ⟨by rfl, rfl⟩ | (refine Or.inl ⟨by rfl, ?_⟩; intro W hSw; clear hSw; go_simp; try with_reducible rfl))
      try simp only [Act.put, List.setIfInBounds_toArray, List.set_cons_zero, List.set_cons_succ]
      refine wpAnyK_done (by kernel_rfl) ?_ _
      refine NoPanic.normal ?_
      go_wp2
      go_ret
      refine ⟨?_, by rw [HGE.out]; exact HW.out.trans ((HQ18.out).mono HGS.out)⟩
      show Ending.returned (.string (S8 ++ txN [131] ++ T0 ++ T1)) = _
      rw [HXS8.out, HXT0.out, HXT1.out]
      first | (simp only [txN_cat, encR]; done) | (simp only [txN_cat, encR]; rfl) | (simp only [encR]; rfl)
    · have hon7 := HON.out (by decide) (by decide)
      go_wp2_with (first | (go_at_call 43; refine (oneByte_at 15 alu _ hon7).mono ?_; rintro e _ ⟨rfl, rfl⟩) | (go_at_call 39; refine (one_at _ ((oneB 15 alu + b % 8) % 256) _ ?_).mono ?_; (next => first | exact HIM.out | (rw [HWM.out]; omega) | (rw [HWM.out, HID.out] <;> omega) | (rw [HID.out] <;> omega) | omega); rintro e wqT0 ⟨T0, rfl, hT0, hzT0, hbqT0⟩; have HXT0 := Lib.hid hT0; clear hT0))
      go_ret
      refine ⟨?_, by rw [HGE.out]; exact HW.out.trans (((HBR7.out.trans (hbqT0.mono HBR7.out.size))).mono HGS.out)⟩
      show Ending.returned (.string (S8 ++ txN [255] ++ T0)) = _
      rw [HXS8.out, HXT0.out]
      first | (simp only [txN_cat, encR]; done) | (simp only [txN_cat, encR]; rfl) | (simp only [encR]; rfl)
    · obtain ⟨I, hI⟩ : ∃ I : Int, IntKind.i64.wrap (imm : Int) = I := ⟨_, rfl⟩
      have HIM := Lib.hid (show I % 256 = ((imm % 256 : Nat) : Int) from by rw [← hI, HWM.out]; omega)
      have hon7 := HON.out (by decide) (by decide)
      go_upto_region 40 with (fail)
      -- region 40
      have HS := Lib.hid (show Below wc.heap.size wc wq10.drew from HBR7.out.drew)
      refine wp_region_noPanic ?_
      refine wp_region_K (fun W => Below wc.heap.size wc W) (fun _ => True) 99 (by kernel_rfl) ?_
      refine wpAnyK_take (i := 0) (oi := ?_) (v := ?_) ?_ (by kernel_rfl) (by kernel_rfl) (by kernel_rfl) (fun _ _ _ h => h) (by decide) ?_ HS.out (fun _ => trivial) ?_
      rotate_left 2
      · (simp only [List.getElem?_toArray, List.getElem?_cons_succ, List.getElem?_cons_zero]; rfl)
      · (first | exact Or.inr ⟨by rfl, rfl⟩ | (refine Or.inl ⟨by rfl, ?_⟩; intro W hSw; clear hSw; go_simp; try with_reducible rfl))
      try simp only [Act.put, List.setIfInBounds_toArray, List.set_cons_zero, List.set_cons_succ]
      refine wpAnyK_take (i := 2) (oi := ?_) (v := ?_) ?_ (by kernel_rfl) (by kernel_rfl) (by kernel_rfl) (fun _ _ _ h => h) (by decide) ?_ HS.out (fun _ => trivial) ?_
      rotate_left 2
      · (simp only [List.getElem?_toArray, List.getElem?_cons_succ, List.getElem?_cons_zero]; rfl)
      · (first | exact Or.inr ⟨by rfl, rfl⟩ | (refine Or.inl ⟨by rfl, ?_⟩; intro W hSw; clear hSw; go_simp; try with_reducible rfl))
      try simp only [Act.put, List.setIfInBounds_toArray, List.set_cons_zero, List.set_cons_succ]
      refine wpAnyK_take (i := 4) (oi := ?_) (v := ?_) ?_ (by kernel_rfl) (by kernel_rfl) (by kernel_rfl) (fun _ _ _ h => h) (by decide) ?_ HS.out (fun _ => trivial) ?_
      rotate_left 2
      · (simp only [List.getElem?_toArray, List.getElem?_cons_succ, List.getElem?_cons_zero]; rfl)
      · (first | exact Or.inr ⟨by rfl, rfl⟩ | (refine Or.inl ⟨by rfl, ?_⟩; intro W hSw; clear hSw; go_simp; try with_reducible rfl))
      try simp only [Act.put, List.setIfInBounds_toArray, List.set_cons_zero, List.set_cons_succ]
      refine wpAnyK_take (i := 8) (oi := ?_) (v := ?_) ?_ (by kernel_rfl) (by kernel_rfl) (by kernel_rfl) (fun _ _ _ h => h) (by decide) ?_ HS.out (fun _ => trivial) ?_
      rotate_left 2
      · (simp only [List.getElem?_toArray, List.getElem?_cons_succ, List.getElem?_cons_zero]; rfl)
      · (first | exact Or.inr ⟨by rfl, rfl⟩ | (refine Or.inl ⟨by rfl, ?_⟩; intro W hSw; clear hSw; go_simp; try with_reducible rfl))
      try simp only [Act.put, List.setIfInBounds_toArray, List.set_cons_zero, List.set_cons_succ]
      refine wpAnyK_take (i := 12) (oi := ?_) (v := ?_) ?_ (by kernel_rfl) (by kernel_rfl) (by kernel_rfl) (fun _ _ _ h => h) (by decide) ?_ HS.out (fun _ => trivial) ?_
      rotate_left 2
      · (simp only [List.getElem?_toArray, List.getElem?_cons_succ, List.getElem?_cons_zero]; rfl)
      · (first | exact Or.inr ⟨by rfl, rfl⟩ | (refine Or.inl ⟨by rfl, ?_⟩; intro W hSw; clear hSw; go_simp; try with_reducible rfl))
      try simp only [Act.put, List.setIfInBounds_toArray, List.set_cons_zero, List.set_cons_succ]
      refine wpAnyK_take (i := 1) (oi := ?_) (v := ?_) ?_ (by kernel_rfl) (by kernel_rfl) (by kernel_rfl) (fun _ _ _ h => h) (by decide) ?_ HS.out (fun _ => trivial) ?_
      rotate_left 2
      · (simp only [List.getElem?_toArray, List.getElem?_cons_succ, List.getElem?_cons_zero]; rfl)
      · (first | exact Or.inr ⟨by rfl, rfl⟩ | (refine Or.inl ⟨by rfl, ?_⟩; intro W hSw; clear hSw; go_simp; try with_reducible rfl))
      try simp only [Act.put, List.setIfInBounds_toArray, List.set_cons_zero, List.set_cons_succ]
      refine wpAnyK_take (i := 3) (oi := ?_) (v := ?_) ?_ (by kernel_rfl) (by kernel_rfl) (by kernel_rfl) (fun _ _ _ h => h) (by decide) ?_ HS.out (fun _ => trivial) ?_
      rotate_left 2
      · (simp only [List.getElem?_toArray, List.getElem?_cons_succ, List.getElem?_cons_zero]; rfl)
      · (first | exact Or.inr ⟨by rfl, rfl⟩ | (refine Or.inl ⟨by rfl, ?_⟩; intro W hSw; have hq := HC0.out W hSw; clear hSw; go_simp; try with_reducible rfl))
      try simp only [Act.put, List.setIfInBounds_toArray, List.set_cons_zero, List.set_cons_succ]
      refine wpAnyK_take (i := 5) (oi := ?_) (v := ?_) ?_ (by kernel_rfl) (by kernel_rfl) (by kernel_rfl) (fun _ _ _ h => h) (by decide) ?_ HS.out (fun _ => trivial) ?_
      rotate_left 2
      · (simp only [List.getElem?_toArray, List.getElem?_cons_succ, List.getElem?_cons_zero]; rfl)
      · (first | exact Or.inr ⟨by rfl, rfl⟩ | (refine Or.inl ⟨by rfl, ?_⟩; intro W hSw; have hq := HC3.out W hSw; clear hSw; go_simp; try with_reducible rfl))
      try simp only [Act.put, List.setIfInBounds_toArray, List.set_cons_zero, List.set_cons_succ]
      refine wpAnyK_take (i := 13) (oi := ?_) (v := ?_) ?_ (by kernel_rfl) (by kernel_rfl) (by kernel_rfl) (fun _ _ _ h => h) (by decide) ?_ HS.out (fun _ => trivial) ?_
      rotate_left 2
      · (simp only [List.getElem?_toArray, List.getElem?_cons_succ, List.getElem?_cons_zero]; rfl)
      · (first | exact Or.inr ⟨by rfl, rfl⟩ | (refine Or.inl ⟨by rfl, ?_⟩; intro W hSw; have hq := HC5.out W hSw; clear hSw; go_simp; try with_reducible rfl))
      try simp only [Act.put, List.setIfInBounds_toArray, List.set_cons_zero, List.set_cons_succ]
      refine wpAnyK_take (i := 14) (oi := ?_) (v := ?_) ?_ (by kernel_rfl) (by kernel_rfl) (by kernel_rfl) (fun _ _ _ h => h) (by decide) ?_ HS.out (fun _ => trivial) ?_
      rotate_left 2
      · (simp only [List.getElem?_toArray, List.getElem?_cons_succ, List.getElem?_cons_zero]; rfl)
      · (first | exact Or.inr ⟨by rfl, rfl⟩ | (refine Or.inl ⟨by rfl, ?_⟩; intro W hSw; clear hSw; go_simp; try with_reducible rfl))
      try simp only [Act.put, List.setIfInBounds_toArray, List.set_cons_zero, List.set_cons_succ]
      refine wpAnyK_one (i := 6) (o := ?_) (by kernel_rfl) ?_ (fun K hK => ?_)
      rotate_left 1
      · (simp only [List.getElem?_toArray, List.getElem?_cons_succ, List.getElem?_cons_zero]; rfl)
      go_simp
      go_at_call 43
      refine (oneByte_at 16 alu _ hon7).mono ?_
      rintro e _ ⟨rfl, rfl⟩
      refine hK.out _ _ HS.out (fun _ => trivial) ?_
      clear hK K
      try simp only [Act.put, List.setIfInBounds_toArray, List.set_cons_zero, List.set_cons_succ]
      refine wpAnyK_take (i := 7) (oi := ?_) (v := ?_) ?_ (by kernel_rfl) (by kernel_rfl) (by kernel_rfl) (fun _ _ _ h => h) (by decide) ?_ HS.out (fun _ => trivial) ?_
      rotate_left 2
      · (simp only [List.getElem?_toArray, List.getElem?_cons_succ, List.getElem?_cons_zero]; rfl)
      · (first | exact Or.inr ⟨by rfl, rfl⟩ | (refine Or.inl ⟨by rfl, ?_⟩; intro W hSw; clear hSw; go_simp; try with_reducible rfl))
      try simp only [Act.put, List.setIfInBounds_toArray, List.set_cons_zero, List.set_cons_succ]
      refine wpAnyK_take (i := 9) (oi := ?_) (v := ?_) ?_ (by kernel_rfl) (by kernel_rfl) (by kernel_rfl) (fun _ _ _ h => h) (by decide) ?_ HS.out (fun _ => trivial) ?_
      rotate_left 2
      · (simp only [List.getElem?_toArray, List.getElem?_cons_succ, List.getElem?_cons_zero]; rfl)
      · (first | exact Or.inr ⟨by rfl, rfl⟩ | (refine Or.inl ⟨by rfl, ?_⟩; intro W hSw; clear hSw; go_simp; try with_reducible rfl))
      try simp only [Act.put, List.setIfInBounds_toArray, List.set_cons_zero, List.set_cons_succ]
      refine wpAnyK_one (i := 10) (o := ?_) (by kernel_rfl) ?_ (fun K hK => ?_)
      rotate_left 1
      · (simp only [List.getElem?_toArray, List.getElem?_cons_succ, List.getElem?_cons_zero]; rfl)
      go_simp
      go_at_call 39
      refine (one_at _ ((oneB 16 alu + b % 8) % 256) _ ?_).mono ?_
      (next => first | exact HIM.out | (rw [HWM.out]; omega) | (rw [HWM.out, HID.out] <;> omega) | (rw [HID.out] <;> omega) | omega)
      rintro e wq19 ⟨T0, rfl, hT0, hzT0, hbq⟩
      have HXT0 := Lib.hid hT0
      clear hT0
      have HQ20 := Lib.hid (HS.out.trans (hbq.mono HS.out.size))
      clear hbq
      refine hK.out _ _ HQ20.out (fun _ => trivial) ?_
      clear hK K
      try simp only [Act.put, List.setIfInBounds_toArray, List.set_cons_zero, List.set_cons_succ]
      refine wpAnyK_take (i := 11) (oi := ?_) (v := ?_) ?_ (by kernel_rfl) (by kernel_rfl) (by kernel_rfl) (fun _ _ _ h => h) (by decide) ?_ HQ20.out (fun _ => trivial) ?_
      rotate_left 2
      · (simp only [List.getElem?_toArray, List.getElem?_cons_succ, List.getElem?_cons_zero]; rfl)
      · (first | exact Or.inr ⟨by rfl, rfl⟩ | (refine Or.inl ⟨by rfl, ?_⟩; intro W hSw; clear hSw; go_simp; try with_reducible rfl))
      try simp only [Act.put, List.setIfInBounds_toArray, List.set_cons_zero, List.set_cons_succ]
      refine wpAnyK_one (i := 15) (o := ?_) (by kernel_rfl) ?_ (fun K hK => ?_)
      rotate_left 1
      · (simp only [List.getElem?_toArray, List.getElem?_cons_succ, List.getElem?_cons_zero]; rfl)
      go_simp
      go_at_call 39
      refine (one_at _ (imm % 256) _ ?_).mono ?_
      (next => first | exact HIM.out | (rw [HWM.out]; omega) | (rw [HWM.out, HID.out] <;> omega) | (rw [HID.out] <;> omega) | omega)
      rintro e wq20 ⟨T1, rfl, hT1, hzT1, hbq⟩
      have HXT1 := Lib.hid hT1
      clear hT1
      have HQ21 := Lib.hid (HQ20.out.trans (hbq.mono HQ20.out.size))
      clear hbq
      refine hK.out _ _ HQ21.out (fun _ => trivial) ?_
      clear hK K
      try simp only [Act.put, List.setIfInBounds_toArray, List.set_cons_zero, List.set_cons_succ]
      refine wpAnyK_take (i := 16) (oi := ?_) (v := ?_) ?_ (by kernel_rfl) (by kernel_rfl) (by kernel_rfl) (fun _ _ _ h => h) (by decide) ?_ HQ21.out (fun _ => trivial) ?_
      rotate_left 2
      · (simp only [List.getElem?_toArray, List.getElem?_cons_succ, List.getElem?_cons_zero]; rfl)
      · (first | exact Or.inr ⟨by rfl, rfl⟩ | (refine Or.inl ⟨by rfl, ?_⟩; intro W hSw; clear hSw; go_simp; try with_reducible rfl))
      try simp only [Act.put, List.setIfInBounds_toArray, List.set_cons_zero, List.set_cons_succ]
      refine wpAnyK_take (i := 17) (oi := ?_) (v := ?_) ?_ (by kernel_rfl) (by kernel_rfl) (by kernel_rfl) (fun _ _ _ h => h) (by decide) ?_ HQ21.out (fun _ => trivial) ?_
      rotate_left 2
      · (simp only [List.getElem?_toArray, List.getElem?_cons_succ, List.getElem?_cons_zero]; rfl)
      · (first | exact Or.inr ⟨by rfl, rfl⟩ | (refine Or.inl ⟨by rfl, ?_⟩; intro W hSw; clear hSw; go_simp; try with_reducible rfl))
      try simp only [Act.put, List.setIfInBounds_toArray, List.set_cons_zero, List.set_cons_succ]
      refine wpAnyK_done (by kernel_rfl) ?_ _
      refine NoPanic.normal ?_
      go_wp2
      go_ret
      refine ⟨?_, by rw [HGE.out]; exact HW.out.trans ((HQ21.out).mono HGS.out)⟩
      show Ending.returned (.string (S8 ++ txN [193] ++ T0 ++ T1)) = _
      rw [HXS8.out, HXT0.out, HXT1.out]
      first | (simp only [txN_cat, encR]; done) | (simp only [txN_cat, encR]; rfl) | (simp only [encR]; rfl)
    · go_wp2
      go_ret
      refine ⟨?_, by rw [HGE.out]; exact HW.out.trans ((HBR7.out).mono HGS.out)⟩
      show Ending.returned (.string (txN [232] ++ S10)) = _
      rw [HXS10.out]
      first | (simp only [txN_cat, encR]; done) | (simp only [txN_cat, encR]; rfl) | (simp only [encR]; rfl)
    · go_wp2
      go_ret
      refine ⟨?_, by rw [HGE.out]; exact HW.out.trans ((HBR7.out).mono HGS.out)⟩
      show Ending.returned (.string (txN [233] ++ S10)) = _
      rw [HXS10.out]
      first | (simp only [txN_cat, encR]; done) | (simp only [txN_cat, encR]; rfl) | (simp only [encR]; rfl)
    · go_wp2
      go_ret
      refine ⟨?_, by rw [HGE.out]; exact HW.out.trans ((HBR7.out).mono HGS.out)⟩
      show Ending.returned (.string (txN [235] ++ S11)) = _
      rw [HXS11.out]
      first | (simp only [txN_cat, encR]; done) | (simp only [txN_cat, encR]; rfl) | (simp only [encR]; rfl)
    · go_wp2_with (first | (go_at_call 39; refine (one_at _ (112 + cc) _ ?_).mono ?_; (next => first | exact HIM.out | (rw [HWM.out]; omega) | (rw [HWM.out, HID.out] <;> omega) | (rw [HID.out] <;> omega) | omega); rintro e wqT0 ⟨T0, rfl, hT0, hzT0, hbqT0⟩; have HXT0 := Lib.hid hT0; clear hT0))
      go_ret
      refine ⟨?_, by rw [HGE.out]; exact HW.out.trans (((HBR7.out.trans (hbqT0.mono HBR7.out.size))).mono HGS.out)⟩
      show Ending.returned (.string (T0 ++ S11)) = _
      rw [HXT0.out, HXS11.out]
      first | (simp only [txN_cat, encR]; done) | (simp only [txN_cat, encR]; rfl) | (simp only [encR]; rfl)
    · go_wp2
      go_ret
      refine ⟨?_, by rw [HGE.out]; exact HW.out.trans ((HBR7.out).mono HGS.out)⟩
      show Ending.returned (.string (txN [255, 21] ++ S10)) = _
      rw [HXS10.out]
      first | (simp only [txN_cat, encR]; done) | (simp only [txN_cat, encR]; rfl) | (simp only [encR]; rfl)
    · go_wp2
      go_ret
      refine ⟨?_, by rw [HGE.out]; exact HW.out.trans ((HBR7.out).mono HGS.out)⟩
      show Ending.returned (.string (txN [255, 37] ++ S10)) = _
      rw [HXS10.out]
      first | (simp only [txN_cat, encR]; done) | (simp only [txN_cat, encR]; rfl) | (simp only [encR]; rfl)
    · obtain ⟨I, hI⟩ : ∃ I : Int, IntKind.i64.wrap (imm : Int) = I := ⟨_, rfl⟩
      have HIM := Lib.hid (show I % 256 = ((imm % 256 : Nat) : Int) from by rw [← hI, HWM.out]; omega)
      go_wp2_with (first | (go_at_call 39; refine (one_at _ (imm % 256) _ ?_).mono ?_; (next => first | exact HIM.out | (rw [HWM.out]; omega) | (rw [HWM.out, HID.out] <;> omega) | (rw [HID.out] <;> omega) | omega); rintro e wqT0 ⟨T0, rfl, hT0, hzT0, hbqT0⟩; have HXT0 := Lib.hid hT0; clear hT0))
      go_ret
      refine ⟨?_, by rw [HGE.out]; exact HW.out.trans (((HBR7.out.trans (hbqT0.mono HBR7.out.size))).mono HGS.out)⟩
      show Ending.returned (.string (txN [205] ++ T0)) = _
      rw [HXT0.out]
      first | (simp only [txN_cat, encR]; done) | (simp only [txN_cat, encR]; rfl) | (simp only [encR]; rfl)
end Go.Proofs.Ythbgmlmcjnlopaa
