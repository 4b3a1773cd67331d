/- TlsBases. -/
import Derived.Test.YtcommphfjkggkaaTlsF
import Derived.Test.YtcommphfjkggkaaMask
import Derived.Deep.DeepFit
import Derived.Deep.Cut
import Derived.Deep.CutRange
import Derived.Deep.RegionHeld3
namespace Go.Proofs.Ytcommphfjkggkaa
open Go.ChangeShapes Go.WideShapes Go.ChangeAt Go.RowKit
set_option linter.unusedVariables false

/-- The load of a row by an operation that is asked for. -/
theorem wpList_load_row_g {P : Program} {ops : Array Oper} {rest : List Oper} {o : Oper} {a : Act} {w : World} {Q : Exit → Act → World → Prop} (hw : Region.wanted o (yielded ops a.tmps) = true) (ty : TypeId) (x : Operand) (ho : o.op = .load ty x)
    (g : Nat) (hx : a.eval x = .pointer (some ⟨g, 0, none⟩)) (t : TypeId) (cs : Array Value) (fr : Nat × Nat) (d : TypeDesc) (hg : w.heap[g]? = some (.cells cs t fr))
    (hu : P.underlying ty = some d) (hd : (match d with | .struct _ | .array _ _ => true | _ => false) = true) (hi : (P.info? ty).map (·.size) = some cs.size)
    (h : wpList P ops Q rest (a.put o.dst (.agg cs)) w) : wpList P ops Q (o :: rest) a w :=
  wpList_step fun K hK => by
    rw [if_pos hw]
    exact wp_load_row ty x ho g hx t cs fr d hg hu hd hi (hK _ _ h)

/-- A base that was made of any number. -/
theorem base_bd (a : Int) (h0 : 0 ≤ a) (h1 : a ≤ 18446744073709551615) :
    0 < bits .or .u64 (bits .and .u64 a 281474976645120) 1048576 ∧ bits .or .u64 (bits .and .u64 a 281474976645120) 1048576 ≤ 1000000000000000 := by
  have e1 : bits .and .u64 a 281474976645120 = ((a.toNat &&& 281474976645120 : Nat) : Int) := u64_and a 281474976645120 h0 (by omega) (by omega) (by omega)
  have l1 : (a.toNat &&& 281474976645120) ≤ 281474976645120 := Nat.and_le_right
  rw [e1]
  generalize (a.toNat &&& 281474976645120) = y at *
  have e2 : bits .or .u64 (y : Int) 1048576 = ((((y : Int).toNat ||| (1048576 : Int).toNat : Nat)) : Int) := u64_or (y : Int) 1048576 (by omega) (by omega) (by omega) (by omega)
  rw [e2]
  have e3 : (1048576 : Int).toNat = 1048576 := rfl
  rw [e3, Int.toNat_natCast]
  have l2 : y ||| 1048576 < 2 ^ 49 := Nat.or_lt_two_pow (by omega) (by omega)
  have l3 : 1048576 ≤ y ||| 1048576 := Nat.right_le_or
  omega

set_option maxRecDepth 100000 in
set_option maxHeartbeats 2000000 in
theorem tlsb_walk (idx : Int) (L : Option Addr) (l : List Int) (lc : Nat) (a b : Int) (w : World) (hL : SlT intC 1 w L l) (hll : l.length ≤ 9223372036854775807) (a0 : 0 ≤ a) (a1 : a ≤ 18446744073709551615) (b0 : 0 ≤ b) (b1 : b ≤ 18446744073709551615) :
    Calls Try.prog 8 #[.int .i64 idx, .slice L l.length lc, .int .u64 a, .int .u64 b] w fun e w' => e = .returned (.bool true) ∧ Below w.heap.size w w' := by
  have HLS := Lib.hid hL
  obtain ⟨A, hA⟩ : ∃ A, bits .or .u64 (bits .and .u64 a 281474976645120) 1048576 = A := ⟨_, rfl⟩
  obtain ⟨B, hB⟩ : ∃ B, bits .or .u64 (bits .and .u64 b 281474976645120) 1048576 = B := ⟨_, rfl⟩
  have hAb := base_bd a a0 a1
  have hBb := base_bd b b0 b1
  rw [hA] at hAb
  rw [hB] at hBb
  obtain ⟨hA0, hA1⟩ := hAb
  obtain ⟨hB0, hB1⟩ := hBb
  obtain ⟨X, hX⟩ : ∃ X, idx % 64 = X := ⟨_, rfl⟩
  have hm := (and_63 idx).trans hX
  have hX0 : 0 ≤ X := by omega
  have hX1 : X ≤ 64 := by omega
  have HHA := Lib.hid hA
  have HHB := Lib.hid hB
  have HHM := Lib.hid hm
  clear hL hA hB hm hX
  go_enter Try.func8, Try.ntmps8
  go_wp2_with fail
  go_loopw [9, 10] (fun v9 o wr => ∃ (i : Nat) (out : List Int) (C : Option Addr) (cap : Nat), i ≤ l.length ∧ i ≤ 8 ∧ o = .int .i64 i ∧ v9 = .slice C out.length cap ∧ out.length = i ∧ OwnT intC 1 wr w.heap.size 3 (.slice C out.length cap) out ∧ (∀ v ∈ out, 0 ≤ v ∧ v ≤ 64) ∧ Below w.heap.size w wr) (fun _ o _ => 8 - (intOf o).toNat)
  case atStart => exact ⟨0, [], none, 0, by omega, by omega, rfl, rfl, rfl, OwnT.nil _ _ _, fun v hv => by simp at hv, Below.refl _ _⟩
  case round =>
    obtain ⟨i, out, C, cap, hi, hi8, rfl, rfl, hol, hown, hbd, hbw⟩ := hrel
    have HOL := Lib.hid hol
    have HOWN := Lib.hid hown
    have HBD := Lib.hid hbd
    have HBW := Lib.hid hbw
    clear hol hown hbd hbw
    by_cases hlt : i < l.length ∧ i < 8
    · obtain ⟨hlt, hl8⟩ := hlt
      have g1 : decide ((i : Int) < (l.length : Int)) = true := decide_eq_true (by omega)
      have g2 : decide ((i : Int) < 8) = true := decide_eq_true (by omega)
      obtain ⟨bb, off, rfl, hbl, q0⟩ := (HLS.out.below HBW.out).int hlt
      generalize l[i] = x at *
      have hm2 := and_63 x
      obtain ⟨y, hy⟩ : ∃ y, x % 64 = y := ⟨_, rfl⟩
      have hy0 : 0 ≤ y ∧ y ≤ 64 := by omega
      rw [hy] at hm2
      have hz : (0 : Int) ≤ (i : Int) := by omega
      have hzl : (i : Int) < (l.length : Int) := by omega
      have HO3 := Lib.hid (heap_alloc_new wr (.cells #[.int .i64 y] 3))
      have HOW2 := Lib.hid (HOWN.out.alloc (.cells #[.int .i64 y] 3))
      have HS1 := Lib.hid (show (wr.alloc (.cells #[.int .i64 y] 3)).heap.size = wr.heap.size + 1 by simp)
      have hca : ∀ j u, (intC y)[j]? = some u → (wr.alloc (.cells #[.int .i64 y] 3)).cell? ⟨wr.heap.size, j, none⟩ = some u := fun j u hu => by
        rw [cell_of_row _ _ _ _ _ _ HO3.out]
        rcases j with _ | j
        · simpa [intC] using hu
        · simp [intC] at hu
      have HCA := Lib.hid hca
      have HY := Lib.hid hy0
      clear hca hy hy0
      go_wp2_with (at_builtin; refine wpList_appT rfl (.tmp 27) (.tmp 33) 56 rfl w.heap.size 3 (.int .i64 0) 8 (by kernel_rfl) infoInt rfl (by omega) intC_len intC_one (.slice C out.length cap) out rfl HOW2.out wr.heap.size 1 rfl y HCA.out (by have := HOL.out; unfold maxLen; omega) (by have := HOL.out; omega) (by have := HS1.out; have := HBW.out.size; omega) ?_; intro g' cap2 w3 hown3 hg3 hat3)
      have HB3 := Lib.hid (HOW2.out.grew (HBW.out.alloc HBW.out.size (.cells #[.int .i64 y] 3)) (Nat.le_refl _) (by have := HBW.out.size; have := HS1.out; omega) hg3)
      go_roundw
      case rel => exact ⟨i + 1, out ++ [y], some ⟨g', 0, none⟩, cap2, by omega, by omega, by go_num, by simp, by have := HOL.out; simp; omega, by rw [List.length_append]; exact hown3, fun v hv => by
        rcases List.mem_append.1 hv with hv | hv
        · exact HBD.out v hv
        · rw [List.mem_singleton] at hv; subst hv; exact HY.out, HB3.out⟩
      case measure => simp [intOf]; omega
    · have hmA := HHA.out
      have hmB := HHB.out
      have hmM := HHM.out
      have HSO := Lib.hid (HOWN.out.sl intC_len)
      have HO8 := Lib.hid (show out.length ≤ 8 by have := HOL.out; omega)
      have g1 : (decide ((i : Int) < (l.length : Int)) && decide ((i : Int) < 8)) = false := by rw [Bool.and_eq_false_iff, decide_eq_false_iff_not, decide_eq_false_iff_not]; omega
      have HM := Lib.hid (fun (v : Int) (v0 : 0 < v) (v1 : v ≤ 1000000000000000) (W : World) (hW : Below wr.heap.size wr W) => made11 v X C out cap W (HSO.out.below hW) HO8.out v0 v1 hX0 hX1 HBD.out)
      rcases (by omega : (l.length ≤ i) ∨ (i < l.length ∧ 8 ≤ i)) with k | ⟨k, k'⟩
      all_goals
        go_wp2_with fail
        refine (HM.out A hA0 hA1 wr (Below.refl _ _)).mono ?_
        rintro e w2 ⟨g1, n1, c1, F1, rfl, hn1, hF1, hs1, hI1, hb2⟩
        have HOK1 := Lib.hid (tls_ok _ n1 c1 F1 0 A X out w2 hF1 hs1 hI1)
        clear hF1 hs1 hI1
        go_wp2_with fail
        refine HOK1.out.mono ?_
        rintro e w3 ⟨⟨L1, cl1, rfl, hsl1⟩, hb3⟩
        have hb4 := (Below.refl w3.heap.size w3).alloc (Nat.le_refl _) (.cells #[.bool true, .int .i64 X, .slice L1 out.length cl1] 58)
        have h4 := heap_alloc_new w3 (.cells #[.bool true, .int .i64 X, .slice L1 out.length cl1] 58)
        have hr23 := hb2.trans (hb3.mono hb2.size)
        have HR4 := Lib.hid (hr23.trans (hb4.mono hr23.size))
        have hsl4 := hsl1.below hb4
        clear hb2 hb3 hb4 hr23 hsl1
        go_wp2_with fail
        generalize w3.alloc (.cells #[.bool true, .int .i64 X, .slice L1 out.length cl1] 58) = w4 at *
        generalize w3.heap.size = G1 at *
        refine (HM.out B hB0 hB1 w4 HR4.out).mono ?_
        rintro e w5 ⟨g2, n2, c2, F2, rfl, hn2, hF2, hs2, hI2, hb5⟩
        have HOK2 := Lib.hid (tls_ok _ n2 c2 F2 0 B X out w5 hF2 hs2 hI2)
        clear hF2 hs2 hI2
        go_wp2_with fail
        refine HOK2.out.mono ?_
        rintro e w6 ⟨⟨L2, cl2, rfl, hsl2⟩, hb6⟩
        have hb56 := hb5.trans (hb6.mono hb5.size)
        have h6 := (hb56.block G1 (Array.getElem?_eq_some_iff.1 h4).1).trans h4
        have hsl6 := hsl4.below hb56
        have hr6 := HR4.out.trans (hb56.mono HR4.out.size)
        have hb7 := (Below.refl w6.heap.size w6).alloc (Nat.le_refl _) (.cells #[.bool true, .int .i64 X, .slice L2 out.length cl2] 58)
        have k7 := heap_alloc_new w6 (.cells #[.bool true, .int .i64 X, .slice L2 out.length cl2] 58)
        have h7 := (hb7.block G1 (Array.getElem?_eq_some_iff.1 h6).1).trans h6
        have hsl7 := hsl6.below hb7
        have ksl7 := hsl2.below hb7
        have HR7 := Lib.hid (hr6.trans (hb7.mono hr6.size))
        clear hb5 hb6 hb56 hb7 h4 h6 hsl4 hsl6 hsl2 hr6
        go_wp2_with fail
        generalize w6.alloc (.cells #[.bool true, .int .i64 X, .slice L2 out.length cl2] 58) = w7 at *
        generalize w6.heap.size = G2 at *
        refine (HM.out A hA0 hA1 w7 HR7.out).mono ?_
        rintro e w8 ⟨g3, n3, c3, F3, rfl, hn3, hF3, hs3, hI3, hb8⟩
        have HBAD := Lib.hid (tls_bad _ n3 c3 F3 0 A (A + 1099511627776) (X + 18446742974197923840) X out w8 hF3 hs3 hI3 (by omega) (by omega))
        have q9 : IntKind.u64.wrap (A + 1099511627776) = A + 1099511627776 := by rw [IntKind.wrap_u64]; omega
        clear hF3 hs3 hI3
        go_wp2_with fail
        refine HBAD.out.mono ?_
        rintro e w9 ⟨rfl, hb9⟩
        have hb89 := hb8.trans (hb9.mono hb8.size)
        have hb10 := (Below.refl w9.heap.size w9).alloc (Nat.le_refl _) (.cells #[.bool false, .int .i64 0, .slice none 0 0] 58)
        have hb810 := hb89.trans (hb10.mono hb89.size)
        have HG1 := Lib.hid ((hb810.block G1 (Array.getElem?_eq_some_iff.1 h7).1).trans h7)
        have HG2 := Lib.hid ((hb810.block G2 (Array.getElem?_eq_some_iff.1 k7).1).trans k7)
        have HSA := Lib.hid (sameTls_eq L1 L2 out cl1 cl2 X (w9.alloc (.cells #[.bool false, .int .i64 0, .slice none 0 0] 58)) (hsl7.below hb810) (ksl7.below hb810) (by have := HO8.out; omega))
        have HR10 := Lib.hid (HR7.out.trans (hb810.mono HR7.out.size))
        have hr10 := HBW.out.trans (HR10.out.mono HBW.out.size)
        have HRW := Lib.hid hr10
        clear hb8 hb9 hb89 hb10 hb810 h7 k7 hsl7 ksl7 hr10
        go_upto_region 10 with fail
        generalize w9.alloc (.cells #[.bool false, .int .i64 0, .slice none 0 0] 58) = w10 at *
        generalize w9.heap.size = G3 at *
        have HTR := Lib.hid (fun (W : World) (hW : Below w10.heap.size w10 W) => (cell_of_row _ _ 0 _ _ _ ((hW.block G1 (Array.getElem?_eq_some_iff.1 HG1.out).1).trans HG1.out)))
        go_wp2_with (first
          | (refine wpList_load_row_g (by rfl) 58 _ rfl G1 rfl 58 #[.bool true, .int .i64 X, .slice L1 out.length cl1] (0, 0) _ HG1.out rfl rfl rfl ?_)
          | (refine wpList_load_row_g (by rfl) 58 _ rfl G2 rfl 58 #[.bool true, .int .i64 X, .slice L2 out.length cl2] (0, 0) _ HG2.out rfl rfl rfl ?_)
          | (go_fit HSA.out; rintro e w11 ⟨rfl, hb11⟩; have hc11 := HTR.out w11 hb11; simp at hc11)
          | (go_fit (awake11_any w11); rintro e w12 ⟨rfl, hb12⟩))
        go_ret
        exact ⟨rfl, (HRW.out.trans (hb11.mono HRW.out.size)).trans (hb12.mono (HRW.out.trans (hb11.mono HRW.out.size)).size)⟩
end Go.Proofs.Ytcommphfjkggkaa
