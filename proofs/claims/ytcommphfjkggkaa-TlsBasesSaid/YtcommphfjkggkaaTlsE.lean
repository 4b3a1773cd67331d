/- law 11: At. -/
import Derived.Test.YtcommphfjkggkaaTlsD
namespace Go.Proofs.Ytcommphfjkggkaa
open Go.ChangeShapes Go.WideShapes Go.ChangeAt Go.RowKit
set_option linter.unusedVariables false

set_option maxRecDepth 100000 in
set_option maxHeartbeats 1000000 in
theorem at_any (b x : Int) (L : Option Addr) (cs : List Int) (c : Nat) (w : World) (hL : SlT intC 1 w L cs) (hm : cs.length ≤ 8) (hb0 : 0 < b) (hb1 : b ≤ 1000000000000000) (hx0 : 0 ≤ x) (hx1 : x ≤ 64) (hc : ∀ v ∈ cs, 0 ≤ v ∧ v ≤ 64) :
    Calls Try.prog 39 #[.int .i64 16, .int .u64 b, .int .i64 x, .slice L cs.length c] w fun e w' =>
      ∃ g n cap F, e = .returned (.slice (some ⟨g, 0, none⟩) n cap) ∧ n ≤ 200 ∧ Bytes255 F ∧ SlB w' (some ⟨g, 0, none⟩) n F ∧ TlsI n F b x cs ∧ Below w.heap.size w w' := by
  have HLS := Lib.hid hL
  have HC := Lib.hid hc
  have HST := Lib.hid (fun S0 S1 h0 h1 => TlsS.start b x cs hb0 hb1 hx0 hx1 S0 S1 h0 h1)
  have HALL := Lib.hid (fun (S : ByteArray) (h : TlsS S b x cs cs.length) => h.all hm hb0 hb1 hx0 hx1 hc)
  have q0 : IntKind.u64.wrap x = x := by rw [IntKind.wrap_u64]; omega
  have q1 : IntKind.u64.wrap (b + x) = b + x := by rw [IntKind.wrap_u64]; omega
  have q2 : IntKind.u64.wrap (b + 16) = b + 16 := by rw [IntKind.wrap_u64]; omega
  have q3 : IntKind.u64.wrap (b + 16 + 48) = b + 64 := by rw [IntKind.wrap_u64]; omega
  clear hL hc
  go_enter Try.func39, Try.ntmps39
  go_wp2_with (at_make; refine wpList_make_bytes _ rfl (.tmp 12) (.tmp 12) 22 rfl 5 (.int .u8 0) 1 (by kernel_rfl) (by kernel_rfl) rfl .i64 .i64 64 (by simp [Act.eval, Act.put]) (by simp [Act.eval, Act.put]) (by omega) (by omega) ?_; intro w1 hw1 ho1; have hcv := run_str (cap := 64) (own_row (f' := fun _ => 0) ho1 (fun i _ => rfl)))
  have hb1w := Lib.hid hw1
  obtain ⟨S0, hS0⟩ : ∃ S0, strF (fun _ => 0) 0 64 = S0 := ⟨_, rfl⟩
  have hz0 : S0.size = 64 := by rw [← hS0]; exact strF_size _ _ _
  have HZ0 := Lib.hid hz0
  rw [hS0]
  clear hcv hw1 ho1 hS0 hz0
  refine (rput_yes S0 32 8 (b + x) w1 (by rw [HZ0.out]; omega) (by omega) (by omega) (by rw [HZ0.out]; omega) (by omega) (by omega)).mono ?_
  rintro e w2 ⟨rfl, hb2⟩
  obtain ⟨S1, hS1⟩ : ∃ S1, strF (putI (PlainAid.bt S0) 32 (b + x) 8) 0 S0.size = S1 := ⟨_, rfl⟩
  have HS1 := Lib.hid hS1
  have hz1 : S1.size = 64 := by rw [← hS1, strF_size]; exact HZ0.out
  have HZ1 := Lib.hid hz1
  rw [hS1]
  have HB2 := Lib.hid (hb1w.out.trans (hb2.mono hb1w.out.size))
  clear hS1 hz1 hb2
  go_wp2_with fail
  refine (rput_yes S1 40 8 (b + 64) w2 (by rw [HZ1.out]; omega) (by omega) (by omega) (by rw [HZ1.out]; omega) (by omega) (by omega)).mono ?_
  rintro e w3 ⟨rfl, hb3⟩
  have HT := Lib.hid (HST.out S0 S1 HZ0.out HS1.out.symm)
  generalize strF (putI (PlainAid.bt S1) 40 (b + 64) 8) 0 S1.size = S2 at *
  have HB3 := Lib.hid (HB2.out.trans (hb3.mono HB2.out.size))
  clear hb3
  go_wp2_with fail
  go_loopw [9, 10] (fun v9 o wr => ∃ (i : Nat) (S : ByteArray), i ≤ cs.length ∧ o = .int .i64 i ∧ v9 = .string S ∧ TlsS S b x cs i ∧ Below w.heap.size w wr) (fun _ o _ => cs.length - (intOf o).toNat)
  case atStart => exact ⟨0, S2, by omega, rfl, rfl, HT.out, HB3.out⟩
  case round =>
    obtain ⟨i, S, hi, rfl, rfl, hts, hbw⟩ := hrel
    have HTS := Lib.hid hts
    have HBW := Lib.hid hbw
    clear hts hbw HT HB3
    by_cases hlt : i < cs.length
    · obtain ⟨bb, off, rfl, hbl, q4⟩ := (HLS.out.below HBW.out).int hlt
      obtain ⟨c0, c1⟩ := HC.out cs[i] (List.getElem_mem hlt)
      have HADD := Lib.hid (fun (v0 : 0 ≤ b + cs[i]) (v1 : b + cs[i] < 18446744073709551616) => HTS.out.add hlt (b + cs[i]) rfl v0 v1)
      generalize cs[i] = v at *
      have HBY := Lib.hid (fun W : World => rbytes_any (b + v) 8 8 W (by omega) (by omega) (by omega))
      have g1 : decide ((i : Int) < (cs.length : Int)) = true := decide_eq_true (by omega)
      have g2 : decide ((i : Int) < 10) = true := decide_eq_true (by omega)
      have hz : (0 : Int) ≤ (i : Int) := by omega
      have hzl : (i : Int) < (cs.length : Int) := by omega
      have q5 : IntKind.u64.wrap v = v := by rw [IntKind.wrap_u64]; omega
      have q6 : IntKind.u64.wrap (b + v) = b + v := by rw [IntKind.wrap_u64]; omega
      have ha1 := fun (W : World) => run_string_add_sum (P := Try.prog) W S (strF (byteOf (b + v)) 0 8) (by have := HTS.out.size; rw [strF_size]; omega)
      go_wp2_with (go_fit (HBY.out _); rintro e u ⟨rfl, hbu⟩)
      go_roundw
      case rel => exact ⟨i + 1, _, by omega, by go_num, rfl, HADD.out (by omega) (by omega), HBW.out.trans (hbu.mono HBW.out.size)⟩
      case measure => simp [intOf]; omega
    · obtain rfl : i = cs.length := by omega
      have HF := Lib.hid (HALL.out S HTS.out)
      have hsf : (S ++ strF (fun _ => 0) 0 8).size = 72 + 8 * cs.length := HF.out.len
      have ha2 := fun (W : World) => run_string_add_sum (P := Try.prog) W S (strF (fun _ => 0) 0 8) (by have := HTS.out.size; rw [strF_size]; omega)
      have hcv2 := fun (W : World) => run_bytes_of_string (P := Try.prog) W 9 22 5 (S ++ strF (fun _ => 0) 0 8) Try.underlying9 Try.underlying22 Try.underlying5
      go_wp2_with (at_make; refine wpList_make_bytes _ rfl (.const (.int .i64 8)) (.const (.int .i64 8)) 22 rfl 5 (.int .u8 0) 1 (by kernel_rfl) (by kernel_rfl) rfl .i64 .i64 8 (by simp [Act.eval, Act.put]) (by simp [Act.eval, Act.put]) (by omega) (by omega) ?_; intro w5 hw5 ho5; have hcv5 := run_str (cap := 8) (own_row (f' := fun _ => 0) ho5 (fun i _ => rfl)))
      have HB5 := Lib.hid (HBW.out.trans (hw5.mono HBW.out.size))
      clear hcv5 ho5 hw5 hcv2 ha2
      go_ret
      obtain ⟨n, hn⟩ : ∃ n, 72 + 8 * cs.length = n := ⟨_, rfl⟩
      rw [hn] at hsf ⊢
      have HF2 := HF.out
      rw [hsf] at HF2
      generalize S ++ strF (fun _ => 0) 0 8 = S' at *
      have hcap := grownCap_ge w5 n 0 5
      have hcm := grownCap_le_maxLen w5 n 0 5 (by simp only [maxLen]; omega)
      simp only [maxLen] at hcm
      have hbz : (bytesRow S' (grownCap w5 n 0 5)).size = grownCap w5 n 0 5 := by
        have : S'.data.size = S'.size := rfl
        simp [bytesRow]
        omega
      have hrow : Row (w5.alloc (.cells (bytesRow S' (grownCap w5 n 0 5)) 5 ((bytesRow S' (grownCap w5 n 0 5)).size, (bytesRow S' (grownCap w5 n 0 5)).size + 1))) w5.heap.size 0 n (PlainAid.bt S') := fun i hi' => by
        have hi2 : i < S'.data.size := by have : S'.data.size = S'.size := rfl; omega
        rw [Nat.zero_add, World.cell?_alloc_mark w5 (bytesRow S' _) 5 _ i, bytesRow_at S' _ i hi2]
        unfold PlainAid.bt
        rw [dif_pos (show i < S'.size from hi2)]
        rfl
      exact ⟨_, n, _, PlainAid.bt S', rfl, by omega, bt255 S', .inr ⟨_, 0, rfl, by simp, hrow⟩, HF2, (HB5.out.alloc HB5.out.size _).drew⟩
end Go.Proofs.Ytcommphfjkggkaa
