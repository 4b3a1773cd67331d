/- law 16: CpuRounds, the walk. -/
import Derived.Test.YthbgmlmcjnlopaaMgE
namespace Go.Proofs.Ythbgmlmcjnlopaa
open Go.ChangeShapes Go.WideShapes Go.ChangeAt Go.RowKit
set_option linter.unusedVariables false
set_option linter.unusedSimpArgs false
set_option maxRecDepth 100000

theorem conv_txN (w : World) (bs : List Nat) (hb : Bn bs) (hl : bs.length ≤ 1000000) : ∃ C w', (convert 9 24 (.string (txN bs))).run Try.prog w = .ok (.slice (some ⟨w.heap.size, 0, none⟩) bs.length C) w' ∧
    Own w' w.heap.size bs.length (fun i => .int .u8 (bF bs i)) ∧ Below w.heap.size w w' ∧ bs.length ≤ C ∧ C ≤ 9223372036854775807 := by
  have hcv := run_bytes_of_string (P := Try.prog) w 9 24 5 (txN bs) Try.underlying9 Try.underlying24 Try.underlying5
  obtain ⟨C, hC⟩ : ∃ C, grownCap w bs.length 0 5 = C := ⟨_, rfl⟩
  have hcap := grownCap_ge w bs.length 0 5
  have hcm := grownCap_le_maxLen w bs.length 0 5 (by simp only [maxLen]; omega)
  simp only [maxLen] at hcm
  rw [txN_size, hC] at hcv
  rw [hC] at hcap hcm
  have hrz : (bytesRow (txN bs) C).size = C := by
    have h1 : (txN bs).data.size = (txN bs).size := rfl
    have h2 := txN_size bs
    simp [bytesRow]; omega
  rw [hrz] at hcv
  refine ⟨C, _, hcv, ⟨by simp, fun j hj => ⟨?_, ?_⟩⟩, ((Below.refl w.heap.size w).drew.alloc (Nat.le_refl _) _), hcap, hcm⟩
  · have hi2 : j < (txN bs).data.size := by have := txN_size bs; exact (show j < (txN bs).size by omega)
    have hc := World.cell?_alloc_mark w.drew (bytesRow (txN bs) C) 5 (C, C + 1) j
    refine hc.trans ?_
    rw [bytesRow_at (txN bs) C j hi2]
    have hv := hb bs[j] (List.getElem_mem hj)
    have e : ((txN bs).data[j]).toNat = bs[j] := by
      simp [txN, strOfNums, nL]
      omega
    rw [e]
    simp [bF, List.getD, hj]
  · refine (World.frozen?_alloc_mark w.drew (bytesRow (txN bs) C) 5 C (C + 1) j).trans ?_
    simp only [Bool.and_eq_false_iff, decide_eq_false_iff_not]
    omega
theorem encS {F : Form} {x : InsV} (h : Tells F x) (bs : List Nat) (hb : encM F x = bs) (hd : -9223372036854775808 ≤ x.disp ∧ x.disp ≤ 9223372036854775807) (w : World) :
    Calls Try.prog 14 #[insV x] w fun e w' => ∃ S, e = .returned (.string S) ∧ S = txN bs ∧ S.size = bs.length ∧ Below w.heap.size w w' := by
  refine (encT_any h hd w).mono ?_
  rintro e w' ⟨rfl, hbel⟩
  exact ⟨_, rfl, by rw [hb], by rw [txN_size, hb], hbel⟩

theorem codR_bd (j : Nat) : 0 ≤ bF codR j ∧ bF codR j ≤ 255 := by
  have hb : Bn codR := by unfold Bn; decide
  unfold bF
  rcases Nat.lt_or_ge j codR.length with h | h
  · have := hb codR[j] (List.getElem_mem h)
    simp [List.getD, h]; omega
  · simp [List.getD, h]
theorem rd_int {R : Nat → Prop} {w0 w : World} {C M m : Nat} {most : Int} {s : StV} {fk fa : Int} (h : Box R w0 w C M m most mpR s fk fa) (hip : s.ip = 4104) :
    Calls Try.prog 17 #[.pointer (some ⟨C, 0, none⟩)] w fun e w' => e = .returned (.tuple #[.int .i64 265, .int .i64 0]) ∧ Box R w0 w' C M m most mpR (nextS s 2) fk fa := by
  have hf : fetchM mpR s.ip 12 [] = ⟨false, mpR, insR4, (encM ⟨23,0,0,0,205,0,0,3⟩ insR4).length, 0, 0, 0⟩ := by rw [encR4, hip]; exact fetR4
  have hr : stepM mpR s fk fa al0 = ⟨265, 0, mpR, nextS s 2, fk, fa⟩ := (stepM_done (s' := nextS s 2) hf (by rw [encR4]; rfl)).trans (by
    have h1 : (if insR4.op = 23 then wrap64 (wrap64 (insR4.imm : Int) + 256) else 0 : Int) = 265 := by kernel_rfl
    rw [h1])
  exact stepBox h al0 (fun _ _ => by rw [hf]; exact aluD0 (by decide)) _ hr h.ok (h.sok.next 2)

set_option maxHeartbeats 4000000 in
theorem rounds_core (w : World) (k : Int) :
    Calls Try.prog 5 #[.int .i64 k] w fun e w' => e = .returned (.bool true) ∧ Below w.heap.size w w' := by
  obtain ⟨q, hq⟩ : ∃ q, bits .and .i64 k 511 = q := ⟨_, rfl⟩
  have hq' : 0 ≤ q ∧ q ≤ 511 := by
    rw [← hq, show (511 : Int) = ((2 ^ 9 - 1 : Nat) : Int) from by decide, i64_mask k 9 (by omega)]
    omega
  obtain ⟨n, hK⟩ : ∃ n : Nat, q % 300 + 1 = n := ⟨(q % 300 + 1).toNat, by omega⟩
  have hn1 : 1 ≤ n ∧ n ≤ 300 := by omega
  go_enter Try.func5, Try.ntmps5
  go_wp2_with fail
  refine (encS tellsR1 _ encR1 (by decide) _).mono ?_
  rintro e w1 ⟨S1, rfl, h1, (hz1 : S1.size = 3), hb1⟩
  have HS1 := Lib.hid h1
  have HB1 := Lib.hid (hb1)
  clear h1 hb1
  go_wp2_with fail
  refine (encS tellsR2 _ encR2 (by decide) _).mono ?_
  rintro e w2 ⟨S2, rfl, h2, (hz2 : S2.size = 3), hb2⟩
  have HS2 := Lib.hid h2
  have HB2 := Lib.hid (HB1.out.trans (hb2.mono HB1.out.size))
  clear h2 hb2
  go_wp2_with fail
  refine (encS tellsR3 _ encR3 (by decide) _).mono ?_
  rintro e w3 ⟨S3, rfl, h3, (hz3 : S3.size = 2), hb3⟩
  have HS3 := Lib.hid h3
  have HB3 := Lib.hid (HB2.out.trans (hb3.mono HB2.out.size))
  clear h3 hb3
  go_wp2_with fail
  refine (encS tellsR4 _ encR4 (by decide) _).mono ?_
  rintro e w4 ⟨S4, rfl, h4, (hz4 : S4.size = 2), hb4⟩
  have HS4 := Lib.hid h4
  have HB4 := Lib.hid (HB3.out.trans (hb4.mono HB3.out.size))
  clear h4 hb4
  obtain ⟨S, hS⟩ : ∃ S, S1 ++ S2 ++ S3 ++ S4 = S := ⟨_, rfl⟩
  have hSe : S = txN codR := by rw [← hS, HS1.out, HS2.out, HS3.out, HS4.out, txN_cat, txN_cat, txN_cat]; rfl
  have hSz : S.size = 10 := by rw [hSe, txN_size]; rfl
  obtain ⟨Cc, wv, hcv, hov, hbv, hc1, hc2⟩ := conv_txN w4 codR (by unfold Bn; decide) (by decide)
  rw [← hSe] at hcv
  have HOV := Lib.hid hov
  have HBV := Lib.hid (HB4.out.trans (hbv.mono HB4.out.size))
  have HC := Lib.hid (And.intro hc1 hc2)
  clear hSe hov hbv hc1 hc2
  go_wp2_with fail
  refine (machine_any wv w4.heap.size 10 Cc (fun i => bF codR i) (by omega) HC.out.1 HC.out.2 codR_bd HOV.out).mono ?_
  rintro e w6 ⟨C, M, R, rfl, h6⟩
  have H6 := Lib.hid (show Box R wv w6 C M 3 3 mpR (st0.setIp 4096) 0 0 from h6)
  clear h6 hcv HC HOV
  go_wp2_with fail
  refine (box_put H6.out 1 (by omega) n (by omega) (by omega)).mono ?_
  rintro e w7 ⟨rfl, h7, _⟩
  have H7 := Lib.hid h7
  clear h7 H6
  have hle := tri_le n hn1.2
  have htwo := tri_two n
  obtain ⟨T, hT⟩ : ∃ T, tri n = T := ⟨_, rfl⟩
  rw [hT] at hle htwo
  have hP : (n : Int) * ((n : Int) + 1) = 2 * T := by
    have h2 : (n : Int) * ((n : Int) + 1) = ((n * (n + 1) : Nat) : Int) := by simp
    rw [h2, ← htwo]
    simp
  have HT := Lib.hid hT
  clear hT htwo
  go_wp2_with fail
  go_loopw [6] (fun v wr => ∃ (j : Nat) (q : Nat) (s : StV), j ≤ 3 * n ∧ v = .int .i64 j ∧ Box R wv wr C M 3 3 mpR s 0 0 ∧ RdS n j q s) (fun v _ => 3 * n - (intOf v).toNat)
  case atStart => exact ⟨0, 0, _, by omega, rfl, H7.out, ⟨.inl ⟨rfl, by omega, rfl, rfl, by show (0 : Int) + _ = _; rw [Nat.sub_zero]; omega⟩⟩⟩
  case round =>
    clear H7
    obtain ⟨j, q', s, hj, rfl, hbx, hst⟩ := hrel
    have HBX := Lib.hid hbx
    have HST := Lib.hid hst
    clear hbx hst
    by_cases hlt : j < 3 * n
    · go_wp2_with fail
      refine (rd_step HBX.out HST.out hn1.2 hlt).mono ?_
      rintro e w8 ⟨rfl, s', q'', h8, hst8⟩
      have H8 := Lib.hid h8
      have HST8 := Lib.hid hst8
      clear h8 hst8 HBX HST
      go_wp2_with fail
      go_roundw
      case rel => exact ⟨j + 1, q'', s', by omega, by go_num, H8.out, HST8.out⟩
      case measure => simp [intOf]; omega
    · obtain rfl : j = 3 * n := by omega
      obtain ⟨e3, e4, e5, e6⟩ : s.ip = 4104 ∧ s.r 1 = 0 ∧ s.r 0 = T ∧ s.z = true := by
        rcases HST.out.at' with ⟨e1, e2, _⟩ | ⟨e1, e2, _⟩ | ⟨e1, e2, _⟩ | ⟨_, a1, a2, a3, a4⟩
        · omega
        · omega
        · omega
        · exact ⟨a1, a2, by rw [a3, HT.out], a4⟩
      have HE := Lib.hid (And.intro e3 (And.intro e4 (And.intro e5 e6)))
      clear e3 e4 e5 e6 HST
      go_wp2_with fail
      refine (rd_int HBX.out HE.out.1).mono ?_
      rintro e w8 ⟨rfl, h8⟩
      have H8 := Lib.hid h8
      clear h8
      go_wp2_with fail
      refine (box_reg H8.out 0 (by omega) T HE.out.2.2.1).mono ?_
      rintro e w9 ⟨rfl, rfl⟩
      go_wp2_with fail
      refine (box_reg H8.out 1 (by omega) 0 HE.out.2.1).mono ?_
      rintro e w9 ⟨rfl, rfl⟩
      go_wp2_with fail
      refine (getFlags_any w9 C M _ _ _ H8.out.cpu).mono ?_
      rintro e w10 ⟨rfl, hb10⟩
      have H10 := Lib.hid (H8.out.below hb10)
      have hz : (nextS s 2).z = true := HE.out.2.2.2
      rw [hz]
      clear hb10 hz H8
      have hfd := fun (W : World) (z s c o : Bool) => show (Instr.field 43 (.agg #[.bool z, .bool s, .bool c, .bool o]) 0).run Try.prog W = .ok (.bool z) W from by kernel_rfl
      have HAW := Lib.hid (fun W => awake16_any W)
      go_wp2_with (go_at_call 13; refine (HAW.out _).mono ?_; rintro e w14 ⟨rfl, hb14⟩; have H14 := Lib.hid hb14; clear hb14)
      go_wp2
      go_ret
      exact ⟨rfl, (HBV.out.trans (H10.out.ends.mono HBV.out.size)).trans (H14.out.mono (Nat.le_trans HBV.out.size H10.out.ends.size))⟩
end Go.Proofs.Ythbgmlmcjnlopaa
