/- law 16: CpuRounds, its code. · law 16: CpuRounds, the walk. · law 16: CpuMoves, its code and its steps. · law 16: CpuMoves, the walk. -/
import Derived.Test.YthbgmlmcjnlopaaMgE
import Derived.Test.YthbgmlmcjnlopaaRef1
namespace Go.Proofs.Ythbgmlmcjnlopaa
open Go.ChangeShapes Go.WideShapes Go.ChangeAt Go.RowKit
set_option linter.unusedVariables false
set_option linter.unusedSimpArgs false
set_option maxRecDepth 100000

def insR1 : InsV := ⟨7, 1, 0, 0, 0, 0, 0⟩
def insR2 : InsV := ⟨15, 0, 1, 6, 0, 0, 0⟩
def insR3 : InsV := ⟨20, 0, 0, 0, 5, 0, -8⟩
def insR4 : InsV := ⟨23, 0, 0, 0, 0, 9, 0⟩
theorem tellsR1 : Tells ⟨7,0,0,2,1,3,192,0⟩ insR1 := ⟨by decide, rfl, rfl, rfl, by decide, by decide⟩
theorem tellsR2 : Tells ⟨15,6,0,5,255,2,200,0⟩ insR2 := ⟨by decide, rfl, rfl, rfl, by decide, by decide⟩
theorem tellsR3 : Tells ⟨20,0,5,0,117,0,0,6⟩ insR3 := ⟨by decide, rfl, rfl, rfl, by decide, by decide⟩
theorem tellsR4 : Tells ⟨23,0,0,0,205,0,0,3⟩ insR4 := ⟨by decide, rfl, rfl, rfl, by decide, by decide⟩
theorem encR1 : encM ⟨7,0,0,2,1,3,192,0⟩ insR1 = [72, 1, 200] := by decide
theorem encR2 : encM ⟨15,6,0,5,255,2,200,0⟩ insR2 = [72, 255, 201] := by decide
theorem encR3 : encM ⟨20,0,5,0,117,0,0,6⟩ insR3 = [117, 248] := by decide
theorem encR4 : encM ⟨23,0,0,0,205,0,0,3⟩ insR4 = [205, 9] := by decide
def codR : List Nat := [72, 1, 200, 72, 255, 201, 117, 248, 205, 9]
def mpR : Int → Option Pg := mp3M 10 (fun i => bF codR i)
theorem fetR1 : fetchM mpR 4096 12 [] = ⟨false, mpR, insR1, 3, 0, 0, 0⟩ := by kernel_rfl
theorem fetR2 : fetchM mpR 4099 12 [] = ⟨false, mpR, insR2, 3, 0, 0, 0⟩ := by kernel_rfl
theorem fetR3 : fetchM mpR 4102 12 [] = ⟨false, mpR, insR3, 2, 0, 0, 0⟩ := by kernel_rfl
theorem fetR4 : fetchM mpR 4104 12 [] = ⟨false, mpR, insR4, 2, 0, 0, 0⟩ := by kernel_rfl
def tri : Nat → Nat
  | 0 => 0
  | k + 1 => tri k + (k + 1)
theorem tri_two : ∀ k, 2 * tri k = k * (k + 1)
  | 0 => rfl
  | k + 1 => by
    have := tri_two k
    simp only [tri, Nat.mul_add, Nat.add_mul] at *
    omega
theorem tri_le : ∀ k, k ≤ 300 → tri k ≤ 301 * k
  | 0, _ => by simp [tri]
  | k + 1, h => by
    have := tri_le k (by omega)
    simp only [tri]
    omega
/-- The machine behind j steps. -/
structure RdS (n j q : Nat) (s : StV) : Prop where
  at' : (j = 3 * q ∧ q < n ∧ s.ip = 4096 ∧ s.r 1 = (n - q : Nat) ∧ s.r 0 + tri (n - q) = tri n) ∨
    (j = 3 * q + 1 ∧ q < n ∧ s.ip = 4099 ∧ s.r 1 = (n - q : Nat) ∧ s.r 0 + tri (n - (q + 1)) = tri n) ∨
    (j = 3 * q + 2 ∧ q < n ∧ s.ip = 4102 ∧ s.r 1 = (n - (q + 1) : Nat) ∧ s.r 0 + tri (n - (q + 1)) = tri n ∧ s.z = decide (n - (q + 1) = 0)) ∨
    (j = 3 * n ∧ s.ip = 4104 ∧ s.r 1 = 0 ∧ s.r 0 = tri n ∧ s.z = true)
theorem aluR_add {a b : Int} (z s c o : Bool) (ha : Word a) (hb : Word b) (hv : Word (a + b)) (he : (a + b) % 18446744073709551616 = a + b) : AluR 0 a b z s c o (a + b) (a + b == 0) (hiB (a + b)) ((a + b) / 18446744073709551616 != 0) ((hiB a != hiB (a + b)) && (hiB b != hiB (a + b))) :=
  fun w => do_add a b (a + b) z s c o _ _ _ _ w ha hb hv he rfl
theorem aluR_dec {a b : Int} (z s c o : Bool) (ha : Word a) (hv : Word (a - 1)) (he : IntKind.u64.wrap (a - 1) = a - 1) : AluR 6 a b z s c o (a - 1) (a - 1 == 0) (hiB (a - 1)) c ((hiB a != hiB 1) && (hiB a != hiB (a - 1))) :=
  fun w => do_dec a b (a - 1) z s c o _ _ _ _ w ha ⟨by decide, by decide⟩ hv he rfl
section
variable {R : Nat → Prop} {w0 w : World} {C M m : Nat} {most : Int} {s : StV} {fk fa : Int} {n j q : Nat}
theorem mpR_ok (h : Box R w0 w C M m most mpR s fk fa) : MpOk mpR := h.ok
theorem rd_step (h : Box R w0 w C M m most mpR s fk fa) (hS : RdS n j q s) (hn : n ≤ 300) (hj : j < 3 * n) :
    Calls Try.prog 17 #[.pointer (some ⟨C, 0, none⟩)] w fun e w' => e = .returned (.tuple #[.int .i64 0, .int .i64 0]) ∧ ∃ s' q', Box R w0 w' C M m most mpR s' fk fa ∧ RdS n (j + 1) q' s' := by
  have hle := tri_le n hn
  rcases hS.at' with ⟨e1, e2, e3, e4, e5⟩ | ⟨e1, e2, e3, e4, e5⟩ | ⟨e1, e2, e3, e4, e5, e6⟩ | ⟨e1, _⟩
  · have ht : tri (n - q) = tri (n - (q + 1)) + (n - q) := by
      obtain ⟨d, hd⟩ : ∃ d, n - q = d + 1 := ⟨n - q - 1, by omega⟩
      rw [hd, show n - (q + 1) = d by omega]; rfl
    have h0 := h.sok.r 0 (by omega)
    have ha : Word (s.r 0) := ⟨by omega, by omega⟩
    have hb : Word (s.r 1) := ⟨by omega, by omega⟩
    have hv : Word (s.r 0 + s.r 1) := ⟨by omega, by omega⟩
    have hal := aluR_add s.z s.s s.c s.o ha hb hv (by omega)
    refine (box_do h ⟨s.r 0 + s.r 1, _, _, _, _⟩ (x := insR1) (n := 3) (s' := ((nextS s 3).setR 0 (s.r 0 + s.r 1)).setF _ _ _ _) (by rw [e3]; exact fetR1) rfl (by decide) ⟨by show 0 ≤ s.r 0 + s.r 1; omega, by show s.r 0 + s.r 1 < _; omega, fun _ => hal, fun h => absurd h (by decide)⟩ h.ok (((h.sok.next 3).setR (by omega) (by omega)).setF _ _ _ _)).mono ?_
    rintro e w' ⟨rfl, hbx, _⟩
    refine ⟨rfl, _, q, hbx, ⟨.inr (.inl ⟨by omega, e2, ?_, e4, ?_⟩)⟩⟩
    · show (s.ip + (3 : Nat)) % 18446744073709551616 = 4099
      rw [e3]; rfl
    · show s.r 0 + s.r 1 + _ = _
      omega
  · have h1 := h.sok.r 1 (by omega)
    have ha : Word (s.r 1) := ⟨by omega, by omega⟩
    have hv : Word (s.r 1 - 1) := ⟨by omega, by omega⟩
    have hal := aluR_dec (b := 0) s.z s.s s.c s.o ha hv (by rw [IntKind.wrap_u64]; omega)
    refine (box_do h ⟨s.r 1 - 1, _, _, _, _⟩ (x := insR2) (n := 3) (s' := ((nextS s 3).setR 1 (s.r 1 - 1)).setF _ _ _ _) (by rw [e3]; exact fetR2) rfl (by decide) ⟨by show 0 ≤ s.r 1 - 1; omega, by show s.r 1 - 1 < _; omega, fun h => absurd h (by decide), fun _ => hal⟩ h.ok (((h.sok.next 3).setR (by omega) (by omega)).setF _ _ _ _)).mono ?_
    rintro e w' ⟨rfl, hbx, _⟩
    refine ⟨rfl, _, q, hbx, ⟨.inr (.inr (.inl ⟨by omega, e2, ?_, ?_, e5, ?_⟩))⟩⟩
    · show (s.ip + (3 : Nat)) % 18446744073709551616 = 4102
      rw [e3]; rfl
    · show s.r 1 - 1 = _
      omega
    · show (s.r 1 - 1 == 0) = _
      by_cases c : n - (q + 1) = 0
      · rw [decide_eq_true c, beq_iff_eq]; omega
      · rw [decide_eq_false c, beq_eq_false_iff_ne]; omega
  · by_cases c : n - (q + 1) = 0
    · have hd : doM insR3 (nextS s 2) mpR al0 = okM mpR (nextS s 2) := by
        show okM mpR (if condM 5 (nextS s 2) = true then _ else _) = _
        rw [if_neg]
        show ¬ (!s.z) = true
        rw [e6, decide_eq_true c]; decide
      refine (box_do h al0 (by rw [e3]; exact fetR3) hd (by decide) (aluD0 (by decide)) h.ok (h.sok.next 2)).mono ?_
      rintro e w' ⟨rfl, hbx, _⟩
      refine ⟨rfl, _, q, hbx, ⟨.inr (.inr (.inr ⟨by omega, ?_, ?_, ?_, ?_⟩))⟩⟩
      · show (s.ip + (2 : Nat)) % 18446744073709551616 = 4104
        rw [e3]; rfl
      · show s.r 1 = 0
        omega
      · show s.r 0 = tri n
        rw [c] at e5
        simp only [tri] at e5
        omega
      · show s.z = true
        rw [e6, decide_eq_true c]
    · have hd : doM insR3 (nextS s 2) mpR al0 = okM mpR ((nextS s 2).setIp 4096) := by
        show okM mpR (if condM 5 (nextS s 2) = true then _ else _) = _
        rw [if_pos]
        · have : nearM (nextS s 2) insR3 = 4096 := by
            show ((s.ip + (2 : Nat)) % 18446744073709551616 + (-8)) % 18446744073709551616 = 4096
            rw [e3]; rfl
          rw [this]
        · show (!s.z) = true
          rw [e6, decide_eq_false c]; decide
      refine (box_do h al0 (by rw [e3]; exact fetR3) hd (by decide) (aluD0 (by decide)) h.ok ((h.sok.next 2).setIp (by omega) (by omega))).mono ?_
      rintro e w' ⟨rfl, hbx, _⟩
      refine ⟨rfl, _, q + 1, hbx, ⟨.inl ⟨by omega, by omega, rfl, ?_, e5⟩⟩⟩
      show s.r 1 = _
      exact e4
  · omega
end
end Go.Proofs.Ythbgmlmcjnlopaa
namespace Go.Proofs.Ythbgmlmcjnlopaa
open Go.ChangeShapes Go.WideShapes Go.ChangeAt Go.RowKit
set_option linter.unusedVariables false
set_option linter.unusedSimpArgs false
set_option maxRecDepth 100000

theorem conv_txN (w : World) (bs : List Nat) (hb : Bn bs) (hl : bs.length ≤ 1000000) : ∃ C w', (convert 9 24 (.string (txN bs))).run Try.prog w = .ok (.slice (some ⟨w.heap.size, 0, none⟩) bs.length C) w' ∧
    Own w' w.heap.size bs.length (fun i => .int .u8 (bF bs i)) ∧ Below w.heap.size w w' ∧ bs.length ≤ C ∧ C ≤ 9223372036854775807 := by
  have hcv := run_bytes_of_string (P := Try.prog) w 9 24 5 (txN bs) Try.underlying9 Try.underlying24 Try.underlying5
  obtain ⟨C, hC⟩ : ∃ C, grownCap w bs.length 0 5 = C := ⟨_, rfl⟩
  have hcap := grownCap_ge w bs.length 0 5
  have hcm := grownCap_le_maxLen w bs.length 0 5 (by simp only [maxLen]; omega)
  simp only [maxLen] at hcm
  rw [txN_size, hC] at hcv
  rw [hC] at hcap hcm
  have hrz : (bytesRow (txN bs) C).size = C := by
    have h1 : (txN bs).data.size = (txN bs).size := rfl
    have h2 := txN_size bs
    simp [bytesRow]; omega
  rw [hrz] at hcv
  refine ⟨C, _, hcv, ⟨by simp, fun j hj => ⟨?_, ?_⟩⟩, ((Below.refl w.heap.size w).drew.alloc (Nat.le_refl _) _), hcap, hcm⟩
  · have hi2 : j < (txN bs).data.size := by have := txN_size bs; exact (show j < (txN bs).size by omega)
    have hc := World.cell?_alloc_mark w.drew (bytesRow (txN bs) C) 5 (C, C + 1) j
    refine hc.trans ?_
    rw [bytesRow_at (txN bs) C j hi2]
    have hv := hb bs[j] (List.getElem_mem hj)
    have e : ((txN bs).data[j]).toNat = bs[j] := by
      simp [txN, strOfNums, nL]
      omega
    rw [e]
    simp [bF, List.getD, hj]
  · refine (World.frozen?_alloc_mark w.drew (bytesRow (txN bs) C) 5 C (C + 1) j).trans ?_
    simp only [Bool.and_eq_false_iff, decide_eq_false_iff_not]
    omega
theorem encS {F : Form} {x : InsV} (h : Tells F x) (bs : List Nat) (hb : encM F x = bs) (hd : -9223372036854775808 ≤ x.disp ∧ x.disp ≤ 9223372036854775807) (w : World) :
    Calls Try.prog 14 #[insV x] w fun e w' => ∃ S, e = .returned (.string S) ∧ S = txN bs ∧ S.size = bs.length ∧ Below w.heap.size w w' := by
  refine (encT_any h hd w).mono ?_
  rintro e w' ⟨rfl, hbel⟩
  exact ⟨_, rfl, by rw [hb], by rw [txN_size, hb], hbel⟩

theorem codR_bd (j : Nat) : 0 ≤ bF codR j ∧ bF codR j ≤ 255 := by
  have hb : Bn codR := by unfold Bn; decide
  unfold bF
  rcases Nat.lt_or_ge j codR.length with h | h
  · have := hb codR[j] (List.getElem_mem h)
    simp [List.getD, h]; omega
  · simp [List.getD, h]
theorem rd_int {R : Nat → Prop} {w0 w : World} {C M m : Nat} {most : Int} {s : StV} {fk fa : Int} (h : Box R w0 w C M m most mpR s fk fa) (hip : s.ip = 4104) :
    Calls Try.prog 17 #[.pointer (some ⟨C, 0, none⟩)] w fun e w' => e = .returned (.tuple #[.int .i64 265, .int .i64 0]) ∧ Box R w0 w' C M m most mpR (nextS s 2) fk fa := by
  have hf : fetchM mpR s.ip 12 [] = ⟨false, mpR, insR4, (encM ⟨23,0,0,0,205,0,0,3⟩ insR4).length, 0, 0, 0⟩ := by rw [encR4, hip]; exact fetR4
  have hr : stepM mpR s fk fa al0 = ⟨265, 0, mpR, nextS s 2, fk, fa⟩ := (stepM_done (s' := nextS s 2) hf (by rw [encR4]; rfl)).trans (by
    have h1 : (if insR4.op = 23 then wrap64 (wrap64 (insR4.imm : Int) + 256) else 0 : Int) = 265 := by kernel_rfl
    rw [h1])
  exact stepBox h al0 (fun _ _ => by rw [hf]; exact aluD0 (by decide)) _ hr h.ok (h.sok.next 2)

set_option maxHeartbeats 4000000 in
theorem rounds_core (w : World) (k : Int) :
    Calls Try.prog 5 #[.int .i64 k] w fun e w' => e = .returned (.bool true) ∧ Below w.heap.size w w' := by
  obtain ⟨q, hq⟩ : ∃ q, bits .and .i64 k 511 = q := ⟨_, rfl⟩
  have hq' : 0 ≤ q ∧ q ≤ 511 := by
    rw [← hq, show (511 : Int) = ((2 ^ 9 - 1 : Nat) : Int) from by decide, i64_mask k 9 (by omega)]
    omega
  obtain ⟨n, hK⟩ : ∃ n : Nat, q % 300 + 1 = n := ⟨(q % 300 + 1).toNat, by omega⟩
  have hn1 : 1 ≤ n ∧ n ≤ 300 := by omega
  go_enter Try.func5, Try.ntmps5
  go_wp2_with fail
  refine (encS tellsR1 _ encR1 (by decide) _).mono ?_
  rintro e w1 ⟨S1, rfl, h1, (hz1 : S1.size = 3), hb1⟩
  have HS1 := Lib.hid h1
  have HB1 := Lib.hid (hb1)
  clear h1 hb1
  go_wp2_with fail
  refine (encS tellsR2 _ encR2 (by decide) _).mono ?_
  rintro e w2 ⟨S2, rfl, h2, (hz2 : S2.size = 3), hb2⟩
  have HS2 := Lib.hid h2
  have HB2 := Lib.hid (HB1.out.trans (hb2.mono HB1.out.size))
  clear h2 hb2
  go_wp2_with fail
  refine (encS tellsR3 _ encR3 (by decide) _).mono ?_
  rintro e w3 ⟨S3, rfl, h3, (hz3 : S3.size = 2), hb3⟩
  have HS3 := Lib.hid h3
  have HB3 := Lib.hid (HB2.out.trans (hb3.mono HB2.out.size))
  clear h3 hb3
  go_wp2_with fail
  refine (encS tellsR4 _ encR4 (by decide) _).mono ?_
  rintro e w4 ⟨S4, rfl, h4, (hz4 : S4.size = 2), hb4⟩
  have HS4 := Lib.hid h4
  have HB4 := Lib.hid (HB3.out.trans (hb4.mono HB3.out.size))
  clear h4 hb4
  obtain ⟨S, hS⟩ : ∃ S, S1 ++ S2 ++ S3 ++ S4 = S := ⟨_, rfl⟩
  have hSe : S = txN codR := by rw [← hS, HS1.out, HS2.out, HS3.out, HS4.out, txN_cat, txN_cat, txN_cat]; rfl
  have hSz : S.size = 10 := by rw [hSe, txN_size]; rfl
  obtain ⟨Cc, wv, hcv, hov, hbv, hc1, hc2⟩ := conv_txN w4 codR (by unfold Bn; decide) (by decide)
  rw [← hSe] at hcv
  have HOV := Lib.hid hov
  have HBV := Lib.hid (HB4.out.trans (hbv.mono HB4.out.size))
  have HC := Lib.hid (And.intro hc1 hc2)
  clear hSe hov hbv hc1 hc2
  go_wp2_with fail
  refine (machine_any wv w4.heap.size 10 Cc (fun i => bF codR i) (by omega) HC.out.1 HC.out.2 codR_bd HOV.out).mono ?_
  rintro e w6 ⟨C, M, R, rfl, h6⟩
  have H6 := Lib.hid (show Box R wv w6 C M 3 3 mpR (st0.setIp 4096) 0 0 from h6)
  clear h6 hcv HC HOV
  go_wp2_with fail
  refine (box_put H6.out 1 (by omega) n (by omega) (by omega)).mono ?_
  rintro e w7 ⟨rfl, h7, _⟩
  have H7 := Lib.hid h7
  clear h7 H6
  have hle := tri_le n hn1.2
  have htwo := tri_two n
  obtain ⟨T, hT⟩ : ∃ T, tri n = T := ⟨_, rfl⟩
  rw [hT] at hle htwo
  have hP : (n : Int) * ((n : Int) + 1) = 2 * T := by
    have h2 : (n : Int) * ((n : Int) + 1) = ((n * (n + 1) : Nat) : Int) := by simp
    rw [h2, ← htwo]
    simp
  have HT := Lib.hid hT
  clear hT htwo
  go_wp2_with fail
  go_loopw [6] (fun v wr => ∃ (j : Nat) (q : Nat) (s : StV), j ≤ 3 * n ∧ v = .int .i64 j ∧ Box R wv wr C M 3 3 mpR s 0 0 ∧ RdS n j q s) (fun v _ => 3 * n - (intOf v).toNat)
  case atStart => exact ⟨0, 0, _, by omega, rfl, H7.out, ⟨.inl ⟨rfl, by omega, rfl, rfl, by show (0 : Int) + _ = _; rw [Nat.sub_zero]; omega⟩⟩⟩
  case round =>
    clear H7
    obtain ⟨j, q', s, hj, rfl, hbx, hst⟩ := hrel
    have HBX := Lib.hid hbx
    have HST := Lib.hid hst
    clear hbx hst
    by_cases hlt : j < 3 * n
    · go_wp2_with fail
      refine (rd_step HBX.out HST.out hn1.2 hlt).mono ?_
      rintro e w8 ⟨rfl, s', q'', h8, hst8⟩
      have H8 := Lib.hid h8
      have HST8 := Lib.hid hst8
      clear h8 hst8 HBX HST
      go_wp2_with fail
      go_roundw
      case rel => exact ⟨j + 1, q'', s', by omega, by go_num, H8.out, HST8.out⟩
      case measure => simp [intOf]; omega
    · obtain rfl : j = 3 * n := by omega
      obtain ⟨e3, e4, e5, e6⟩ : s.ip = 4104 ∧ s.r 1 = 0 ∧ s.r 0 = T ∧ s.z = true := by
        rcases HST.out.at' with ⟨e1, e2, _⟩ | ⟨e1, e2, _⟩ | ⟨e1, e2, _⟩ | ⟨_, a1, a2, a3, a4⟩
        · omega
        · omega
        · omega
        · exact ⟨a1, a2, by rw [a3, HT.out], a4⟩
      have HE := Lib.hid (And.intro e3 (And.intro e4 (And.intro e5 e6)))
      clear e3 e4 e5 e6 HST
      go_wp2_with fail
      refine (rd_int HBX.out HE.out.1).mono ?_
      rintro e w8 ⟨rfl, h8⟩
      have H8 := Lib.hid h8
      clear h8
      go_wp2_with fail
      refine (box_reg H8.out 0 (by omega) T HE.out.2.2.1).mono ?_
      rintro e w9 ⟨rfl, rfl⟩
      go_wp2_with fail
      refine (box_reg H8.out 1 (by omega) 0 HE.out.2.1).mono ?_
      rintro e w9 ⟨rfl, rfl⟩
      go_wp2_with fail
      refine (getFlags_any w9 C M _ _ _ H8.out.cpu).mono ?_
      rintro e w10 ⟨rfl, hb10⟩
      have H10 := Lib.hid (H8.out.below hb10)
      have hz : (nextS s 2).z = true := HE.out.2.2.2
      rw [hz]
      clear hb10 hz H8
      have hfd := fun (W : World) (z s c o : Bool) => show (Instr.field 43 (.agg #[.bool z, .bool s, .bool c, .bool o]) 0).run Try.prog W = .ok (.bool z) W from by kernel_rfl
      have HAW := Lib.hid (fun W => awake16_any W)
      go_wp2_with (go_at_call 13; refine (HAW.out _).mono ?_; rintro e w14 ⟨rfl, hb14⟩; have H14 := Lib.hid hb14; clear hb14)
      go_wp2
      go_ret
      exact ⟨rfl, (HBV.out.trans (H10.out.ends.mono HBV.out.size)).trans (H14.out.mono (Nat.le_trans HBV.out.size H10.out.ends.size))⟩
end Go.Proofs.Ythbgmlmcjnlopaa
namespace Go.Proofs.Ythbgmlmcjnlopaa
open Go.ChangeShapes Go.WideShapes Go.ChangeAt Go.RowKit
set_option linter.unusedVariables false
set_option linter.unusedSimpArgs false
set_option maxRecDepth 100000

/-- An access of eight bytes in two pages that both have the right. -/
theorem ask_two {mp : Int → Option Pg} {need kind a p : Int} (hn : (bits .and .i64 p need == 0) = false) (hg : (bits .and .i64 p 8 != 0) = false) (h0 : protAt mp (a - a % 4096) = some p) (h1 : protAt mp (a + 7 - (a + 7) % 4096) = some p) : askS mp need kind 8 a 8 = (0, 0, none) := by
  by_cases c : a % 4096 + 8 ≤ 4096
  · exact ask_ok (p := p) (by omega) (by omega) h0 hg hn c
  · unfold protAt at h0
    cases hm : mp (a - a % 4096) with
    | none => rw [hm] at h0; cases h0
    | some g =>
      rw [hm] at h0
      injection h0 with h0
      replace h0 : g.prot = p := h0
      unfold askS
      rw [if_neg (by omega), hm]
      simp only
      rw [h0, hg, hn, if_neg (by simp), if_neg (by simp)]
      refine ask_ok (p := p) (by omega) (by omega) ?_ hg hn (by omega)
      rw [← h1]
      congr 1
      omega
/-- The memory of a machine whose code is cs, and behind it two pages that may be read and written. -/
structure MvM (mp : Int → Option Pg) (cs : List Nat) : Prop where
  ok : MpOk mp
  p1 : protAt mp 4096 = some 4
  p2 : protAt mp 8192 = some 3
  p3 : protAt mp 12288 = some 3
  len : cs.length ≤ 100
  code : ∀ j : Nat, j < cs.length → byteAt mp (4096 + j) = bF cs j
theorem mvM_start {mp : Int → Option Pg} {cs : List Nat} (hl : cs.length ≤ 100) (ho : MpOk mp) (h : mp = mp3M cs.length (fun i => bF cs i)) : MvM mp cs := by
  have hp : ∀ x, protAt mp x = protAt (setP (setP noM 4096 4 1) 8192 3 2) x := fun x => by rw [h]; exact protAt_put _ _ _ _ _
  have p1 : protAt (setP (setP noM 4096 4 1) 8192 3 2) 4096 = some 4 := by kernel_rfl
  refine ⟨ho, by rw [hp, p1], by rw [hp]; kernel_rfl, by rw [hp]; kernel_rfl, hl, fun j hj => ?_⟩
  rw [h]
  unfold mp3M
  rw [byteAt_put (by rw [show (4096 + (j : Int)) - (4096 + (j : Int)) % 4096 = 4096 by omega, p1]; rfl), if_pos (by omega), show (4096 + (j : Int) - 4096).toNat = j by omega]
namespace MvM
variable {mp : Int → Option Pg} {cs : List Nat}
theorem fetch (h : MvM mp cs) {F : Form} {x : InsV} (hx : Tells F x) (o : Nat) (ho : o + (encM F x).length ≤ cs.length) (hb : ∀ i, i < (encM F x).length → bF cs (o + i) = ((encM F x).getD i 0 : Nat)) {ip : Int} (hip : ip = 4096 + o) :
    fetchM mp ip 12 [] = ⟨false, mp, x, (encM F x).length, 0, 0, 0⟩ := by
  subst hip
  have hl := h.len
  refine fetch_tells hx (by omega) (by omega) (fun i hi => ?_) (fun i hi => ?_)
  · rw [ask_ok (p := 4) (by omega) (by omega) (by rw [show (4096 + (o : Int) + i) - (4096 + (o : Int) + i) % 4096 = 4096 by omega]; exact h.p1) (by decide) (by decide) (by omega)]
  · have := h.code (o + i) (by omega)
    rw [← hb i hi, ← this]
    congr 1
    omega
theorem page (h : MvM mp cs) {a : Int} (h0 : 8192 ≤ a) (h1 : a < 16384) : protAt mp (a - a % 4096) = some 3 := by
  rcases (by omega : a - a % 4096 = 8192 ∨ a - a % 4096 = 12288) with e | e <;> rw [e]
  · exact h.p2
  · exact h.p3
theorem ask (h : MvM mp cs) {a need kind : Int} (hn : (bits .and .i64 3 need == 0) = false) (h0 : 8192 ≤ a) (h1 : a + 8 ≤ 16384) : askS mp need kind 8 a 8 = (0, 0, none) :=
  ask_two (p := 3) hn (by decide) (h.page h0 (by omega)) (h.page (by omega) (by omega))
theorem put (h : MvM mp cs) {a : Int} (v : Int) (h0 : 8192 ≤ a) : MvM (putP mp a 8 (le8 v)) cs := by
  have hl := h.len
  refine ⟨h.ok.put _ 8 (fun j => byteOf_ok _ j), by rw [protAt_put]; exact h.p1, by rw [protAt_put]; exact h.p2, by rw [protAt_put]; exact h.p3, h.len, fun j hj => ?_⟩
  rw [byteAt_put (by rw [show (4096 + (j : Int)) - (4096 + (j : Int)) % 4096 = 4096 by omega, h.p1]; rfl), if_neg (by omega)]
  exact h.code j hj
theorem isSome (h : MvM mp cs) {a : Int} (h0 : 8192 ≤ a) (h1 : a + 8 ≤ 16384) : ∀ j : Nat, j < 8 → (protAt mp ((a + j) - (a + j) % 4096)).isSome = true := fun j hj => by
  rw [h.page (by omega) (by omega)]; rfl
end MvM
def mvS (A B : Nat) (D : Int) : InsV := ⟨10, A, B, 0, 0, 0, D⟩
def mvI (A : Nat) : InsV := ⟨6, A, 0, 0, 0, 1, 0⟩
def mvL (A B : Nat) (D : Int) : InsV := ⟨9, A, B, 0, 0, 0, D⟩
def mvR (d : Int) : InsV := ⟨11, 9, 0, 0, 0, 0, d⟩
def mvA : InsV := ⟨13, 10, 0, 0, 0, 0, 5⟩
def fmS : Form := ⟨10,0,0,2,137,4,128,5⟩
def fmI : Form := ⟨6,0,0,1,184,1,0,2⟩
def fmL : Form := ⟨9,0,0,2,139,4,128,5⟩
def fmR : Form := ⟨11,0,0,3,139,5,5,5⟩
def fmA : Form := ⟨13,0,0,3,141,5,5,5⟩
theorem reg_yes' {r : Nat} (h : r < 16) : regOkM r true = true := by simp only [regOkM, Bool.true_and, Bool.or_eq_true, beq_iff_eq, decide_eq_true_eq]; omega
theorem fits_of' {F : Form} {x : InsV} (h1 : regOkM x.a (hasA F.regs) = true) (h2 : regOkM x.b (hasB F.regs) = true) (h3 : (F.regs == 4) = false ∨ x.b &&& 7 ≠ 4) (h4 : immOk F.tail x.imm = true) (h5 : dispOk F.tail x.disp = true) : fitsM F x = true := by
  unfold fitsM
  rw [h1, h2, h4, h5]
  rcases h3 with h | h
  · rw [h]; rfl
  · rw [show ((x.b &&& 7) == 4) = false from beq_eq_false_iff_ne.2 h, Bool.and_false]; rfl
theorem disp5 {d : Int} (h0 : -1000 ≤ d) (h1 : d ≤ 20000) : dispOk 5 d = true := by
  unfold dispOk
  rw [decide_eq_true (by omega), decide_eq_true (by omega)]; rfl
theorem tellsS {A B : Nat} {D : Int} (ha : A < 16) (hb : B < 16) (hc : B &&& 7 ≠ 4) (h0 : -1000 ≤ D) (h1 : D ≤ 8000) : Tells fmS (mvS A B D) :=
  ⟨by decide, rfl, rfl, rfl, fits_of' (reg_yes' ha) (reg_yes' hb) (.inr hc) rfl (disp5 (d := D) h0 (by omega)), by show (0 : Nat) < _; decide⟩
theorem tellsL {A B : Nat} {D : Int} (ha : A < 16) (hb : B < 16) (hc : B &&& 7 ≠ 4) (h0 : -1000 ≤ D) (h1 : D ≤ 8000) : Tells fmL (mvL A B D) :=
  ⟨by decide, rfl, rfl, rfl, fits_of' (reg_yes' ha) (reg_yes' hb) (.inr hc) rfl (disp5 (d := D) h0 (by omega)), by show (0 : Nat) < _; decide⟩
theorem tellsI {A : Nat} (ha : A < 16) : Tells fmI (mvI A) :=
  ⟨by decide, rfl, rfl, rfl, fits_of' (reg_yes' ha) rfl (.inl rfl) rfl rfl, by show (1 : Nat) < _; decide⟩
theorem tellsR {d : Int} (h0 : -1000 ≤ d) (h1 : d ≤ 20000) : Tells fmR (mvR d) :=
  ⟨by decide, rfl, rfl, rfl, fits_of' rfl rfl (.inl rfl) rfl (disp5 h0 h1), by show (0 : Nat) < _; decide⟩
theorem tellsA : Tells fmA mvA := ⟨by decide, rfl, rfl, rfl, by decide, by decide⟩
theorem lenS (A B : Nat) (D : Int) : (encM fmS (mvS A B D)).length = 7 := by
  simp only [encM, fmS, mvS, preW, codeBytes, tailVal, tailLen, leBytes]; simp
theorem lenL (A B : Nat) (D : Int) : (encM fmL (mvL A B D)).length = 7 := by
  simp only [encM, fmL, mvL, preW, codeBytes, tailVal, tailLen, leBytes]; simp
theorem lenR (d : Int) : (encM fmR (mvR d)).length = 7 := by
  simp only [encM, fmR, mvR, preC, codeBytes, tailVal, tailLen, leBytes]; simp
theorem lenA : (encM fmA mvA).length = 7 := by decide
def mvq (A : Nat) : Nat := if 7 < A then 6 else 5
theorem lenI (A : Nat) : (encM fmI (mvI A)).length = mvq A := by
  simp only [encM, fmI, mvI, preP, codeBytes, tailVal, tailLen, leBytes, mvq]
  split <;> simp
theorem mvq_bd (A : Nat) : 5 ≤ mvq A ∧ mvq A ≤ 6 := by unfold mvq; split <;> omega
/-- The whole code. -/
def mvC (A B : Nat) (D d : Int) : List Nat := encM fmS (mvS A B D) ++ encM fmI (mvI A) ++ encM fmL (mvL A B D) ++ encM fmR (mvR d) ++ encM fmA mvA
theorem mvC_len (A B : Nat) (D d : Int) : (mvC A B D d).length = 28 + mvq A := by
  unfold mvC
  simp only [List.length_append, lenS, lenL, lenR, lenA, lenI]
  omega
theorem bF_mid {pre es post : List Nat} {i : Nat} (h : i < es.length) : bF (pre ++ es ++ post) (pre.length + i) = (es.getD i 0 : Nat) := by
  unfold bF
  simp only [List.getD, List.append_assoc]
  rw [List.getElem?_append_right (by omega), show pre.length + i - pre.length = i by omega, List.getElem?_append_left h]
section
variable {A B : Nat} {D d : Int} {i : Nat}
theorem atS (h : i < (encM fmS (mvS A B D)).length) : bF (mvC A B D d) (0 + i) = ((encM fmS (mvS A B D)).getD i 0 : Nat) := by
  have := bF_mid (pre := []) (post := encM fmI (mvI A) ++ encM fmL (mvL A B D) ++ encM fmR (mvR d) ++ encM fmA mvA) h
  simpa only [mvC, List.nil_append, List.append_assoc, List.length_nil] using this
theorem atI' (h : i < (encM fmI (mvI A)).length) : bF (mvC A B D d) (7 + i) = ((encM fmI (mvI A)).getD i 0 : Nat) := by
  have := bF_mid (pre := encM fmS (mvS A B D)) (post := encM fmL (mvL A B D) ++ encM fmR (mvR d) ++ encM fmA mvA) h
  rw [lenS] at this
  simpa only [mvC, List.append_assoc] using this
theorem atL' (h : i < (encM fmL (mvL A B D)).length) : bF (mvC A B D d) (7 + mvq A + i) = ((encM fmL (mvL A B D)).getD i 0 : Nat) := by
  have := bF_mid (pre := encM fmS (mvS A B D) ++ encM fmI (mvI A)) (post := encM fmR (mvR d) ++ encM fmA mvA) h
  rw [List.length_append, lenS, lenI] at this
  simpa only [mvC, List.append_assoc] using this
theorem atR' (h : i < (encM fmR (mvR d)).length) : bF (mvC A B D d) (14 + mvq A + i) = ((encM fmR (mvR d)).getD i 0 : Nat) := by
  have := bF_mid (pre := encM fmS (mvS A B D) ++ encM fmI (mvI A) ++ encM fmL (mvL A B D)) (post := encM fmA mvA) h
  rw [List.length_append, List.length_append, lenS, lenI, lenL, show 7 + mvq A + 7 = 14 + mvq A by omega] at this
  simpa only [mvC, List.append_assoc] using this
theorem atA' (h : i < (encM fmA mvA).length) : bF (mvC A B D d) (21 + mvq A + i) = ((encM fmA mvA).getD i 0 : Nat) := by
  have := bF_mid (pre := encM fmS (mvS A B D) ++ encM fmI (mvI A) ++ encM fmL (mvL A B D) ++ encM fmR (mvR d)) (post := []) h
  rw [List.length_append, List.length_append, List.length_append, lenS, lenI, lenL, lenR, show 7 + mvq A + 7 + 7 = 21 + mvq A by omega] at this
  simpa only [mvC, List.append_assoc, List.append_nil] using this
end
/-- The machine behind j of the five steps. -/
def MvS (A B : Nat) (T v : Int) (mp : Int → Option Pg) (s : StV) (j : Nat) : Prop :=
  (j = 0 ∧ s.ip = 4096 ∧ s.r A = v ∧ s.r B = 8692) ∨
  (j = 1 ∧ s.ip = 4103 ∧ s.r B = 8692 ∧ numM mp (8192 + T) = v) ∨
  (j = 2 ∧ s.ip = 4103 + mvq A ∧ s.r B = 8692 ∧ numM mp (8192 + T) = v) ∨
  (j = 3 ∧ s.ip = 4110 + mvq A ∧ s.r A = v ∧ numM mp (8192 + T) = v) ∨
  (j = 4 ∧ s.ip = 4117 + mvq A ∧ s.r 9 = v ∧ numM mp (8192 + T) = v) ∨
  (j = 5 ∧ s.ip = 4124 + mvq A ∧ s.r 9 = v ∧ s.r 10 = 4129 + mvq A ∧ numM mp (8192 + T) = v)
section
variable {R : Nat → Prop} {w0 w : World} {C M m : Nat} {most : Int} {mp : Int → Option Pg} {s : StV} {fk fa : Int} {A B j : Nat} {T v : Int}
theorem mv_step (h : Box R w0 w C M m most mp s fk fa) (hM : MvM mp (mvC A B (T - 500) (8192 + T - 4096 - (21 + mvq A : Nat)))) (ha : A < 16) (hb : B < 16) (hc : B &&& 7 ≠ 4) (hab : B ≠ A) (t0 : 0 ≤ T) (t1 : T < 8000) (v0 : 0 ≤ v) (v1 : v < 18446744073709551616) (hS : MvS A B T v mp s j) (hj : j < 5) :
    Calls Try.prog 17 #[.pointer (some ⟨C, 0, none⟩)] w fun e w' => e = .returned (.tuple #[.int .i64 0, .int .i64 0]) ∧ ∃ mp' s', Box R w0 w' C M m most mp' s' fk fa ∧ MvM mp' (mvC A B (T - 500) (8192 + T - 4096 - (21 + mvq A : Nat))) ∧ MvS A B T v mp' s' (j + 1) := by
  have hq := mvq_bd A
  have hcl := mvC_len A B (T - 500) (8192 + T - 4096 - (21 + mvq A : Nat))
  rcases hS with ⟨rfl, e1, e2, e3⟩ | ⟨rfl, e1, e2, e3⟩ | ⟨rfl, e1, e2, e3⟩ | ⟨rfl, e1, e2, e3⟩ | ⟨rfl, e1, e2, e3⟩ | ⟨rfl, e1, e2, e3⟩
  · have hT := tellsS (D := T - 500) ha hb hc (by omega) (by omega)
    have hf := hM.fetch hT 0 (by rw [lenS, hcl]; omega) (fun i hi => atS hi) (ip := s.ip) (by rw [e1]; rfl)
    rw [lenS] at hf
    have hba : baseM (nextS s 7) (mvS A B (T - 500)) = 8192 + T := by
      show (s.r B + (T - 500)) % 18446744073709551616 = _
      rw [e3]; omega
    have hd : doM (mvS A B (T - 500)) (nextS s 7) mp al0 = ⟨true, putP mp (8192 + T) 8 (le8 v), nextS s 7, 0, 0⟩ := by
      show wrM mp (baseM (nextS s 7) (mvS A B (T - 500))) ((nextS s 7).r A) (nextS s 7) (nextS s 7) = _
      unfold wrM
      rw [hba, hM.ask (by decide) (by omega) (by omega), if_pos rfl, show (nextS s 7).r A = v from e2]
    have hP := hM.put (a := 8192 + T) v (by omega)
    refine (box_do h al0 hf hd (by show (10 : Nat) ≠ 23; decide) (aluD0 (by show (10 : Nat) ≠ 7 ∧ (10 : Nat) ≠ 14 ∧ (10 : Nat) ≠ 15 ∧ (10 : Nat) ≠ 16; decide)) hP.ok (h.sok.next 7)).mono ?_
    rintro e w' ⟨rfl, hbx, _⟩
    refine ⟨rfl, _, _, hbx, hP, .inr (.inl ⟨rfl, ?_, e3, num_put_same v0 v1 (hM.isSome (by omega) (by omega))⟩)⟩
    show (s.ip + (7 : Nat)) % 18446744073709551616 = _
    rw [e1]; rfl
  · have hT := tellsI ha
    have hf := hM.fetch hT 7 (by rw [lenI, hcl]; omega) (fun i hi => atI' hi) (ip := s.ip) (by rw [e1]; rfl)
    rw [lenI] at hf
    have hd : doM (mvI A) (nextS s (mvq A)) mp al0 = ⟨true, mp, (nextS s (mvq A)).setR A (1 : Nat), 0, 0⟩ := rfl
    refine (box_do h al0 hf hd (by show (6 : Nat) ≠ 23; decide) (aluD0 (by show (6 : Nat) ≠ 7 ∧ (6 : Nat) ≠ 14 ∧ (6 : Nat) ≠ 15 ∧ (6 : Nat) ≠ 16; decide)) h.ok ((h.sok.next _).setR (by omega) (by omega))).mono ?_
    rintro e w' ⟨rfl, hbx, _⟩
    refine ⟨rfl, _, _, hbx, hM, .inr (.inr (.inl ⟨rfl, ?_, ?_, e3⟩))⟩
    · show (s.ip + (mvq A : Nat)) % 18446744073709551616 = _
      rw [e1]; omega
    · show (if B = A then _ else s.r B) = _
      rw [if_neg hab]; exact e2
  · have hT := tellsL (D := T - 500) ha hb hc (by omega) (by omega)
    have hf := hM.fetch hT (7 + mvq A) (by rw [lenL, hcl]; omega) (fun i hi => atL' hi) (ip := s.ip) (by rw [e1]; omega)
    rw [lenL] at hf
    have hba : baseM (nextS s 7) (mvL A B (T - 500)) = 8192 + T := by
      show (s.r B + (T - 500)) % 18446744073709551616 = _
      rw [e2]; omega
    have hd : doM (mvL A B (T - 500)) (nextS s 7) mp al0 = ⟨true, mp, (nextS s 7).setR A v, 0, 0⟩ := by
      show rdM mp (baseM (nextS s 7) (mvL A B (T - 500))) (nextS s 7) (fun v => (nextS s 7).setR A v) = _
      unfold rdM
      rw [hba, hM.ask (by decide) (by omega) (by omega), if_pos rfl, e3]
    refine (box_do h al0 hf hd (by show (9 : Nat) ≠ 23; decide) (aluD0 (by show (9 : Nat) ≠ 7 ∧ (9 : Nat) ≠ 14 ∧ (9 : Nat) ≠ 15 ∧ (9 : Nat) ≠ 16; decide)) h.ok ((h.sok.next 7).setR v0 v1)).mono ?_
    rintro e w' ⟨rfl, hbx, _⟩
    refine ⟨rfl, _, _, hbx, hM, .inr (.inr (.inr (.inl ⟨rfl, ?_, ?_, e3⟩)))⟩
    · show (s.ip + (7 : Nat)) % 18446744073709551616 = _
      rw [e1]; omega
    · show (if A = A then v else s.r A) = _
      rw [if_pos rfl]
  · have hT := tellsR (d := 8192 + T - 4096 - (21 + mvq A : Nat)) (by omega) (by omega)
    have hf := hM.fetch hT (14 + mvq A) (by rw [lenR, hcl]; omega) (fun i hi => atR' hi) (ip := s.ip) (by rw [e1]; omega)
    rw [lenR] at hf
    have hi : (nextS s 7).ip = 4117 + mvq A := by
      show (s.ip + (7 : Nat)) % 18446744073709551616 = _
      rw [e1]; omega
    have hba : nearM (nextS s 7) (mvR (8192 + T - 4096 - (21 + mvq A : Nat))) = 8192 + T := by
      show ((nextS s 7).ip + (8192 + T - 4096 - (21 + mvq A : Nat))) % 18446744073709551616 = _
      rw [hi]; omega
    have hd : doM (mvR (8192 + T - 4096 - (21 + mvq A : Nat))) (nextS s 7) mp al0 = ⟨true, mp, (nextS s 7).setR 9 v, 0, 0⟩ := by
      show rdM mp (nearM (nextS s 7) (mvR (8192 + T - 4096 - (21 + mvq A : Nat)))) (nextS s 7) (fun v => (nextS s 7).setR 9 v) = _
      unfold rdM
      rw [hba, hM.ask (by decide) (by omega) (by omega), if_pos rfl, e3]
    refine (box_do h al0 hf hd (by show (11 : Nat) ≠ 23; decide) (aluD0 (by show (11 : Nat) ≠ 7 ∧ (11 : Nat) ≠ 14 ∧ (11 : Nat) ≠ 15 ∧ (11 : Nat) ≠ 16; decide)) h.ok ((h.sok.next 7).setR v0 v1)).mono ?_
    rintro e w' ⟨rfl, hbx, _⟩
    exact ⟨rfl, _, _, hbx, hM, .inr (.inr (.inr (.inr (.inl ⟨rfl, hi, rfl, e3⟩))))⟩
  · have hf := hM.fetch tellsA (21 + mvq A) (by rw [lenA, hcl]; omega) (fun i hi => atA' hi) (ip := s.ip) (by rw [e1]; omega)
    rw [lenA] at hf
    have hi : (nextS s 7).ip = 4124 + mvq A := by
      show (s.ip + (7 : Nat)) % 18446744073709551616 = _
      rw [e1]; omega
    have hba : nearM (nextS s 7) mvA = 4129 + mvq A := by
      show ((nextS s 7).ip + 5) % 18446744073709551616 = _
      rw [hi]; omega
    have hd : doM mvA (nextS s 7) mp al0 = ⟨true, mp, (nextS s 7).setR 10 (4129 + mvq A), 0, 0⟩ := by
      show okM mp ((nextS s 7).setR 10 (nearM (nextS s 7) mvA)) = _
      rw [hba]; rfl
    refine (box_do h al0 hf hd (by decide) (aluD0 (by decide)) h.ok ((h.sok.next 7).setR (by omega) (by omega))).mono ?_
    rintro e w' ⟨rfl, hbx, _⟩
    exact ⟨rfl, _, _, hbx, hM, .inr (.inr (.inr (.inr (.inr ⟨rfl, hi, e2, rfl, e3⟩))))⟩
  · omega
end
end Go.Proofs.Ythbgmlmcjnlopaa
namespace Go.Proofs.Ythbgmlmcjnlopaa
open Go.ChangeShapes Go.WideShapes Go.ChangeAt Go.RowKit
set_option linter.unusedVariables false
set_option linter.unusedSimpArgs false
set_option maxRecDepth 100000

theorem preVal_le' (n a b : Nat) : preVal (preF n) a b ≤ 255 := by
  unfold preVal preF
  split <;> (by_cases h : 7 < a <;> by_cases h' : 7 < b <;> simp [h, h'])
theorem encM_bn' {F : Form} (hF : F.Ok) (x : InsV) : Bn (encM F x) := by
  intro v hv
  unfold encM at hv
  rcases List.mem_append.mp hv with hv | hv
  · rcases List.mem_append.mp hv with hv | hv
    · have := preVal_le' F.pre x.a x.b
      unfold preBytes at hv
      split at hv
      · simp at hv
      · split at hv
        · simp at hv
        · simp at hv; omega
    · have := hF.code
      unfold codeBytes at hv
      split at hv
      · simp at hv; omega
      · split at hv
        · simp at hv; omega
        · simp at hv; omega
  · unfold leBytes at hv
    obtain ⟨i, _, rfl⟩ := List.mem_map.mp hv
    omega
theorem Tells.bn {F : Form} {x : InsV} (h : Tells F x) : Bn (encM F x) := encM_bn' (forms_ok F h.mem) x
theorem bt_txN {bs : List Nat} (hb : Bn bs) (i : Nat) : PlainAid.bt (txN bs) i = bF bs i := by
  unfold PlainAid.bt bF
  by_cases h : i < bs.length
  · rw [dif_pos (by rw [txN_size]; exact h)]
    have e : (txN bs)[i]'(by rw [txN_size]; exact h) = UInt8.ofNat bs[i] := by
      show (txN bs).data[i]'_ = _
      simp [txN, strOfNums, nL]
    have hv := hb bs[i] (List.getElem_mem h)
    rw [e]
    simp [List.getD, h]
    omega
  · rw [dif_neg (by rw [txN_size]; exact h)]
    simp [List.getD, h]
theorem src_txN {w : World} {bs : List Nat} (hb : Bn bs) : Src Try.prog 1 9 (.string (txN bs)) (nL bs).length (bytesL (nL bs).length (litF (nL bs))) w := by
  have h := src_str (w := w) (txN bs)
  rw [txN_size] at h
  rw [nL_len]
  rw [bytesL_congr (f' := litF (nL bs)) (fun i hi => by rw [bt_txN hb, litF_nL])] at h
  exact h
/-- Code that is put together. -/
structure CodL (w0 w : World) (v : Value) (bs : List Nat) : Prop where
  own : OwnBL w w0.heap.size v (nL bs)
  bel : Below w0.heap.size w0 w
theorem CodL.start (w : World) : CodL w w (.slice none 0 0) [] := ⟨OwnBL.nil w _, Below.refl _ _⟩
theorem CodL.below {w0 w w' : World} {v : Value} {bs : List Nat} (h : CodL w0 w v bs) (hb : Below w.heap.size w w') : CodL w0 w' v bs := ⟨h.own.below hb, h.bel.trans (hb.mono h.bel.size)⟩
theorem wpList_appE {w0 w : World} {ops : Array Oper} {rest : List Oper} {o : Oper} {a : Act} {Q : Exit → Act → World → Prop} (hgd : o.guard = none) (s x : Operand)
    (ho : o.op = .call { callee := .builtin .append, args := #[s, x], argTypes := #[24, 9] })
    (v : Value) (bs es : List Nat) (hv : a.eval s = v) (hC : CodL w0 w v bs) (S : ByteArray) (hX : a.eval x = .string S) (hS : S = txN es) (hb : Bn es) (m : Nat) (hm : bs.length + es.length = m) (h63 : m ≤ 100000)
    (hK : ∀ A cap w', CodL w0 w' (.slice A m cap) (bs ++ es) → wpList Try.prog ops Q rest (a.put o.dst (.slice A m cap)) w') :
    wpList Try.prog ops Q (o :: rest) a w := by
  subst hS hm
  refine wpList_appBL hgd s x 9 ho w0.heap.size v (nL bs) hv hC.own _ hX (nL es) (src_txN hb) (by rw [nL_len, nL_len]; omega) hC.bel.size ?_
  intro A cap w' h1 h2 h3
  have h4 := hK A cap w'
  rw [nL_len, nL_len] at h1 ⊢
  refine h4 ⟨?_, hC.own.grew hC.bel (Nat.le_refl _) hC.bel.size h2⟩
  rw [nL_app]
  exact h1
theorem CodL.slice {w0 w : World} {A : Option Addr} {n cap : Nat} {bs : List Nat} (h : CodL w0 w (.slice A n cap) bs) (hn : 0 < n) : n = bs.length ∧ n ≤ cap ∧ cap ≤ 9223372036854775807 ∧ ∃ g, A = some ⟨g, 0, none⟩ ∧ Own w g n (fun i => .int .u8 (bF bs i)) := by
  obtain ⟨h1, h2, h3, _, h4⟩ := h.own.slice
  rw [nL_len] at h1
  refine ⟨h1, h2, by unfold maxLen at h3; omega, ?_⟩
  rcases h4 with h4 | ⟨g, h4, _, h5⟩
  · omega
  · exact ⟨g, h4, by
      have e : (fun i => Value.int .u8 (litF (nL bs) i)) = (fun i => Value.int .u8 (bF bs i)) := funext fun i => by rw [litF_nL]
      rw [e] at h5
      exact h5⟩
theorem bn_bd' {bs : List Nat} (hb : Bn bs) (j : Nat) : 0 ≤ bF bs j ∧ bF bs j ≤ 255 := by
  unfold bF
  rcases Nat.lt_or_ge j bs.length with h | h
  · have := hb bs[j] (List.getElem_mem h)
    simp [List.getD, h]; omega
  · simp [List.getD, h]
theorem mvC_bn {A B : Nat} {D d : Int} (h1 : Tells fmS (mvS A B D)) (h2 : Tells fmI (mvI A)) (h3 : Tells fmL (mvL A B D)) (h4 : Tells fmR (mvR d)) : Bn (mvC A B D d) := by
  intro x hx
  unfold mvC at hx
  simp only [List.mem_append] at hx
  rcases hx with (((h | h) | h) | h) | h
  · exact h1.bn x h
  · exact h2.bn x h
  · exact h3.bn x h
  · exact h4.bn x h
  · exact tellsA.bn x h
set_option maxHeartbeats 4000000 in
theorem moves_core (w : World) (v a b t : Int) (v0 : 0 ≤ v) (v1 : v < 18446744073709551616) :
    Calls Try.prog 3 #[.int .u64 v, .int .i64 a, .int .i64 b, .int .i64 t] w fun e w' => e = .returned (.bool true) ∧ Below w.heap.size w w' := by
  obtain ⟨A, hA, hA16⟩ : ∃ A : Nat, bits .and .i64 a 15 = A ∧ A < 16 := ⟨(a % 16).toNat, by rw [show (15 : Int) = ((2 ^ 4 - 1 : Nat) : Int) from rfl, i64_mask a 4 (by omega)]; omega, by omega⟩
  obtain ⟨B, hB, hB16⟩ : ∃ B : Nat, bits .and .i64 b 15 = B ∧ B < 16 := ⟨(b % 16).toNat, by rw [show (15 : Int) = ((2 ^ 4 - 1 : Nat) : Int) from rfl, i64_mask b 4 (by omega)]; omega, by omega⟩
  obtain ⟨q, hq⟩ : ∃ q, bits .and .i64 t 8191 = q := ⟨_, rfl⟩
  have hq' : 0 ≤ q ∧ q ≤ 8191 := by
    rw [← hq, show (8191 : Int) = ((2 ^ 13 - 1 : Nat) : Int) from by decide, i64_mask t 13 (by omega)]
    omega
  obtain ⟨T, hT, htm⟩ : ∃ T, q % 8000 = T ∧ q.tmod 8000 = T := ⟨_, rfl, Int.tmod_eq_emod_of_nonneg (by omega)⟩
  have hT' : 0 ≤ T ∧ T < 8000 := by omega
  obtain ⟨m7, h7, h7'⟩ : ∃ m7 : Int, bits .and .i64 (B : Int) 7 = m7 ∧ m7 = ((B % 8 : Nat) : Int) := ⟨_, rfl, by rw [and_7]; omega⟩
  go_enter Try.func3, Try.ntmps3
  have HAW := Lib.hid (fun W => awake16_any W)
  have d1 : (m7 == 4) = decide (B % 8 = 4) := by
    by_cases c : B % 8 = 4
    · rw [h7', c]; rfl
    · rw [decide_eq_false c, beq_eq_false_iff_ne]; omega
  clear h7'
  have d2 : ((B : Int) == (A : Int)) = decide (B = A) := by
    by_cases c : B = A
    · rw [decide_eq_true c, beq_iff_eq]; omega
    · rw [decide_eq_false c, beq_eq_false_iff_ne]; omega
  have d3 : ((A : Int) == 4) = decide (A = 4) := by
    by_cases c : A = 4
    · rw [c]; rfl
    · rw [decide_eq_false c, beq_eq_false_iff_ne]; omega
  by_cases hno : B % 8 = 4 ∨ B = A ∨ A = 4
  · clear hq hq' hT hT'
    have hex : (decide (B % 8 = 4) = true) ∨ (decide (B % 8 = 4) = false ∧ decide (B = A) = true) ∨ (decide (B % 8 = 4) = false ∧ decide (B = A) = false ∧ decide (A = 4) = true) := by
      simp only [decide_eq_true_eq, decide_eq_false_iff_not]; omega
    rcases hex with e1 | ⟨e1, e2⟩ | ⟨e1, e2, e3⟩
    all_goals
      try rw [e1] at d1
      try rw [e2] at d2
      try rw [e3] at d3
      clear hno
      go_wp2_with fail
      refine (HAW.out _).mono ?_
      rintro e w1 ⟨rfl, hb1⟩
      go_wp2
      go_ret
      exact ⟨rfl, hb1⟩
  · have e1 : ¬ B % 8 = 4 := fun h => hno (.inl h)
    have e2 : ¬ B = A := fun h => hno (.inr (.inl h))
    have e3 : ¬ A = 4 := fun h => hno (.inr (.inr h))
    rw [decide_eq_false e1] at d1
    rw [decide_eq_false e2] at d2
    rw [decide_eq_false e3] at d3
    have hB7 : B &&& 7 ≠ 4 := by
      have := Nat.and_two_pow_sub_one_eq_mod B 3
      rw [show (2 ^ 3 - 1 : Nat) = 7 from rfl] at this
      rw [this]; omega
    have HN := Lib.hid (And.intro hA16 (And.intro hB16 (And.intro hB7 e2)))
    have hmq := mvq_bd A
    have HTS := Lib.hid (tellsS (D := T - 500) hA16 hB16 hB7 (by omega) (by omega))
    have HTI := Lib.hid (tellsI hA16)
    have HTL := Lib.hid (tellsL (D := T - 500) hA16 hB16 hB7 (by omega) (by omega))
    have HTR := Lib.hid (tellsR (d := 8192 + T - 4096 - (21 + mvq A : Nat)) (by omega) (by omega))
    have hwd : wrap64 (T - 500) = T - 500 := by unfold wrap64; omega
    clear hno e1 e2 e3 hB7 hT
    have HM2 := Lib.hid (show (([] : List Nat) ++ encM fmS (mvS A B (T - 500))).length + (encM fmI (mvI A)).length = 7 + mvq A from by rw [List.nil_append, lenS, lenI])
    have HM3 := Lib.hid (show (([] : List Nat) ++ encM fmS (mvS A B (T - 500)) ++ encM fmI (mvI A)).length + (encM fmL (mvL A B (T - 500))).length = 14 + mvq A from by rw [List.nil_append, List.length_append, lenS, lenI, lenL]; omega)
    have HM4 := Lib.hid (show (([] : List Nat) ++ encM fmS (mvS A B (T - 500)) ++ encM fmI (mvI A) ++ encM fmL (mvL A B (T - 500))).length + (encM fmR (mvR (8192 + T - 4096 - (21 + mvq A : Nat)))).length = 21 + mvq A from by rw [List.nil_append, List.length_append, List.length_append, lenS, lenI, lenL, lenR]; omega)
    have HM5 := Lib.hid (show (([] : List Nat) ++ encM fmS (mvS A B (T - 500)) ++ encM fmI (mvI A) ++ encM fmL (mvL A B (T - 500)) ++ encM fmR (mvR (8192 + T - 4096 - (21 + mvq A : Nat)))).length + (encM fmA mvA).length = 28 + mvq A from by rw [List.nil_append, List.length_append, List.length_append, List.length_append, lenS, lenI, lenL, lenR, lenA]; omega)
    have HMX := Lib.hid (show mvq A ≤ 6 from hmq.2)
    --M0
    go_wp2_with fail
    --M1
    refine (encS HTS.out _ rfl (by show (-9223372036854775808 : Int) ≤ T - 500 ∧ T - 500 ≤ 9223372036854775807; omega) _).mono ?_
    rintro e w1 ⟨S1, rfl, hs1, hz1, hb1⟩
    have HS1 := Lib.hid hs1
    have HC1 := Lib.hid ((CodL.start w).below hb1)
    clear hs1 hz1 hb1
    --M2
    go_wp2_with (at_builtin; refine wpList_appE rfl (.tmp 40) (.tmp 46) rfl _ [] (encM fmS (mvS A B (T - 500))) rfl HC1.out _ rfl HS1.out HTS.out.bn 7 (by rw [lenS]; rfl) (by omega) ?_; intro A1 cap1 w2 hc2; have HC2 := Lib.hid hc2; clear hc2)
    --M3
    go_wp2_with fail
    refine (encS HTI.out _ rfl ⟨by show (-9223372036854775808 : Int) ≤ 0; decide, by show (0 : Int) ≤ 9223372036854775807; decide⟩ _).mono ?_
    rintro e w3 ⟨S2, rfl, hs2, hz2, hb2⟩
    have HS2 := Lib.hid hs2
    have HC3 := Lib.hid (HC2.out.below hb2)
    clear hs2 hz2 hb2
    go_wp2_with (at_builtin; refine wpList_appE rfl (.tmp 48) (.tmp 51) rfl _ _ (encM fmI (mvI A)) rfl HC3.out _ rfl HS2.out HTI.out.bn (7 + mvq A) HM2.out (by have := HMX.out; omega) ?_; intro A2 cap2 w4 hc4; have HC4 := Lib.hid hc4; clear hc4)
    go_wp2_with fail
    refine (encS HTL.out _ rfl (by show (-9223372036854775808 : Int) ≤ T - 500 ∧ T - 500 ≤ 9223372036854775807; omega) _).mono ?_
    rintro e w5 ⟨S3, rfl, hs3, hz3, hb3⟩
    have HS3 := Lib.hid hs3
    have HC5 := Lib.hid (HC4.out.below hb3)
    clear hs3 hz3 hb3
    go_wp2_with (at_builtin; refine wpList_appE rfl (.tmp 53) (.tmp 59) rfl _ _ (encM fmL (mvL A B (T - 500))) rfl HC5.out _ rfl HS3.out HTL.out.bn (14 + mvq A) HM3.out (by have := HMX.out; omega) ?_; intro A3 cap3 w6 hc6; have HC6 := Lib.hid hc6; clear hc6)
    --MARK1
    go_wp2_with fail
    have hdd : 8192 + T - 4096 - (21 + mvq A : Nat) = 8192 + T - 4096 - ((14 + (mvq A : Int)) + 7) := by omega
    rw [← hdd]
    have HDD := Lib.hid hdd
    clear hdd
    --MK2
    refine (encS HTR.out _ rfl (by show (-9223372036854775808 : Int) ≤ 8192 + T - 4096 - (21 + mvq A : Nat) ∧ 8192 + T - 4096 - (21 + mvq A : Nat) ≤ 9223372036854775807; omega) _).mono ?_
    rintro e w7 ⟨S4, rfl, hs4, hz4, hb4⟩
    have HS4 := Lib.hid hs4
    have HC7 := Lib.hid (HC6.out.below hb4)
    clear hs4 hz4 hb4
    go_wp2_with (at_builtin; refine wpList_appE rfl (.tmp 64) (.tmp 71) rfl _ _ (encM fmR (mvR (8192 + T - 4096 - (21 + mvq A : Nat)))) rfl HC7.out _ rfl HS4.out HTR.out.bn (21 + mvq A) HM4.out (by have := HMX.out; omega) ?_; intro A4 cap4 w8 hc8; have HC8 := Lib.hid hc8; clear hc8)
    go_wp2_with fail
    refine (encS tellsA _ rfl ⟨by show (-9223372036854775808 : Int) ≤ 5; decide, by show (5 : Int) ≤ 9223372036854775807; decide⟩ _).mono ?_
    rintro e w9 ⟨S5, rfl, hs5, hz5, hb5⟩
    have HS5 := Lib.hid hs5
    have HC9 := Lib.hid (HC8.out.below hb5)
    clear hs5 hz5 hb5
    go_wp2_with (at_builtin; refine wpList_appE rfl (.tmp 73) (.tmp 75) rfl _ _ (encM fmA mvA) rfl HC9.out _ rfl HS5.out tellsA.bn (28 + mvq A) HM5.out (by have := HMX.out; omega) ?_; intro A5 cap5 w10 hc10; have HC10 := Lib.hid hc10; clear hc10)
    have hcs : ([] : List Nat) ++ encM fmS (mvS A B (T - 500)) ++ encM fmI (mvI A) ++ encM fmL (mvL A B (T - 500)) ++ encM fmR (mvR (8192 + T - 4096 - (21 + mvq A : Nat))) ++ encM fmA mvA = mvC A B (T - 500) (8192 + T - 4096 - (21 + mvq A : Nat)) := by unfold mvC; rw [List.nil_append]
    obtain ⟨hn1, hn2, hn3, g, rfl, ho⟩ := HC10.out.slice (by omega)
    rw [hcs] at ho hn1
    have HO := Lib.hid ho
    have HBL := Lib.hid HC10.out.bel
    have HCP := Lib.hid (And.intro hn2 hn3)
    have HBD := Lib.hid (show ∀ j, 0 ≤ bF (mvC A B (T - 500) (8192 + T - 4096 - (21 + mvq A : Nat))) j ∧ bF (mvC A B (T - 500) (8192 + T - 4096 - (21 + mvq A : Nat))) j ≤ 255 from bn_bd' (mvC_bn HTS.out HTI.out HTL.out HTR.out))
    have HLN := Lib.hid hn1
    clear hn1 hn2 hn3 hcs ho HC1 HC2 HC3 HC4 HC5 HC6 HC7 HC8 HC9 HC10 HS1 HS2 HS3 HS4 HS5
    obtain ⟨cs, hcs⟩ : ∃ cs, mvC A B (T - 500) (8192 + T - 4096 - (21 + mvq A : Nat)) = cs := ⟨_, rfl⟩
    have HCS := Lib.hid hcs
    rw [hcs] at HO HBD HLN
    clear hcs
    go_wp2_with fail
    --MK3
    refine (machine_any w10 g (28 + mvq A) cap5 (fun i => bF cs i) (by omega) HCP.out.1 HCP.out.2 HBD.out HO.out).mono ?_
    rintro e w11 ⟨C, M, R, rfl, h11⟩
    have H11 := Lib.hid h11
    have HM := Lib.hid (mvM_start (mp := mp3M (28 + mvq A) (fun i => bF cs i)) (cs := cs) (by rw [← HLN.out]; omega) h11.ok (by rw [← HLN.out]))
    generalize mp3M (28 + mvq A) (fun i => bF cs i) = mp at *
    clear h11 HO HBD HLN HCP
    go_wp2_with fail
    refine (box_put H11.out A HN.out.1 v v0 v1).mono ?_
    rintro e w12 ⟨rfl, h12, _⟩
    have H12 := Lib.hid h12
    clear h12 H11
    go_wp2_with fail
    refine (box_put H12.out B HN.out.2.1 8692 (by omega) (by omega)).mono ?_
    rintro e w13 ⟨rfl, h13, _⟩
    have hst : MvS A B T v mp (((st0.setIp 4096).setR A v).setR B 8692) 0 := .inl ⟨rfl, rfl, by
      show (if A = B then _ else if A = A then v else _) = v
      rw [if_neg (fun e => HN.out.2.2.2 e.symm), if_pos rfl], by
      show (if B = B then (8692 : Int) else _) = _
      rw [if_pos rfl]⟩
    have HR := Lib.hid (show ∃ (mp : Int → Option Pg) (s : StV), Box R w10 w13 C M 3 3 mp s 0 0 ∧ MvM mp cs ∧ MvS A B T v mp s 0 from ⟨_, _, h13, HM.out, hst⟩)
    clear h13 H12 hst HM
    go_wp2_with fail
    --MK4
    go_loopw [13] (fun v13 wr => ∃ j : Nat, j ≤ 5 ∧ v13 = .int .i64 j ∧ ∃ (mp : Int → Option Pg) (s : StV), Box R w10 wr C M 3 3 mp s 0 0 ∧ MvM mp cs ∧ MvS A B T v mp s j) (fun v13 _ => 5 - (intOf v13).toNat)
    case atStart => exact ⟨0, by omega, rfl, HR.out⟩
    case round =>
      clear HR
      obtain ⟨j, hj, rfl, mp, s, hbx, hmv, hst⟩ := hrel
      have HBX := Lib.hid hbx
      have HMV := Lib.hid hmv
      have HST := Lib.hid hst
      clear hbx hmv hst
      by_cases hlt : j < 5
      · go_wp2_with fail
        refine (mv_step (T := T) HBX.out (by rw [HCS.out]; exact HMV.out) HN.out.1 HN.out.2.1 HN.out.2.2.1 HN.out.2.2.2 hT'.1 hT'.2 v0 v1 HST.out hlt).mono ?_
        rintro e w14 ⟨rfl, mp', s', h14, hm14, hs14⟩
        rw [HCS.out] at hm14
        have H14 := Lib.hid h14
        have HM14 := Lib.hid hm14
        have HS14 := Lib.hid hs14
        clear h14 hm14 hs14 HBX HMV HST
        by_cases h2 : j = 2
        · subst h2
          have hrv : s'.r A = v := by rcases HS14.out with ⟨h, _⟩ | ⟨h, _⟩ | ⟨h, _⟩ | ⟨_, _, h, _⟩ | ⟨h, _⟩ | ⟨h, _⟩ <;> first | exact h | omega
          have HRV := Lib.hid hrv
          clear hrv
          go_wp2_with fail
          refine (box_reg H14.out A HN.out.1 v HRV.out).mono ?_
          rintro e w15 ⟨rfl, rfl⟩
          go_wp2_with fail
          go_roundw
          case rel => exact ⟨3, by omega, by go_num, _, _, H14.out, HM14.out, HS14.out⟩
          case measure => simp [intOf]
        · have hne : ((j : Int) == 2) = false := beq_eq_false_iff_ne.2 (by omega)
          go_wp2_with fail
          go_roundw
          case rel => exact ⟨j + 1, by omega, by go_num, _, _, H14.out, HM14.out, HS14.out⟩
          case measure => simp [intOf]; omega
      · obtain rfl : j = 5 := by omega
        obtain ⟨f1, f2, f3, f4⟩ : s.ip = 4124 + mvq A ∧ s.r 9 = v ∧ s.r 10 = 4129 + mvq A ∧ numM mp (8192 + T) = v := by rcases HST.out with ⟨h, _⟩ | ⟨h, _⟩ | ⟨h, _⟩ | ⟨h, _⟩ | ⟨h, _⟩ | ⟨_, h⟩ <;> first | exact h | omega
        have HF := Lib.hid (And.intro f1 (And.intro f2 (And.intro f3 f4)))
        clear f1 f2 f3 f4 HST
        go_wp2_with fail
        refine (peek_yes R wr M 3 3 mp (8192 + T) 8 (by omega) (by omega) (by omega) (fun i i0 i1 => ?_) HBX.out.mem).mono ?_
        · have := HMV.out.page (a := 8192 + T + i) (by omega) (by omega)
          intro h
          unfold protAt at this
          rw [h] at this
          cases this
        rintro e w15 ⟨rfl, hb15, ho15⟩
        have H15 := Lib.hid (HBX.out.below hb15)
        obtain ⟨f, hf⟩ : ∃ f : Nat → Int, f = fun q : Nat => byteAt mp (8192 + T + q) := ⟨_, rfl⟩
        have HO := Lib.hid (show Own w15 wr.heap.size 8 (fun q => .int .u8 (f q)) from by rw [hf]; exact ho15)
        have HBY := Lib.hid (show Bytes255 f from by rw [hf]; exact fun q => HBX.out.ok.bytes _)
        have HNM := Lib.hid (show rdF f 0 8 = v from by rw [hf]; exact HF.out.2.2.2)
        clear hb15 ho15 HBX HMV hf
        generalize wr.heap.size = G at *
        go_wp2_with fail
        --MK5
        go_loopw [18, 19] (fun v18 v19 wx => wx = w15 ∧ ∃ k : Nat, k ≤ 8 ∧ v19 = .int .i64 k ∧ v18 = .int .u64 (rdF f 0 k)) (fun _ v19 _ => 8 - (intOf v19).toNat)
        case atStart => exact ⟨rfl, 0, by omega, rfl, rfl⟩
        case round =>
          obtain ⟨rfl, k, hk, rfl, rfl⟩ := hrel
          by_cases hlt : k < 8
          · have h5 := HBY.out k
            have h5a := h5.1
            have h5b := h5.2
            have hcell := HO.out.cell (i := k) hlt
            have h3 := rdF_bd f HBY.out k 0
            have hp : (256 : Int) ^ k = 2 ^ (8 * k) := by rw [Int.pow_mul]; rfl
            have hm1 : 0 ≤ f k * 2 ^ (8 * k) := Int.mul_nonneg h5.1 (Int.pow_nonneg (by omega))
            have hm2 : f k * 2 ^ (8 * k) ≤ 18446744073709551615 := by
              have h6 : (2 : Int) ^ (8 * k) ≤ 2 ^ 56 := by
                rw [← hp]; have := pow256_le (show k ≤ 7 by omega); omega
              have h7 : (0 : Int) ≤ 2 ^ (8 * k) := Int.pow_nonneg (by omega)
              have := Int.mul_le_mul h5.2 h6 h7 (by omega)
              omega
            have H : Hid (rdF f 0 (k + 1) = bits BinOp.or IntKind.u64 (rdF f 0 k) (f k * 2 ^ (8 * k))) := by
              have hs := rdF_snoc f 0 k
              rw [Nat.zero_add] at hs
              rw [or_disj (8 * k) (by omega) h3.1 (by rw [← hp]; exact h3.2) h5.1 h5.2, hs, hp]; exact rfl
            clear h3 hp h5 h7
            go_wp2
            go_roundw
            case rel => exact ⟨trivial, k + 1, by omega, by go_num, by rw [H.out]⟩
            case measure => simp [intOf]; omega
          · obtain rfl : k = 8 := by omega
            rw [HNM.out]
            go_wp2_with fail
            refine (box_reg H15.out 9 (by omega) v HF.out.2.1).mono ?_
            rintro e w16 ⟨rfl, rfl⟩
            go_wp2_with fail
            have hx : (4129 : Int) + mvq A = 4096 + (28 + mvq A) + 5 := by omega
            refine (box_reg H15.out 10 (by omega) (4129 + mvq A) HF.out.2.2.1).mono ?_
            rintro e w16 ⟨rfl, rfl⟩
            rw [hx]
            clear hx
            go_wp2_with fail
            have hx : (4124 : Int) + mvq A = 4096 + (28 + mvq A) := by omega
            refine (box_ip H15.out (4124 + mvq A) HF.out.1).mono ?_
            rintro e w16 ⟨rfl, rfl⟩
            rw [hx]
            clear hx
            go_wp2_with fail
            refine (HAW.out _).mono ?_
            rintro e w17 ⟨rfl, hb17⟩
            have H17 := Lib.hid ((HBL.out.trans (H15.out.ends.mono HBL.out.size)).trans (hb17.mono (Nat.le_trans HBL.out.size H15.out.ends.size)))
            go_wp2
            go_ret
            exact ⟨rfl, H17.out⟩
end Go.Proofs.Ythbgmlmcjnlopaa
