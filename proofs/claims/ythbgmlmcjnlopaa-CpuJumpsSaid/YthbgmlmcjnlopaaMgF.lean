/- law 16: slipwayref14.Cond. · law 16: CpuJumps, its code. · law 16: CpuJumps, the walk. -/
import Derived.Test.YthbgmlmcjnlopaaMgE
import Derived.Test.YthbgmlmcjnlopaaMchRb
namespace Go.Proofs.Ythbgmlmcjnlopaa
open Go.ChangeShapes Go.WideShapes Go.ChangeAt Go.RowKit
set_option linter.unusedVariables false
set_option linter.unusedSimpArgs false
set_option maxRecDepth 100000

theorem refCond_any (cc : Nat) (s : StV) (w : World) (hc : cc = 2 ∨ cc = 3 ∨ cc = 4 ∨ cc = 5 ∨ cc = 8 ∨ cc = 9 ∨ cc = 12 ∨ cc = 13) :
    Calls Try.prog 22 #[.int .i64 cc, .agg #[.bool s.z, .bool s.s, .bool s.c, .bool s.o]] w fun e w' => e = .returned (.bool (condM cc s)) ∧ Below w.heap.size w w' := by
  obtain ⟨r, ip, z, n, c, o⟩ := s
  rcases hc with rfl | rfl | rfl | rfl | rfl | rfl | rfl | rfl
  all_goals
    go_enter Try.func22, Try.ntmps22
    go_wp2
    go_ret
    exact ⟨rfl, by go_grown⟩
end Go.Proofs.Ythbgmlmcjnlopaa
namespace Go.Proofs.Ythbgmlmcjnlopaa
open Go.ChangeShapes Go.WideShapes Go.ChangeAt Go.RowKit
set_option linter.unusedVariables false
set_option linter.unusedSimpArgs false
set_option maxRecDepth 100000

def Cc (cc : Nat) : Prop := cc = 2 ∨ cc = 3 ∨ cc = 4 ∨ cc = 5 ∨ cc = 8 ∨ cc = 9 ∨ cc = 12 ∨ cc = 13
def insJ1 : InsV := ⟨7, 2, 1, 7, 0, 0, 0⟩
def insJ2 (cc : Nat) : InsV := ⟨20, 0, 0, 0, cc, 0, 20⟩
def insJ3 : InsV := ⟨17, 0, 0, 0, 0, 0, 3⟩
def insJ4 : InsV := ⟨2, 0, 0, 0, 0, 0, 0⟩
theorem tellsJ1 : Tells ⟨7,7,0,2,57,3,192,0⟩ insJ1 := ⟨by decide, rfl, rfl, rfl, by decide, by decide⟩
theorem encJ1 : encM ⟨7,7,0,2,57,3,192,0⟩ insJ1 = [72, 57, 209] := by decide
theorem tellsJ2 {cc : Nat} (h : Cc cc) : ∃ F, Tells F (insJ2 cc) ∧ encM F (insJ2 cc) = [112 + cc, 20] := by
  refine ⟨⟨20, 0, cc, 0, 112 + cc, 0, 0, 6⟩, ?_⟩
  rcases h with rfl | rfl | rfl | rfl | rfl | rfl | rfl | rfl <;> exact ⟨⟨by decide, rfl, rfl, rfl, by decide, by decide⟩, by decide⟩
theorem tellsJ3 : Tells ⟨17,0,0,0,232,0,0,5⟩ insJ3 := ⟨by decide, rfl, rfl, rfl, by decide, by decide⟩
theorem encJ3 : encM ⟨17,0,0,0,232,0,0,5⟩ insJ3 = [232, 3, 0, 0, 0] := by decide
def codJ (cc : Nat) : List Nat := [72, 57, 209, 112 + cc, 20, 232, 3, 0, 0, 0, 144, 144, 144, 195]
def mpJ (cc : Nat) : Int → Option Pg := mp3M 14 (fun i => bF (codJ cc) i)
def mpJ2 (cc : Nat) : Int → Option Pg := putP (mpJ cc) 16376 8 (le8 4106)
theorem fetJ1 {cc : Nat} (h : Cc cc) : fetchM (mpJ cc) 4096 12 [] = ⟨false, mpJ cc, insJ1, 3, 0, 0, 0⟩ := by rcases h with rfl | rfl | rfl | rfl | rfl | rfl | rfl | rfl <;> kernel_rfl
theorem fetJ2 {cc : Nat} (h : Cc cc) : fetchM (mpJ cc) 4099 12 [] = ⟨false, mpJ cc, insJ2 cc, 2, 0, 0, 0⟩ := by rcases h with rfl | rfl | rfl | rfl | rfl | rfl | rfl | rfl <;> kernel_rfl
theorem fetJ3 {cc : Nat} (h : Cc cc) : fetchM (mpJ cc) 4101 12 [] = ⟨false, mpJ cc, insJ3, 5, 0, 0, 0⟩ := by rcases h with rfl | rfl | rfl | rfl | rfl | rfl | rfl | rfl <;> kernel_rfl
theorem fetJ4 {cc : Nat} (h : Cc cc) : fetchM (mpJ2 cc) 4109 12 [] = ⟨false, mpJ2 cc, insJ4, 1, 0, 0, 0⟩ := by rcases h with rfl | rfl | rfl | rfl | rfl | rfl | rfl | rfl <;> kernel_rfl
theorem askJ3 {cc : Nat} (h : Cc cc) : askS (mpJ cc) 2 3 8 16376 8 = (0, 0, none) := by rcases h with rfl | rfl | rfl | rfl | rfl | rfl | rfl | rfl <;> kernel_rfl
theorem askJ4 {cc : Nat} (h : Cc cc) : askS (mpJ2 cc) 1 2 8 16376 8 = (0, 0, none) := by rcases h with rfl | rfl | rfl | rfl | rfl | rfl | rfl | rfl <;> kernel_rfl
theorem numJ4 {cc : Nat} (h : Cc cc) : numM (mpJ2 cc) 16376 = 4106 := by rcases h with rfl | rfl | rfl | rfl | rfl | rfl | rfl | rfl <;> kernel_rfl
section
variable {R : Nat → Prop} {w0 w : World} {C M m : Nat} {most : Int} {s : StV} {fk fa : Int} {cc : Nat}
/-- The numbers are compared. -/
theorem jmp_cmp (h : Box R w0 w C M m most (mpJ cc) s fk fa) (hc : Cc cc) (hip : s.ip = 4096) :
    Calls Try.prog 17 #[.pointer (some ⟨C, 0, none⟩)] w fun e w' => e = .returned (.tuple #[.int .i64 0, .int .i64 0]) ∧ ∃ s', Box R w0 w' C M m most (mpJ cc) s' fk fa ∧ s'.ip = 4099 ∧ s'.r 1 = s.r 1 ∧ s'.r 2 = s.r 2 ∧ s'.r 4 = s.r 4 := by
  have h1 := h.sok.r 1 (by omega)
  have h2 := h.sok.r 2 (by omega)
  have ha : Word (s.r 1) := ⟨by omega, by omega⟩
  have hb : Word (s.r 2) := ⟨by omega, by omega⟩
  obtain ⟨v, hv⟩ : ∃ v, IntKind.u64.wrap (s.r 1 - s.r 2) = v := ⟨_, rfl⟩
  have hw : Word v := hv ▸ word_wrap _
  have hal : AluR 7 (s.r 1) (s.r 2) s.z s.s s.c s.o (s.r 1) _ _ _ _ := fun w => do_cmp (s.r 1) (s.r 2) v s.z s.s s.c s.o _ _ _ _ w ha hb hw hv rfl
  refine (box_do h ⟨s.r 1, _, _, _, _⟩ (x := insJ1) (n := 3) (s' := ((nextS s 3).setR 1 (s.r 1)).setF _ _ _ _) (by rw [hip]; exact fetJ1 hc) rfl (by decide) ⟨by show 0 ≤ s.r 1; omega, by show s.r 1 < _; omega, fun _ => hal, fun h => absurd h (by decide)⟩ h.ok (((h.sok.next 3).setR (by omega) (by omega)).setF _ _ _ _)).mono ?_
  rintro e w' ⟨rfl, hbx, _⟩
  refine ⟨rfl, _, hbx, ?_, rfl, rfl, rfl⟩
  show (s.ip + (3 : Nat)) % 18446744073709551616 = 4099
  rw [hip]; rfl
/-- The condition is asked. -/
theorem jmp_cc (h : Box R w0 w C M m most (mpJ cc) s fk fa) (hc : Cc cc) (hip : s.ip = 4099) :
    Calls Try.prog 17 #[.pointer (some ⟨C, 0, none⟩)] w fun e w' => e = .returned (.tuple #[.int .i64 0, .int .i64 0]) ∧ ∃ s', Box R w0 w' C M m most (mpJ cc) s' fk fa ∧ s'.ip = (if condM cc s = true then 4121 else 4101) ∧ s'.r = s.r ∧ Kept (fun k => R k ∧ k ≠ C) w w' := by
  have hne : nearM (nextS s 2) (insJ2 cc) = 4121 := by
    show ((s.ip + (2 : Nat)) % 18446744073709551616 + 20) % 18446744073709551616 = 4121
    rw [hip]; rfl
  have hd : doM (insJ2 cc) (nextS s 2) (mpJ cc) al0 = okM (mpJ cc) (if condM cc s = true then (nextS s 2).setIp 4121 else nextS s 2) := by
    show okM (mpJ cc) (if condM cc (nextS s 2) = true then (nextS s 2).setIp (nearM (nextS s 2) (insJ2 cc)) else nextS s 2) = _
    rw [hne]
    rfl
  refine (box_do h al0 (by rw [hip]; exact fetJ2 hc) hd (by show (20 : Nat) ≠ 23; decide) (aluD0 (by show (20 : Nat) ≠ 7 ∧ (20 : Nat) ≠ 14 ∧ (20 : Nat) ≠ 15 ∧ (20 : Nat) ≠ 16; decide)) h.ok (by split; exact (h.sok.next 2).setIp (by omega) (by omega); exact h.sok.next 2)).mono ?_
  rintro e w' ⟨rfl, hbx, hkx⟩
  refine ⟨rfl, _, hbx, ?_, ?_, hkx⟩
  · split
    · rfl
    · show (s.ip + (2 : Nat)) % 18446744073709551616 = 4101
      rw [hip]; rfl
  · split <;> rfl
/-- The call. -/
theorem jmp_call (h : Box R w0 w C M m most (mpJ cc) s fk fa) (hc : Cc cc) (hip : s.ip = 4101) (h4 : s.r 4 = 16384) :
    Calls Try.prog 17 #[.pointer (some ⟨C, 0, none⟩)] w fun e w' => e = .returned (.tuple #[.int .i64 0, .int .i64 0]) ∧ ∃ s', Box R w0 w' C M m most (mpJ2 cc) s' fk fa ∧ s'.ip = 4109 ∧ s'.r 4 = 16376 := by
  have hi : (nextS s 5).ip = 4106 := by
    show (s.ip + (5 : Nat)) % 18446744073709551616 = 4106
    rw [hip]; rfl
  have hs : subM ((nextS s 5).r 4) = 16376 := by
    show subM (s.r 4) = _
    rw [h4]; rfl
  have hne : nearM (nextS s 5) insJ3 = 4109 := by
    show ((nextS s 5).ip + 3) % 18446744073709551616 = 4109
    rw [hi]; rfl
  have hd : doM insJ3 (nextS s 5) (mpJ cc) al0 = ⟨true, mpJ2 cc, ((nextS s 5).setR 4 16376).setIp 4109, 0, 0⟩ := by
    show wrM (mpJ cc) (subM ((nextS s 5).r 4)) (nextS s 5).ip (nextS s 5) (((nextS s 5).setR 4 (subM ((nextS s 5).r 4))).setIp (nearM (nextS s 5) insJ3)) = _
    unfold wrM
    rw [hs, hi, hne, askJ3 hc, if_pos rfl]
    rfl
  have hok : MpOk (mpJ2 cc) := h.ok.put _ 8 (fun j => byteOf_ok _ j)
  refine (box_do h al0 (by rw [hip]; exact fetJ3 hc) hd (by decide) (aluD0 (by decide)) hok (((h.sok.next 5).setR (by omega) (by omega)).setIp (by omega) (by omega))).mono ?_
  rintro e w' ⟨rfl, hbx, _⟩
  exact ⟨rfl, _, hbx, rfl, rfl⟩
/-- And back. -/
theorem jmp_ret (h : Box R w0 w C M m most (mpJ2 cc) s fk fa) (hc : Cc cc) (hip : s.ip = 4109) (h4 : s.r 4 = 16376) :
    Calls Try.prog 17 #[.pointer (some ⟨C, 0, none⟩)] w fun e w' => e = .returned (.tuple #[.int .i64 0, .int .i64 0]) ∧ ∃ s', Box R w0 w' C M m most (mpJ2 cc) s' fk fa ∧ s'.ip = 4106 ∧ s'.r 4 = 16384 := by
  have hs : addM ((nextS s 1).r 4) = 16384 := by
    show addM (s.r 4) = _
    rw [h4]; rfl
  have hd : doM insJ4 (nextS s 1) (mpJ2 cc) al0 = ⟨true, mpJ2 cc, ((nextS s 1).setR 4 16384).setIp 4106, 0, 0⟩ := by
    show rdM (mpJ2 cc) ((nextS s 1).r 4) (nextS s 1) (fun v => ((nextS s 1).setR 4 (addM ((nextS s 1).r 4))).setIp v) = _
    unfold rdM
    rw [hs, show (nextS s 1).r 4 = 16376 from h4, askJ4 hc, if_pos rfl, numJ4 hc]
  refine (box_do h al0 (by rw [hip]; exact fetJ4 hc) hd (by decide) (aluD0 (by decide)) h.ok (((h.sok.next 1).setR (by omega) (by omega)).setIp (by omega) (by omega))).mono ?_
  rintro e w' ⟨rfl, hbx, _⟩
  exact ⟨rfl, _, hbx, rfl, rfl⟩
end
end Go.Proofs.Ythbgmlmcjnlopaa
namespace Go.Proofs.Ythbgmlmcjnlopaa
open Go.ChangeShapes Go.WideShapes Go.ChangeAt Go.RowKit
set_option linter.unusedVariables false
set_option linter.unusedSimpArgs false
set_option maxRecDepth 100000

theorem bn_bd {bs : List Nat} (hb : Bn bs) (j : Nat) : 0 ≤ bF bs j ∧ bF bs j ≤ 255 := by
  unfold bF
  rcases Nat.lt_or_ge j bs.length with h | h
  · have := hb bs[j] (List.getElem_mem h)
    simp [List.getD, h]; omega
  · simp [List.getD, h]
set_option maxHeartbeats 4000000 in
theorem jumps_core (w : World) (a b k : Int) (a0 : 0 ≤ a) (a1 : a < 18446744073709551616) (b0 : 0 ≤ b) (b1 : b < 18446744073709551616) :
    Calls Try.prog 4 #[.int .u64 a, .int .u64 b, .int .i64 k] w fun e w' => e = .returned (.bool true) ∧ Below w.heap.size w w' := by
  obtain ⟨i, hi⟩ : ∃ i : Nat, bits .and .i64 k 7 = i := ⟨(k % 8).toNat, by rw [and_7]; omega⟩
  have hi8 : i < 8 := by have := and_7 k; omega
  obtain ⟨cc, hcc⟩ : ∃ cc : Nat, ([2, 3, 4, 5, 8, 9, 12, 13] : List Nat)[i]? = some cc := ⟨_, List.getElem?_eq_getElem (by simpa using hi8)⟩
  have hC : Cc cc := by
    unfold Cc
    rcases (by omega : i = 0 ∨ i = 1 ∨ i = 2 ∨ i = 3 ∨ i = 4 ∨ i = 5 ∨ i = 6 ∨ i = 7) with rfl | rfl | rfl | rfl | rfl | rfl | rfl | rfl <;> simp at hcc <;> omega
  have hcl : (w.alloc (.cells #[.int .i64 2, .int .i64 3, .int .i64 4, .int .i64 5, .int .i64 8, .int .i64 9, .int .i64 12, .int .i64 13] 3)).cell? ⟨w.heap.size, i, none⟩ = some (.int .i64 cc) := by
    rw [cell_of_row' (heap_alloc_new w _)]
    rcases (by omega : i = 0 ∨ i = 1 ∨ i = 2 ∨ i = 3 ∨ i = 4 ∨ i = 5 ∨ i = 6 ∨ i = 7) with rfl | rfl | rfl | rfl | rfl | rfl | rfl | rfl <;> simp at hcc <;> subst hcc <;> rfl
  have HCC := Lib.hid hC
  clear hC hcc
  go_enter Try.func4, Try.ntmps4
  go_wp2_with fail
  obtain ⟨FJ, htJ, heJ⟩ := tellsJ2 HCC.out
  have hba : Below w.heap.size w (w.alloc (.cells #[.int .i64 2, .int .i64 3, .int .i64 4, .int .i64 5, .int .i64 8, .int .i64 9, .int .i64 12, .int .i64 13] 3)) := (Below.refl _ _).alloc (Nat.le_refl _) _
  have HJ := Lib.hid (fun W => encS htJ _ heJ ⟨by show (-9223372036854775808 : Int) ≤ 20; decide, by show (20 : Int) ≤ 9223372036854775807; decide⟩ W)
  have HBA := Lib.hid hba
  clear hba htJ heJ hcl
  generalize w.alloc (.cells #[.int .i64 2, .int .i64 3, .int .i64 4, .int .i64 5, .int .i64 8, .int .i64 9, .int .i64 12, .int .i64 13] 3) = wa at *
  refine (encS tellsJ1 _ encJ1 (by decide) _).mono ?_
  rintro e w1 ⟨S1, rfl, h1, (hz1 : S1.size = 3), hb1⟩
  have HS1 := Lib.hid h1
  have HB1 := Lib.hid (HBA.out.trans (hb1.mono HBA.out.size))
  clear h1 hb1
  go_wp2_with fail
  refine (HJ.out _).mono ?_
  rintro e w2 ⟨S2, rfl, h2, (hz2 : S2.size = 2), hb2⟩
  have HS2 := Lib.hid h2
  have HB2 := Lib.hid (HB1.out.trans (hb2.mono HB1.out.size))
  clear h2 hb2
  go_wp2_with fail
  refine (encS tellsJ3 _ encJ3 (by decide) _).mono ?_
  rintro e w3 ⟨S3, rfl, h3, (hz3 : S3.size = 5), hb3⟩
  have HS3 := Lib.hid h3
  have HB3 := Lib.hid (HB2.out.trans (hb3.mono HB2.out.size))
  clear h3 hb3
  have hq1 : (⟨#[144]⟩ : ByteArray) = txN [144] := rfl
  have hq2 : (⟨#[144, 144, 195]⟩ : ByteArray) = txN [144, 144, 195] := rfl
  obtain ⟨S, hS⟩ : ∃ S, S1 ++ S2 ++ S3 ++ txN [144] ++ txN [144, 144, 195] = S := ⟨_, rfl⟩
  have hSe : S = txN (codJ cc) := by rw [← hS, HS1.out, HS2.out, HS3.out, txN_cat, txN_cat, txN_cat, txN_cat]; rfl
  have hSz : S.size = 14 := by rw [hSe, txN_size]; rfl
  have hbn : Bn (codJ cc) := by
    unfold Bn
    rcases HCC.out with rfl | rfl | rfl | rfl | rfl | rfl | rfl | rfl <;> decide
  obtain ⟨Cc', wv, hcv, hov, hbv, hc1, hc2⟩ := conv_txN w3 (codJ cc) hbn (by show 14 ≤ 1000000; decide)
  rw [← hSe] at hcv
  have HOV := Lib.hid hov
  have HBV := Lib.hid (HB3.out.trans (hbv.mono HB3.out.size))
  have HC := Lib.hid (And.intro hc1 hc2)
  have HBN := Lib.hid hbn
  clear hSe hov hbv hc1 hc2 hbn
  go_wp2_with fail
  refine (machine_any wv w3.heap.size 14 Cc' (fun i => bF (codJ cc) i) (by omega) HC.out.1 HC.out.2 (bn_bd HBN.out) HOV.out).mono ?_
  rintro e w6 ⟨C, M, R, rfl, h6⟩
  have H6 := Lib.hid (show Box R wv w6 C M 3 3 (mpJ cc) (st0.setIp 4096) 0 0 from h6)
  clear h6 hcv HC HOV HBN
  go_wp2_with fail
  refine (box_put H6.out 1 (by omega) a a0 a1).mono ?_
  rintro e w7 ⟨rfl, h7, _⟩
  have H7 := Lib.hid h7
  clear h7 H6
  go_wp2_with fail
  refine (box_put H7.out 2 (by omega) b b0 b1).mono ?_
  rintro e w8 ⟨rfl, h8, _⟩
  have H8 := Lib.hid h8
  clear h8 H7
  go_wp2_with fail
  refine (box_put H8.out 4 (by omega) 16384 (by omega) (by omega)).mono ?_
  rintro e w9 ⟨rfl, h9, _⟩
  have H9 := Lib.hid h9
  clear h9 H8
  go_wp2_with fail
  refine (jmp_cmp H9.out HCC.out rfl).mono ?_
  rintro e w10 ⟨rfl, s1, h10, e1, e2, e3, e4⟩
  have H10 := Lib.hid h10
  have HE := Lib.hid (show s1.ip = 4099 ∧ s1.r 1 = a ∧ s1.r 2 = b ∧ s1.r 4 = 16384 from ⟨e1, e2, e3, e4⟩)
  clear h10 H9 e1 e2 e3 e4
  go_wp2_with fail
  refine (getFlags_any w10 C M _ _ _ H10.out.cpu).mono ?_
  rintro e w11 ⟨rfl, hb11⟩
  have H11 := Lib.hid (H10.out.below hb11)
  clear hb11 H10
  go_wp2_with fail
  obtain ⟨W, hW⟩ : ∃ W, w11.alloc (.cells #[.bool s1.z, .bool s1.s, .bool s1.c, .bool s1.o] 43) = W := ⟨_, rfl⟩
  obtain ⟨D, hD⟩ : ∃ D, w11.heap.size = D := ⟨_, rfl⟩
  have hb10 := H11.out.alloc (.cells #[.bool s1.z, .bool s1.s, .bool s1.c, .bool s1.o] 43)
  have hz10 := heap_alloc_new w11 (.cells #[.bool s1.z, .bool s1.s, .bool s1.c, .bool s1.o] 43)
  have hl10 : w11.heap.size < (w11.alloc (.cells #[.bool s1.z, .bool s1.s, .bool s1.c, .bool s1.o] 43)).heap.size := by simp
  have hcd := H11.out.lt C H11.out.rC
  rw [hW, hD] at hb10
  rw [hW, hD] at hz10
  rw [hW, hD] at hl10
  rw [hD] at hcd
  have H12 := Lib.hid hb10
  have HZ12 := Lib.hid hz10
  have HL := Lib.hid (And.intro hl10 hcd)
  rw [hW, hD]
  clear hb10 hz10 hl10 hcd hW hD H11
  refine (jmp_cc H12.out HCC.out HE.out.1).mono ?_
  rintro e w13 ⟨rfl, s2, h13, f1, f2, hk13⟩
  have H13 := Lib.hid h13
  have HZ13 := Lib.hid ((hk13.block D ⟨.inr ⟨Nat.le_refl _, HL.out.1⟩, by have := HL.out.2; omega⟩).trans HZ12.out)
  have HF := Lib.hid (And.intro f1 f2)
  clear h13 hk13 f1 f2 H12 HZ12
  have c0 : w13.cell? ⟨D, 0, none⟩ = some (.bool s1.z) := by rw [cell_of_row' HZ13.out]; rfl
  have c1 : w13.cell? ⟨D, 1, none⟩ = some (.bool s1.s) := by rw [cell_of_row' HZ13.out]; rfl
  have c2 : w13.cell? ⟨D, 2, none⟩ = some (.bool s1.c) := by rw [cell_of_row' HZ13.out]; rfl
  have c3 : w13.cell? ⟨D, 3, none⟩ = some (.bool s1.o) := by rw [cell_of_row' HZ13.out]; rfl
  go_wp2_with fail
  refine (box_reg H13.out 1 (by omega) a (by rw [HF.out.2]; exact HE.out.2.1)).mono ?_
  rintro e w14 ⟨rfl, rfl⟩
  go_wp2_with fail
  refine (box_reg H13.out 2 (by omega) b (by rw [HF.out.2]; exact HE.out.2.2.1)).mono ?_
  rintro e w14 ⟨rfl, rfl⟩
  go_wp2_with fail
  refine (refCond_any cc s1 w14 HCC.out).mono ?_
  rintro e w15 ⟨rfl, hb15⟩
  have H15 := Lib.hid (H13.out.below hb15)
  clear hb15 H13 HZ13 c0 c1 c2 c3
  by_cases hcm : condM cc s1 = true
  · have hip : s2.ip = 4121 := by rw [HF.out.1, if_pos hcm]
    rw [hcm]
    go_wp2_with fail
    refine (box_ip H15.out 4121 hip).mono ?_
    rintro e w16 ⟨rfl, rfl⟩
    go_wp2_with fail
    refine (awake16_any w16).mono ?_
    rintro e w17 ⟨rfl, hb17⟩
    have H17 := Lib.hid ((HBV.out.trans (H15.out.ends.mono HBV.out.size)).trans (hb17.mono (Nat.le_trans HBV.out.size H15.out.ends.size)))
    go_wp2
    go_ret
    exact ⟨rfl, H17.out⟩
  · have hcf : condM cc s1 = false := by simpa using hcm
    have hip : s2.ip = 4101 := by rw [HF.out.1, if_neg hcm]
    rw [hcf]
    go_wp2_with fail
    refine (jmp_call H15.out HCC.out hip (by rw [HF.out.2]; exact HE.out.2.2.2)).mono ?_
    rintro e w16 ⟨rfl, s3, h16, g1, g2⟩
    have H16 := Lib.hid h16
    clear h16 H15
    go_wp2_with fail
    refine (box_ip H16.out 4109 g1).mono ?_
    rintro e w17 ⟨rfl, rfl⟩
    go_wp2_with fail
    refine (jmp_ret H16.out HCC.out g1 g2).mono ?_
    rintro e w18 ⟨rfl, s4, h18, k1, k2⟩
    have H18 := Lib.hid h18
    clear h18 H16
    go_wp2_with fail
    refine (box_ip H18.out 4106 k1).mono ?_
    rintro e w19 ⟨rfl, rfl⟩
    go_wp2_with fail
    refine (box_reg H18.out 4 (by omega) 16384 k2).mono ?_
    rintro e w19 ⟨rfl, rfl⟩
    go_wp2_with fail
    refine (awake16_any w19).mono ?_
    rintro e w20 ⟨rfl, hb20⟩
    have H20 := Lib.hid ((HBV.out.trans (H18.out.ends.mono HBV.out.size)).trans (hb20.mono (Nat.le_trans HBV.out.size H18.out.ends.size)))
    go_wp2
    go_ret
    exact ⟨rfl, H20.out⟩
end Go.Proofs.Ythbgmlmcjnlopaa
