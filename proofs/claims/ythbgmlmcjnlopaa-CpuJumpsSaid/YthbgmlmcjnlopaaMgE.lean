/- slipwayref14.Encode tells the bytes of a form. · slipwayref14.Encode of what a form tells; slipwaylaw16.machine. · law 16: CpuRounds, its code. -/
import Derived.Test.YthbgmlmcjnlopaaMchX
namespace Go.Proofs.Ythbgmlmcjnlopaa
open Go.ChangeShapes Go.WideShapes Go.ChangeAt Go.RowKit
set_option linter.unusedVariables false
set_option linter.unusedSimpArgs false
set_option maxRecDepth 100000

theorem or_pre : ∀ (p q : Bool), ((72 ||| (if p then 4 else 0)) ||| (if q then 1 else 0) : Nat) = 72 + (if q then 1 else 0) + (if p then 4 else 0) := by decide
theorem preW (a b : Nat) : preBytes (preF 2) a b = [72 + hiN b 1 + hiN a 4] := by
  unfold preBytes preVal preF hiN
  by_cases h1 : 7 < a <;> by_cases h2 : 7 < b <;> simp [h1, h2]
theorem preC (a b : Nat) : preBytes (preF 3) a b = [72 + hiN a 4] := by
  unfold preBytes preVal preF hiN
  by_cases h1 : 7 < a <;> by_cases h2 : 7 < b <;> simp [h1, h2]
theorem preA (a b : Nat) : preBytes (preF 4) a b = [72 + hiN a 1] := by
  unfold preBytes preVal preF hiN
  by_cases h1 : 7 < a <;> by_cases h2 : 7 < b <;> simp [h1, h2]
theorem preB (a b : Nat) : preBytes (preF 5) a b = [72 + hiN b 1] := by
  unfold preBytes preVal preF hiN
  by_cases h1 : 7 < a <;> by_cases h2 : 7 < b <;> simp [h1, h2]
theorem preP (a b : Nat) : preBytes (preF 1) a b = if 7 < a then [65] else [] := by
  unfold preBytes preVal preF
  by_cases h1 : 7 < a <;> by_cases h2 : 7 < b <;> simp [h1, h2]
theorem preN (a b : Nat) : preBytes (preF 0) a b = [] := by
  unfold preBytes preVal preF
  by_cases h1 : 7 < a <;> by_cases h2 : 7 < b <;> simp [h1, h2]
theorem le1 (v : Nat) : leBytes v 1 = [v % 256] := by unfold leBytes; simp [List.range_succ]
theorem le0 (v : Nat) : leBytes v 0 = [] := rfl
theorem regA {r : Nat} {n : Bool} (h : regOkM r n = true) : r < 16 ∧ (n = false → r = 0) := by
  unfold regOkM at h
  cases n <;> simp at h <;> simp [h] <;> omega
theorem encM_R {F : Form} {x : InsV} (h : Tells F x) : encM F x = encR x := by
  have hm := h.mem
  obtain ⟨op, a, b, alu, cc, imm, disp⟩ := x
  have h1 := h.op
  have h2 := h.alu
  have h3 := h.cc
  simp only at h1 h2 h3
  obtain ⟨p1, p2, p3, p4, p5⟩ := h.parts
  clear h
  subst h1 h2 h3
  have hd : (disp % 18446744073709551616).toNat % 256 = (disp % 256).toNat := by omega
  simp only [forms, List.mem_cons, List.not_mem_nil, or_false] at hm
  rcases hm with rfl | rfl | rfl | rfl | rfl | rfl | rfl | rfl | rfl | rfl | rfl | rfl | rfl | rfl | rfl | rfl | rfl | rfl | rfl | rfl | rfl | rfl | rfl | rfl | rfl | rfl | rfl | rfl | rfl | rfl | rfl | rfl | rfl | rfl | rfl | rfl | rfl | rfl | rfl | rfl
  all_goals
    have q1 := regA p1
    have q2 := regA p2
    clear p1 p2 p3 p4 p5
    simp only [hasA, hasB] at q1 q2
    first
      | (simp only [encM, encR, preW, preC, preA, preB, preP, preN, codeBytes, tailVal, tailLen, le1, encP, encRW, encRA, encRB, encRC, encD4, encD1, aluB, oneB, hd, reduceIte, List.append_nil, List.nil_append, List.cons_append, List.append_assoc, le0, Nat.reduceEqDiff, or_true, true_or, or_false, false_or]; done)
      | (simp only [encM, encR, preW, preC, preA, preB, preP, preN, codeBytes, tailVal, tailLen, le1, encP, encRW, encRA, encRB, encRC, encD4, encD1, aluB, oneB, hd, reduceIte, List.append_nil, List.nil_append, List.cons_append, List.append_assoc, le0, Nat.reduceEqDiff, or_true, true_or, or_false, false_or]; rfl)
      | (simp only [encM, encR, preW, preC, preA, preB, preP, preN, codeBytes, tailVal, tailLen, le1, encP, encRW, encRA, encRB, encRC, encD4, encD1, aluB, oneB, hd, reduceIte, List.append_nil, List.nil_append, List.cons_append, List.append_assoc, le0, Nat.reduceEqDiff, or_true, true_or, or_false, false_or]; simp only [List.cons.injEq, List.append_cancel_left_eq, and_true, true_and]; omega)
      | (simp at q1 q2; simp only [encM, encR, preW, preC, preA, preB, preP, preN, codeBytes, tailVal, tailLen, le1, encP, encRW, encRA, encRB, encRC, encD4, encD1, aluB, oneB, hd, reduceIte, List.append_nil, List.nil_append, List.cons_append, List.append_assoc, le0, Nat.reduceEqDiff, or_true, true_or, or_false, false_or]; simp only [List.cons.injEq, List.append_cancel_left_eq, and_true, true_and]; omega)
end Go.Proofs.Ythbgmlmcjnlopaa
namespace Go.Proofs.Ythbgmlmcjnlopaa
open Go.ChangeShapes Go.WideShapes Go.ChangeAt Go.RowKit
set_option linter.unusedVariables false
set_option linter.unusedSimpArgs false
set_option maxRecDepth 100000

theorem encD_of {F : Form} {x : InsV} (h : Tells F x) (hd : -9223372036854775808 ≤ x.disp ∧ x.disp ≤ 9223372036854775807) : EncD x := by
  have h1 : ∀ F ∈ forms, (1 ≤ F.op ∧ F.op ≤ 23) ∧ F.cc ≤ 13 ∧ (F.op = 7 → F.alu = 0 ∨ F.alu = 1 ∨ F.alu = 2 ∨ F.alu = 3 ∨ F.alu = 4 ∨ F.alu = 7 ∨ F.alu = 8) ∧
    (14 ≤ F.op → F.op ≤ 16 → (F.op = 14 ∧ (F.alu = 0 ∨ F.alu = 1 ∨ F.alu = 7)) ∨ (F.op = 15 ∧ (F.alu = 5 ∨ F.alu = 6)) ∨ (F.op = 16 ∧ (F.alu = 9 ∨ F.alu = 10))) := by decide +kernel
  obtain ⟨a1, a2, a3, a4⟩ := h1 F h.mem
  obtain ⟨p1, p2, _, _, _⟩ := h.parts
  rw [h.op] at a1 a3 a4
  rw [h.cc] at a2
  rw [h.alu] at a3 a4
  exact ⟨a1, (regA p1).1, (regA p2).1, h.imm, a2, a3, a4, hd⟩
theorem encT_any {F : Form} {x : InsV} (h : Tells F x) (hd : -9223372036854775808 ≤ x.disp ∧ x.disp ≤ 9223372036854775807) (w : World) :
    Calls Try.prog 14 #[insV x] w fun e w' => e = .returned (.string (txN (encM F x))) ∧ Below w.heap.size w w' := by
  rw [encM_R h]
  exact encR_any x (encD_of h hd) w

def mp3M (n : Nat) (f : Nat → Int) : Int → Option Pg := putP (setP (setP noM 4096 4 1) 8192 3 2) 4096 n f
set_option maxHeartbeats 4000000 in
theorem machine_any (w : World) (g n cap : Nat) (f : Nat → Int) (hn : n ≤ 4096) (hc : n ≤ cap) (hc2 : cap ≤ 9223372036854775807) (hf : ∀ j, 0 ≤ f j ∧ f j ≤ 255) (ho : Own w g n (fun i => .int .u8 (f i))) :
    Calls Try.prog 15 #[.slice (some ⟨g, 0, none⟩) n cap] w fun e w' => ∃ C M R, e = .returned (.tuple #[.pointer (some ⟨C, 0, none⟩), .pointer (some ⟨M, 0, none⟩)]) ∧ Box R w w' C M 3 3 (mp3M n f) (st0.setIp 4096) 0 0 := by
  have HN := Lib.hid (mem0_new w 3 (by omega) (by omega))
  have HO := Lib.hid ho
  have HF := Lib.hid hf
  clear ho hf
  go_enter Try.func15, Try.ntmps15
  go_wp2_with fail
  refine HN.out.mono ?_
  rintro e w1 ⟨M, rfl, h1⟩
  have H1 := Lib.hid h1
  clear h1 HN
  go_wp2_with fail
  refine (mem0_map H1.out 4096 4 1 (by omega) ⟨by decide, by omega, by omega, by omega⟩ (by omega) (by omega) (fun i _ => rfl) (by omega) (by omega)).mono ?_
  rintro e w2 ⟨rfl, h2⟩
  have H2 := Lib.hid h2
  clear h2
  go_wp2_with fail
  refine (mem0_map H2.out 8192 3 2 (by omega) ⟨by decide, by omega, by omega, by omega⟩ (by omega) (by omega) (fun i hi => by (rcases (by omega : i = 0 ∨ i = 1) with rfl | rfl) <;> kernel_rfl) (by omega) (by omega)).mono ?_
  rintro e w3 ⟨rfl, h3⟩
  have H3 := Lib.hid h3
  clear h3 H2 H1
  have HSR := Lib.hid (show SrcR (· < w.heap.size) w3 (some ⟨g, 0, none⟩) n f from .inr ⟨g, 0, rfl, HO.out.1, fun j hj => by rw [Nat.zero_add, (H3.out.kept.own HO.out HO.out.1).cell hj]⟩)
  go_wp2_with fail
  refine (mem0_poke H3.out 4096 _ n cap f (by omega) (by omega) (by omega) hc hc2 (fun j j0 j1 => ?_) HSR.out HF.out).mono ?_
  · rw [show (4096 : Int) + j - (4096 + j) % 4096 = 4096 by omega]
    exact fun h => absurd h (by decide)
  rintro e w5 ⟨rfl, h5, _⟩
  have H5 := Lib.hid h5
  clear h5 H3 HSR HO HF
  go_wp2_with fail
  refine (mem0_cpu H5.out).mono ?_
  rintro e w6 ⟨C, _, _, rfl, h6⟩
  have H6 := Lib.hid h6
  clear h6 H5
  go_wp2_with fail
  refine (box_jump H6.out 4096 (by omega) (by omega)).mono ?_
  rintro e w7 ⟨rfl, h7, _⟩
  have H7 := Lib.hid h7
  clear h7 H6
  go_wp2
  go_ret2
  exact ⟨C, M, _, rfl, H7.out⟩
end Go.Proofs.Ythbgmlmcjnlopaa
namespace Go.Proofs.Ythbgmlmcjnlopaa
open Go.ChangeShapes Go.WideShapes Go.ChangeAt Go.RowKit
set_option linter.unusedVariables false
set_option linter.unusedSimpArgs false
set_option maxRecDepth 100000

def insR1 : InsV := ⟨7, 1, 0, 0, 0, 0, 0⟩
def insR2 : InsV := ⟨15, 0, 1, 6, 0, 0, 0⟩
def insR3 : InsV := ⟨20, 0, 0, 0, 5, 0, -8⟩
def insR4 : InsV := ⟨23, 0, 0, 0, 0, 9, 0⟩
theorem tellsR1 : Tells ⟨7,0,0,2,1,3,192,0⟩ insR1 := ⟨by decide, rfl, rfl, rfl, by decide, by decide⟩
theorem tellsR2 : Tells ⟨15,6,0,5,255,2,200,0⟩ insR2 := ⟨by decide, rfl, rfl, rfl, by decide, by decide⟩
theorem tellsR3 : Tells ⟨20,0,5,0,117,0,0,6⟩ insR3 := ⟨by decide, rfl, rfl, rfl, by decide, by decide⟩
theorem tellsR4 : Tells ⟨23,0,0,0,205,0,0,3⟩ insR4 := ⟨by decide, rfl, rfl, rfl, by decide, by decide⟩
theorem encR1 : encM ⟨7,0,0,2,1,3,192,0⟩ insR1 = [72, 1, 200] := by decide
theorem encR2 : encM ⟨15,6,0,5,255,2,200,0⟩ insR2 = [72, 255, 201] := by decide
theorem encR3 : encM ⟨20,0,5,0,117,0,0,6⟩ insR3 = [117, 248] := by decide
theorem encR4 : encM ⟨23,0,0,0,205,0,0,3⟩ insR4 = [205, 9] := by decide
def codR : List Nat := [72, 1, 200, 72, 255, 201, 117, 248, 205, 9]
def mpR : Int → Option Pg := mp3M 10 (fun i => bF codR i)
theorem fetR1 : fetchM mpR 4096 12 [] = ⟨false, mpR, insR1, 3, 0, 0, 0⟩ := by kernel_rfl
theorem fetR2 : fetchM mpR 4099 12 [] = ⟨false, mpR, insR2, 3, 0, 0, 0⟩ := by kernel_rfl
theorem fetR3 : fetchM mpR 4102 12 [] = ⟨false, mpR, insR3, 2, 0, 0, 0⟩ := by kernel_rfl
theorem fetR4 : fetchM mpR 4104 12 [] = ⟨false, mpR, insR4, 2, 0, 0, 0⟩ := by kernel_rfl
def tri : Nat → Nat
  | 0 => 0
  | k + 1 => tri k + (k + 1)
theorem tri_two : ∀ k, 2 * tri k = k * (k + 1)
  | 0 => rfl
  | k + 1 => by
    have := tri_two k
    simp only [tri, Nat.mul_add, Nat.add_mul] at *
    omega
theorem tri_le : ∀ k, k ≤ 300 → tri k ≤ 301 * k
  | 0, _ => by simp [tri]
  | k + 1, h => by
    have := tri_le k (by omega)
    simp only [tri]
    omega
/-- The machine behind j steps. -/
structure RdS (n j q : Nat) (s : StV) : Prop where
  at' : (j = 3 * q ∧ q < n ∧ s.ip = 4096 ∧ s.r 1 = (n - q : Nat) ∧ s.r 0 + tri (n - q) = tri n) ∨
    (j = 3 * q + 1 ∧ q < n ∧ s.ip = 4099 ∧ s.r 1 = (n - q : Nat) ∧ s.r 0 + tri (n - (q + 1)) = tri n) ∨
    (j = 3 * q + 2 ∧ q < n ∧ s.ip = 4102 ∧ s.r 1 = (n - (q + 1) : Nat) ∧ s.r 0 + tri (n - (q + 1)) = tri n ∧ s.z = decide (n - (q + 1) = 0)) ∨
    (j = 3 * n ∧ s.ip = 4104 ∧ s.r 1 = 0 ∧ s.r 0 = tri n ∧ s.z = true)
theorem aluR_add {a b : Int} (z s c o : Bool) (ha : Word a) (hb : Word b) (hv : Word (a + b)) (he : (a + b) % 18446744073709551616 = a + b) : AluR 0 a b z s c o (a + b) (a + b == 0) (hiB (a + b)) ((a + b) / 18446744073709551616 != 0) ((hiB a != hiB (a + b)) && (hiB b != hiB (a + b))) :=
  fun w => do_add a b (a + b) z s c o _ _ _ _ w ha hb hv he rfl
theorem aluR_dec {a b : Int} (z s c o : Bool) (ha : Word a) (hv : Word (a - 1)) (he : IntKind.u64.wrap (a - 1) = a - 1) : AluR 6 a b z s c o (a - 1) (a - 1 == 0) (hiB (a - 1)) c ((hiB a != hiB 1) && (hiB a != hiB (a - 1))) :=
  fun w => do_dec a b (a - 1) z s c o _ _ _ _ w ha ⟨by decide, by decide⟩ hv he rfl
section
variable {R : Nat → Prop} {w0 w : World} {C M m : Nat} {most : Int} {s : StV} {fk fa : Int} {n j q : Nat}
theorem mpR_ok (h : Box R w0 w C M m most mpR s fk fa) : MpOk mpR := h.ok
theorem rd_step (h : Box R w0 w C M m most mpR s fk fa) (hS : RdS n j q s) (hn : n ≤ 300) (hj : j < 3 * n) :
    Calls Try.prog 17 #[.pointer (some ⟨C, 0, none⟩)] w fun e w' => e = .returned (.tuple #[.int .i64 0, .int .i64 0]) ∧ ∃ s' q', Box R w0 w' C M m most mpR s' fk fa ∧ RdS n (j + 1) q' s' := by
  have hle := tri_le n hn
  rcases hS.at' with ⟨e1, e2, e3, e4, e5⟩ | ⟨e1, e2, e3, e4, e5⟩ | ⟨e1, e2, e3, e4, e5, e6⟩ | ⟨e1, _⟩
  · have ht : tri (n - q) = tri (n - (q + 1)) + (n - q) := by
      obtain ⟨d, hd⟩ : ∃ d, n - q = d + 1 := ⟨n - q - 1, by omega⟩
      rw [hd, show n - (q + 1) = d by omega]; rfl
    have h0 := h.sok.r 0 (by omega)
    have ha : Word (s.r 0) := ⟨by omega, by omega⟩
    have hb : Word (s.r 1) := ⟨by omega, by omega⟩
    have hv : Word (s.r 0 + s.r 1) := ⟨by omega, by omega⟩
    have hal := aluR_add s.z s.s s.c s.o ha hb hv (by omega)
    refine (box_do h ⟨s.r 0 + s.r 1, _, _, _, _⟩ (x := insR1) (n := 3) (s' := ((nextS s 3).setR 0 (s.r 0 + s.r 1)).setF _ _ _ _) (by rw [e3]; exact fetR1) rfl (by decide) ⟨by show 0 ≤ s.r 0 + s.r 1; omega, by show s.r 0 + s.r 1 < _; omega, fun _ => hal, fun h => absurd h (by decide)⟩ h.ok (((h.sok.next 3).setR (by omega) (by omega)).setF _ _ _ _)).mono ?_
    rintro e w' ⟨rfl, hbx, _⟩
    refine ⟨rfl, _, q, hbx, ⟨.inr (.inl ⟨by omega, e2, ?_, e4, ?_⟩)⟩⟩
    · show (s.ip + (3 : Nat)) % 18446744073709551616 = 4099
      rw [e3]; rfl
    · show s.r 0 + s.r 1 + _ = _
      omega
  · have h1 := h.sok.r 1 (by omega)
    have ha : Word (s.r 1) := ⟨by omega, by omega⟩
    have hv : Word (s.r 1 - 1) := ⟨by omega, by omega⟩
    have hal := aluR_dec (b := 0) s.z s.s s.c s.o ha hv (by rw [IntKind.wrap_u64]; omega)
    refine (box_do h ⟨s.r 1 - 1, _, _, _, _⟩ (x := insR2) (n := 3) (s' := ((nextS s 3).setR 1 (s.r 1 - 1)).setF _ _ _ _) (by rw [e3]; exact fetR2) rfl (by decide) ⟨by show 0 ≤ s.r 1 - 1; omega, by show s.r 1 - 1 < _; omega, fun h => absurd h (by decide), fun _ => hal⟩ h.ok (((h.sok.next 3).setR (by omega) (by omega)).setF _ _ _ _)).mono ?_
    rintro e w' ⟨rfl, hbx, _⟩
    refine ⟨rfl, _, q, hbx, ⟨.inr (.inr (.inl ⟨by omega, e2, ?_, ?_, e5, ?_⟩))⟩⟩
    · show (s.ip + (3 : Nat)) % 18446744073709551616 = 4102
      rw [e3]; rfl
    · show s.r 1 - 1 = _
      omega
    · show (s.r 1 - 1 == 0) = _
      by_cases c : n - (q + 1) = 0
      · rw [decide_eq_true c, beq_iff_eq]; omega
      · rw [decide_eq_false c, beq_eq_false_iff_ne]; omega
  · by_cases c : n - (q + 1) = 0
    · have hd : doM insR3 (nextS s 2) mpR al0 = okM mpR (nextS s 2) := by
        show okM mpR (if condM 5 (nextS s 2) = true then _ else _) = _
        rw [if_neg]
        show ¬ (!s.z) = true
        rw [e6, decide_eq_true c]; decide
      refine (box_do h al0 (by rw [e3]; exact fetR3) hd (by decide) (aluD0 (by decide)) h.ok (h.sok.next 2)).mono ?_
      rintro e w' ⟨rfl, hbx, _⟩
      refine ⟨rfl, _, q, hbx, ⟨.inr (.inr (.inr ⟨by omega, ?_, ?_, ?_, ?_⟩))⟩⟩
      · show (s.ip + (2 : Nat)) % 18446744073709551616 = 4104
        rw [e3]; rfl
      · show s.r 1 = 0
        omega
      · show s.r 0 = tri n
        rw [c] at e5
        simp only [tri] at e5
        omega
      · show s.z = true
        rw [e6, decide_eq_true c]
    · have hd : doM insR3 (nextS s 2) mpR al0 = okM mpR ((nextS s 2).setIp 4096) := by
        show okM mpR (if condM 5 (nextS s 2) = true then _ else _) = _
        rw [if_pos]
        · have : nearM (nextS s 2) insR3 = 4096 := by
            show ((s.ip + (2 : Nat)) % 18446744073709551616 + (-8)) % 18446744073709551616 = 4096
            rw [e3]; rfl
          rw [this]
        · show (!s.z) = true
          rw [e6, decide_eq_false c]; decide
      refine (box_do h al0 (by rw [e3]; exact fetR3) hd (by decide) (aluD0 (by decide)) h.ok ((h.sok.next 2).setIp (by omega) (by omega))).mono ?_
      rintro e w' ⟨rfl, hbx, _⟩
      refine ⟨rfl, _, q + 1, hbx, ⟨.inl ⟨by omega, by omega, rfl, ?_, e5⟩⟩⟩
      show s.r 1 = _
      exact e4
  · omega
end
end Go.Proofs.Ythbgmlmcjnlopaa
