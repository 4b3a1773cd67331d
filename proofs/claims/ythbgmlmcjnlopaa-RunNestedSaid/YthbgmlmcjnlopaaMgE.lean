/- slipwayref14.Encode tells the bytes of a form. · slipwayref14.Encode of what a form tells; slipwaylaw16.machine. -/
import Derived.Test.YthbgmlmcjnlopaaMchX
namespace Go.Proofs.Ythbgmlmcjnlopaa
open Go.ChangeShapes Go.WideShapes Go.ChangeAt Go.RowKit
set_option linter.unusedVariables false
set_option linter.unusedSimpArgs false
set_option maxRecDepth 100000

theorem or_pre : ∀ (p q : Bool), ((72 ||| (if p then 4 else 0)) ||| (if q then 1 else 0) : Nat) = 72 + (if q then 1 else 0) + (if p then 4 else 0) := by decide
theorem preW (a b : Nat) : preBytes (preF 2) a b = [72 + hiN b 1 + hiN a 4] := by
  unfold preBytes preVal preF hiN
  by_cases h1 : 7 < a <;> by_cases h2 : 7 < b <;> simp [h1, h2]
theorem preC (a b : Nat) : preBytes (preF 3) a b = [72 + hiN a 4] := by
  unfold preBytes preVal preF hiN
  by_cases h1 : 7 < a <;> by_cases h2 : 7 < b <;> simp [h1, h2]
theorem preA (a b : Nat) : preBytes (preF 4) a b = [72 + hiN a 1] := by
  unfold preBytes preVal preF hiN
  by_cases h1 : 7 < a <;> by_cases h2 : 7 < b <;> simp [h1, h2]
theorem preB (a b : Nat) : preBytes (preF 5) a b = [72 + hiN b 1] := by
  unfold preBytes preVal preF hiN
  by_cases h1 : 7 < a <;> by_cases h2 : 7 < b <;> simp [h1, h2]
theorem preP (a b : Nat) : preBytes (preF 1) a b = if 7 < a then [65] else [] := by
  unfold preBytes preVal preF
  by_cases h1 : 7 < a <;> by_cases h2 : 7 < b <;> simp [h1, h2]
theorem preN (a b : Nat) : preBytes (preF 0) a b = [] := by
  unfold preBytes preVal preF
  by_cases h1 : 7 < a <;> by_cases h2 : 7 < b <;> simp [h1, h2]
theorem le1 (v : Nat) : leBytes v 1 = [v % 256] := by unfold leBytes; simp [List.range_succ]
theorem le0 (v : Nat) : leBytes v 0 = [] := rfl
theorem regA {r : Nat} {n : Bool} (h : regOkM r n = true) : r < 16 ∧ (n = false → r = 0) := by
  unfold regOkM at h
  cases n <;> simp at h <;> simp [h] <;> omega
theorem encM_R {F : Form} {x : InsV} (h : Tells F x) : encM F x = encR x := by
  have hm := h.mem
  obtain ⟨op, a, b, alu, cc, imm, disp⟩ := x
  have h1 := h.op
  have h2 := h.alu
  have h3 := h.cc
  simp only at h1 h2 h3
  obtain ⟨p1, p2, p3, p4, p5⟩ := h.parts
  clear h
  subst h1 h2 h3
  have hd : (disp % 18446744073709551616).toNat % 256 = (disp % 256).toNat := by omega
  simp only [forms, List.mem_cons, List.not_mem_nil, or_false] at hm
  rcases hm with rfl | rfl | rfl | rfl | rfl | rfl | rfl | rfl | rfl | rfl | rfl | rfl | rfl | rfl | rfl | rfl | rfl | rfl | rfl | rfl | rfl | rfl | rfl | rfl | rfl | rfl | rfl | rfl | rfl | rfl | rfl | rfl | rfl | rfl | rfl | rfl | rfl | rfl | rfl | rfl
  all_goals
    have q1 := regA p1
    have q2 := regA p2
    clear p1 p2 p3 p4 p5
    simp only [hasA, hasB] at q1 q2
    first
      | (simp only [encM, encR, preW, preC, preA, preB, preP, preN, codeBytes, tailVal, tailLen, le1, encP, encRW, encRA, encRB, encRC, encD4, encD1, aluB, oneB, hd, reduceIte, List.append_nil, List.nil_append, List.cons_append, List.append_assoc, le0, Nat.reduceEqDiff, or_true, true_or, or_false, false_or]; done)
      | (simp only [encM, encR, preW, preC, preA, preB, preP, preN, codeBytes, tailVal, tailLen, le1, encP, encRW, encRA, encRB, encRC, encD4, encD1, aluB, oneB, hd, reduceIte, List.append_nil, List.nil_append, List.cons_append, List.append_assoc, le0, Nat.reduceEqDiff, or_true, true_or, or_false, false_or]; rfl)
      | (simp only [encM, encR, preW, preC, preA, preB, preP, preN, codeBytes, tailVal, tailLen, le1, encP, encRW, encRA, encRB, encRC, encD4, encD1, aluB, oneB, hd, reduceIte, List.append_nil, List.nil_append, List.cons_append, List.append_assoc, le0, Nat.reduceEqDiff, or_true, true_or, or_false, false_or]; simp only [List.cons.injEq, List.append_cancel_left_eq, and_true, true_and]; omega)
      | (simp at q1 q2; simp only [encM, encR, preW, preC, preA, preB, preP, preN, codeBytes, tailVal, tailLen, le1, encP, encRW, encRA, encRB, encRC, encD4, encD1, aluB, oneB, hd, reduceIte, List.append_nil, List.nil_append, List.cons_append, List.append_assoc, le0, Nat.reduceEqDiff, or_true, true_or, or_false, false_or]; simp only [List.cons.injEq, List.append_cancel_left_eq, and_true, true_and]; omega)
end Go.Proofs.Ythbgmlmcjnlopaa
namespace Go.Proofs.Ythbgmlmcjnlopaa
open Go.ChangeShapes Go.WideShapes Go.ChangeAt Go.RowKit
set_option linter.unusedVariables false
set_option linter.unusedSimpArgs false
set_option maxRecDepth 100000

theorem encD_of {F : Form} {x : InsV} (h : Tells F x) (hd : -9223372036854775808 ≤ x.disp ∧ x.disp ≤ 9223372036854775807) : EncD x := by
  have h1 : ∀ F ∈ forms, (1 ≤ F.op ∧ F.op ≤ 23) ∧ F.cc ≤ 13 ∧ (F.op = 7 → F.alu = 0 ∨ F.alu = 1 ∨ F.alu = 2 ∨ F.alu = 3 ∨ F.alu = 4 ∨ F.alu = 7 ∨ F.alu = 8) ∧
    (14 ≤ F.op → F.op ≤ 16 → (F.op = 14 ∧ (F.alu = 0 ∨ F.alu = 1 ∨ F.alu = 7)) ∨ (F.op = 15 ∧ (F.alu = 5 ∨ F.alu = 6)) ∨ (F.op = 16 ∧ (F.alu = 9 ∨ F.alu = 10))) := by decide +kernel
  obtain ⟨a1, a2, a3, a4⟩ := h1 F h.mem
  obtain ⟨p1, p2, _, _, _⟩ := h.parts
  rw [h.op] at a1 a3 a4
  rw [h.cc] at a2
  rw [h.alu] at a3 a4
  exact ⟨a1, (regA p1).1, (regA p2).1, h.imm, a2, a3, a4, hd⟩
theorem encT_any {F : Form} {x : InsV} (h : Tells F x) (hd : -9223372036854775808 ≤ x.disp ∧ x.disp ≤ 9223372036854775807) (w : World) :
    Calls Try.prog 14 #[insV x] w fun e w' => e = .returned (.string (txN (encM F x))) ∧ Below w.heap.size w w' := by
  rw [encM_R h]
  exact encR_any x (encD_of h hd) w

def mp3M (n : Nat) (f : Nat → Int) : Int → Option Pg := putP (setP (setP noM 4096 4 1) 8192 3 2) 4096 n f
set_option maxHeartbeats 4000000 in
theorem machine_any (w : World) (g n cap : Nat) (f : Nat → Int) (hn : n ≤ 4096) (hc : n ≤ cap) (hc2 : cap ≤ 9223372036854775807) (hf : ∀ j, 0 ≤ f j ∧ f j ≤ 255) (ho : Own w g n (fun i => .int .u8 (f i))) :
    Calls Try.prog 15 #[.slice (some ⟨g, 0, none⟩) n cap] w fun e w' => ∃ C M R, e = .returned (.tuple #[.pointer (some ⟨C, 0, none⟩), .pointer (some ⟨M, 0, none⟩)]) ∧ Box R w w' C M 3 3 (mp3M n f) (st0.setIp 4096) 0 0 := by
  have HN := Lib.hid (mem0_new w 3 (by omega) (by omega))
  have HO := Lib.hid ho
  have HF := Lib.hid hf
  clear ho hf
  go_enter Try.func15, Try.ntmps15
  go_wp2_with fail
  refine HN.out.mono ?_
  rintro e w1 ⟨M, rfl, h1⟩
  have H1 := Lib.hid h1
  clear h1 HN
  go_wp2_with fail
  refine (mem0_map H1.out 4096 4 1 (by omega) ⟨by decide, by omega, by omega, by omega⟩ (by omega) (by omega) (fun i _ => rfl) (by omega) (by omega)).mono ?_
  rintro e w2 ⟨rfl, h2⟩
  have H2 := Lib.hid h2
  clear h2
  go_wp2_with fail
  refine (mem0_map H2.out 8192 3 2 (by omega) ⟨by decide, by omega, by omega, by omega⟩ (by omega) (by omega) (fun i hi => by (rcases (by omega : i = 0 ∨ i = 1) with rfl | rfl) <;> kernel_rfl) (by omega) (by omega)).mono ?_
  rintro e w3 ⟨rfl, h3⟩
  have H3 := Lib.hid h3
  clear h3 H2 H1
  have HSR := Lib.hid (show SrcR (· < w.heap.size) w3 (some ⟨g, 0, none⟩) n f from .inr ⟨g, 0, rfl, HO.out.1, fun j hj => by rw [Nat.zero_add, (H3.out.kept.own HO.out HO.out.1).cell hj]⟩)
  go_wp2_with fail
  refine (mem0_poke H3.out 4096 _ n cap f (by omega) (by omega) (by omega) hc hc2 (fun j j0 j1 => ?_) HSR.out HF.out).mono ?_
  · rw [show (4096 : Int) + j - (4096 + j) % 4096 = 4096 by omega]
    exact fun h => absurd h (by decide)
  rintro e w5 ⟨rfl, h5, _⟩
  have H5 := Lib.hid h5
  clear h5 H3 HSR HO HF
  go_wp2_with fail
  refine (mem0_cpu H5.out).mono ?_
  rintro e w6 ⟨C, _, _, rfl, h6⟩
  have H6 := Lib.hid h6
  clear h6 H5
  go_wp2_with fail
  refine (box_jump H6.out 4096 (by omega) (by omega)).mono ?_
  rintro e w7 ⟨rfl, h7, _⟩
  have H7 := Lib.hid h7
  clear h7 H6
  go_wp2
  go_ret2
  exact ⟨C, M, _, rfl, H7.out⟩
end Go.Proofs.Ythbgmlmcjnlopaa
