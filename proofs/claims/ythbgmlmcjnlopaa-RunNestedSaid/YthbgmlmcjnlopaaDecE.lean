/- package dec: the number at the end. -/
import Derived.Test.YthbgmlmcjnlopaaMgC
namespace Go.Proofs.Ythbgmlmcjnlopaa
open Go.ChangeShapes Go.WideShapes Go.ChangeAt Go.RowKit
set_option linter.unusedVariables false
set_option linter.unusedSimpArgs false

theorem rdF_leN (bs : List Nat) : ∀ (n k : Nat), rdF (bF bs) k n = ((leN (bs.drop k) n : Nat) : Int)
  | 0, k => rfl
  | n + 1, k => by
    have h1 : (bs.drop k).tail = bs.drop (k + 1) := by simp
    have h2 : (bs.drop k).headD 0 = bs.getD k 0 := by simp [List.headD_eq_head?_getD, List.getD]
    simp only [rdF, leN, h1, h2, rdF_leN bs n (k + 1)]
    unfold bF
    omega
theorem rdF_leN0 (bs : List Nat) (n : Nat) : rdF (bF bs) 0 n = ((leN bs n : Nat) : Int) := by rw [rdF_leN]; simp

theorem leN_lt {bs : List Nat} (h : Bn bs) (n : Nat) : leN bs n < 256 ^ n := by
  have h1 := rdF_bd (bF bs) h.bF n 0
  rw [rdF_leN0] at h1
  have : ((leN bs n : Nat) : Int) < ((256 ^ n : Nat) : Int) := by rw [Int.natCast_pow]; exact h1.2
  exact_mod_cast this

set_option maxHeartbeats 1000000 in
theorem tail_any (g o B : Nat) (F : Form) (x : InsV) (bs : List Nat) (A : Option Addr) (cap : Nat) (w : World) (hF : F.Ok) (hf : FormAt w g o F) (hb : Bn bs) (hl : bs.length = tailLen F.tail)
    (hs : SlB w A bs.length (bF bs)) (hx : InsAt w B x) (x5 : x.imm = 0) (x6 : x.disp = 0) :
    Calls Try.prog 89 #[.pointer (some ⟨g, o, none⟩), .slice A bs.length cap, .pointer (some ⟨B, 0, none⟩)] w fun e w' =>
      e = .returned (.tuple #[]) ∧ w.grownBy w' (some B) ∧ InsAt w' B { x with imm := tailImm F.tail bs, disp := tailDisp F.tail bs } := by
  have e0 : ({ x with imm := 0, disp := 0 } : InsV) = x := by
    cases x
    simp only at x5 x6
    subst x5 x6
    rfl
  have HX := Lib.hid (show InsAt w B { x with imm := 0, disp := 0 } by rw [e0]; exact hx)
  have hB := hx.1
  have hlt := hf.lt
  have c7 := hf.c7
  have hp := hF.tail
  have y5 : w.cell? ⟨B, 5, none⟩ = some (.int .u64 x.imm) := hx.cell (i := 5) (by omega)
  have y6 : w.cell? ⟨B, 6, none⟩ = some (.int .i64 x.disp) := hx.cell (i := 6) (by omega)
  have f5 := hx.frozen (i := 5) (by omega)
  have f6 := hx.frozen (i := 6) (by omega)
  have HSB := Lib.hid hb.bF
  have hrow : 0 < bs.length → ∃ b off, A = some ⟨b, off, none⟩ ∧ b < w.heap.size ∧ Row w b off bs.length (bF bs) := fun h => by
    rcases hs with h' | h'
    · omega
    · exact h'
  rcases (by omega : F.tail = 0 ∨ F.tail = 1 ∨ F.tail = 2 ∨ F.tail = 3 ∨ F.tail = 4 ∨ F.tail = 5 ∨ F.tail = 6) with e | e | e | e | e | e | e
  · replace c7 : w.cell? ⟨g, o + 7, none⟩ = some (.int .i64 0) := by rw [e] at c7; exact c7
    rw [e] at hl ⊢
    simp only [tailImm, tailDisp, tailLen] at hl ⊢
    clear hf e hF e0 hs hrow hx
    go_enter Try.func89, Try.ntmps89
    go_wp2
    exact bodyPost_end (v := .tuple #[]) (by simp [results, Try.results89, go_sem]) rfl ⟨rfl, World.grownBy.refl _ _, HX.out⟩
  · replace c7 : w.cell? ⟨g, o + 7, none⟩ = some (.int .i64 1) := by rw [e] at c7; exact c7
    rw [e] at hl ⊢
    simp only [tailImm, tailDisp, tailLen] at hl ⊢
    obtain ⟨bb, off, rfl, hltb, hr⟩ := hrow (by omega)
    have hU := u64_yes bb off bs.length cap (bF bs) 0 w (by omega) (by omega) hb.bF hr
    rw [rdF_leN0, hl, show ((0 : Nat) : Int) = 0 from rfl] at hU
    rw [hl]
    have hlt4 := leN_lt hb 8
    obtain ⟨y, hy⟩ : ∃ y, leN bs 8 = y := ⟨_, rfl⟩
    rw [hy] at hU hlt4
    rw [hy]
    have HU := Lib.hid hU
    clear hU hy hr hl
    clear hf e hF e0 hs hrow hx
    go_enter Try.func89, Try.ntmps89
    go_wp2_with fail
    refine (HU.out).mono ?_
    rintro e u ⟨rfl, rfl⟩
    go_wp2
    exact bodyPost_end (v := .tuple #[]) (by simp [results, Try.results89, go_sem]) rfl ⟨rfl, set_grown w B 5 _, InsAt.imm HX.out y⟩
  · replace c7 : w.cell? ⟨g, o + 7, none⟩ = some (.int .i64 2) := by rw [e] at c7; exact c7
    rw [e] at hl ⊢
    simp only [tailImm, tailDisp, tailLen] at hl ⊢
    obtain ⟨bb, off, rfl, hltb, hr⟩ := hrow (by omega)
    have hU := u32_yes bb off bs.length cap (bF bs) 0 w (by omega) (by omega) hb.bF hr
    rw [rdF_leN0, hl, show ((0 : Nat) : Int) = 0 from rfl] at hU
    rw [hl]
    have hlt4 := leN_lt hb 4
    obtain ⟨y, hy⟩ : ∃ y, leN bs 4 = y := ⟨_, rfl⟩
    rw [hy] at hU hlt4
    rw [hy]
    have HU := Lib.hid hU
    clear hU hy hr hl
    have q : IntKind.u64.wrap (y : Int) = y := by rw [IntKind.wrap_u64]; omega
    clear hf e hF e0 hs hrow hx
    go_enter Try.func89, Try.ntmps89
    go_wp2_with fail
    refine (HU.out).mono ?_
    rintro e u ⟨rfl, rfl⟩
    go_wp2
    exact bodyPost_end (v := .tuple #[]) (by simp [results, Try.results89, go_sem]) rfl ⟨rfl, set_grown w B 5 _, InsAt.imm HX.out y⟩
  · replace c7 : w.cell? ⟨g, o + 7, none⟩ = some (.int .i64 3) := by rw [e] at c7; exact c7
    rw [e] at hl ⊢
    simp only [tailImm, tailDisp, tailLen] at hl ⊢
    obtain ⟨bb, off, rfl, hltb, hr⟩ := hrow (by omega)
    obtain ⟨v, hv⟩ : ∃ v, bs.headD 0 = v := ⟨_, rfl⟩
    have hc : w.cell? ⟨bb, off, none⟩ = some (.int .u8 v) := by
      have h := hr 0 (by omega)
      have e1 : bF bs 0 = (v : Int) := by rw [← hv]; simp [bF, List.headD_eq_head?_getD, List.head?_eq_getElem?]
      rw [e1] at h
      exact h
    have hv255 : v ≤ 255 := by
      rw [← hv]
      match bs, hb with
      | [], _ => simp
      | u :: _, hb => exact hb u (by simp)
    rw [hv, hl]
    clear hv hr hl
    have q : IntKind.u64.wrap (v : Int) = v := by rw [IntKind.wrap_u64]; omega
    clear hf e hF e0 hs hrow hx
    go_enter Try.func89, Try.ntmps89
    go_wp2
    exact bodyPost_end (v := .tuple #[]) (by simp [results, Try.results89, go_sem]) rfl ⟨rfl, set_grown w B 5 _, InsAt.imm HX.out v⟩
  · replace c7 : w.cell? ⟨g, o + 7, none⟩ = some (.int .i64 4) := by rw [e] at c7; exact c7
    rw [e] at hl ⊢
    simp only [tailImm, tailDisp, tailLen] at hl ⊢
    obtain ⟨bb, off, rfl, hltb, hr⟩ := hrow (by omega)
    obtain ⟨v, hv⟩ : ∃ v, bs.headD 0 = v := ⟨_, rfl⟩
    have hc : w.cell? ⟨bb, off, none⟩ = some (.int .u8 v) := by
      have h := hr 0 (by omega)
      have e1 : bF bs 0 = (v : Int) := by rw [← hv]; simp [bF, List.headD_eq_head?_getD, List.head?_eq_getElem?]
      rw [e1] at h
      exact h
    have hv255 : v ≤ 255 := by
      rw [← hv]
      match bs, hb with
      | [], _ => simp
      | u :: _, hb => exact hb u (by simp)
    rw [hv, hl]
    clear hv hr hl
    have HS := Lib.hid (signed_any v w hv255)
    clear hf e hF e0 hs hrow hx
    go_enter Try.func89, Try.ntmps89
    go_wp2_with fail
    refine (HS.out).mono ?_
    rintro e u ⟨rfl, rfl⟩
    go_wp2
    exact bodyPost_end (v := .tuple #[]) (by simp [results, Try.results89, go_sem]) rfl ⟨rfl, set_grown w B 5 _, InsAt.imm HX.out (sgn8 v)⟩
  · replace c7 : w.cell? ⟨g, o + 7, none⟩ = some (.int .i64 5) := by rw [e] at c7; exact c7
    rw [e] at hl ⊢
    simp only [tailImm, tailDisp, tailLen] at hl ⊢
    obtain ⟨bb, off, rfl, hltb, hr⟩ := hrow (by omega)
    have hU := u32_yes bb off bs.length cap (bF bs) 0 w (by omega) (by omega) hb.bF hr
    rw [rdF_leN0, hl, show ((0 : Nat) : Int) = 0 from rfl] at hU
    rw [hl]
    have hlt4 := leN_lt hb 4
    obtain ⟨y, hy⟩ : ∃ y, leN bs 4 = y := ⟨_, rfl⟩
    rw [hy] at hU hlt4
    rw [hy]
    have HU := Lib.hid hU
    clear hU hy hr hl
    have q : IntKind.u32.wrap (y : Int) = y := by rw [IntKind.wrap_u32]; omega
    have q2 : IntKind.i32.wrap (y : Int) = i32N y := by rw [IntKind.wrap_i32]; unfold i32N; split <;> omega
    have q3 : IntKind.i64.wrap (i32N y) = i32N y := by rw [IntKind.wrap_i64]; unfold i32N; split <;> omega
    have HY := Lib.hid hlt4
    clear hlt4
    clear hf e hF e0 hs hrow hx
    go_enter Try.func89, Try.ntmps89
    go_wp2_with fail
    refine (HU.out).mono ?_
    rintro e u ⟨rfl, rfl⟩
    go_wp2
    exact bodyPost_end (v := .tuple #[]) (by simp [results, Try.results89, go_sem]) rfl ⟨rfl, set_grown w B 6 _, InsAt.disp HX.out (i32N y)⟩
  · replace c7 : w.cell? ⟨g, o + 7, none⟩ = some (.int .i64 6) := by rw [e] at c7; exact c7
    rw [e] at hl ⊢
    simp only [tailImm, tailDisp, tailLen] at hl ⊢
    obtain ⟨bb, off, rfl, hltb, hr⟩ := hrow (by omega)
    obtain ⟨v, hv⟩ : ∃ v, bs.headD 0 = v := ⟨_, rfl⟩
    have hc : w.cell? ⟨bb, off, none⟩ = some (.int .u8 v) := by
      have h := hr 0 (by omega)
      have e1 : bF bs 0 = (v : Int) := by rw [← hv]; simp [bF, List.headD_eq_head?_getD, List.head?_eq_getElem?]
      rw [e1] at h
      exact h
    have hv255 : v ≤ 255 := by
      rw [← hv]
      match bs, hb with
      | [], _ => simp
      | u :: _, hb => exact hb u (by simp)
    rw [hv, hl]
    clear hv hr hl
    have q : IntKind.i8.wrap (v : Int) = i8N v := by rw [wrap_i8]; unfold i8N; split <;> omega
    have q2 : IntKind.i64.wrap (i8N v) = i8N v := by rw [IntKind.wrap_i64]; unfold i8N; split <;> omega
    clear hf e hF e0 hs hrow hx
    go_enter Try.func89, Try.ntmps89
    go_wp2
    exact bodyPost_end (v := .tuple #[]) (by simp [results, Try.results89, go_sem]) rfl ⟨rfl, set_grown w B 6 _, InsAt.disp HX.out (i8N v)⟩
end Go.Proofs.Ythbgmlmcjnlopaa
