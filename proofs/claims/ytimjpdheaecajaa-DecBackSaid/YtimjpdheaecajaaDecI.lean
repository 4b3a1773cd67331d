/- package dec: which instructions a form can tell. -/
import Derived.Test.YtimjpdheaecajaaDecF
import Derived.Deep.RegionWith
namespace Go.Proofs.Ytimjpdheaecajaa
open Go.ChangeShapes Go.WideShapes Go.ChangeAt Go.RowKit
set_option linter.unusedVariables false

def regOkM (r : Nat) (named : Bool) : Bool := r == 0 || (named && decide (r ≤ 15))
def immOk (t imm : Nat) : Bool :=
  match t with
  | 1 => true
  | 2 => decide (imm ≤ 4294967295)
  | 3 => decide (imm ≤ 255)
  | 4 => imm == sgn8 (imm % 256)
  | _ => imm == 0
def dispOk (t : Nat) (d : Int) : Bool :=
  match t with
  | 5 => decide (d ≥ -2147483648) && decide (d ≤ 2147483647)
  | 6 => decide (d ≥ -128) && decide (d ≤ 127)
  | _ => d == 0
def fitsM (F : Form) (x : InsV) : Bool :=
  regOkM x.a (hasA F.regs) && regOkM x.b (hasB F.regs) && !(F.regs == 4 && (x.b &&& 7) == 4) && (immOk F.tail x.imm && dispOk F.tail x.disp)

/-- What an instruction's numbers are, at most. -/
structure InsV.Ok (x : InsV) : Prop where
  op : x.op < 9223372036854775808
  a : x.a ≤ 15
  b : x.b ≤ 15
  alu : x.alu < 9223372036854775808
  cc : x.cc < 9223372036854775808
  imm : x.imm < 18446744073709551616
  d0 : -9223372036854775808 ≤ x.disp
  d1 : x.disp < 9223372036854775808

theorem regOk_any (r : Nat) (n : Bool) (w : World) (hr : r < 9223372036854775808) :
    Calls Try.prog 22 #[.int .i64 r, .bool n] w fun e w' => e = .returned (.bool (regOkM r n)) ∧ w = w' := by
  by_cases h0 : r = 0
  · subst h0
    go_enter Try.func22, Try.ntmps22
    go_wp2
    go_ret
    exact ⟨rfl, rfl⟩
  · have d : ((r : Int) == 0) = false := beq_eq_false_iff_ne.mpr (by omega)
    have d' : (r == 0) = false := by simpa using h0
    cases n
    · simp only [regOkM, d', Bool.false_and, Bool.or_false]
      go_enter Try.func22, Try.ntmps22
      go_wp2
      go_ret
      exact ⟨rfl, rfl⟩
    · by_cases h1 : r ≤ 15
      · have e1 : decide ((r : Int) ≤ 15) = true := decide_eq_true (by omega)
        have e2 : decide (r ≤ 15) = true := decide_eq_true h1
        have e3 : decide ((r : Int) > 0) = true := decide_eq_true (by omega)
        simp only [regOkM, d', Bool.true_and, Bool.false_or, e2]
        clear h1 e2 d'
        go_enter Try.func22, Try.ntmps22
        go_wp2
        go_ret
        exact ⟨rfl, rfl⟩
      · have e1 : decide ((r : Int) ≤ 15) = false := decide_eq_false (by omega)
        have e2 : decide (r ≤ 15) = false := decide_eq_false h1
        have e3 : decide ((r : Int) > 0) = true := decide_eq_true (by omega)
        simp only [regOkM, d', Bool.true_and, Bool.false_or, e2]
        clear h1 e2 d'
        go_enter Try.func22, Try.ntmps22
        go_wp2
        go_ret
        exact ⟨rfl, rfl⟩

set_option maxHeartbeats 2000000 in
theorem tailOk_any (g o : Nat) (F : Form) (x : InsV) (w : World) (hF : F.Ok) (hf : FormAt w g o F) (hx : x.Ok) :
    Calls Try.prog 25 #[.pointer (some ⟨g, o, none⟩), insV x] w fun e w' => e = .returned (.bool (immOk F.tail x.imm && dispOk F.tail x.disp)) ∧ Below w.heap.size w w' := by
  have hlt := hf.lt
  have c7 := hf.c7
  have hp := hF.tail
  have hi := hx.imm
  have hd0 := hx.d0
  have hd1 := hx.d1
  clear hf hF hx
  unfold insV
  obtain ⟨xo, xa, xb, xl, xc, xi, xd⟩ := x
  simp only at hi hd0 hd1 ⊢
  have hm : xi % 256 ≤ 255 := by omega
  rcases (by omega : F.tail = 0 ∨ F.tail = 1 ∨ F.tail = 2 ∨ F.tail = 3 ∨ F.tail = 4 ∨ F.tail = 5 ∨ F.tail = 6) with e | e | e | e | e | e | e
  · replace c7 : w.cell? ⟨g, o + 7, none⟩ = some (.int .i64 0) := by rw [e] at c7; exact c7
    rw [e]
    clear e hp
    simp only [immOk, dispOk]
    obtain ⟨Z, hZ⟩ : ∃ Z, (xi == 0) = Z := ⟨_, rfl⟩
    have kZ : ((xi : Int) == 0) = Z := by rw [← hZ, Bool.eq_iff_iff, beq_iff_eq, beq_iff_eq]; omega
    rw [hZ]
    clear hZ
    obtain ⟨Y, hY⟩ : ∃ Y, (xd == 0) = Y := ⟨_, rfl⟩
    rw [hY]
    clear hi hd0 hd1
    cases Z <;> cases Y
    all_goals
      go_enter Try.func25, Try.ntmps25
      go_wp2
      go_region
      go_wp2
      go_ret
      exact ⟨rfl, by go_grown⟩
  · replace c7 : w.cell? ⟨g, o + 7, none⟩ = some (.int .i64 1) := by rw [e] at c7; exact c7
    rw [e]
    clear e hp
    simp only [immOk, dispOk]
    obtain ⟨Z, hZ⟩ : ∃ Z, (xi == 0) = Z := ⟨_, rfl⟩
    have kZ : ((xi : Int) == 0) = Z := by rw [← hZ, Bool.eq_iff_iff, beq_iff_eq, beq_iff_eq]; omega
    clear hZ
    obtain ⟨Y, hY⟩ : ∃ Y, (xd == 0) = Y := ⟨_, rfl⟩
    rw [hY]
    clear hi hd0 hd1
    cases Y
    all_goals
      go_enter Try.func25, Try.ntmps25
      go_wp2
      go_region
      go_wp2
      go_ret
      exact ⟨rfl, by go_grown⟩
  · replace c7 : w.cell? ⟨g, o + 7, none⟩ = some (.int .i64 2) := by rw [e] at c7; exact c7
    rw [e]
    clear e hp
    simp only [immOk, dispOk]
    obtain ⟨Z, hZ⟩ : ∃ Z, (xi == 0) = Z := ⟨_, rfl⟩
    have kZ : ((xi : Int) == 0) = Z := by rw [← hZ, Bool.eq_iff_iff, beq_iff_eq, beq_iff_eq]; omega
    obtain ⟨I, hI⟩ : ∃ I, decide (xi ≤ 4294967295) = I := ⟨_, rfl⟩
    have kI : decide ((xi : Int) ≤ 4294967295) = I := by rw [← hI, Bool.eq_iff_iff, decide_eq_true_iff, decide_eq_true_iff]; omega
    rw [hI]
    clear hI
    clear hZ
    obtain ⟨Y, hY⟩ : ∃ Y, (xd == 0) = Y := ⟨_, rfl⟩
    rw [hY]
    clear hi hd0 hd1
    cases I <;> cases Y
    all_goals
      go_enter Try.func25, Try.ntmps25
      go_wp2
      go_region
      go_wp2
      go_ret
      exact ⟨rfl, by go_grown⟩
  · replace c7 : w.cell? ⟨g, o + 7, none⟩ = some (.int .i64 3) := by rw [e] at c7; exact c7
    rw [e]
    clear e hp
    simp only [immOk, dispOk]
    obtain ⟨Z, hZ⟩ : ∃ Z, (xi == 0) = Z := ⟨_, rfl⟩
    have kZ : ((xi : Int) == 0) = Z := by rw [← hZ, Bool.eq_iff_iff, beq_iff_eq, beq_iff_eq]; omega
    obtain ⟨I, hI⟩ : ∃ I, decide (xi ≤ 255) = I := ⟨_, rfl⟩
    have kI : decide ((xi : Int) ≤ 255) = I := by rw [← hI, Bool.eq_iff_iff, decide_eq_true_iff, decide_eq_true_iff]; omega
    rw [hI]
    clear hI
    clear hZ
    obtain ⟨Y, hY⟩ : ∃ Y, (xd == 0) = Y := ⟨_, rfl⟩
    rw [hY]
    clear hi hd0 hd1
    cases I <;> cases Y
    all_goals
      go_enter Try.func25, Try.ntmps25
      go_wp2
      go_region
      go_wp2
      go_ret
      exact ⟨rfl, by go_grown⟩
  · replace c7 : w.cell? ⟨g, o + 7, none⟩ = some (.int .i64 4) := by rw [e] at c7; exact c7
    rw [e]
    clear e hp
    simp only [immOk, dispOk]
    obtain ⟨Z, hZ⟩ : ∃ Z, (xi == 0) = Z := ⟨_, rfl⟩
    have kZ : ((xi : Int) == 0) = Z := by rw [← hZ, Bool.eq_iff_iff, beq_iff_eq, beq_iff_eq]; omega
    obtain ⟨m, hmm⟩ : ∃ m, xi % 256 = m := ⟨_, rfl⟩
    rw [hmm] at hm ⊢
    have q : IntKind.u8.wrap (xi : Int) = m := by rw [IntKind.wrap_u8]; omega
    obtain ⟨I, hI⟩ : ∃ I, (xi == sgn8 m) = I := ⟨_, rfl⟩
    have kI : ((xi : Int) == (sgn8 m : Int)) = I := by rw [← hI, Bool.eq_iff_iff, beq_iff_eq, beq_iff_eq]; omega
    rw [hI]
    have HS := Lib.hid (fun W => signed_any m W hm)
    clear hI hmm hm
    clear hZ
    obtain ⟨Y, hY⟩ : ∃ Y, (xd == 0) = Y := ⟨_, rfl⟩
    rw [hY]
    clear hi hd0 hd1
    cases I <;> cases Y
    all_goals
      go_enter Try.func25, Try.ntmps25
      go_wp2
      go_region
      go_wp2
      go_region_with (go_at_call 29; refine (HS.out _).mono ?_; rintro e' w' ⟨rfl, rfl⟩)
      all_goals
        go_wp2
        go_ret
        exact ⟨rfl, by go_grown⟩
  · replace c7 : w.cell? ⟨g, o + 7, none⟩ = some (.int .i64 5) := by rw [e] at c7; exact c7
    rw [e]
    clear e hp
    simp only [immOk, dispOk]
    obtain ⟨Z, hZ⟩ : ∃ Z, (xi == 0) = Z := ⟨_, rfl⟩
    have kZ : ((xi : Int) == 0) = Z := by rw [← hZ, Bool.eq_iff_iff, beq_iff_eq, beq_iff_eq]; omega
    rw [hZ]
    clear hZ
    obtain ⟨Y, hY⟩ : ∃ Y, (xd == 0) = Y := ⟨_, rfl⟩
    obtain ⟨D1, hD1⟩ : ∃ D, decide (xd ≥ -2147483648) = D := ⟨_, rfl⟩
    obtain ⟨D2, hD2⟩ : ∃ D, decide (xd ≤ 2147483647) = D := ⟨_, rfl⟩
    rw [hD1, hD2]
    clear hi hd0 hd1
    cases Z <;> cases D1 <;> cases D2
    all_goals
      go_enter Try.func25, Try.ntmps25
      go_wp2
      go_region
      go_wp2
      go_ret
      exact ⟨rfl, by go_grown⟩
  · replace c7 : w.cell? ⟨g, o + 7, none⟩ = some (.int .i64 6) := by rw [e] at c7; exact c7
    rw [e]
    clear e hp
    simp only [immOk, dispOk]
    obtain ⟨Z, hZ⟩ : ∃ Z, (xi == 0) = Z := ⟨_, rfl⟩
    have kZ : ((xi : Int) == 0) = Z := by rw [← hZ, Bool.eq_iff_iff, beq_iff_eq, beq_iff_eq]; omega
    rw [hZ]
    clear hZ
    obtain ⟨Y, hY⟩ : ∃ Y, (xd == 0) = Y := ⟨_, rfl⟩
    obtain ⟨D1, hD1⟩ : ∃ D, decide (xd ≥ -128) = D := ⟨_, rfl⟩
    obtain ⟨D2, hD2⟩ : ∃ D, decide (xd ≤ 127) = D := ⟨_, rfl⟩
    rw [hD1, hD2]
    clear hi hd0 hd1
    cases Z <;> cases D1 <;> cases D2
    all_goals
      go_enter Try.func25, Try.ntmps25
      go_wp2
      go_region
      go_wp2
      go_ret
      exact ⟨rfl, by go_grown⟩
end Go.Proofs.Ytimjpdheaecajaa
