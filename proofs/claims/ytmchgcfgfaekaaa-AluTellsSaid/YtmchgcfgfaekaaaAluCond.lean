/- The contracts of alu.Cond, and of what the document fixes of package alu. -/
import Derived.Test.YtmchgcfgfaekaaaAluInc
namespace Go.Proofs.Ytmchgcfgfaekaaa
open Go.ChangeShapes Go.WideShapes Go.ChangeAt Go.RowKit
set_option linter.unusedVariables false

theorem cond_nb (z s c o : Bool) (w : World) : Calls Try.prog 11 #[.int .i64 3, .agg #[.bool z, .bool s, .bool c, .bool o]] w fun e w' => e = .returned (.bool (!c)) ∧ Below w.heap.size w w' := by
  go_enter Try.func11, Try.ntmps11
  go_wp2
  go_ret
  exact ⟨rfl, by go_grown⟩

theorem cond_e (z s c o : Bool) (w : World) : Calls Try.prog 11 #[.int .i64 4, .agg #[.bool z, .bool s, .bool c, .bool o]] w fun e w' => e = .returned (.bool (z)) ∧ Below w.heap.size w w' := by
  go_enter Try.func11, Try.ntmps11
  go_wp2
  go_ret
  exact ⟨rfl, by go_grown⟩

theorem cond_ne (z s c o : Bool) (w : World) : Calls Try.prog 11 #[.int .i64 5, .agg #[.bool z, .bool s, .bool c, .bool o]] w fun e w' => e = .returned (.bool (!z)) ∧ Below w.heap.size w w' := by
  go_enter Try.func11, Try.ntmps11
  go_wp2
  go_ret
  exact ⟨rfl, by go_grown⟩

theorem cond_s (z s c o : Bool) (w : World) : Calls Try.prog 11 #[.int .i64 8, .agg #[.bool z, .bool s, .bool c, .bool o]] w fun e w' => e = .returned (.bool (s)) ∧ Below w.heap.size w w' := by
  go_enter Try.func11, Try.ntmps11
  go_wp2
  go_ret
  exact ⟨rfl, by go_grown⟩

theorem cond_ns (z s c o : Bool) (w : World) : Calls Try.prog 11 #[.int .i64 9, .agg #[.bool z, .bool s, .bool c, .bool o]] w fun e w' => e = .returned (.bool (!s)) ∧ Below w.heap.size w w' := by
  go_enter Try.func11, Try.ntmps11
  go_wp2
  go_ret
  exact ⟨rfl, by go_grown⟩

theorem cond_nl (z s c o : Bool) (w : World) : Calls Try.prog 11 #[.int .i64 13, .agg #[.bool z, .bool s, .bool c, .bool o]] w fun e w' => e = .returned (.bool (s == o)) ∧ Below w.heap.size w w' := by
  go_enter Try.func11, Try.ntmps11
  go_wp2
  go_ret
  exact ⟨rfl, by go_grown⟩

theorem cond_one (z s c o : Bool) (w : World) : Calls Try.prog 11 #[.int .i64 1, .agg #[.bool z, .bool s, .bool c, .bool o]] w fun e w' => e = .returned (.bool (false)) ∧ Below w.heap.size w w' := by
  go_enter Try.func11, Try.ntmps11
  go_wp2
  go_ret
  exact ⟨rfl, by go_grown⟩

/-- A world with a block of flags, and one more block behind it. -/
theorem Blk.ahead {w : World} {B : Nat} {z s c o : Bool} (h : Blk w B z s c o) (hB : B < w.heap.size) (X : Obj) : Blk (w.alloc X) B z s c o :=
  h.below ((Below.refl (B + 1) w).alloc hB X) (Nat.lt_succ_self B)

theorem word_max : Word 18446744073709551615 := ⟨by omega, by omega⟩
theorem word_0 : Word 0 := ⟨by omega, by omega⟩
theorem word_1 : Word 1 := ⟨by omega, by omega⟩

theorem awake_any (w : World) : Calls Try.prog 9 #[] w fun e w' => e = .returned (.bool true) ∧ Below w.heap.size w w' := by
  have hF : addF 18446744073709551615 1 0 = .agg #[.bool true, .bool false, .bool true, .bool false] := by simp [addF, hiB]
  go_enter Try.func9, Try.ntmps9
  go_wp2_with fail
  refine (do_add 18446744073709551615 1 0 false false false false true false true false _ word_max word_1 word_0 (by decide) hF).mono ?_
  rintro e w1 ⟨rfl, hb1⟩
  go_wp2_with fail
  obtain ⟨m0, m1, m2, m3, n0, n1, n2, n3⟩ := Blk.new w1 true false true false 24
  have hb2 : Below w.heap.size w (w1.alloc (Obj.cells #[.bool true, .bool false, .bool true, .bool false] 24)) := hb1.alloc hb1.size _
  have hs : (w1.alloc (Obj.cells #[.bool true, .bool false, .bool true, .bool false] 24)).heap.size = w1.heap.size + 1 := by simp
  have hs1 := hb1.size
  clear hF
  generalize w1.alloc (Obj.cells #[.bool true, .bool false, .bool true, .bool false] 24) = W at *
  refine (cond_b true false true false _).mono ?_
  rintro e w2 ⟨rfl, hb3⟩
  have K := (Blk.mk m0 m1 m2 m3 n0 n1 n2 n3).below hb3 (by omega)
  have hb4 : Below w.heap.size w w2 := hb2.trans (hb3.mono (by omega))
  clear hb3 hb2 hb1 m0 m1 m2 m3 n0 n1 n2 n3
  obtain ⟨m0, m1, m2, m3, n0, n1, n2, n3⟩ := K
  go_wp2_with fail
  refine (cond_ne true false true false _).mono ?_
  rintro e w3 ⟨rfl, hb5⟩
  have hb6 : Below w.heap.size w w3 := hb4.trans (hb5.mono hb4.size)
  clear hb4 hb5
  go_wp2
  go_ret
  exact ⟨rfl, by go_grown⟩

theorem wrap64_neg (a : Int) (ha : Word a) : decide (wrap64 a < 0) = hiB a := by
  have h1 := ha.low
  have h2 := ha.high
  unfold wrap64 hiB
  rw [decide_eq_decide]
  omega

theorem word_of {a : Int} (h : (Lit.int .u64 a).wf = true) : Word a := by
  simp [Lit.wf, IntKind.min, IntKind.max, IntKind.bits, IntKind.signed] at h
  exact ⟨by omega, by omega⟩

theorem subZ (a b : Int) (ha : Word a) (hb : Word b) : (IntKind.u64.wrap (a - b) == 0) = (a == b) := by
  have h1 := ha.low
  have h2 := ha.high
  have h3 := hb.low
  have h4 := hb.high
  rw [IntKind.wrap_u64, Bool.eq_iff_iff, beq_iff_eq, beq_iff_eq]
  omega

end Go.Proofs.Ytmchgcfgfaekaaa
