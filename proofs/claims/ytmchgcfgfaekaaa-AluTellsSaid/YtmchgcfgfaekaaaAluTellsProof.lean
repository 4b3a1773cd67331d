/- The law slipwaylaw14.AluTells: for every input it returns true, and its arguments read behind the call as they read before. No condition. -/
import Derived.Test.YtmchgcfgfaekaaaRows
import Derived.Test.YtmchgcfgfaekaaaAluTells
import Derived.WalkKit
import Derived.ProofKit
import Derived.OpenShut
import Derived.ShutString
import Derived.Lib.SmallJoins
namespace Go.Proofs.Ytmchgcfgfaekaaa.aluTells
open Go.ChangeShapes Go.WideShapes Go.ChangeAt Go.RowKit
set_option linter.unusedVariables false

theorem own : ownKnob Try.prog.godebug = none := by kernel_rfl
theorem cells24_ : Try.prog.cellsOf 24 = 4 := by kernel_rfl

theorem walk (a0 : Int) (w0 : (Lit.int .i64 a0).wf = true) (a1 : Int) (w1 : (Lit.int .i64 a1).wf = true) (a2 : Int) (w2 : (Lit.int .u64 a2).wf = true) (a3 : Int) (w3 : (Lit.int .u64 a3).wf = true) (b4_0 : Bool) (b4_1 : Bool) (b4_2 : Bool) (b4_3 : Bool) (w : World) :
    Calls Try.prog 4 #[.int .i64 a0, .int .i64 a1, .int .u64 a2, .int .u64 a3, .agg #[.bool b4_0, .bool b4_1, .bool b4_2, .bool b4_3]] w fun e w' => e = .returned (.bool true) ∧ Below w.heap.size w w' := by
  exact tells_law a0 a1 a2 a3 b4_0 b4_1 b4_2 b4_3 w (word_of w2) (word_of w3)

set_option maxRecDepth 100000 in
theorem lifted (os : Os) (started : os.Started) (H : Type) (enc : TypeId × Value → H) :
    ReturnsInHanded {} Try.checked os 4 .any (Rows.aluTellsSpec.pre6 enc Try.prog Try.f4 Rows.aluTellsRow.domain false) (Rows.aluTellsSpec.post enc Try.prog Try.f4 false true false false) := by
  refine returnsInHanded_of_change (C := Try.checked) own started (by kernel_rfl) Try.func4
    (ChangeSpec.witness6 (enc := enc) (C := Try.checked) false ⟨#[], #[.int .i64 0, .int .i64 0, .int .u64 0, .int .u64 0, .agg #[.bool false, .bool false, .bool false, .bool false]], []⟩ 8 (by kernel_rfl) (by kernel_rfl) (by kernel_rfl) (by kernel_rfl)) ?_
  intro W base args ds gs before hval0 hW hcnd _
  have hval : ∀ (j : Nat) t v, Try.f4.params[j]? = some t → args[j]? = some v → Value.okWide Try.prog W .any base t v := hval0
  have hW' := hW
  obtain ⟨p, q, hA0, hV, rfl, hfz, hnd⟩ := hW
  have hA : DataW.TrodAll enc Try.prog W 0 (fun _ => true) true Try.f4.params.toList args.toList ds p := hA0
  rw [Try.params4] at hA hval
  obtain ⟨v0, vs0, d0, ds0, p0, q0, hargs, rfl, rfl, h0, r0⟩ := trodAll_cons hA
  obtain ⟨v1, vs1, d1, ds1, p1, q1, rfl, rfl, rfl, h1, r1⟩ := trodAll_cons r0
  obtain ⟨v2, vs2, d2, ds2, p2, q2, rfl, rfl, rfl, h2, r2⟩ := trodAll_cons r1
  obtain ⟨v3, vs3, d3, ds3, p3, q3, rfl, rfl, rfl, h3, r3⟩ := trodAll_cons r2
  obtain ⟨v4, vs4, d4, ds4, p4, q4, rfl, rfl, rfl, h4, r4⟩ := trodAll_cons r3
  obtain ⟨rfl, rfl, rfl⟩ := trodAll_nil r4
  obtain rfl : args = #[v0, v1, v2, v3, v4] := by cases args; simp_all
  obtain ⟨rfl, rfl⟩ := trodVars_none hV
  obtain ⟨a0, rfl, rfl, rfl, w0⟩ := open_int Try.underlying3 (hval 0 3 v0 rfl rfl) h0
  obtain ⟨a1, rfl, rfl, rfl, w1⟩ := open_int Try.underlying3 (hval 1 3 v1 rfl rfl) h1
  obtain ⟨a2, rfl, rfl, rfl, w2⟩ := open_int Try.underlying22 (hval 2 22 v2 rfl rfl) h2
  obtain ⟨a3, rfl, rfl, rfl, w3⟩ := open_int Try.underlying22 (hval 3 22 v3 rfl rfl) h3
  obtain ⟨c4_0, c4_1, c4_2, c4_3, y4_0, y4_1, y4_2, y4_3, m4, rfl, rfl, rfl, hy4_0, hy4_1, hy4_2, hy4_3⟩ := Joins.open_agg4 Try.underlying24 (by kernel_rfl) cells24_ (hval 4 24 v4 rfl rfl) h4
  obtain ⟨b4_0, e4_0, rfl⟩ := DataW.trod_bool Try.underlying4 hy4_0
  obtain ⟨b4_1, e4_1, rfl⟩ := DataW.trod_bool Try.underlying4 hy4_1
  obtain ⟨b4_2, e4_2, rfl⟩ := DataW.trod_bool Try.underlying4 hy4_2
  obtain ⟨b4_3, e4_3, rfl⟩ := DataW.trod_bool Try.underlying4 hy4_3
  simp at e4_0 e4_1 e4_2 e4_3
  subst e4_0 e4_1 e4_2 e4_3
  have st4 : ∀ (W' : World) (sp : Nat → Bool), DataW.Trod enc Try.prog W' 0 sp true 24 (.agg #[.bool b4_0, .bool b4_1, .bool b4_2, .bool b4_3]) (.agg [.lit (.bool b4_0), .lit (.bool b4_1), .lit (.bool b4_2), .lit (.bool b4_3)]) [] := fun W' sp =>
    Joins.shut_agg4 (y0 := (.lit (.bool b4_0), [])) (y1 := (.lit (.bool b4_1), [])) (y2 := (.lit (.bool b4_2), [])) (y3 := (.lit (.bool b4_3), [])) Try.underlying24 (by kernel_rfl) cells24_ ⟨1, by simp [DataW.trod, Try.underlying4]⟩ ⟨1, by simp [DataW.trod, Try.underlying4]⟩ ⟨1, by simp [DataW.trod, Try.underlying4]⟩ ⟨1, by simp [DataW.trod, Try.underlying4]⟩
  clear hA0 hval0
  refine (walk a0 w0 a1 w1 a2 w2 a3 w3 b4_0 b4_1 b4_2 b4_3 W).mono fun e W' ⟨he, bel⟩ => ?_
  subst he
  exact ⟨_, rfl, _, _, _, [], _, [], hW', trodAll_mk1 (shut_bool Try.underlying4 _), (trodAll_cons_mk (shut_int Try.underlying3 w0) (trodAll_cons_mk (shut_int Try.underlying3 w1) (trodAll_cons_mk (shut_int Try.underlying22 w2) (trodAll_cons_mk (shut_int Try.underlying22 w3) (trodAll_cons_mk (st4 _ _) trodAll_mk0))))), rfl, bel.frame _, fun h => by cases h⟩

theorem over : Rows.aluTellsRow.holds Try.pinned (OpenSpec.ofChange Rows.aluTellsSpec) :=
  OpenClaim.holds_of_wide 4 Try.f4 rfl rfl rfl rfl rfl rfl rfl ⟨rfl, rfl, rfl, rfl, rfl⟩ rfl rfl rfl rfl rfl (by kernel_rfl) Try.func4 (by kernel_rfl)
    (of_decide_eq_true (by kernel_rfl)) (by unfold Func.isWrapper; first | (rw [if_pos (by decide +kernel)]; kernel_rfl) | (rw [if_neg (by decide +kernel)]; exact ⟨rfl, rfl⟩))
    (fun os started H enc _ => lifted os started H enc)

theorem proved : Rows.AluTellsSaid :=
  over
#print axioms proved
end Go.Proofs.Ytmchgcfgfaekaaa.aluTells
