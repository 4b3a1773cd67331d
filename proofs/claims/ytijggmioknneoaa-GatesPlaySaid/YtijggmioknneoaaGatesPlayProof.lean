/- The law slipwaylaw23.GatesPlay: for every input it returns true, and its arguments read behind the call as they read before. No condition. -/
import Derived.Test.YtijggmioknneoaaRows
import Derived.Test.YtijggmioknneoaaPlayR
import Derived.WalkKit
import Derived.ProofKit
import Derived.OpenShut
import Derived.ShutString
import Derived.ChangeOld
import Derived.Below
import Derived.Lib.SmallJoins
import Derived.Deep.Slices
import Derived.Deep.Strs
import Derived.ChangeSame
import Derived.Test.YtijggmioknneoaaJoins5
namespace Go.Proofs.Ytijggmioknneoaa.gatesPlay
open Go.ChangeShapes Go.WideShapes Go.ChangeAt Go.RowKit
open Go.ChangeMaps (open_string shut_string)
set_option linter.unusedVariables false

theorem own : ownKnob Try.prog.godebug = none := by kernel_rfl
theorem laidOut : laidOutB Try.prog = true := by kernel_rfl

theorem cellsMany5_ : Try.prog.cellsOf 34 = 5 := by kernel_rfl
def numM : Option Value → Int
  | some (.int _ n) => n
  | _ => 0
/-- What the walk is told of a slice of structs of 5 integers that came in. -/
def IsMany5 (w : World) (a : Option Addr) (len cap : Nat) (Z : Nat → Nat → Int) : Prop :=
  (a = none ∧ len = 0 ∧ cap = 0) ∨
  ∃ x, a = some x ∧ len ≤ cap ∧ cap ≤ maxLen ∧ ∀ i, i < len → w.cell? (x.add (i * 5 + 0)) = some (.int .i64 (Z i 0)) ∧ w.cell? (x.add (i * 5 + 1)) = some (.int .i64 (Z i 1)) ∧ w.cell? (x.add (i * 5 + 2)) = some (.int .i64 (Z i 2)) ∧ w.cell? (x.add (i * 5 + 3)) = some (.int .i64 (Z i 3)) ∧ w.cell? (x.add (i * 5 + 4)) = some (.int .u64 (Z i 4)) ∧ (Lit.int .i64 (Z i 0)).wf = true ∧ (Lit.int .i64 (Z i 1)).wf = true ∧ (Lit.int .i64 (Z i 2)).wf = true ∧ (Lit.int .i64 (Z i 3)).wf = true ∧ (Lit.int .u64 (Z i 4)).wf = true

theorem walk (w : World) (a0 : Option Addr) (len0 cap0 : Nat) (Z0 : Nat → Nat → Int) (w0 : IsMany5 w a0 len0 cap0 Z0) :
    Calls Try.prog 3 #[.slice a0 len0 cap0] w fun e w' => e = .returned (.bool true) ∧ Below w.heap.size w w' := by
  have hmk : ∃ L : List OpV, L.length = len0 ∧ SlT opC 5 w a0 L ∧ (∀ o ∈ L, OpOk o) ∧ len0 ≤ 9223372036854775807 := by
    rcases w0 with ⟨rfl, rfl, rfl⟩ | ⟨x, rfl, hl, hm, hx⟩
    · exact ⟨[], rfl, .inl rfl, fun o h => (nomatch h), by omega⟩
    · by_cases hz : len0 = 0
      · subst hz
        exact ⟨[], rfl, .inl rfl, fun o h => (nomatch h), by omega⟩
      · obtain ⟨b, off, spot⟩ := x
        have hspot : spot = none := by
          have := (hx 0 (by omega)).1
          simpa [Addr.add] using World.cell?_spot this
        subst hspot
        refine ⟨(List.range len0).map fun i => ⟨Z0 i 0, Z0 i 1, Z0 i 2, Z0 i 3, Z0 i 4⟩, by simp, .inr ⟨b, off, rfl, World.block_lt_of_cell? w _ (hx 0 (by omega)).1, fun i hi j v hv => ?_⟩, fun o ho => ?_, by unfold maxLen at hm; omega⟩
        · have hi' : i < len0 := by simpa using hi
          obtain ⟨c0, c1, c2, c3, c4, _⟩ := hx i hi'
          rw [Addr.add_mid] at c0 c1 c2 c3 c4
          simp only [List.getElem_map, List.getElem_range] at hv
          rcases j with _ | _ | _ | _ | _ | j
          · simp [opC] at hv; subst hv; exact c0
          · simp [opC] at hv; subst hv; exact c1
          · simp [opC] at hv; subst hv; exact c2
          · simp [opC] at hv; subst hv; exact c3
          · simp [opC] at hv; subst hv; exact c4
          · simp [opC] at hv
        · obtain ⟨i, hi, rfl⟩ := List.mem_map.mp ho
          obtain ⟨_, _, _, _, _, _, f1, f2, _, _⟩ := hx i (by simpa using hi)
          simp [Lit.wf, IntKind.min, IntKind.max, IntKind.bits, IntKind.signed] at f1 f2
          exact ⟨by show _ ≤ Z0 i 1; omega, by show Z0 i 1 ≤ _; omega, by show _ ≤ Z0 i 2; omega, by show Z0 i 2 ≤ _; omega⟩
  obtain ⟨L, hL, hs, hok, hl⟩ := hmk
  exact play_core w a0 L len0 cap0 hL hl hs hok

set_option maxRecDepth 100000 in
theorem lifted (os : Os) (started : os.Started) (H : Type) (enc : TypeId × Value → H) :
    ReturnsInHanded {} Try.checked os 3 .any (Rows.gatesPlaySpec.pre6 enc Try.prog Try.f3 Rows.gatesPlayRow.domain false) (Rows.gatesPlaySpec.post enc Try.prog Try.f3 false true false false) := by
  refine returnsInHanded_of_change (C := Try.checked) own started (by kernel_rfl) Try.func3
    (ChangeSpec.witness6 (enc := enc) (C := Try.checked) false ⟨#[], #[.slice none 0 0], []⟩ 8 (by kernel_rfl) (by kernel_rfl) (by kernel_rfl) (by kernel_rfl)) ?_
  intro W base args ds gs before hval0 hW hcnd _
  have hval : ∀ (j : Nat) t v, Try.f3.params[j]? = some t → args[j]? = some v → Value.okWide Try.prog W .any base t v := hval0
  have hW' := hW
  obtain ⟨p, q, hA0, hV, rfl, hfz, hnd⟩ := hW
  have hA : DataW.TrodAll enc Try.prog W 0 (fun _ => true) true Try.f3.params.toList args.toList ds p := hA0
  rw [Try.params3] at hA hval
  obtain ⟨v0, vs0, d0, ds0, p0, q0, hargs, rfl, rfl, h0, r0⟩ := trodAll_cons hA
  obtain ⟨rfl, rfl, rfl⟩ := trodAll_nil r0
  obtain rfl : args = #[v0] := by cases args; simp_all
  obtain ⟨rfl, rfl⟩ := trodVars_none hV
  obtain ⟨a0, len0, cap0, rfl⟩ := okWide_slice Try.underlying22 (hval 0 22 v0 rfl rfl)
  have k0 := h0
  have lt0 : ∀ x ∈ p0, x.block < W.heap.size := by obtain ⟨m, hm⟩ := k0; exact DataW.trod_lt m _ _ _ hm
  obtain ⟨Z0, w0⟩ : ∃ Z, IsMany5 W a0 len0 cap0 Z := by
    obtain ⟨fuel, hf⟩ := h0
    rcases Deep.open_slice Try.underlying22 hf with ⟨hcs, _⟩ | ⟨x, l, c, m, k, D, Pl, hcs, _, hl, hm, hmm, _, hx⟩
    · simp [Value.cells] at hcs
      obtain ⟨rfl, rfl, rfl⟩ := hcs
      exact ⟨fun _ _ => 0, .inl ⟨rfl, rfl, rfl⟩⟩
    · simp [Value.cells] at hcs
      obtain ⟨rfl, rfl, rfl⟩ := hcs
      refine ⟨fun i j => numM (W.cell? (x.add (i * 5 + j))), .inr ⟨_, rfl, hl, hm, fun i hi => ?_⟩⟩
      obtain ⟨cs', h1, h2⟩ := hx i (by rw [hmm]; split <;> omega)
      rw [cellsMany5_] at h1
      obtain ⟨_, hlen, hcell⟩ := World.cells?_some h1
      match cs', hlen with
      | [c0, c1, c2, c3, c4], _ =>
        obtain ⟨y0, y1, y2, y3, y4, nn, _, _, t0, t1, t2, t3, t4⟩ := struct_opened5 Try.underlying34 h2
        have s0 : Try.prog.cellsOf 3 = 1 := by kernel_rfl
        have s1 : Try.prog.cellsOf 3 = 1 := by kernel_rfl
        have s2 : Try.prog.cellsOf 3 = 1 := by kernel_rfl
        have s3 : Try.prog.cellsOf 3 = 1 := by kernel_rfl
        have s4 : Try.prog.cellsOf 30 = 1 := by kernel_rfl
        simp only [s0, s1, s2, s3, s4, List.drop_zero, List.drop_succ_cons, List.take_succ_cons, List.take_zero] at t0 t1 t2 t3 t4
        obtain ⟨n0, e0, _, f0⟩ := DataW.trod_int Try.underlying3 t0
        obtain ⟨n1, e1, _, f1⟩ := DataW.trod_int Try.underlying3 t1
        obtain ⟨n2, e2, _, f2⟩ := DataW.trod_int Try.underlying3 t2
        obtain ⟨n3, e3, _, f3⟩ := DataW.trod_int Try.underlying3 t3
        obtain ⟨n4, e4, _, f4⟩ := DataW.trod_int Try.underlying30 t4
        injection e0 with e0
        injection e1 with e1
        injection e2 with e2
        injection e3 with e3
        injection e4 with e4
        have g0 := hcell 0 (by omega)
        have g1 := hcell 1 (by omega)
        have g2 := hcell 2 (by omega)
        have g3 := hcell 3 (by omega)
        have g4 := hcell 4 (by omega)
        rw [Deep.add_add] at g0 g1 g2 g3 g4
        have g0' : W.cell? (x.add (i * 5 + 0)) = some (.int .i64 n0) := by rw [← e0]; simpa using g0
        have g1' : W.cell? (x.add (i * 5 + 1)) = some (.int .i64 n1) := by rw [← e1]; simpa using g1
        have g2' : W.cell? (x.add (i * 5 + 2)) = some (.int .i64 n2) := by rw [← e2]; simpa using g2
        have g3' : W.cell? (x.add (i * 5 + 3)) = some (.int .i64 n3) := by rw [← e3]; simpa using g3
        have g4' : W.cell? (x.add (i * 5 + 4)) = some (.int .u64 n4) := by rw [← e4]; simpa using g4
        simp only [g0', g1', g2', g3', g4', numM]
        exact ⟨trivial, trivial, trivial, trivial, trivial, f0, f1, f2, f3, f4⟩
  clear hA0 hval0
  refine (walk W a0 len0 cap0 Z0 w0).mono fun e W' ⟨he, bel⟩ => ?_
  subst he
  exact ⟨_, rfl, _, _, _, [], _, [], hW', trodAll_mk1 (shut_bool Try.underlying4 _), (trodAll_cons_mk (Below.trod laidOut (by kernel_rfl) (of_decide_eq_true (by kernel_rfl)) k0 bel lt0) trodAll_mk0), rfl, bel.frame _, fun h => by cases h⟩

theorem over : Rows.gatesPlayRow.holds Try.pinned (OpenSpec.ofChange Rows.gatesPlaySpec) :=
  OpenClaim.holds_of_wide 3 Try.f3 rfl rfl rfl rfl rfl rfl rfl ⟨rfl, rfl, rfl, rfl, rfl⟩ rfl rfl rfl rfl rfl (by kernel_rfl) Try.func3 (by kernel_rfl)
    (of_decide_eq_true (by kernel_rfl)) (by unfold Func.isWrapper; first | (rw [if_pos (by decide +kernel)]; kernel_rfl) | (rw [if_neg (by decide +kernel)]; exact ⟨rfl, rfl⟩))
    (fun os started H enc _ => lifted os started H enc)

theorem proved : Rows.GatesPlaySaid :=
  over
#print axioms proved
end Go.Proofs.Ytijggmioknneoaa.gatesPlay
