/- The law slipwaylaw8.ImpsBack: for every input it returns true, and its arguments read behind the call as they read before. No condition. -/
import Derived.Test.YtbjabncefhgefaaRows
import Derived.Test.YtbjabncefhgefaaMgH
import Derived.WalkKit
import Derived.ProofKit
import Derived.OpenShut
import Derived.ShutString
import Derived.ChangeOld
import Derived.Below
import Derived.Lib.SmallJoins
import Derived.Deep.Slices
import Derived.Deep.Strs
import Derived.ChangeSame
namespace Go.Proofs.Ytbjabncefhgefaa.impsBack
open Go.ChangeShapes Go.WideShapes Go.ChangeAt Go.RowKit
open Go.ChangeMaps (open_string shut_string)
set_option linter.unusedVariables false

theorem own : ownKnob Try.prog.godebug = none := by kernel_rfl
theorem laidOut : laidOutB Try.prog = true := by kernel_rfl

theorem cellsPI_ : Try.prog.cellsOf 66 = 2 := by kernel_rfl
theorem cellsSY_ : Try.prog.cellsOf 50 = 3 := by kernel_rfl
def strO : Option Value → ByteArray
  | some (.string s) => s
  | _ => ByteArray.empty
def intO : Option Value → Int
  | some (.int _ n) => n
  | _ => 0
def boolO : Option Value → Bool
  | some (.bool b) => b
  | _ => false
def slO : Option Value → Option Addr × Nat × Nat
  | some (.slice a n c) => (a, n, c)
  | _ => (none, 0, 0)
/-- What lies there. -/
def pimpsOf (w : World) (x : Addr) : ImpIn where
  D := fun i => strO (w.cell? (x.add (i * 2)))
  M := fun i => (slO (w.cell? (x.add (i * 2 + 1)))).2.1
  SA := fun i => (slO (w.cell? (x.add (i * 2 + 1)))).1
  SC := fun i => (slO (w.cell? (x.add (i * 2 + 1)))).2.2
  T := fun i j => match (slO (w.cell? (x.add (i * 2 + 1)))).1 with
    | some y => strO (w.cell? (y.add (j * 3)))
    | none => ByteArray.empty
  O := fun i j => match (slO (w.cell? (x.add (i * 2 + 1)))).1 with
    | some y => intO (w.cell? (y.add (j * 3 + 1)))
    | none => 0
  Y := fun i j => match (slO (w.cell? (x.add (i * 2 + 1)))).1 with
    | some y => boolO (w.cell? (y.add (j * 3 + 2)))
    | none => false
/-- What the walk is told of a slice of descriptors that came in. -/
def IsPimps (w : World) (a : Option Addr) (len cap : Nat) (X : ImpIn) : Prop :=
  (a = none ∧ len = 0 ∧ cap = 0) ∨
  ∃ x, a = some x ∧ len ≤ cap ∧ cap ≤ maxLen ∧ ∀ i, i < len → w.cell? (x.add (i * 2)) = some (.string (X.D i)) ∧ w.cell? (x.add (i * 2 + 1)) = some (.slice (X.SA i) (X.M i) (X.SC i)) ∧ (X.D i).size ≤ maxLen ∧ X.M i ≤ maxLen ∧
    (X.M i = 0 ∨ ∃ y, X.SA i = some y ∧ ∀ j, j < X.M i → w.cell? (y.add (j * 3)) = some (.string (X.T i j)) ∧ w.cell? (y.add (j * 3 + 1)) = some (.int .i64 (X.O i j)) ∧ w.cell? (y.add (j * 3 + 2)) = some (.bool (X.Y i j)) ∧ (X.T i j).size ≤ maxLen)

theorem walk (w : World) (a0 : Option Addr) (len0 cap0 : Nat) (X0 : ImpIn) (w0 : IsPimps w a0 len0 cap0 X0) (b1 : Bool) :
    Calls Try.prog 9 #[.slice a0 len0 cap0, .bool b1] w fun e w' => e = .returned (.bool true) ∧ Below w.heap.size w w' := by
  have hadd : ∀ (b off k : Nat), (⟨b, off, none⟩ : Addr).add k = ⟨b, off + k, none⟩ := fun b off k => by unfold Addr.add; split <;> simp_all
  have hlt : ∀ (b o : Nat) (v : Value), w.cell? ⟨b, o, none⟩ = some v → b < w.heap.size := fun b o v h => cell_lt h
  have hK : len0 ≤ 9223372036854775807 ∧ InAt w a0 len0 X0 := by
    rcases w0 with ⟨rfl, rfl, rfl⟩ | ⟨x, rfl, hl, hm, hc⟩
    · exact ⟨by omega, .inl rfl⟩
    · refine ⟨by unfold maxLen at hm; omega, ?_⟩
      rcases Nat.eq_zero_or_pos len0 with h0 | h0
      · exact .inl h0
      · obtain ⟨b, off, spot⟩ := x
        have hspot : spot = none := by simpa [Addr.add] using World.cell?_spot (hc 0 (by omega)).1
        subst hspot
        have c0 := (hc 0 (by omega)).1
        rw [hadd] at c0
        refine .inr ⟨b, off, rfl, hlt _ _ _ c0, fun i hi => ?_⟩
        obtain ⟨h1, h2, h3, h4, h5⟩ := hc i hi
        rw [hadd] at h1 h2
        unfold maxLen at h3 h4
        refine ⟨h1, h2, h3, h4, ?_⟩
        rcases h5 with h5 | ⟨y, hy, h5⟩
        · exact .inl h5
        · rcases Nat.eq_zero_or_pos (X0.M i) with h6 | h6
          · exact .inl h6
          · obtain ⟨b', off', spot'⟩ := y
            have hspot : spot' = none := by simpa [Addr.add] using World.cell?_spot (h5 0 h6).1
            subst hspot
            have c1 := (h5 0 h6).1
            rw [hadd] at c1
            refine .inr ⟨b', off', hy, hlt _ _ _ c1, fun j hj => ?_⟩
            obtain ⟨k1, k2, k3, k4⟩ := h5 j hj
            rw [hadd] at k1 k2 k3
            unfold maxLen at k4
            exact ⟨k1, k2, k3, k4⟩
  exact iback_any a0 len0 cap0 X0 b1 w hK.2 hK.1

set_option maxRecDepth 100000 in
theorem lifted (os : Os) (started : os.Started) (H : Type) (enc : TypeId × Value → H) :
    ReturnsInHanded {} Try.checked os 9 .any (Rows.impsBackSpec.pre6 enc Try.prog Try.f9 Rows.impsBackRow.domain false) (Rows.impsBackSpec.post enc Try.prog Try.f9 false true false false) := by
  refine returnsInHanded_of_change (C := Try.checked) own started (by kernel_rfl) Try.func9
    (ChangeSpec.witness6 (enc := enc) (C := Try.checked) false ⟨#[], #[.slice none 0 0, .bool false], []⟩ 8 (by kernel_rfl) (by kernel_rfl) (by kernel_rfl) (by kernel_rfl)) ?_
  intro W base args ds gs before hval0 hW hcnd _
  have hval : ∀ (j : Nat) t v, Try.f9.params[j]? = some t → args[j]? = some v → Value.okWide Try.prog W .any base t v := hval0
  have hW' := hW
  obtain ⟨p, q, hA0, hV, rfl, hfz, hnd⟩ := hW
  have hA : DataW.TrodAll enc Try.prog W 0 (fun _ => true) true Try.f9.params.toList args.toList ds p := hA0
  rw [Try.params9] at hA hval
  obtain ⟨v0, vs0, d0, ds0, p0, q0, hargs, rfl, rfl, h0, r0⟩ := trodAll_cons hA
  obtain ⟨v1, vs1, d1, ds1, p1, q1, rfl, rfl, rfl, h1, r1⟩ := trodAll_cons r0
  obtain ⟨rfl, rfl, rfl⟩ := trodAll_nil r1
  obtain rfl : args = #[v0, v1] := by cases args; simp_all
  obtain ⟨rfl, rfl⟩ := trodVars_none hV
  obtain ⟨a0, len0, cap0, rfl⟩ := okWide_slice Try.underlying63 (hval 0 63 v0 rfl rfl)
  have k0 := h0
  have lt0 : ∀ x ∈ p0, x.block < W.heap.size := by obtain ⟨m, hm⟩ := k0; exact DataW.trod_lt m _ _ _ hm
  obtain ⟨X0, w0⟩ : ∃ X, IsPimps W a0 len0 cap0 X := by
    obtain ⟨fuel, hf⟩ := h0
    rcases Deep.open_slice Try.underlying63 hf with ⟨hcs, _⟩ | ⟨x, l, c, m, k, D, Pl, hcs, _, hl, hm, hmm, _, hx⟩
    · simp [Value.cells] at hcs
      obtain ⟨rfl, rfl, rfl⟩ := hcs
      exact ⟨pimpsOf W ⟨0, 0, none⟩, .inl ⟨rfl, rfl, rfl⟩⟩
    · simp [Value.cells] at hcs
      obtain ⟨rfl, rfl, rfl⟩ := hcs
      refine ⟨pimpsOf W x, .inr ⟨_, rfl, hl, hm, fun i hi => ?_⟩⟩
      obtain ⟨cs', h1, h2⟩ := hx i (by rw [hmm]; split <;> omega)
      rw [cellsPI_] at h1
      obtain ⟨_, hlen, hcell⟩ := World.cells?_some h1
      match cs', hlen with
      | [c0, c1], _ =>
        obtain ⟨y0, y1, nn, _, _, t0, t1⟩ := trod_struct2 Try.underlying66 h2
        have s0 : Try.prog.cellsOf 9 = 1 := by kernel_rfl
        have s1 : Try.prog.cellsOf 64 = 1 := by kernel_rfl
        simp only [s0, s1, List.drop_zero, List.drop_succ_cons, List.take_succ_cons, List.take_zero] at t0 t1
        obtain ⟨S, e0, _, hS⟩ := DataW.trod_string Try.underlying9 t0
        injection e0 with e0
        have g0 := hcell 0 (by omega)
        have g1 := hcell 1 (by omega)
        rw [Deep.add_add] at g0 g1
        have g0' : W.cell? (x.add (i * 2)) = some (.string S) := by rw [← e0]; simpa using g0
        rcases Deep.open_slice Try.underlying64 t1 with ⟨hcs, _⟩ | ⟨x', l', c', m', k', D', Pl', hcs, _, hl', hm', hmm', _, hx'⟩
        · injection hcs with hcs
          have g1' : W.cell? (x.add (i * 2 + 1)) = some (.slice none 0 0) := by rw [← hcs]; simpa using g1
          simp only [pimpsOf, g0', g1', strO, slO]
          exact ⟨trivial, trivial, hS, by unfold maxLen; omega, .inl trivial⟩
        · injection hcs with hcs
          have g1' : W.cell? (x.add (i * 2 + 1)) = some (.slice (some x') l' c') := by rw [← hcs]; simpa using g1
          simp only [pimpsOf, g0', g1', strO, slO]
          refine ⟨trivial, trivial, hS, by omega, .inr ⟨x', rfl, fun j hj => ?_⟩⟩
          obtain ⟨cs2, h3, h4⟩ := hx' j (by rw [hmm']; split <;> omega)
          rw [cellsSY_] at h3
          obtain ⟨_, hlen2, hcell2⟩ := World.cells?_some h3
          match cs2, hlen2 with
          | [d0, d1, d2], _ =>
            obtain ⟨z0, z1, z2, n3, _, _, u0, u1, u2⟩ := Deep.trod_struct3 Try.underlying50 h4
            have q1 : Try.prog.cellsOf 3 = 1 := by kernel_rfl
            have q2 : Try.prog.cellsOf 4 = 1 := by kernel_rfl
            simp only [s0, q1, q2, List.drop_zero, List.drop_succ_cons, List.take_succ_cons, List.take_zero] at u0 u1 u2
            obtain ⟨S2, e2, _, hS2⟩ := DataW.trod_string Try.underlying9 u0
            obtain ⟨n2, e3, _, _⟩ := DataW.trod_int Try.underlying3 u1
            obtain ⟨b2, e4, _⟩ := DataW.trod_bool Try.underlying4 u2
            injection e2 with e2
            injection e3 with e3
            injection e4 with e4
            have f0 := hcell2 0 (by omega)
            have f1 := hcell2 1 (by omega)
            have f2 := hcell2 2 (by omega)
            rw [Deep.add_add] at f0 f1 f2
            have f0' : W.cell? (x'.add (j * 3)) = some (.string S2) := by rw [← e2]; simpa using f0
            have f1' : W.cell? (x'.add (j * 3 + 1)) = some (.int .i64 n2) := by rw [← e3]; simpa using f1
            have f2' : W.cell? (x'.add (j * 3 + 2)) = some (.bool b2) := by rw [← e4]; simpa using f2
            simp only [f0', f1', f2', intO, boolO]
            exact ⟨trivial, trivial, trivial, hS2⟩
  obtain ⟨b1, rfl, rfl, rfl⟩ := open_bool Try.underlying4 (hval 1 4 v1 rfl rfl) h1
  clear hA0 hval0
  refine (walk W a0 len0 cap0 X0 w0 b1).mono fun e W' ⟨he, bel⟩ => ?_
  subst he
  exact ⟨_, rfl, _, _, _, [], _, [], hW', trodAll_mk1 (shut_bool Try.underlying4 _), (trodAll_cons_mk (Below.trod laidOut (by kernel_rfl) (of_decide_eq_true (by kernel_rfl)) k0 bel lt0) (trodAll_cons_mk (shut_bool Try.underlying4 _) trodAll_mk0)), rfl, bel.frame _, fun h => by cases h⟩

theorem over : Rows.impsBackRow.holds Try.pinned (OpenSpec.ofChange Rows.impsBackSpec) :=
  OpenClaim.holds_of_wide 9 Try.f9 rfl rfl rfl rfl rfl rfl rfl ⟨rfl, rfl, rfl, rfl, rfl⟩ rfl rfl rfl rfl rfl (by kernel_rfl) Try.func9 (by kernel_rfl)
    (of_decide_eq_true (by kernel_rfl)) (by unfold Func.isWrapper; first | (rw [if_pos (by decide +kernel)]; kernel_rfl) | (rw [if_neg (by decide +kernel)]; exact ⟨rfl, rfl⟩))
    (fun os started H enc _ => lifted os started H enc)

theorem proved : Rows.ImpsBackSaid :=
  over
#print axioms proved
end Go.Proofs.Ytbjabncefhgefaa.impsBack
