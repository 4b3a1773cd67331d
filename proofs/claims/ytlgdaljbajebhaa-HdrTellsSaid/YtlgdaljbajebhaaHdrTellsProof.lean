/- The law slipwaylaw5.HdrTells: for every input it returns true, and its arguments read behind the call as they read before. No condition. -/
import Derived.Test.YtlgdaljbajebhaaRows
import Derived.Test.YtlgdaljbajebhaaMgC
import Derived.WalkKit
import Derived.ProofKit
import Derived.OpenShut
import Derived.ShutString
import Derived.ChangeOld
import Derived.Below
import Derived.Lib.SmallJoins
import Derived.Deep.Slices
import Derived.Laws.IdiomArrays
import Derived.Deep.Slices
import Derived.Deep.Strs
namespace Go.Proofs.Ytlgdaljbajebhaa.hdrTells
open Go.ChangeShapes Go.WideShapes Go.ChangeAt Go.RowKit
open Go.ChangeMaps (open_string shut_string)
set_option linter.unusedVariables false

theorem own : ownKnob Try.prog.godebug = none := by kernel_rfl
theorem laidOut : laidOutB Try.prog = true := by kernel_rfl

/-- What the walk is told of a slice of integers that came in. -/
def IsRow (k : IntKind) (w : World) (a : Option Addr) (len cap : Nat) (zs : List Int) : Prop :=
  (a = none ∧ len = 0 ∧ cap = 0 ∧ zs = []) ∨
  ∃ x, a = some x ∧ len ≤ cap ∧ cap ≤ maxLen ∧ zs.length = cap ∧ (∀ i, i < zs.length → w.cell? (x.add i) = some (.int k (zs.getD i 0))) ∧ ∀ n ∈ zs, (Lit.int k n).wf = true
theorem cells3_ : Try.prog.cellsOf 59 = 3 := by kernel_rfl
def numO : Option Value → Int
  | some (.int _ n) => n
  | _ => 0
/-- What the walk is told of a slice of triples of integers that came in. -/
def IsTrips (w : World) (a : Option Addr) (len cap : Nat) (zs : List (Int × Int × Int)) : Prop :=
  (a = none ∧ len = 0 ∧ cap = 0 ∧ zs = []) ∨
  ∃ x, a = some x ∧ len ≤ cap ∧ cap ≤ maxLen ∧ zs.length = cap ∧ ∀ i (h : i < zs.length), w.cell? (x.add (i * 3)) = some (.int .i64 zs[i].1) ∧ w.cell? (x.add (i * 3 + 1)) = some (.int .i64 zs[i].2.1) ∧ w.cell? (x.add (i * 3 + 2)) = some (.int .i64 zs[i].2.2)
theorem cells3s_ : Try.prog.cellsOf 61 = 3 := by kernel_rfl
def numO3 : Option Value → Int
  | some (.int _ n) => n
  | _ => 0
/-- What the walk is told of a slice of structs of three integers that came in. -/
def IsThrees (k0 k1 k2 : IntKind) (w : World) (a : Option Addr) (len cap : Nat) (zs : List (Int × Int × Int)) : Prop :=
  (a = none ∧ len = 0 ∧ cap = 0 ∧ zs = []) ∨
  ∃ x, a = some x ∧ len ≤ cap ∧ cap ≤ maxLen ∧ zs.length = cap ∧ ∀ i (h : i < zs.length), w.cell? (x.add (i * 3)) = some (.int k0 zs[i].1) ∧ w.cell? (x.add (i * 3 + 1)) = some (.int k1 zs[i].2.1) ∧ w.cell? (x.add (i * 3 + 2)) = some (.int k2 zs[i].2.2) ∧ (Lit.int k0 zs[i].1).wf = true ∧ (Lit.int k1 zs[i].2.1).wf = true ∧ (Lit.int k2 zs[i].2.2).wf = true

theorem walk (w : World) (a0 : Option Addr) (len0 cap0 : Nat) (z0 : List Int) (w0 : IsRow .u8 w a0 len0 cap0 z0) (a1 : Option Addr) (len1 cap1 : Nat) (z1 : List (Int × Int × Int)) (w1 : IsTrips w a1 len1 cap1 z1) (a2 : Option Addr) (len2 cap2 : Nat) (z2 : List (Int × Int × Int)) (w2 : IsThrees .i64 .i64 .u64 w a2 len2 cap2 z2) (a3 : Int) (w3 : (Lit.int .i64 a3).wf = true) :
    Calls Try.prog 5 #[.slice a0 len0 cap0, .slice a1 len1 cap1, .slice a2 len2 cap2, .int .i64 a3] w fun e w' => e = .returned (.bool true) ∧ Below w.heap.size w w' := by
  obtain ⟨g1, g2, g3, g4⟩ := sl_of w0
  obtain ⟨h1, h2, h3⟩ := slT_trips w1
  obtain ⟨k1, k2, k3, k4⟩ := slT_turns w2
  have h := tells_walk (fun S W hs => rhead_any S W hs) a0 len0 cap0 (litF z0) a1 (z1.take len1) cap1 a2 (z2.take len2) cap2 a3 w g4 g3 g1 g2 h3 k3 k4 (by rw [k1]; exact k2)
  rw [h1, k1] at h
  exact h

set_option maxRecDepth 100000 in
theorem lifted (os : Os) (started : os.Started) (H : Type) (enc : TypeId × Value → H) :
    ReturnsInHanded {} Try.checked os 5 .any (Rows.hdrTellsSpec.pre6 enc Try.prog Try.f5 Rows.hdrTellsRow.domain false) (Rows.hdrTellsSpec.post enc Try.prog Try.f5 false true false false) := by
  refine returnsInHanded_of_change (C := Try.checked) own started (by kernel_rfl) Try.func5
    (ChangeSpec.witness6 (enc := enc) (C := Try.checked) false ⟨#[], #[.slice none 0 0, .slice none 0 0, .slice none 0 0, .int .i64 0], []⟩ 8 (by kernel_rfl) (by kernel_rfl) (by kernel_rfl) (by kernel_rfl)) ?_
  intro W base args ds gs before hval0 hW hcnd _
  have hval : ∀ (j : Nat) t v, Try.f5.params[j]? = some t → args[j]? = some v → Value.okWide Try.prog W .any base t v := hval0
  have hW' := hW
  obtain ⟨p, q, hA0, hV, rfl, hfz, hnd⟩ := hW
  have hA : DataW.TrodAll enc Try.prog W 0 (fun _ => true) true Try.f5.params.toList args.toList ds p := hA0
  rw [Try.params5] at hA hval
  obtain ⟨v0, vs0, d0, ds0, p0, q0, hargs, rfl, rfl, h0, r0⟩ := trodAll_cons hA
  obtain ⟨v1, vs1, d1, ds1, p1, q1, rfl, rfl, rfl, h1, r1⟩ := trodAll_cons r0
  obtain ⟨v2, vs2, d2, ds2, p2, q2, rfl, rfl, rfl, h2, r2⟩ := trodAll_cons r1
  obtain ⟨v3, vs3, d3, ds3, p3, q3, rfl, rfl, rfl, h3, r3⟩ := trodAll_cons r2
  obtain ⟨rfl, rfl, rfl⟩ := trodAll_nil r3
  obtain rfl : args = #[v0, v1, v2, v3] := by cases args; simp_all
  obtain ⟨rfl, rfl⟩ := trodVars_none hV
  obtain ⟨a0, len0, cap0, rfl⟩ := okWide_slice Try.underlying23 (hval 0 23 v0 rfl rfl)
  have k0 := h0
  have lt0 : ∀ x ∈ p0, x.block < W.heap.size := by obtain ⟨m, hm⟩ := k0; exact DataW.trod_lt m _ _ _ hm
  obtain ⟨z0, w0⟩ : ∃ zs, IsRow .u8 W a0 len0 cap0 zs := by
    obtain ⟨fuel, hf⟩ := h0
    rcases open_ints Try.underlying23 Try.underlying5 (by kernel_rfl) hf with ⟨hcs, _⟩ | ⟨x, l, c, zs, hcs, _, hl, hm, hz, _, hcell, hwz⟩
    · simp [Value.cells] at hcs
      obtain ⟨rfl, rfl, rfl⟩ := hcs
      exact ⟨[], .inl ⟨rfl, rfl, rfl, rfl⟩⟩
    · simp [Value.cells] at hcs
      obtain ⟨rfl, rfl, rfl⟩ := hcs
      exact ⟨zs, .inr ⟨_, rfl, hl, hm, by simpa using hz, hcell, hwz⟩⟩
  obtain ⟨a1, len1, cap1, rfl⟩ := okWide_slice Try.underlying22 (hval 1 22 v1 rfl rfl)
  have k1 := h1
  have lt1 : ∀ x ∈ p1, x.block < W.heap.size := by obtain ⟨m, hm⟩ := k1; exact DataW.trod_lt m _ _ _ hm
  obtain ⟨z1, w1⟩ : ∃ zs, IsTrips W a1 len1 cap1 zs := by
    obtain ⟨fuel, hf⟩ := h1
    rcases Deep.open_slice Try.underlying22 hf with ⟨hcs, _⟩ | ⟨x, l, c, m, k, D, Pl, hcs, _, hl, hm, hmm, _, hx⟩
    · simp [Value.cells] at hcs
      obtain ⟨rfl, rfl, rfl⟩ := hcs
      exact ⟨[], .inl ⟨rfl, rfl, rfl, rfl⟩⟩
    · simp [Value.cells] at hcs
      obtain ⟨rfl, rfl, rfl⟩ := hcs
      refine ⟨(List.range m).map fun i => (numO (W.cell? (x.add (i * 3))), numO (W.cell? (x.add (i * 3 + 1))), numO (W.cell? (x.add (i * 3 + 2)))), .inr ⟨_, rfl, hl, hm, by simpa using hmm, fun i hi => ?_⟩⟩
      have hi' : i < m := by simpa using hi
      obtain ⟨cs', h1, h2⟩ := hx i hi'
      rw [cells3_] at h1
      obtain ⟨_, hlen, hcell⟩ := World.cells?_some h1
      match cs', hlen with
      | [c0, c1, c2], _ =>
        obtain ⟨y0, y1, y2, nn, _, t0, t1, t2⟩ := trod_array3 Try.underlying59 (by kernel_rfl) h2
        obtain ⟨n0, e0, _, _⟩ := DataW.trod_int Try.underlying3 t0
        obtain ⟨n1, e1, _, _⟩ := DataW.trod_int Try.underlying3 t1
        obtain ⟨n2, e2, _, _⟩ := DataW.trod_int Try.underlying3 t2
        injection e0 with e0
        injection e1 with e1
        injection e2 with e2
        have g0 := hcell 0 (by omega)
        have g1 := hcell 1 (by omega)
        have g2 := hcell 2 (by omega)
        rw [Deep.add_add] at g0 g1 g2
        have g0' : W.cell? (x.add (i * 3)) = some (.int .i64 n0) := by rw [← e0]; simpa using g0
        have g1' : W.cell? (x.add (i * 3 + 1)) = some (.int .i64 n1) := by rw [← e1]; simpa using g1
        have g2' : W.cell? (x.add (i * 3 + 2)) = some (.int .i64 n2) := by rw [← e2]; simpa using g2
        simp only [List.getElem_map, List.getElem_range, g0', g1', g2', numO, and_self]
  obtain ⟨a2, len2, cap2, rfl⟩ := okWide_slice Try.underlying41 (hval 2 41 v2 rfl rfl)
  have k2 := h2
  have lt2 : ∀ x ∈ p2, x.block < W.heap.size := by obtain ⟨m, hm⟩ := k2; exact DataW.trod_lt m _ _ _ hm
  obtain ⟨z2, w2⟩ : ∃ zs, IsThrees .i64 .i64 .u64 W a2 len2 cap2 zs := by
    obtain ⟨fuel, hf⟩ := h2
    rcases Deep.open_slice Try.underlying41 hf with ⟨hcs, _⟩ | ⟨x, l, c, m, k, D, Pl, hcs, _, hl, hm, hmm, _, hx⟩
    · simp [Value.cells] at hcs
      obtain ⟨rfl, rfl, rfl⟩ := hcs
      exact ⟨[], .inl ⟨rfl, rfl, rfl, rfl⟩⟩
    · simp [Value.cells] at hcs
      obtain ⟨rfl, rfl, rfl⟩ := hcs
      refine ⟨(List.range m).map fun i => (numO3 (W.cell? (x.add (i * 3))), numO3 (W.cell? (x.add (i * 3 + 1))), numO3 (W.cell? (x.add (i * 3 + 2)))), .inr ⟨_, rfl, hl, hm, by simpa using hmm, fun i hi => ?_⟩⟩
      have hi' : i < m := by simpa using hi
      obtain ⟨cs', h1, h2⟩ := hx i hi'
      rw [cells3s_] at h1
      obtain ⟨_, hlen, hcell⟩ := World.cells?_some h1
      match cs', hlen with
      | [c0, c1, c2], _ =>
        obtain ⟨y0, y1, y2, nn, _, _, t0, t1, t2⟩ := Deep.trod_struct3 Try.underlying61 h2
        have s0 : Try.prog.cellsOf 3 = 1 := by kernel_rfl
        have s1 : Try.prog.cellsOf 3 = 1 := by kernel_rfl
        have s2 : Try.prog.cellsOf 26 = 1 := by kernel_rfl
        simp only [s0, s1, s2, List.drop_zero, List.drop_succ_cons, List.take_succ_cons, List.take_zero] at t0 t1 t2
        obtain ⟨n0, e0, _, f0⟩ := DataW.trod_int Try.underlying3 t0
        obtain ⟨n1, e1, _, f1⟩ := DataW.trod_int Try.underlying3 t1
        obtain ⟨n2, e2, _, f2⟩ := DataW.trod_int Try.underlying26 t2
        injection e0 with e0
        injection e1 with e1
        injection e2 with e2
        have g0 := hcell 0 (by omega)
        have g1 := hcell 1 (by omega)
        have g2 := hcell 2 (by omega)
        rw [Deep.add_add] at g0 g1 g2
        have g0' : W.cell? (x.add (i * 3)) = some (.int .i64 n0) := by rw [← e0]; simpa using g0
        have g1' : W.cell? (x.add (i * 3 + 1)) = some (.int .i64 n1) := by rw [← e1]; simpa using g1
        have g2' : W.cell? (x.add (i * 3 + 2)) = some (.int .u64 n2) := by rw [← e2]; simpa using g2
        simp only [List.getElem_map, List.getElem_range, g0', g1', g2', numO3]
        exact ⟨trivial, trivial, trivial, f0, f1, f2⟩
  obtain ⟨a3, rfl, rfl, rfl, w3⟩ := open_int Try.underlying3 (hval 3 3 v3 rfl rfl) h3
  clear hA0 hval0
  refine (walk W a0 len0 cap0 z0 w0 a1 len1 cap1 z1 w1 a2 len2 cap2 z2 w2 a3 w3).mono fun e W' ⟨he, bel⟩ => ?_
  subst he
  exact ⟨_, rfl, _, _, _, [], _, [], hW', trodAll_mk1 (shut_bool Try.underlying4 _), (trodAll_cons_mk (Below.trod laidOut (by kernel_rfl) (of_decide_eq_true (by kernel_rfl)) k0 bel lt0) (trodAll_cons_mk (Below.trod laidOut (by kernel_rfl) (of_decide_eq_true (by kernel_rfl)) k1 bel lt1) (trodAll_cons_mk (Below.trod laidOut (by kernel_rfl) (of_decide_eq_true (by kernel_rfl)) k2 bel lt2) (trodAll_cons_mk (shut_int Try.underlying3 w3) trodAll_mk0)))), rfl, bel.frame _, fun h => by cases h⟩

theorem over : Rows.hdrTellsRow.holds Try.pinned (OpenSpec.ofChange Rows.hdrTellsSpec) :=
  OpenClaim.holds_of_wide 5 Try.f5 rfl rfl rfl rfl rfl rfl rfl ⟨rfl, rfl, rfl, rfl, rfl⟩ rfl rfl rfl rfl rfl (by kernel_rfl) Try.func5 (by kernel_rfl)
    (of_decide_eq_true (by kernel_rfl)) (by unfold Func.isWrapper; first | (rw [if_pos (by decide +kernel)]; kernel_rfl) | (rw [if_neg (by decide +kernel)]; exact ⟨rfl, rfl⟩))
    (fun os started H enc _ => lifted os started H enc)

theorem proved : Rows.HdrTellsSaid :=
  over
#print axioms proved
end Go.Proofs.Ytlgdaljbajebhaa.hdrTells
