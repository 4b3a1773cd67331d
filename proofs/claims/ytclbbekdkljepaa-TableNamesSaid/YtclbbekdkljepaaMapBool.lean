/- A map literal over bools: its stores and its lookup, at the block written out. -/
import Derived.Test.YtclbbekdkljepaaMem
import Derived.WideMake
namespace Go.Proofs.Ytclbbekdkljepaa
open Go.ChangeShapes Go.WideShapes Go.ChangeAt Go.RowKit
set_option linter.unusedVariables false

theorem run_putNew {P : Program} (w : World) (mty kt et : TypeId) (d : TypeDesc) (r clock : Nat) (es : Array MapEntry) (k val : Value) (hm : P.underlying mty = some (.map kt et)) (hk : P.underlying kt = some d) (hik : MapKept.IsKey d k)
    (hb : w.heap[r]? = some (.map es clock)) (hf : Instr.findNow d k es.toList 0 = some none) :
    (Instr.mapUpdate mty (.map (some r)) k val).run P w = .ok () { w with heap := w.heap.setIfInBounds r (.map (es.push { key := k, val := val, born := clock }) (clock + 1)) } := by
  have hc : (Instr.checkKey false 10000 kt k).run P w = .ok () w := MapKept.run_checkKey (k := k) hk hik false 9999
  simp [Instr.mapUpdate, run_underlying hm, MapKept.run_getObj_map hb, hc, MapKept.run_findKey hk hf, MapKept.run_setObj_map _ hb, Result.andThen]

/-- A map's block turned. -/
def putMap (w : World) (r : Nat) (es : Array MapEntry) (c : Nat) : World := { w with heap := w.heap.setIfInBounds r (.map es c) }
theorem putMap_block {w : World} {r : Nat} {o : Obj} (es : Array MapEntry) (c : Nat) (hb : w.heap[r]? = some o) : (putMap w r es c).heap[r]? = some (.map es c) := (MapKept.heap_set (o' := .map es c) hb).1
theorem putMap_below {w0 w : World} {B r : Nat} (es : Array MapEntry) (c : Nat) (h : Below B w0 w) (hr : B ≤ r) : Below B w0 (putMap w r es c) :=
  ⟨h.os, h.tape, h.output, by show w0.heap.size ≤ (w.heap.setIfInBounds r _).size; rw [Array.size_setIfInBounds]; exact h.size, fun k hk => by
    show (w.heap.setIfInBounds r _)[k]? = _
    rw [Array.getElem?_setIfInBounds_ne (by omega)]
    exact h.block k hk⟩

theorem run_lookMap {P : Program} (w : World) (mty kt et : TypeId) (d : TypeDesc) (r clock : Nat) (es : Array MapEntry) (k val : Value) (i : Nat) (hm : P.underlying mty = some (.map kt et)) (hk : P.underlying kt = some d) (hik : MapKept.IsKey d k)
    (hb : w.heap[r]? = some (.map es clock)) (hf : Instr.findNow d k es.toList 0 = some (some (i, val))) :
    (Instr.lookup mty (.map (some r)) k false).run P w = .ok val w := by
  have hc : (Instr.checkKey es.isEmpty 10000 kt k).run P w = .ok () w := MapKept.run_checkKey (k := k) hk hik es.isEmpty 9999
  simp [Instr.lookup, run_underlying hm, MapKept.run_getObj_map hb, hc, MapKept.run_findKey hk hf, Result.andThen]

section
variable {P : Program} {ops : Array Oper} {Q : Exit → Act → World → Prop}
theorem step_insert {o : Oper} {a : Act} {w : World} {K : Act → World → Prop} {E : Prop} (t : TypeId) (m x y : Operand) (kt et : TypeId) (d : TypeDesc) (r clock : Nat) (es : Array MapEntry) (k val : Value) (hw : Region.wanted o (yielded ops a.tmps) = true) (ho : o.op = .insert t m x y)
    (h1 : a.eval m = .map (some r)) (h2 : a.eval x = k) (h3 : a.eval y = val) (hm : P.underlying t = some (.map kt et)) (hk : P.underlying kt = some d) (hik : MapKept.IsKey d k)
    (hb : w.heap[r]? = some (.map es clock)) (hf : Instr.findNow d k es.toList 0 = some none)
    (h : K (a.put o.dst undef) (putMap w r (es.push { key := k, val := val, born := clock }) (clock + 1))) : if Region.wanted o (yielded ops a.tmps) = true then Oper.wp P o a w K Q else E := by
  rw [if_pos hw]
  unfold Oper.wp execOp
  simp only [ho, h1, h2, h3, Sem.run_bind, run_putNew w t kt et d r clock es k val hm hk hik hb hf, Result.andThen_ok]
  exact h
theorem step_lookMap {o : Oper} {a : Act} {w : World} {K : Act → World → Prop} {E : Prop} (t : TypeId) (m x : Operand) (kt et : TypeId) (d : TypeDesc) (r clock : Nat) (es : Array MapEntry) (k val : Value) (i : Nat) (hw : Region.wanted o (yielded ops a.tmps) = true) (ho : o.op = .lookup t m x false)
    (h1 : a.eval m = .map (some r)) (h2 : a.eval x = k) (hm : P.underlying t = some (.map kt et)) (hk : P.underlying kt = some d) (hik : MapKept.IsKey d k)
    (hb : w.heap[r]? = some (.map es clock)) (hf : Instr.findNow d k es.toList 0 = some (some (i, val)))
    (h : K (a.put o.dst val) w) : if Region.wanted o (yielded ops a.tmps) = true then Oper.wp P o a w K Q else E := by
  rw [if_pos hw]
  unfold Oper.wp execOp
  simp only [ho, h1, h2, Sem.run_bind, run_lookMap w t kt et d r clock es k val i hm hk hik hb hf, Result.andThen_ok]
  exact h
end
end Go.Proofs.Ytclbbekdkljepaa
