/- What a call leaves as it was: the blocks of a set. Maps of pointers at the walk's operations. -/
import Derived.Test.YtplgdpjbkdagfaaGreatPMap
import Derived.Test.YtplgdpjbkdagfaaGreatMem
namespace Go.Proofs.YtplgdpjbkdagfaaGreat
set_option maxRecDepth 100000
open Go.ChangeShapes Go.WideShapes Go.ChangeAt Go.RowKit
open Go.Maps (Keyed)
set_option linter.unusedVariables false
set_option linter.unusedSimpArgs false

/-- The blocks of R are as they were. -/
structure Kept (R : Nat → Prop) (w w' : World) : Prop where
  os : w'.os = w.os
  tape : w'.tape = w.tape
  output : w'.output = w.output
  size : w.heap.size ≤ w'.heap.size
  block : ∀ k, R k → w'.heap[k]? = w.heap[k]?

namespace Kept
variable {R R' : Nat → Prop} {a w w' : World}
theorem refl (R : Nat → Prop) (w : World) : Kept R w w := ⟨rfl, rfl, rfl, Nat.le_refl _, fun _ _ => rfl⟩
theorem trans {b c : World} (h : Kept R a b) (k : Kept R b c) : Kept R a c :=
  ⟨k.os.trans h.os, k.tape.trans h.tape, k.output.trans h.output, Nat.le_trans h.size k.size, fun i hi => (k.block i hi).trans (h.block i hi)⟩
theorem mono (h : Kept R w w') (hR : ∀ k, R' k → R k) : Kept R' w w' := ⟨h.os, h.tape, h.output, h.size, fun k hk => h.block k (hR k hk)⟩
theorem drew (h : Kept R a w) : Kept R a w.drew := ⟨h.os, h.tape, h.output, h.size, h.block⟩
theorem alloc (h : Kept R a w) (hR : ∀ k, R k → k < a.heap.size) (o : Obj) : Kept R a (w.alloc o) :=
  h.trans ⟨rfl, rfl, rfl, by simp, fun k hk => Below.heap_alloc w o k (Nat.lt_of_lt_of_le (hR k hk) h.size)⟩
theorem setCell (h : Kept R a w) {p : Addr} (hp : ¬ R p.block) (u : Value) : Kept R a (w.setCell p u) :=
  h.trans ⟨rfl, rfl, rfl, by simp [World.setCell], fun k hk => Below.heap_setCell _ _ _ _ (fun e => hp (by rw [← e]; exact hk))⟩
theorem grown {row : Option Nat} (h : Kept R a w) (hg : w.grownBy w' row) (hR : ∀ k, R k → k < a.heap.size) (hr : ∀ k, row = some k → ¬ R k) : Kept R a w' :=
  h.trans ⟨hg.os, hg.tape, hg.output, hg.size, fun k hk => hg.block k (Nat.lt_of_lt_of_le (hR k hk) h.size) (fun e => hr k e.symm hk)⟩
theorem of_below {B : Nat} (h : Below B w w') (hR : ∀ k, R k → k < B) : Kept R w w' := ⟨h.os, h.tape, h.output, h.size, fun k hk => h.block k (hR k hk)⟩
theorem below {B : Nat} (h : Kept R w w') (hR : ∀ k, k < B → R k) : Below B w w' := ⟨h.os, h.tape, h.output, h.size, fun k hk => h.block k (hR k hk)⟩
theorem cell (h : Kept R w w') {p : Addr} (hp : R p.block) : w'.cell? p = w.cell? p := World.cell?_of_block (h.block _ hp)
theorem frozen (h : Kept R w w') {p : Addr} (hp : R p.block) : w'.frozen? p = w.frozen? p := World.frozen?_of_block (h.block _ hp)
theorem own {g n : Nat} {f : Nat → Value} (h : Kept R w w') (ho : Own w g n f) (hg : R g) : Own w' g n f := ho.of_block (h.block g hg) h.size
end Kept

theorem PM.own_ne {w : World} {P : Program} {k : TypeId} {q : IntKind} {b m : Nat} {f : Int → Option Nat} (h : PM w P k q b m f) {c : Nat} {o : Nat} {v : Value} (hc : w.cell? ⟨c, o, none⟩ = some v) : c ≠ b := by
  rintro rfl
  obtain ⟨D, ⟨es, clock, hb, r⟩, r'⟩ := h
  simp [World.cell?, hb] at hc

section
variable {P : Program} (w : World) {ops : Array Oper} {rest : List Oper} {o : Oper} {a : Act} {Q : Exit → Act → World → Prop}

theorem wpList_mapUpdate_pm (hg : o.guard = none) (m x v : Operand) (t : TypeId) (hop : o.op = Op.mapUpdate t m x v) (k e : TypeId) (q : IntKind)
    (hk : P.underlying k = some (.int q)) (ht : P.underlying t = some (.map k e)) (b n : Nat) (f : Int → Option Nat) (hm : a.eval m = .map (some b)) (hown : PM w P k q b n f) (hn : n < maxLen)
    (x0 : Int) (hx : a.eval x = .int q x0) (hwf : (Lit.int q x0).wf = true) (B : Nat) (hv : a.eval v = .pointer (some ⟨B, 0, none⟩))
    (hK : ∀ w', PM w' P k q b (if (f x0).isSome then n else n + 1) (upd f x0 (some B)) → w.grownBy w' (some b) → wpList P ops Q rest (a.put o.dst undef) w') :
    wpList P ops Q (o :: rest) a w := by
  refine wpList_plain hg fun K' hK' => ?_
  obtain ⟨w', hrun, r1, r2⟩ := hown.store hk ht hn x0 hwf B
  unfold Oper.wp
  simp [execOp, hop, hm, hx, hv, hrun, Result.andThen]
  exact hK' _ _ (hK w' r1 r2)

theorem wpList_lookup_pm (hg : o.guard = none) (m x : Operand) (t : TypeId) (hop : o.op = Op.lookup t m x false) (k e : TypeId) (q : IntKind)
    (hk : P.underlying k = some (.int q)) (ht : P.underlying t = some (.map k e)) (hz : ∀ w, (zeroValue e).run P w = .ok (.pointer none) w) (b n : Nat) (f : Int → Option Nat) (hm : a.eval m = .map (some b)) (hown : PM w P k q b n f)
    (x0 : Int) (hx : a.eval x = .int q x0) (hwf : (Lit.int q x0).wf = true)
    (hK : wpList P ops Q rest (a.put o.dst (ptrV (f x0))) w) :
    wpList P ops Q (o :: rest) a w := by
  refine wpList_plain hg fun K' hK' => ?_
  have hrun := hown.lookup hk ht hz x0 hwf
  unfold Oper.wp
  simp [execOp, hop, hm, hx, hrun, Result.andThen]
  exact hK' _ _ hK

theorem wpList_delete_pm (hg : o.guard = none) (m x : Operand) (t k : TypeId) (hop : o.op = Op.call { callee := Callee.builtin Builtin.delete, args := #[m, x], argTypes := #[t, k] }) (e : TypeId) (q : IntKind)
    (hk : P.underlying k = some (.int q)) (ht : P.underlying t = some (.map k e)) (b n : Nat) (f : Int → Option Nat) (hm : a.eval m = .map (some b)) (hown : PM w P k q b n f)
    (x0 : Int) (hx : a.eval x = .int q x0) (hwf : (Lit.int q x0).wf = true)
    (hK : ∀ w', PM w' P k q b (if (f x0).isSome then n - 1 else n) (upd f x0 none) → w.grownBy w' (some b) → wpList P ops Q rest (a.put o.dst (.tuple #[])) w') :
    wpList P ops Q (o :: rest) a w := by
  refine wpList_plain hg fun K' hK' => ?_
  obtain ⟨w', hrun, r1, r2⟩ := hown.delete hk ht x0 hwf o.type
  unfold Oper.wp
  simp [execOp, hop, resolve, invoke, builtin, hm, hx, hrun, Result.andThen]
  exact hK' _ _ (hK w' r1 r2.grown)
end
end Go.Proofs.YtplgdpjbkdagfaaGreat
