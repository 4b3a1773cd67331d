/- Maps from integers to pointers at whole blocks. · Plain lemmas on memory: rows of the call's own, what else stays. · What a call leaves as it was: the blocks of a set. Maps of pointers at the walk's operations. · Pages (package vmem): a page's block. · Memory of pages (package vmem): what it is; what is asked of it. · Memory of pages: Map. · Memory of pages: what is asked of a row of pages; Unmap; what Map refuses. -/
import Derived.Test.YthbgmlmcjnlopaaRows
import Derived.WalkKit
import Derived.ProofKit
import Derived.OpenShut
import Derived.Below
import Derived.Lib.Hide
import Derived.Outline
import Derived.IntWalk
import Derived.Handy
import Derived.Maps.OwnOps
import Derived.Maps.OwnSet
import Derived.Maps.Views
import Derived.Maps.RangeWalk
import Derived.Maps.Keyed
import Derived.Maps.AppendAt
import Derived.ShutString
import Derived.ChangeOld
import Derived.Deep.OwnRows
import Derived.Laws.BitsAllLaws
import Derived.Deep.AppendLies
import Derived.BigRegion
import Derived.Deep.Cut
import Derived.ChangeAlike
import Derived.Deep.RegionHeld3
import Derived.Deep.DeepCutAuto
import Derived.Laws.Tables
import Derived.Deep.QuietTactic
import Derived.BigQuiet
namespace Go.Proofs.Ythbgmlmcjnlopaa
open Go.ChangeShapes Go.WideShapes Go.ChangeAt Go.RowKit
open Go.Maps (Keyed)
set_option linter.unusedVariables false
set_option linter.unusedSimpArgs false

/-- How a pointer at a whole block reads. -/
def ptrR : Value → Option (DataW Unit × List MemPlace)
  | .pointer none => some (.nil, [])
  | .pointer (some a) => if a = ⟨a.block, 0, none⟩ then some (.lit (.int .i64 a.block), []) else none
  | _ => none
def ptrV : Option Nat → Value
  | none => .pointer none
  | some b => .pointer (some ⟨b, 0, none⟩)
def ptrD : Option Nat → DataW Unit → DataW Unit
  | none, z => z
  | some b, _ => .lit (.int .i64 b)

theorem ptrR_some (b : Nat) : ptrR (.pointer (some ⟨b, 0, none⟩)) = some (.lit (.int .i64 b), []) := by simp [ptrR]
theorem ptrR_inv {v : Value} {y : DataW Unit × List MemPlace} (h : ptrR v = some y) : (v = .pointer none ∧ y = (.nil, [])) ∨ ∃ b : Nat, v = .pointer (some ⟨b, 0, none⟩) ∧ y = (.lit (.int .i64 b), []) := by
  unfold ptrR at h
  split at h
  · cases h; exact Or.inl ⟨rfl, rfl⟩
  · rename_i a
    split at h
    · rename_i e
      cases h
      exact Or.inr ⟨a.block, by rw [e], rfl⟩
    · cases h
  · cases h

/-- Block b is a map with m keys that leads from each key x to the block f x. -/
def PM (w : World) (P : Program) (k : TypeId) (q : IntKind) (b m : Nat) (f : Int → Option Nat) : Prop :=
  ∃ D : DataW Unit, w.ownsMap P k ptrR b m D ∧ Maps.size D = m ∧ ∀ x zd, D.atKey (.int q x) zd = ptrD (f x) zd

/-- A function turned at one place. -/
def upd {α : Type} (f : Int → α) (x : Int) (v : α) : Int → α := fun y => if y = x then v else f y
theorem upd_same {α : Type} (f : Int → α) (x : Int) (v : α) : upd f x v x = v := by simp [upd]
theorem upd_other {α : Type} (f : Int → α) {x y : Int} (v : α) (h : y ≠ x) : upd f x v y = f y := by simp [upd, h]

section
variable {w w' : World} {P : Program} {k t e : TypeId} {q : IntKind} {b m : Nat} {f : Int → Option Nat}

theorem ownsMap_size {D : DataW Unit} {n : Nat} (h : w.ownsMap P k ptrR b n D) : w.ownsMap P k ptrR b (Maps.size D) D := by
  obtain ⟨es, clock, hb, F, hs, rfl⟩ := h
  exact ⟨es, clock, hb, F, by simp [Maps.size, length_sorted], rfl⟩

theorem PM.made (w : World) (P : Program) (k : TypeId) (q : IntKind) : PM (w.alloc (.map #[] 0)) P k q w.heap.size 0 (fun _ => none) :=
  ⟨.map [], World.ownsMap_made w P k ptrR, rfl, fun _ _ => rfl⟩
theorem PM.lt (h : PM w P k q b m f) : b < w.heap.size := by obtain ⟨D, h, _⟩ := h; exact h.lt
theorem PM.kept {row : Option Nat} (h : PM w P k q b m f) (hg : w.grownBy w' row) (hne : some b ≠ row) : PM w' P k q b m f := by
  obtain ⟨D, h, r⟩ := h; exact ⟨D, h.kept hg hne, r⟩
theorem PM.of_block (h : PM w P k q b m f) (e : w'.heap[b]? = w.heap[b]?) : PM w' P k q b m f := by
  obtain ⟨D, ⟨es, clock, hb, r⟩, r'⟩ := h; exact ⟨D, ⟨es, clock, e.trans hb, r⟩, r'⟩
theorem PM.congr {f' : Int → Option Nat} (h : PM w P k q b m f) (e : ∀ x, f' x = f x) : PM w P k q b m f' := by
  obtain ⟨D, h1, h2, h3⟩ := h; exact ⟨D, h1, h2, fun x zd => by rw [e, h3]⟩

theorem PM.lookup (h : PM w P k q b m f) (hk : P.underlying k = some (.int q)) (ht : P.underlying t = some (.map k e)) (hz : ∀ w, (zeroValue e).run P w = .ok (.pointer none) w) (x : Int) (hx : (Lit.int q x).wf = true) :
    (Instr.lookup t (.map (some b)) (.int q x) false).run P w = .ok (ptrV (f x)) w := by
  obtain ⟨D, h, _, hf⟩ := h
  obtain ⟨v, ps, hrun, hv⟩ := h.lookup (Maps.int_keyed hk) ht (hz w) (zd := .nil) (zp := []) rfl (Maps.keyOf_int_mk hk hx)
  rw [hrun]
  congr 1
  rw [hf] at hv
  rcases ptrR_inv hv with ⟨rfl, hy⟩ | ⟨b', rfl, hy⟩
  · cases hfx : f x with
    | none => rfl
    | some B => rw [hfx] at hy; simp [ptrD] at hy
  · cases hfx : f x with
    | none => rw [hfx] at hy; simp [ptrD] at hy
    | some B =>
      rw [hfx] at hy
      simp only [ptrD, Prod.mk.injEq, DataW.lit.injEq, Lit.int.injEq, true_and] at hy
      have : B = b' := by omega
      rw [this]; rfl

theorem keyLit (q : IntKind) (x : Int) : WideAt.IsKeyLit (.int q x) := by trivial

theorem PM.has (h : PM w P k q b m f) {D : DataW Unit} (hf : ∀ x zd, D.atKey (.int q x) zd = ptrD (f x) zd) (x : Int) : Maps.has D (.int q x) = (f x).isSome := by
  cases hfx : f x with
  | none => exact Maps.has_false_of_atKey fun z => by rw [hf, hfx]; rfl
  | some B => exact Maps.has_true_of_atKey (y := .lit (.int .i64 B)) fun z => by rw [hf, hfx]; rfl

theorem PM.store (h : PM w P k q b m f) (hk : P.underlying k = some (.int q)) (ht : P.underlying t = some (.map k e)) (hm : m < maxLen) (x : Int) (hx : (Lit.int q x).wf = true) (B : Nat) :
    ∃ w', (Instr.mapUpdate t (.map (some b)) (.int q x) (.pointer (some ⟨B, 0, none⟩))).run P w = .ok () w' ∧ PM w' P k q b (if (f x).isSome then m else m + 1) (upd f x (some B)) ∧ w.grownBy w' (some b) := by
  have h0 := h
  obtain ⟨D, h, hs, hf⟩ := h
  obtain ⟨w', hrun, h', hg⟩ := h.update (Maps.int_keyed hk) ht hm (Maps.keyOf_int_mk hk hx) (ptrR_some B)
  have hK : Keyed P k := Maps.int_keyed hk
  refine ⟨w', hrun, ⟨D.put (.int q x) (.lit (.int .i64 B)), ?_, ?_, fun y zd => ?_⟩, hg⟩
  · have := ownsMap_size h'
    rw [Maps.size_put (h.tidy hK), h0.has hf, hs] at this
    exact this
  · rw [Maps.size_put (h.tidy hK), h0.has hf, hs]
  · by_cases e : y = x
    · subst e
      rw [Maps.atKey_put_same h.isMap (keyLit q y), upd_same]; rfl
    · rw [Maps.atKey_put_other (by intro e'; injection e' with _ e'; exact e e'), hf, upd_other f _ e]

theorem PM.delete (h : PM w P k q b m f) (hk : P.underlying k = some (.int q)) (ht : P.underlying t = some (.map k e)) (x : Int) (hx : (Lit.int q x).wf = true) (ty : TypeId) :
    ∃ w', (Builtin.delete_ #[t, k] ty #[.map (some b), .int q x]).run P w = .ok (.tuple #[]) w' ∧ PM w' P k q b (if (f x).isSome then m - 1 else m) (upd f x none) ∧ w.mapTurned w' b := by
  have h0 := h
  obtain ⟨D, h, hs, hf⟩ := h
  have hK : Keyed P k := Maps.int_keyed hk
  obtain ⟨w', hrun, h', hg⟩ := h.drop hK ht (Maps.keyOf_int_mk hk hx) ty
  have hsz := Maps.size_del (k := .int q x) (h.tidy hK)
  rw [h0.has hf] at hsz
  have hsz' : Maps.size (D.del (.int q x)) = if (f x).isSome then m - 1 else m := by
    split <;> rename_i hc
    · rw [if_pos hc] at hsz; omega
    · rw [if_neg hc] at hsz; omega
  refine ⟨w', hrun, ⟨D.del (.int q x), ?_, hsz', fun y zd => ?_⟩, hg⟩
  · rw [← hsz']; exact ownsMap_size h'
  · by_cases e : y = x
    · subst e
      rw [Maps.atKey_del_same, upd_same]; rfl
    · rw [Maps.atKey_del_other (by intro e'; injection e' with _ e'; exact e e'), hf, upd_other f _ e]

theorem PM.len (h : PM w P k q b m f) (ht : P.underlying t = some (.map k e)) (ty : TypeId) : (Builtin.len_ #[t] ty #[.map (some b)]).run P w = .ok (.int .i64 m) w := by
  obtain ⟨D, h, hs, hf⟩ := h
  rw [h.len ht ty, hs]
end
end Go.Proofs.Ythbgmlmcjnlopaa
namespace Go.Proofs.Ythbgmlmcjnlopaa
open Go.ChangeShapes Go.WideShapes Go.ChangeAt Go.RowKit
open Go.ChangeMaps (open_string shut_string)
set_option linter.unusedVariables false
set_option linter.unusedSimpArgs false

/-- Block g holds n cells f, none of them frozen. -/
def Own (w : World) (g n : Nat) (f : Nat → Value) : Prop := g < w.heap.size ∧ ∀ i, i < n → w.cell? ⟨g, i, none⟩ = some (f i) ∧ w.frozen? ⟨g, i, none⟩ = false

namespace Own
variable {w w' : World} {g n : Nat} {f f' : Nat → Value}
theorem cell (h : Own w g n f) {i : Nat} (hi : i < n) : w.cell? ⟨g, i, none⟩ = some (f i) := (h.2 i hi).1
theorem frozen (h : Own w g n f) {i : Nat} (hi : i < n) : w.frozen? ⟨g, i, none⟩ = false := (h.2 i hi).2
theorem congr (h : Own w g n f) (e : ∀ i, i < n → f i = f' i) : Own w g n f' := ⟨h.1, fun i hi => by rw [← e i hi]; exact h.2 i hi⟩
theorem of_block (h : Own w g n f) (e : w'.heap[g]? = w.heap[g]?) (hs : w.heap.size ≤ w'.heap.size) : Own w' g n f :=
  ⟨Nat.lt_of_lt_of_le h.1 hs, fun i hi => ⟨(World.cell?_of_block (a := ⟨g, i, none⟩) e).trans (h.2 i hi).1, (World.frozen?_of_block (a := ⟨g, i, none⟩) e).trans (h.2 i hi).2⟩⟩
theorem below {B : Nat} (h : Own w g n f) (hb : Below B w w') (hg : g < B) : Own w' g n f := h.of_block (hb.block g hg) hb.size
theorem grown {row : Option Nat} (h : Own w g n f) (hb : w.grownBy w' row) (hg : some g ≠ row) : Own w' g n f := h.of_block (hb.block g h.1 hg) hb.size
theorem of_row {t : TypeId} (h : w.rowIs g t n f) : Own w g n f := ⟨h.lt, fun i hi => ⟨h.cell hi, h.frozen i⟩⟩
theorem less {m : Nat} (h : Own w g n f) (hm : m ≤ n) : Own w g m f := ⟨h.1, fun i hi => h.2 i (by omega)⟩
theorem alloc (h : Own w g n f) (o : Obj) : Own (w.alloc o) g n f := h.of_block (Below.heap_alloc w o g h.1) (by simp)
theorem drew (h : Own w g n f) : Own w.drew g n f := h
theorem set (h : Own w g n f) {i : Nat} (hi : i < n) (v : Value) : Own (w.setCell ⟨g, i, none⟩ v) g n (fun j => if j = i then v else f j) := by
  refine ⟨by simpa [World.setCell] using h.1, fun j hj => ⟨?_, ?_⟩⟩
  · by_cases e : j = i
    · subst e
      show _ = some (if j = j then v else f j)
      rw [if_pos rfl]
      exact World.cell?_setCell_same w _ v (h.cell hj)
    · show _ = some (if j = i then v else f j)
      rw [if_neg e]
      rw [World.cell?_setCell_other w _ _ v (fun e' => e (by injection e' with _ e'; exact e'.symm))]
      exact h.cell hj
  · rw [World.frozen?_setCell]; exact h.frozen hj
theorem of_own {base : Nat} {e : TypeId} {c : Nat} {A : Option Addr} {n : Nat} {xs : List Value} (h : w.ownsRow base e 1 (.slice A n c) n xs) (hn : 0 < n) (hx : ∀ i, i < n → xs[i]? = some (f i)) :
    ∃ g, A = some ⟨g, 0, none⟩ ∧ base ≤ g ∧ Own w g n f := by
  obtain ⟨g, cap, hv, hb, hlt⟩ := h.form hn
  have hA : A = some ⟨g, 0, none⟩ := by injection hv
  subst hA
  refine ⟨g, rfl, hb, hlt, fun i hi => ⟨?_, ?_⟩⟩
  · rw [h.cellAt i (by omega)]; exact hx i hi
  · exact h.frozenAt i
end Own

theorem only_drew {a w : World} {row : Option Nat} (h : a.grownBy w row) : a.grownBy w.drew row := ⟨h.os, h.tape, h.output, h.size, h.block⟩
theorem only_alloc {a w : World} {row : Option Nat} (h : a.grownBy w row) (o : Obj) : a.grownBy (w.alloc o) row :=
  ⟨h.os, h.tape, h.output, Nat.le_trans h.size (by simp), fun i hi hne => (Below.heap_alloc w o i (Nat.lt_of_lt_of_le hi h.size)).trans (h.block i hi hne)⟩
theorem only_setCell {a w : World} {g : Nat} (h : a.grownBy w (some g)) {p : Addr} (hp : p.block = g ∨ a.heap.size ≤ p.block) (u : Value) : a.grownBy (w.setCell p u) (some g) :=
  ⟨h.os, h.tape, h.output, by simpa [World.setCell] using h.size, fun i hi hne => (Below.heap_setCell w p u i (by
    rintro rfl
    rcases hp with hp | hp
    · exact hne (by rw [hp])
    · omega)).trans (h.block i hi hne)⟩
theorem only_below {a b w : World} {row : Option Nat} (h : a.grownBy b row) (k : Below b.heap.size b w) : a.grownBy w row :=
  ⟨k.os.trans h.os, k.tape.trans h.tape, k.output.trans h.output, Nat.le_trans h.size k.size, fun i hi hne => (k.block i (Nat.lt_of_lt_of_le hi h.size)).trans (h.block i hi hne)⟩
end Go.Proofs.Ythbgmlmcjnlopaa
namespace Go.Proofs.Ythbgmlmcjnlopaa
open Go.ChangeShapes Go.WideShapes Go.ChangeAt Go.RowKit
open Go.Maps (Keyed)
set_option linter.unusedVariables false
set_option linter.unusedSimpArgs false

/-- The blocks of R are as they were. -/
structure Kept (R : Nat → Prop) (w w' : World) : Prop where
  os : w'.os = w.os
  tape : w'.tape = w.tape
  output : w'.output = w.output
  size : w.heap.size ≤ w'.heap.size
  block : ∀ k, R k → w'.heap[k]? = w.heap[k]?

namespace Kept
variable {R R' : Nat → Prop} {a w w' : World}
theorem refl (R : Nat → Prop) (w : World) : Kept R w w := ⟨rfl, rfl, rfl, Nat.le_refl _, fun _ _ => rfl⟩
theorem trans {b c : World} (h : Kept R a b) (k : Kept R b c) : Kept R a c :=
  ⟨k.os.trans h.os, k.tape.trans h.tape, k.output.trans h.output, Nat.le_trans h.size k.size, fun i hi => (k.block i hi).trans (h.block i hi)⟩
theorem mono (h : Kept R w w') (hR : ∀ k, R' k → R k) : Kept R' w w' := ⟨h.os, h.tape, h.output, h.size, fun k hk => h.block k (hR k hk)⟩
theorem drew (h : Kept R a w) : Kept R a w.drew := ⟨h.os, h.tape, h.output, h.size, h.block⟩
theorem alloc (h : Kept R a w) (hR : ∀ k, R k → k < a.heap.size) (o : Obj) : Kept R a (w.alloc o) :=
  h.trans ⟨rfl, rfl, rfl, by simp, fun k hk => Below.heap_alloc w o k (Nat.lt_of_lt_of_le (hR k hk) h.size)⟩
theorem setCell (h : Kept R a w) {p : Addr} (hp : ¬ R p.block) (u : Value) : Kept R a (w.setCell p u) :=
  h.trans ⟨rfl, rfl, rfl, by simp [World.setCell], fun k hk => Below.heap_setCell _ _ _ _ (fun e => hp (by rw [← e]; exact hk))⟩
theorem grown {row : Option Nat} (h : Kept R a w) (hg : w.grownBy w' row) (hR : ∀ k, R k → k < a.heap.size) (hr : ∀ k, row = some k → ¬ R k) : Kept R a w' :=
  h.trans ⟨hg.os, hg.tape, hg.output, hg.size, fun k hk => hg.block k (Nat.lt_of_lt_of_le (hR k hk) h.size) (fun e => hr k e.symm hk)⟩
theorem of_below {B : Nat} (h : Below B w w') (hR : ∀ k, R k → k < B) : Kept R w w' := ⟨h.os, h.tape, h.output, h.size, fun k hk => h.block k (hR k hk)⟩
theorem below {B : Nat} (h : Kept R w w') (hR : ∀ k, k < B → R k) : Below B w w' := ⟨h.os, h.tape, h.output, h.size, fun k hk => h.block k (hR k hk)⟩
theorem cell (h : Kept R w w') {p : Addr} (hp : R p.block) : w'.cell? p = w.cell? p := World.cell?_of_block (h.block _ hp)
theorem frozen (h : Kept R w w') {p : Addr} (hp : R p.block) : w'.frozen? p = w.frozen? p := World.frozen?_of_block (h.block _ hp)
theorem own {g n : Nat} {f : Nat → Value} (h : Kept R w w') (ho : Own w g n f) (hg : R g) : Own w' g n f := ho.of_block (h.block g hg) h.size
end Kept

theorem PM.own_ne {w : World} {P : Program} {k : TypeId} {q : IntKind} {b m : Nat} {f : Int → Option Nat} (h : PM w P k q b m f) {c : Nat} {o : Nat} {v : Value} (hc : w.cell? ⟨c, o, none⟩ = some v) : c ≠ b := by
  rintro rfl
  obtain ⟨D, ⟨es, clock, hb, r⟩, r'⟩ := h
  simp [World.cell?, hb] at hc

section
variable {P : Program} (w : World) {ops : Array Oper} {rest : List Oper} {o : Oper} {a : Act} {Q : Exit → Act → World → Prop}

theorem wpList_mapUpdate_pm (hg : o.guard = none) (m x v : Operand) (t : TypeId) (hop : o.op = Op.mapUpdate t m x v) (k e : TypeId) (q : IntKind)
    (hk : P.underlying k = some (.int q)) (ht : P.underlying t = some (.map k e)) (b n : Nat) (f : Int → Option Nat) (hm : a.eval m = .map (some b)) (hown : PM w P k q b n f) (hn : n < maxLen)
    (x0 : Int) (hx : a.eval x = .int q x0) (hwf : (Lit.int q x0).wf = true) (B : Nat) (hv : a.eval v = .pointer (some ⟨B, 0, none⟩))
    (hK : ∀ w', PM w' P k q b (if (f x0).isSome then n else n + 1) (upd f x0 (some B)) → w.grownBy w' (some b) → wpList P ops Q rest (a.put o.dst undef) w') :
    wpList P ops Q (o :: rest) a w := by
  refine wpList_plain hg fun K' hK' => ?_
  obtain ⟨w', hrun, r1, r2⟩ := hown.store hk ht hn x0 hwf B
  unfold Oper.wp
  simp [execOp, hop, hm, hx, hv, hrun, Result.andThen]
  exact hK' _ _ (hK w' r1 r2)

theorem wpList_lookup_pm (hg : o.guard = none) (m x : Operand) (t : TypeId) (hop : o.op = Op.lookup t m x false) (k e : TypeId) (q : IntKind)
    (hk : P.underlying k = some (.int q)) (ht : P.underlying t = some (.map k e)) (hz : ∀ w, (zeroValue e).run P w = .ok (.pointer none) w) (b n : Nat) (f : Int → Option Nat) (hm : a.eval m = .map (some b)) (hown : PM w P k q b n f)
    (x0 : Int) (hx : a.eval x = .int q x0) (hwf : (Lit.int q x0).wf = true)
    (hK : wpList P ops Q rest (a.put o.dst (ptrV (f x0))) w) :
    wpList P ops Q (o :: rest) a w := by
  refine wpList_plain hg fun K' hK' => ?_
  have hrun := hown.lookup hk ht hz x0 hwf
  unfold Oper.wp
  simp [execOp, hop, hm, hx, hrun, Result.andThen]
  exact hK' _ _ hK

theorem wpList_delete_pm (hg : o.guard = none) (m x : Operand) (t k : TypeId) (hop : o.op = Op.call { callee := Callee.builtin Builtin.delete, args := #[m, x], argTypes := #[t, k] }) (e : TypeId) (q : IntKind)
    (hk : P.underlying k = some (.int q)) (ht : P.underlying t = some (.map k e)) (b n : Nat) (f : Int → Option Nat) (hm : a.eval m = .map (some b)) (hown : PM w P k q b n f)
    (x0 : Int) (hx : a.eval x = .int q x0) (hwf : (Lit.int q x0).wf = true)
    (hK : ∀ w', PM w' P k q b (if (f x0).isSome then n - 1 else n) (upd f x0 none) → w.grownBy w' (some b) → wpList P ops Q rest (a.put o.dst (.tuple #[])) w') :
    wpList P ops Q (o :: rest) a w := by
  refine wpList_plain hg fun K' hK' => ?_
  obtain ⟨w', hrun, r1, r2⟩ := hown.delete hk ht x0 hwf o.type
  unfold Oper.wp
  simp [execOp, hop, resolve, invoke, builtin, hm, hx, hrun, Result.andThen]
  exact hK' _ _ (hK w' r1 r2.grown)
end
end Go.Proofs.Ythbgmlmcjnlopaa
namespace Go.Proofs.Ythbgmlmcjnlopaa
open Go.ChangeShapes Go.WideShapes Go.ChangeAt Go.RowKit
open Go.Maps (Keyed)
set_option linter.unusedVariables false
set_option linter.unusedSimpArgs false

theorem zero_page : (Try.zeroCells95.toList.drop 1).all (fun c => match c with | .int .u8 0 => true | _ => false) = true := by kernel_rfl

theorem noughts_at {cs : Array Value} {n : Nat} (e2 : cs.size = n) (e4 : (cs.toList.drop 1).all (fun c => match c with | .int .u8 0 => true | _ => false) = true) (i : Nat) (h0 : 0 < i) (h1 : i < n) : cs[i]? = some (.int .u8 0) := by
  have hi : i < cs.size := by omega
  have hm : cs.toList[i]'(by simpa using hi) ∈ cs.toList.drop 1 := by
    rw [List.mem_iff_getElem]
    refine ⟨i - 1, by simp; omega, ?_⟩
    rw [List.getElem_drop]
    congr 1
    omega
  have := List.all_eq_true.1 e4 _ hm
  rw [Array.getElem?_eq_getElem hi]
  simp only [Array.getElem_toList] at this
  revert this
  generalize cs[i] = c
  intro this
  split at this
  · rfl
  · cases this


theorem pageC_at (p : Int) (i : Nat) (hi : i < 4097) : (Try.zeroCells95.setIfInBounds 0 (.int .i64 p))[i]? = some (if i = 0 then .int .i64 p else .int .u8 0) := by
  have hs := Try.zeroCells95_size
  by_cases h : i = 0
  · subst h
    rw [Array.getElem?_setIfInBounds_self_of_lt (by omega), if_pos rfl]
  · rw [Array.getElem?_setIfInBounds_ne (by omega), if_neg h]
    exact noughts_at hs zero_page i (by omega) hi

theorem own_page (p : Int) (w : World) : Own (w.alloc (.cells (Try.zeroCells95.setIfInBounds 0 (.int .i64 p)) 95)) w.heap.size 4097 (fun j => if j = 0 then .int .i64 p else .int .u8 0) := by
  have hc := pageC_at p
  generalize Try.zeroCells95.setIfInBounds 0 (.int .i64 p) = cs at *
  refine ⟨by simp, fun i hi => ⟨?_, ?_⟩⟩
  · simp [go_sem, hc i hi]
  · simp [go_sem]
end Go.Proofs.Ythbgmlmcjnlopaa
namespace Go.Proofs.Ythbgmlmcjnlopaa
open Go.ChangeShapes Go.WideShapes Go.ChangeAt Go.RowKit
open Go.Maps (Keyed)
set_option linter.unusedVariables false
set_option linter.unusedSimpArgs false

theorem zeroPtrV (w : World) : (zeroValue 91).run Try.prog w = .ok (.pointer none) w := by kernel_rfl

/-- A page: its protection and its bytes. -/
structure Pg where
  prot : Int
  dat : Nat → Int

/-- The cells of a page's block. -/
def pgF (g : Pg) (j : Nat) : Value := if j = 0 then .int .i64 g.prot else .int .u8 (g.dat (j - 1))

/-- Memory at M: m pages; the page at address a lies in block f a, and is mp a. -/
structure MemIn (w : World) (M bm m : Nat) (most : Int) (f : Int → Option Nat) (mp : Int → Option Pg) : Prop where
  c0 : w.cell? ⟨M, 0, none⟩ = some (.int .i64 most)
  c1 : w.cell? ⟨M, 1, none⟩ = some (.map (some bm))
  mlt : M < w.heap.size
  map : PM w Try.prog 22 .u64 bm m f
  both : ∀ a, (f a).isSome = (mp a).isSome
  page : ∀ a B g, f a = some B → mp a = some g → Own w B 4097 (pgF g)
  inj : ∀ a a' B, f a = some B → f a' = some B → a = a'
  nos : ∀ a B, f a = some B → B ≠ M
  low : 0 ≤ most
  high : most ≤ 1024
  fits : (m : Int) ≤ most

def MemAt (R : Nat → Prop) (w : World) (M m : Nat) (most : Int) (mp : Int → Option Pg) : Prop :=
  ∃ bm f, MemIn w M bm m most f mp ∧ ¬ R M ∧ ¬ R bm ∧ (∀ a B, f a = some B → ¬ R B) ∧ ∀ k, R k → k < w.heap.size

theorem MemIn.drewN {w : World} {M bm m : Nat} {most : Int} {f : Int → Option Nat} {mp : Int → Option Pg} (h : MemIn w M bm m most f mp) (n : Nat) : MemIn (w.drewN n) M bm m most f mp :=
  ⟨h.c0, h.c1, h.mlt, h.map, h.both, h.page, h.inj, h.nos, h.low, h.high, h.fits⟩
theorem MemAt.drewN {R : Nat → Prop} {w : World} {M m : Nat} {most : Int} {mp : Int → Option Pg} (h : MemAt R w M m most mp) (n : Nat) : MemAt R (w.drewN n) M m most mp := by
  obtain ⟨bm, f, S, r⟩ := h
  exact ⟨bm, f, S.drewN n, r⟩

theorem pageOf_any (a : Int) (w : World) (h0 : 0 ≤ a) (h1 : a < 18446744073709551616) : Calls Try.prog 53 #[.int .u64 a] w fun e w' => e = .returned (.int .u64 (a - a % 4096)) ∧ w = w' := by
  have h2 : 0 ≤ a - a % 4096 := by omega
  go_enter Try.func53, Try.ntmps53
  go_wp2
  go_ret
  exact ⟨rfl, rfl⟩

theorem pageOf_q (a : Int) (w : World) (h0 : 0 ≤ a) (h1 : a < 18446744073709551616) : Calls Try.prog 53 #[.int .u64 a] w fun e w' => e = .returned (.int .u64 (a - a % 4096)) ∧ w' = w :=
  (pageOf_any a w h0 h1).mono fun _ _ ⟨h, h'⟩ => ⟨h, h'.symm⟩

theorem protOk_yes (p : Int) (w : World) (h0 : 0 ≤ p) (h1 : p ≤ 15) : Calls Try.prog 49 #[.int .i64 p] w fun e w' => e = .returned (.bool true) ∧ w = w' := by
  go_enter Try.func49, Try.ntmps49
  go_wp2
  go_ret
  exact ⟨rfl, rfl⟩

theorem newMem_any (R : Nat → Prop) (w : World) (n : Int) (hR : ∀ k, R k → k < w.heap.size) (h0 : 0 ≤ n) (h1 : n ≤ 1024) : Calls Try.prog 23 #[.int .i64 n] w fun e w' => ∃ M, e = .returned (.pointer (some ⟨M, 0, none⟩)) ∧ MemAt R w' M 0 n (fun _ => none) ∧ Kept R w w' := by
  have hmm := @run_makeMap Try.prog
  go_enter Try.func23, Try.ntmps23
  go_wp2
  go_ret
  refine ⟨w.heap.size + 1, rfl, ⟨w.heap.size, fun _ => none, ⟨by simp [go_sem], by simp [go_sem], by simp, (PM.made w _ _ _).kept (World.grownBy_alloc _ _ none) (by simp), fun _ => rfl, fun _ _ _ h => by (cases h), fun _ _ _ h => by (cases h), fun _ _ h => by (cases h), h0, h1, by simpa using h0⟩, fun h => by (have := hR _ h; omega), fun h => by (have := hR _ h; omega), fun _ _ h => by (cases h), fun k h => by (have := hR _ h; simp; omega)⟩, ((Kept.refl R w).alloc hR _).alloc hR _⟩

theorem PM.lookupN {w : World} {bm m : Nat} {f : Int → Option Nat} (h : PM w Try.prog 22 .u64 bm m f) (x : Int) (hx : (Lit.int .u64 x).wf = true) (n : Nat) :
    (Instr.lookup 88 (.map (some bm)) (.int .u64 x) false).run Try.prog (w.drewN n) = .ok (ptrV (f x)) (w.drewN n) :=
  PM.lookup (w := w.drewN n) (e := 91) h Try.underlying22 Try.underlying88 zeroPtrV x hx

theorem wf_page {a : Int} (h0 : 0 ≤ a) (h1 : a < 18446744073709551616) : (Lit.int .u64 (a - a % 4096)).wf = true := by
  simp [Lit.wf, IntKind.min, IntKind.max, IntKind.bits, IntKind.signed]
  omega

theorem prot_no (R : Nat → Prop) (w : World) (M m : Nat) (most : Int) (mp : Int → Option Pg) (a : Int) (h0 : 0 ≤ a) (h1 : a < 18446744073709551616) (H : MemAt R w M m most mp) (hg : mp (a - a % 4096) = none) :
    Calls Try.prog 30 #[.pointer (some ⟨M, 0, none⟩), .int .u64 a] w fun e w' => e = .returned (.tuple #[.int .i64 0, .bool false]) ∧ ∃ n, w' = w.drewN n := by
  obtain ⟨bm, f, S, _⟩ := H
  have k0 := S.c1
  have hl := fun n => S.map.lookupN (a - a % 4096) (wf_page h0 h1) n
  have hb := S.both (a - a % 4096)
  rw [hg] at hb
  cases hf : f (a - a % 4096) with
  | some B => rw [hf] at hb; cases hb
  | none =>
    rw [hf] at hl
    simp only [ptrV] at hl
    clear hb hf hg
    go_enter Try.func30, Try.ntmps30
    go_wp2_with fail
    go_quiet ((go_at_call 53; exact Calls.quiet_of_same (pageOf_q _ _ h0 h1)))
    go_wp2
    go_ret2
    exact ⟨rfl, nq, rfl⟩

theorem prot_yes (R : Nat → Prop) (w : World) (M m : Nat) (most : Int) (mp : Int → Option Pg) (a : Int) (g : Pg) (h0 : 0 ≤ a) (h1 : a < 18446744073709551616) (H : MemAt R w M m most mp) (hg : mp (a - a % 4096) = some g) :
    Calls Try.prog 30 #[.pointer (some ⟨M, 0, none⟩), .int .u64 a] w fun e w' => e = .returned (.tuple #[.int .i64 g.prot, .bool true]) ∧ ∃ n, w' = w.drewN n := by
  obtain ⟨bm, f, S, _⟩ := H
  have k0 := S.c1
  have hl := fun n => S.map.lookupN (a - a % 4096) (wf_page h0 h1) n
  have hb := S.both (a - a % 4096)
  rw [hg] at hb
  cases hf : f (a - a % 4096) with
  | none => rw [hf] at hb; cases hb
  | some B =>
    have hc := (S.page _ B g hf hg).cell (i := 0) (by omega)
    simp only [pgF, if_pos rfl] at hc
    rw [hf] at hl
    simp only [ptrV] at hl
    clear hb hf hg
    go_enter Try.func30, Try.ntmps30
    go_wp2_with fail
    go_quiet ((go_at_call 53; exact Calls.quiet_of_same (pageOf_q _ _ h0 h1)))
    go_wp2
    go_ret2
    exact ⟨rfl, nq, rfl⟩

theorem free_any (R : Nat → Prop) (w : World) (M m : Nat) (most : Int) (mp : Int → Option Pg) (H : MemAt R w M m most mp) :
    Calls Try.prog 51 #[.pointer (some ⟨M, 0, none⟩)] w fun e w' => e = .returned (.int .i64 (most - m)) ∧ ∃ n, w' = w.drewN n := by
  obtain ⟨bm, f, S, _⟩ := H
  have k0 := S.c0
  have k1 := S.c1
  have l0 := S.low
  have l1 := S.high
  have l2 := S.fits
  have hl : ∀ n ty, (Builtin.len_ #[88] ty #[.map (some bm)]).run Try.prog (w.drewN n) = .ok (.int .i64 m) (w.drewN n) := fun n ty => PM.len (w := w.drewN n) S.map Try.underlying88 ty
  go_enter Try.func51, Try.ntmps51
  go_wp2_with fail
  go_quiet (fail)
  go_wp2
  go_ret
  exact ⟨rfl, nq, rfl⟩
end Go.Proofs.Ythbgmlmcjnlopaa
namespace Go.Proofs.Ythbgmlmcjnlopaa
open Go.ChangeShapes Go.WideShapes Go.ChangeAt Go.RowKit
open Go.Maps (Keyed)
set_option linter.unusedVariables false
set_option linter.unusedSimpArgs false

theorem place_any (a i : Int) (w : World) (h0 : 0 ≤ a) (h1 : a < 140737488355328) (h2 : 0 ≤ i) (h3 : i ≤ 1024) : Calls Try.prog 50 #[.int .u64 a, .int .i64 i] w fun e w' => e = .returned (.int .u64 (a + i * 4096)) ∧ w = w' := by
  go_enter Try.func50, Try.ntmps50
  go_wp2
  go_ret
  exact ⟨rfl, rfl⟩
theorem place_q (a i : Int) (w : World) (h0 : 0 ≤ a) (h1 : a < 140737488355328) (h2 : 0 ≤ i) (h3 : i ≤ 1024) : Calls Try.prog 50 #[.int .u64 a, .int .i64 i] w fun e w' => e = .returned (.int .u64 (a + i * 4096)) ∧ w' = w :=
  (place_any a i w h0 h1 h2 h3).mono fun _ _ ⟨h, h'⟩ => ⟨h, h'.symm⟩

/-- n pages from a on are pages at all. -/
def RowOk (a n : Int) : Prop := a % 4096 = 0 ∧ 1 ≤ n ∧ n ≤ 1024 ∧ a + n * 4096 ≤ 140737488355328

theorem rowOk_yes (a n : Int) (w : World) (h0 : 0 ≤ a) (h : RowOk a n) : Calls Try.prog 48 #[.int .u64 a, .int .i64 n] w fun e w' => e = .returned (.bool true) ∧ w = w' := by
  obtain ⟨h1, h2, h3, h4⟩ := h
  have e1 : (a % 4096 != 0) = false := by rw [bne_eq_false_iff_eq]; exact h1
  have e2 : decide (n * 4096 ≤ 140737488355328 - a) = true := decide_eq_true (by omega)
  have e3 : a < 140737488355328 := by omega
  go_enter Try.func48, Try.ntmps48
  go_wp2
  go_ret
  exact ⟨rfl, rfl⟩

theorem rowOk_no (a n : Int) (w : World) (h0 : 0 ≤ a) (h1 : a < 18446744073709551616) (h : ¬ RowOk a n) : Calls Try.prog 48 #[.int .u64 a, .int .i64 n] w fun e w' => e = .returned (.bool false) ∧ w = w' := by
  unfold RowOk at h
  by_cases c1 : a % 4096 = 0
  · have e1 : (a % 4096 != 0) = false := by rw [bne_eq_false_iff_eq]; exact c1
    by_cases c2 : n < 1
    · clear h
      go_enter Try.func48, Try.ntmps48
      go_wp2
      go_ret
      exact ⟨rfl, rfl⟩
    · by_cases c3 : 1024 < n
      · clear h
        go_enter Try.func48, Try.ntmps48
        go_wp2
        go_ret
        exact ⟨rfl, rfl⟩
      · by_cases c4 : 140737488355328 ≤ a
        · clear h
          go_enter Try.func48, Try.ntmps48
          go_wp2
          go_ret
          exact ⟨rfl, rfl⟩
        · have e3 : a < 140737488355328 := by omega
          have e2 : decide (n * 4096 ≤ 140737488355328 - a) = false := decide_eq_false (by omega)
          have e4 : 1 ≤ n := by omega
          have e5 : n ≤ 1024 := by omega
          clear h c2 c3 c4 c1
          go_enter Try.func48, Try.ntmps48
          go_wp2
          go_ret
          exact ⟨rfl, rfl⟩
  · have e1 : (a % 4096 != 0) = true := by rw [bne_iff_ne]; exact c1
    clear h c1
    go_enter Try.func48, Try.ntmps48
    go_wp2
    go_ret
    exact ⟨rfl, rfl⟩

/-- n more pages from a on. -/
def setP (mp : Int → Option Pg) (a p : Int) : Nat → Int → Option Pg
  | 0 => mp
  | k + 1 => upd (setP mp a p k) (a + k * 4096) (some ⟨p, fun _ => 0⟩)

theorem setP_none (mp : Int → Option Pg) (a p : Int) {n : Nat} (h : ∀ i : Nat, i < n → mp (a + i * 4096) = none) : ∀ (j : Nat), j < n → ∀ k, k ≤ j → setP mp a p k (a + j * 4096) = none
  | j, hj, 0, _ => h j hj
  | j, hj, k + 1, hk => by
    show upd (setP mp a p k) (a + k * 4096) _ (a + j * 4096) = none
    rw [upd_other _ _ (by omega)]
    exact setP_none mp a p h j hj k (by omega)

theorem f_none {w : World} {M bm m : Nat} {most : Int} {f : Int → Option Nat} {mp : Int → Option Pg} (S : MemIn w M bm m most f mp) {x : Int} (h : mp x = none) : f x = none := by
  have := S.both x
  rw [h] at this
  cases hf : f x with
  | none => rfl
  | some B => rw [hf] at this; cases this

theorem MemIn.added {w w0 w' : World} {M bm m : Nat} {most : Int} {f : Int → Option Nat} {mp : Int → Option Pg} {g : Pg} (S : MemIn w M bm m most f mp) {x : Int} (hf : f x = none) (hw : Below w.heap.size w w0) (hg : w0.grownBy w' (some bm))
    (hP : PM w' Try.prog 22 .u64 bm (if (f x).isSome then m else m + 1) (upd f x (some w.heap.size))) (hO : Own w0 w.heap.size 4097 (pgF g)) (hfit : ((m + 1 : Nat) : Int) ≤ most) :
    MemIn w' M bm (m + 1) most (upd f x (some w.heap.size)) (upd mp x (some g)) := by
  have keep : ∀ k, k < w.heap.size → k ≠ bm → w'.heap[k]? = w.heap[k]? := fun k hk hne =>
    (hg.block k (Nat.lt_of_lt_of_le hk hw.size) (by simpa using hne)).trans (hw.block k hk)
  have hMb : M ≠ bm := S.map.own_ne S.c0
  have hbl := S.map.lt
  have hsz : w.heap.size ≤ w'.heap.size := Nat.le_trans hw.size hg.size
  rw [hf] at hP
  refine ⟨(World.cell?_of_block (keep M S.mlt hMb)).trans S.c0, (World.cell?_of_block (keep M S.mlt hMb)).trans S.c1, Nat.lt_of_lt_of_le S.mlt hsz, hP, fun a => ?_, fun a B g' h1 h2 => ?_, fun a a' B h1 h2 => ?_, fun a B h1 => ?_, S.low, S.high, hfit⟩
  · by_cases e : a = x
    · rw [e, upd_same, upd_same]; rfl
    · rw [upd_other f _ e, upd_other mp _ e]; exact S.both a
  · by_cases e : a = x
    · rw [e, upd_same] at h1 h2
      cases h1
      cases h2
      exact hO.grown hg (by simp; omega)
    · rw [upd_other f _ e] at h1
      rw [upd_other mp _ e] at h2
      have ho := S.page a B g' h1 h2
      exact ho.of_block (keep B ho.1 (S.map.own_ne (ho.cell (i := 0) (by omega)))) hsz
  · have hlt : ∀ a B, f a = some B → B < w.heap.size := fun a B h => by
      have hb := S.both a
      rw [h] at hb
      cases hm : mp a with
      | none => rw [hm] at hb; cases hb
      | some g' => exact (S.page a B g' h hm).1
    by_cases e1 : a = x <;> by_cases e2 : a' = x
    · rw [e1, e2]
    · rw [e1, upd_same] at h1
      rw [upd_other f _ e2] at h2
      cases h1
      have := hlt _ _ h2
      omega
    · rw [e2, upd_same] at h2
      rw [upd_other f _ e1] at h1
      cases h2
      have := hlt _ _ h1
      omega
    · rw [upd_other f _ e1] at h1
      rw [upd_other f _ e2] at h2
      exact S.inj a a' B h1 h2
  · by_cases e : a = x
    · rw [e, upd_same] at h1
      cases h1
      have := S.mlt
      omega
    · rw [upd_other f _ e] at h1
      exact S.nos a B h1

theorem own_page2 (p : Int) (w : World) : Own (w.alloc (.cells (Try.zeroCells95.setIfInBounds 0 (.int .i64 p)) 95)).drew w.heap.size 4097 (pgF ⟨p, fun _ => 0⟩) := by
  have h := own_page p w
  refine Own.congr (g := w.heap.size) (n := 4097) h (fun q _ => ?_)
  unfold pgF
  rfl

theorem MemIn.added_page {w w' : World} {M bm m : Nat} {most : Int} {f : Int → Option Nat} {mp : Int → Option Pg} (S : MemIn w M bm m most f mp) {x p : Int} (hf : f x = none) (hg : (w.alloc (.cells (Try.zeroCells95.setIfInBounds 0 (.int .i64 p)) 95)).drew.grownBy w' (some bm))
    (hP : PM w' Try.prog 22 .u64 bm (if (f x).isSome then m else m + 1) (upd f x (some w.heap.size))) (hfit : ((m + 1 : Nat) : Int) ≤ most) :
    MemIn w' M bm (m + 1) most (upd f x (some w.heap.size)) (upd mp x (some ⟨p, fun _ => 0⟩)) :=
  MemIn.added S hf (((Below.refl w.heap.size w).alloc (Nat.le_refl _) _).drew) hg hP (own_page2 p w) hfit

theorem step_mapUpdate_pm {P : Program} {ops : Array Oper} {o : Oper} {a : Act} {w : World} {K : Act → World → Prop} {Q : Exit → Act → World → Prop} {E : Prop} (hg : o.guard = none) (m x v : Operand) (t : TypeId) (hop : o.op = Op.mapUpdate t m x v) (k e : TypeId) (q : IntKind)
    (hk : P.underlying k = some (.int q)) (ht : P.underlying t = some (.map k e)) (b n : Nat) (f : Int → Option Nat) (hm : a.eval m = .map (some b)) (hown : PM w P k q b n f) (hn : n < maxLen)
    (x0 : Int) (hx : a.eval x = .int q x0) (hwf : (Lit.int q x0).wf = true) (B : Nat) (hv : a.eval v = .pointer (some ⟨B, 0, none⟩))
    (hK : ∀ w', PM w' P k q b (if (f x0).isSome then n else n + 1) (upd f x0 (some B)) → w.grownBy w' (some b) → K (a.put o.dst undef) w') :
    if Region.wanted o (yielded ops a.tmps) = true then Oper.wp P o a w K Q else E := by
  have hw : Region.wanted o (yielded ops a.tmps) = true := by simp [Region.wanted, hg]
  rw [if_pos hw]
  obtain ⟨w', hrun, r1, r2⟩ := hown.store hk ht hn x0 hwf B
  unfold Oper.wp
  simp [execOp, hop, hm, hx, hv, hrun, Result.andThen]
  exact hK w' r1 r2

set_option maxRecDepth 100000 in
set_option maxHeartbeats 1000000 in
theorem map_core (R : Nat → Prop) (w : World) (M m : Nat) (most : Int) (mp : Int → Option Pg) (a p : Int) (n : Nat) (h0 : 0 ≤ a) (hr : RowOk a n) (p0 : 0 ≤ p) (p1 : p ≤ 15) (hfree : ∀ i : Nat, i < n → mp (a + i * 4096) = none) (hfit : (m : Int) + n ≤ most) (H : MemAt R w M m most mp) :
    Calls Try.prog 24 #[.pointer (some ⟨M, 0, none⟩), .int .u64 a, .int .i64 n, .int .i64 p] w fun e w' => e = .returned (.int .i64 0) ∧ MemAt R w' M (m + n) most (setP mp a p n) ∧ Kept R w w' := by
  obtain ⟨r1, r2, r3, r4⟩ := hr
  have HR := Lib.hid (show RowOk a n from ⟨r1, r2, r3, r4⟩)
  have HM := Lib.hid H
  have HF := Lib.hid hfree
  have HR0 : Hid (∀ k, R k → k < w.heap.size) := by obtain ⟨bm, f, S, _, _, _, h⟩ := H; exact h
  have hmost := (show 0 ≤ most ∧ most ≤ 1024 by obtain ⟨bm, f, S, _⟩ := H; exact ⟨S.low, S.high⟩)
  obtain ⟨hm0, hm1⟩ := hmost
  have ha : a < 140737488355328 := by omega
  clear r1 hfree
  go_enter Try.func24, Try.ntmps24
  go_wp2_with (first | (go_at_call 48; refine (rowOk_yes _ _ _ h0 HR.out).mono ?_; rintro e w' ⟨rfl, rfl⟩) | (go_at_call 49; refine (protOk_yes _ _ p0 p1).mono ?_; rintro e w' ⟨rfl, rfl⟩))
  clear H
  go_loopw [21] (fun o wr => ∃ i : Nat, i ≤ n ∧ o = .int .i64 i ∧ ∃ k, wr = w.drewN k) (fun o _ => n - (intOf o).toNat)
  case atStart => exact ⟨0, Nat.zero_le _, rfl, 0, rfl⟩
  case round =>
    obtain ⟨i, hi, rfl, hk⟩ := hrel
    obtain ⟨bm, f, S, hRs⟩ : MemAt R wr M m most mp := by obtain ⟨k, rfl⟩ := hk; exact HM.out.drewN k
    have HK := Lib.hid hk
    have k1 := S.c1
    clear hk
    by_cases hlt : i < n
    · have hfr := HF.out i hlt
      have hl := fun n => S.map.lookupN (a + i * 4096) (by simp [Lit.wf, IntKind.min, IntKind.max, IntKind.bits, IntKind.signed]; omega) n
      have hb := S.both (a + i * 4096)
      rw [hfr] at hb
      cases hf : f (a + i * 4096) with
      | some B => rw [hf] at hb; cases hb
      | none =>
        rw [hf] at hl
        simp only [ptrV] at hl
        clear hb hf hfr
        go_wp2_with fail
        go_quiet ((go_at_call 50; exact Calls.quiet_of_same (place_q _ _ _ h0 ha (by omega) (by omega))))
        go_wp2
        go_roundw
        case rel => exact ⟨i + 1, by omega, by go_num, by obtain ⟨k, rfl⟩ := HK.out; exact ⟨k + nq, by rw [World.drewN_drewN]⟩⟩
        case measure => simp [intOf]; omega
    · obtain rfl : i = n := by omega
      have Hr := Lib.hid (show MemAt R wr M m most mp from ⟨bm, f, S, hRs⟩)
      clear hlt hi k1
      go_wp2_with (go_at_call 51; refine (free_any R _ M m most mp Hr.out).mono ?_; rintro e w2 ⟨rfl, hk2⟩)
      obtain ⟨k2, rfl⟩ := hk2
      have Hr2 := Lib.hid (Hr.out.drewN k2)
      have HK2 := Lib.hid (show Kept R w (wr.drewN k2) by obtain ⟨k, rfl⟩ := HK.out; rw [World.drewN_drewN]; exact ⟨rfl, rfl, rfl, Nat.le_refl _, fun _ _ => rfl⟩)
      clear Hr S hRs HK
      go_loopw [39] (fun o wr => ∃ j : Nat, j ≤ i ∧ o = .int .i64 j ∧ MemAt R wr M (m + j) most (setP mp a p j) ∧ Kept R w wr) (fun o _ => i - (intOf o).toNat)
      case atStart => exact ⟨0, Nat.zero_le _, rfl, Hr2.out, HK2.out⟩
      case round =>
        obtain ⟨j, hj, rfl, hm, hk⟩ := hrel
        have HM3 := Lib.hid hm
        have HK3 := Lib.hid hk
        clear hk Hr2 HK2
        by_cases hlt : j < i
        · obtain ⟨bm, f, S, hRs⟩ := hm
          have k1 := S.c1
          have hlt2 := S.mlt
          have hfit2 := S.fits
          have hhigh := S.high
          have hMb : M ≠ bm := S.map.own_ne S.c1
          have hwf : (Lit.int .u64 (a + j * 4096)).wf = true := by
            simp [Lit.wf, IntKind.min, IntKind.max, IntKind.bits, IntKind.signed]
            omega
          have hfx := Lib.hid (f_none S (setP_none mp a p HF.out j (by omega) j (Nat.le_refl _)))
          have hX := Lib.hid (fun X => show (wr.alloc X).drew.cell? ⟨M, 1, none⟩ = _ from (World.cell?_of_block (a := ⟨M, 1, none⟩) (Below.heap_alloc wr X M hlt2)).trans k1)
          have hD := Lib.hid (show wr.drew.cell? ⟨M, 1, none⟩ = some (.map (some bm)) from k1)
          have hPM := Lib.hid (fun (X : Obj) => PM.kept (w := wr) (w' := (wr.alloc X).drew) S.map (only_drew (World.grownBy_alloc wr X none)) (by simp))
          go_wp2_with fail
          refine wp_region_noPanic ?_
          refine wp_region_held_drew (S := fun W => W.cell? ⟨M, 1, none⟩ = some (.map (some bm))) (by kernel_rfl) ?_ (fun hHeld => ?_)
          · (first | assumption | exact hX.out _ | exact hD.out)
          refine wpAnyH_take (i := 0) (oi := ?_) (v := ?_) ?_ (by kernel_rfl) (by kernel_rfl) (by kernel_rfl) (fun _ _ _ h => h) ?_ (by assumption) ?_
          rotate_left 2
          · (simp only [List.getElem?_toArray, List.getElem?_cons_succ, List.getElem?_cons_zero]; rfl)
          · (refine Or.inl ⟨by rfl, ?_⟩; intro w hSw; (try dsimp only at hSw); go_simp; try with_reducible rfl)
          try simp only [Act.put, List.setIfInBounds_toArray, List.set_cons_zero, List.set_cons_succ]
          refine wpAnyH_take (i := 1) (oi := ?_) (v := ?_) ?_ (by kernel_rfl) (by kernel_rfl) (by kernel_rfl) (fun _ _ _ h => h) ?_ (by assumption) ?_
          rotate_left 2
          · (simp only [List.getElem?_toArray, List.getElem?_cons_succ, List.getElem?_cons_zero]; rfl)
          · (refine Or.inl ⟨by rfl, ?_⟩; intro w hSw; (try dsimp only at hSw); go_simp; try with_reducible rfl)
          try simp only [Act.put, List.setIfInBounds_toArray, List.set_cons_zero, List.set_cons_succ]
          refine wpAnyH_take (i := 2) (oi := ?_) (v := ?_) ?_ (by kernel_rfl) (by kernel_rfl) (by kernel_rfl) (fun _ _ _ h => h) ?_ (by assumption) ?_
          rotate_left 2
          · (simp only [List.getElem?_toArray, List.getElem?_cons_succ, List.getElem?_cons_zero]; rfl)
          · (refine Or.inl ⟨by rfl, ?_⟩; intro w hSw; (try dsimp only at hSw); go_simp; try with_reducible rfl)
          try simp only [Act.put, List.setIfInBounds_toArray, List.set_cons_zero, List.set_cons_succ]
          refine wpAnyH_take (i := 3) (oi := ?_) (v := ?_) ?_ (by kernel_rfl) (by kernel_rfl) (by kernel_rfl) (fun _ _ _ h => h) ?_ (by assumption) ?_
          rotate_left 2
          · (simp only [List.getElem?_toArray, List.getElem?_cons_succ, List.getElem?_cons_zero]; rfl)
          · (refine Or.inl ⟨by rfl, ?_⟩; intro w hSw; (try dsimp only at hSw); go_simp; try with_reducible rfl)
          try simp only [Act.put, List.setIfInBounds_toArray, List.set_cons_zero, List.set_cons_succ]
          refine wpAnyH_take (i := 4) (oi := ?_) (v := ?_) ?_ (by kernel_rfl) (by kernel_rfl) (by kernel_rfl) (fun _ _ _ h => h) ?_ (by assumption) ?_
          rotate_left 2
          · (simp only [List.getElem?_toArray, List.getElem?_cons_succ, List.getElem?_cons_zero]; rfl)
          · (refine Or.inl ⟨by rfl, ?_⟩; intro w hSw; (try dsimp only at hSw); go_simp; try with_reducible rfl)
          try simp only [Act.put, List.setIfInBounds_toArray, List.set_cons_zero, List.set_cons_succ]
          refine wpAnyH_take (i := 5) (oi := ?_) (v := ?_) ?_ (by kernel_rfl) (by kernel_rfl) (by kernel_rfl) (fun _ _ _ h => h) ?_ (by assumption) ?_
          rotate_left 2
          · (simp only [List.getElem?_toArray, List.getElem?_cons_succ, List.getElem?_cons_zero]; rfl)
          · (refine Or.inl ⟨by rfl, ?_⟩; intro w hSw; (try dsimp only at hSw); go_simp; try with_reducible rfl)
          try simp only [Act.put, List.setIfInBounds_toArray, List.set_cons_zero, List.set_cons_succ]
          refine wpAnyH_take (i := 7) (oi := ?_) (v := ?_) ?_ (by kernel_rfl) (by kernel_rfl) (by kernel_rfl) (fun _ _ _ h => h) ?_ (by assumption) ?_
          rotate_left 2
          · (simp only [List.getElem?_toArray, List.getElem?_cons_succ, List.getElem?_cons_zero]; rfl)
          · (refine Or.inl ⟨by rfl, ?_⟩; intro w hSw; (try dsimp only at hSw); go_simp; try with_reducible rfl)
          try simp only [Act.put, List.setIfInBounds_toArray, List.set_cons_zero, List.set_cons_succ]
          refine wpAnyH_take (i := 8) (oi := ?_) (v := ?_) ?_ (by kernel_rfl) (by kernel_rfl) (by kernel_rfl) (fun _ _ _ h => h) ?_ (by assumption) ?_
          rotate_left 2
          · (simp only [List.getElem?_toArray, List.getElem?_cons_succ, List.getElem?_cons_zero]; rfl)
          · (refine Or.inl ⟨by rfl, ?_⟩; intro w hSw; (try dsimp only at hSw); go_simp; try with_reducible rfl)
          try simp only [Act.put, List.setIfInBounds_toArray, List.set_cons_zero, List.set_cons_succ]
          refine wpAnyH_ready (rs := [6, 9]) (by kernel_rfl) (by simp) ?_
          refine AllReadyH.cons (i := 6) rfl (fun K hK => ?_) ?_
          · go_simp
            ((go_at_call 50; refine (place_any _ _ _ h0 ha (by omega) (by omega)).mono ?_; rintro e w' ⟨rfl, rfl⟩))
            refine hK.out _ _ ?_ (fun hHeld => ?_)
            · (first | assumption | exact hX.out _ | exact hD.out)
            clear hK K
            refine wpAnyH_ready (rs := [9]) (by kernel_rfl) (by simp) ?_
            refine AllReadyH.cons (i := 9) rfl (fun K hK => ?_) ?_
            · go_simp
              refine hK.out _ _ ?_ (fun hHeld => ?_)
              · (first | assumption | exact hX.out _ | exact hD.out)
              clear hK K
              refine wpAnyH_ready (rs := [10]) (by kernel_rfl) (by simp) ?_
              refine AllReadyH.cons (i := 10) rfl (fun K hK => ?_) ?_
              · refine step_mapUpdate_pm (by rfl) _ _ _ 88 (by rfl) 22 91 .u64 Try.underlying22 Try.underlying88 bm (m + j) f (by rfl) (hPM.out _) (by unfold maxLen; omega) (a + j * 4096) (by rfl) hwf wr.heap.size (by rfl) ?_
                intro w3 hP3 hg3
                have hk3 : w3.cell? ⟨M, 1, none⟩ = some (.map (some bm)) := (World.cell?_of_block (hg3.block M (by simp; omega) (by simpa using hMb))).trans (hX.out _)
                refine hK.out _ _ ?_ (fun hHeld => ?_)
                · exact hk3
                clear hK K
                refine wpAnyH_done (by kernel_rfl) ?_ _
                refine NoPanic.normal ?_
                have J := MemIn.added_page S hfx.out hg3 hP3 (by omega)
                have HJ := Lib.hid J
                have HG3 := Lib.hid hg3
                clear J hP3 hg3 hHeld
                go_wp2
                go_roundw
                case rel =>
                  refine ⟨j + 1, by omega, by go_num, ⟨bm, _, HJ.out, hRs.1, hRs.2.1, fun a' B hf' => ?_, fun k hk => ?_⟩, ?_⟩
                  · by_cases e : a' = a + j * 4096
                    · subst e
                      rw [upd_same] at hf'
                      cases hf'
                      intro h
                      have := hRs.2.2.2 _ h
                      omega
                    · rw [upd_other f _ e] at hf'
                      exact hRs.2.2.1 a' B hf'
                  · have := hRs.2.2.2 k hk
                    have := HG3.out.size
                    simp at this
                    omega
                  · refine (HK3.out.alloc (fun k hk => ?_) _).drew.grown HG3.out (fun k hk => ?_) (fun k hk => ?_)
                    · exact HR0.out k hk
                    · exact HR0.out k hk
                    · cases hk; exact hRs.2.1
                case measure => simp [intOf]; omega
              exact AllReadyH.nil
            exact AllReadyH.nil
          refine AllReadyH.cons (i := 9) rfl (fun K hK => ?_) ?_
          · go_simp
            refine hK.out _ _ ?_ (fun hHeld => ?_)
            · (first | assumption | exact hX.out _ | exact hD.out)
            clear hK K
            refine wpAnyH_ready (rs := [6]) (by kernel_rfl) (by simp) ?_
            refine AllReadyH.cons (i := 6) rfl (fun K hK => ?_) ?_
            · go_simp
              ((go_at_call 50; refine (place_any _ _ _ h0 ha (by omega) (by omega)).mono ?_; rintro e w' ⟨rfl, rfl⟩))
              refine hK.out _ _ ?_ (fun hHeld => ?_)
              · (first | assumption | exact hX.out _ | exact hD.out)
              clear hK K
              refine wpAnyH_ready (rs := [10]) (by kernel_rfl) (by simp) ?_
              refine AllReadyH.cons (i := 10) rfl (fun K hK => ?_) ?_
              · refine step_mapUpdate_pm (by rfl) _ _ _ 88 (by rfl) 22 91 .u64 Try.underlying22 Try.underlying88 bm (m + j) f (by rfl) (hPM.out _) (by unfold maxLen; omega) (a + j * 4096) (by rfl) hwf wr.heap.size (by rfl) ?_
                intro w3 hP3 hg3
                have hk3 : w3.cell? ⟨M, 1, none⟩ = some (.map (some bm)) := (World.cell?_of_block (hg3.block M (by simp; omega) (by simpa using hMb))).trans (hX.out _)
                refine hK.out _ _ ?_ (fun hHeld => ?_)
                · exact hk3
                clear hK K
                refine wpAnyH_done (by kernel_rfl) ?_ _
                refine NoPanic.normal ?_
                have J := MemIn.added_page S hfx.out hg3 hP3 (by omega)
                have HJ := Lib.hid J
                have HG3 := Lib.hid hg3
                clear J hP3 hg3 hHeld
                go_wp2
                go_roundw
                case rel =>
                  refine ⟨j + 1, by omega, by go_num, ⟨bm, _, HJ.out, hRs.1, hRs.2.1, fun a' B hf' => ?_, fun k hk => ?_⟩, ?_⟩
                  · by_cases e : a' = a + j * 4096
                    · subst e
                      rw [upd_same] at hf'
                      cases hf'
                      intro h
                      have := hRs.2.2.2 _ h
                      omega
                    · rw [upd_other f _ e] at hf'
                      exact hRs.2.2.1 a' B hf'
                  · have := hRs.2.2.2 k hk
                    have := HG3.out.size
                    simp at this
                    omega
                  · refine (HK3.out.alloc (fun k hk => ?_) _).drew.grown HG3.out (fun k hk => ?_) (fun k hk => ?_)
                    · exact HR0.out k hk
                    · exact HR0.out k hk
                    · cases hk; exact hRs.2.1
                case measure => simp [intOf]; omega
              exact AllReadyH.nil
            exact AllReadyH.nil
          exact AllReadyH.nil
        · obtain rfl : j = i := by omega
          clear hlt
          go_wp2
          go_ret
          exact ⟨rfl, HM3.out, HK3.out⟩
end Go.Proofs.Ythbgmlmcjnlopaa
namespace Go.Proofs.Ythbgmlmcjnlopaa
open Go.ChangeShapes Go.WideShapes Go.ChangeAt Go.RowKit
open Go.Maps (Keyed)
set_option linter.unusedVariables false
set_option linter.unusedSimpArgs false

theorem wf_u64 {a : Int} (h0 : 0 ≤ a) (h1 : a < 18446744073709551616) : (Lit.int .u64 a).wf = true := by
  simp [Lit.wf, IntKind.min, IntKind.max, IntKind.bits, IntKind.signed]
  omega

theorem f_some {w : World} {M bm m : Nat} {most : Int} {f : Int → Option Nat} {mp : Int → Option Pg} (S : MemIn w M bm m most f mp) {x : Int} {g : Pg} (h : mp x = some g) : ∃ B, f x = some B := by
  have := S.both x
  rw [h] at this
  cases hf : f x with
  | some B => exact ⟨B, rfl⟩
  | none => rw [hf] at this; cases this

/-- The page at x is looked up: none. -/
theorem look_none {w : World} {M bm m : Nat} {most : Int} {f : Int → Option Nat} {mp : Int → Option Pg} (S : MemIn w M bm m most f mp) {x : Int} (h : mp x = none) (h0 : 0 ≤ x) (h1 : x < 18446744073709551616) (n : Nat) :
    (Instr.lookup 88 (.map (some bm)) (.int .u64 x) false).run Try.prog (w.drewN n) = .ok (.pointer none) (w.drewN n) := by
  have := S.map.lookupN x (wf_u64 h0 h1) n
  rw [f_none S h] at this
  exact this
theorem look_some {w : World} {M bm m : Nat} {most : Int} {f : Int → Option Nat} {mp : Int → Option Pg} (S : MemIn w M bm m most f mp) {x : Int} {g : Pg} (h : mp x = some g) (h0 : 0 ≤ x) (h1 : x < 18446744073709551616) :
    ∃ B, f x = some B ∧ Own w B 4097 (pgF g) ∧ ∀ n, (Instr.lookup 88 (.map (some bm)) (.int .u64 x) false).run Try.prog (w.drewN n) = .ok (.pointer (some ⟨B, 0, none⟩)) (w.drewN n) := by
  obtain ⟨B, hB⟩ := f_some S h
  refine ⟨B, hB, S.page x B g hB h, fun n => ?_⟩
  have := S.map.lookupN x (wf_u64 h0 h1) n
  rw [hB] at this
  exact this

/-- n pages fewer from a on. -/
def clrP (mp : Int → Option Pg) (a : Int) : Nat → Int → Option Pg
  | 0 => mp
  | k + 1 => upd (clrP mp a k) (a + k * 4096) none

theorem clrP_in (mp : Int → Option Pg) (a : Int) : ∀ (k i : Nat), i < k → clrP mp a k (a + i * 4096) = none
  | 0, i, hi => by omega
  | k + 1, i, hi => by
    show upd (clrP mp a k) (a + k * 4096) _ (a + i * 4096) = _
    by_cases e : i = k
    · subst e; rw [upd_same]
    · rw [upd_other _ _ (by omega)]
      exact clrP_in mp a k i (by omega)
theorem clrP_out (mp : Int → Option Pg) (a x : Int) : ∀ (k : Nat), (∀ i : Nat, i < k → x ≠ a + i * 4096) → clrP mp a k x = mp x
  | 0, _ => rfl
  | k + 1, h => by
    show upd (clrP mp a k) (a + k * 4096) _ x = _
    rw [upd_other _ _ (h k (by omega))]
    exact clrP_out mp a x k (fun i hi => h i (by omega))

theorem MemIn.removed {w w' : World} {M bm m m' : Nat} {most : Int} {f : Int → Option Nat} {mp : Int → Option Pg} (S : MemIn w M bm m most f mp) {x : Int} (hg : w.grownBy w' (some bm))
    (hP : PM w' Try.prog 22 .u64 bm m' (upd f x none)) (hm : m' ≤ m) : MemIn w' M bm m' most (upd f x none) (upd mp x none) := by
  have sub : ∀ a B, upd f x none a = some B → a ≠ x ∧ f a = some B := fun a B h => by
    by_cases e : a = x
    · rw [e, upd_same] at h; cases h
    · rw [upd_other f _ e] at h; exact ⟨e, h⟩
  have hMb : M ≠ bm := S.map.own_ne S.c0
  have k0 := hg.block M S.mlt (by simpa using hMb)
  have := S.fits
  refine ⟨(World.cell?_of_block k0).trans S.c0, (World.cell?_of_block k0).trans S.c1, Nat.lt_of_lt_of_le S.mlt hg.size, hP, fun a => ?_, fun a B g h1 h2 => ?_, fun a a' B h1 h2 => S.inj a a' B (sub _ _ h1).2 (sub _ _ h2).2, fun a B h => S.nos a B (sub _ _ h).2, S.low, S.high, by omega⟩
  · by_cases e : a = x
    · rw [e, upd_same, upd_same]; rfl
    · rw [upd_other f _ e, upd_other mp _ e]; exact S.both a
  · obtain ⟨e, h1⟩ := sub _ _ h1
    rw [upd_other mp _ e] at h2
    have ho := S.page a B g h1 h2
    exact ho.of_block (hg.block B ho.1 (by simpa using S.map.own_ne (ho.cell (i := 0) (by omega)))) hg.size

theorem step_delete_pm {P : Program} {ops : Array Oper} {o : Oper} {a : Act} {w : World} {K : Act → World → Prop} {Q : Exit → Act → World → Prop} {E : Prop} (hg : o.guard = none) (m x : Operand) (t k : TypeId) (hop : o.op = Op.call { callee := Callee.builtin Builtin.delete, args := #[m, x], argTypes := #[t, k] }) (e : TypeId) (q : IntKind)
    (hk : P.underlying k = some (.int q)) (ht : P.underlying t = some (.map k e)) (b n : Nat) (f : Int → Option Nat) (hm : a.eval m = .map (some b)) (hown : PM w P k q b n f)
    (x0 : Int) (hx : a.eval x = .int q x0) (hwf : (Lit.int q x0).wf = true)
    (hK : ∀ w', PM w' P k q b (if (f x0).isSome then n - 1 else n) (upd f x0 none) → w.grownBy w' (some b) → K (a.put o.dst (.tuple #[])) w') :
    if Region.wanted o (yielded ops a.tmps) = true then Oper.wp P o a w K Q else E := by
  have hw : Region.wanted o (yielded ops a.tmps) = true := by simp [Region.wanted, hg]
  rw [if_pos hw]
  obtain ⟨w', hrun, r1, r2⟩ := hown.delete hk ht x0 hwf o.type
  unfold Oper.wp
  simp [execOp, hop, resolve, invoke, builtin, hm, hx, hrun, Result.andThen]
  exact hK w' r1 r2.grown

end Go.Proofs.Ythbgmlmcjnlopaa
