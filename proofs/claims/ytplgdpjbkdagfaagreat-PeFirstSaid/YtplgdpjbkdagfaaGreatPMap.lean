/- Maps from integers to pointers at whole blocks. -/
import Derived.Test.YtplgdpjbkdagfaaGreatRows
import Derived.WalkKit
import Derived.ProofKit
import Derived.OpenShut
import Derived.Below
import Derived.Lib.Hide
import Derived.Outline
import Derived.IntWalk
import Derived.Handy
import Derived.Maps.OwnOps
import Derived.Maps.OwnSet
import Derived.Maps.Views
import Derived.Maps.RangeWalk
import Derived.Maps.Keyed
import Derived.Maps.AppendAt
namespace Go.Proofs.YtplgdpjbkdagfaaGreat
set_option maxRecDepth 100000
open Go.ChangeShapes Go.WideShapes Go.ChangeAt Go.RowKit
open Go.Maps (Keyed)
set_option linter.unusedVariables false
set_option linter.unusedSimpArgs false

/-- How a pointer at a whole block reads. -/
def ptrR : Value → Option (DataW Unit × List MemPlace)
  | .pointer none => some (.nil, [])
  | .pointer (some a) => if a = ⟨a.block, 0, none⟩ then some (.lit (.int .i64 a.block), []) else none
  | _ => none
def ptrV : Option Nat → Value
  | none => .pointer none
  | some b => .pointer (some ⟨b, 0, none⟩)
def ptrD : Option Nat → DataW Unit → DataW Unit
  | none, z => z
  | some b, _ => .lit (.int .i64 b)

theorem ptrR_some (b : Nat) : ptrR (.pointer (some ⟨b, 0, none⟩)) = some (.lit (.int .i64 b), []) := by simp [ptrR]
theorem ptrR_inv {v : Value} {y : DataW Unit × List MemPlace} (h : ptrR v = some y) : (v = .pointer none ∧ y = (.nil, [])) ∨ ∃ b : Nat, v = .pointer (some ⟨b, 0, none⟩) ∧ y = (.lit (.int .i64 b), []) := by
  unfold ptrR at h
  split at h
  · cases h; exact Or.inl ⟨rfl, rfl⟩
  · rename_i a
    split at h
    · rename_i e
      cases h
      exact Or.inr ⟨a.block, by rw [e], rfl⟩
    · cases h
  · cases h

/-- Block b is a map with m keys that leads from each key x to the block f x. -/
def PM (w : World) (P : Program) (k : TypeId) (q : IntKind) (b m : Nat) (f : Int → Option Nat) : Prop :=
  ∃ D : DataW Unit, w.ownsMap P k ptrR b m D ∧ Maps.size D = m ∧ ∀ x zd, D.atKey (.int q x) zd = ptrD (f x) zd

/-- A function turned at one place. -/
def upd {α : Type} (f : Int → α) (x : Int) (v : α) : Int → α := fun y => if y = x then v else f y
theorem upd_same {α : Type} (f : Int → α) (x : Int) (v : α) : upd f x v x = v := by simp [upd]
theorem upd_other {α : Type} (f : Int → α) {x y : Int} (v : α) (h : y ≠ x) : upd f x v y = f y := by simp [upd, h]

section
variable {w w' : World} {P : Program} {k t e : TypeId} {q : IntKind} {b m : Nat} {f : Int → Option Nat}

theorem ownsMap_size {D : DataW Unit} {n : Nat} (h : w.ownsMap P k ptrR b n D) : w.ownsMap P k ptrR b (Maps.size D) D := by
  obtain ⟨es, clock, hb, F, hs, rfl⟩ := h
  exact ⟨es, clock, hb, F, by simp [Maps.size, length_sorted], rfl⟩

theorem PM.made (w : World) (P : Program) (k : TypeId) (q : IntKind) : PM (w.alloc (.map #[] 0)) P k q w.heap.size 0 (fun _ => none) :=
  ⟨.map [], World.ownsMap_made w P k ptrR, rfl, fun _ _ => rfl⟩
theorem PM.lt (h : PM w P k q b m f) : b < w.heap.size := by obtain ⟨D, h, _⟩ := h; exact h.lt
theorem PM.kept {row : Option Nat} (h : PM w P k q b m f) (hg : w.grownBy w' row) (hne : some b ≠ row) : PM w' P k q b m f := by
  obtain ⟨D, h, r⟩ := h; exact ⟨D, h.kept hg hne, r⟩
theorem PM.of_block (h : PM w P k q b m f) (e : w'.heap[b]? = w.heap[b]?) : PM w' P k q b m f := by
  obtain ⟨D, ⟨es, clock, hb, r⟩, r'⟩ := h; exact ⟨D, ⟨es, clock, e.trans hb, r⟩, r'⟩
theorem PM.congr {f' : Int → Option Nat} (h : PM w P k q b m f) (e : ∀ x, f' x = f x) : PM w P k q b m f' := by
  obtain ⟨D, h1, h2, h3⟩ := h; exact ⟨D, h1, h2, fun x zd => by rw [e, h3]⟩

theorem PM.lookup (h : PM w P k q b m f) (hk : P.underlying k = some (.int q)) (ht : P.underlying t = some (.map k e)) (hz : ∀ w, (zeroValue e).run P w = .ok (.pointer none) w) (x : Int) (hx : (Lit.int q x).wf = true) :
    (Instr.lookup t (.map (some b)) (.int q x) false).run P w = .ok (ptrV (f x)) w := by
  obtain ⟨D, h, _, hf⟩ := h
  obtain ⟨v, ps, hrun, hv⟩ := h.lookup (Maps.int_keyed hk) ht (hz w) (zd := .nil) (zp := []) rfl (Maps.keyOf_int_mk hk hx)
  rw [hrun]
  congr 1
  rw [hf] at hv
  rcases ptrR_inv hv with ⟨rfl, hy⟩ | ⟨b', rfl, hy⟩
  · cases hfx : f x with
    | none => rfl
    | some B => rw [hfx] at hy; simp [ptrD] at hy
  · cases hfx : f x with
    | none => rw [hfx] at hy; simp [ptrD] at hy
    | some B =>
      rw [hfx] at hy
      simp only [ptrD, Prod.mk.injEq, DataW.lit.injEq, Lit.int.injEq, true_and] at hy
      have : B = b' := by omega
      rw [this]; rfl

theorem keyLit (q : IntKind) (x : Int) : WideAt.IsKeyLit (.int q x) := by trivial

theorem PM.has (h : PM w P k q b m f) {D : DataW Unit} (hf : ∀ x zd, D.atKey (.int q x) zd = ptrD (f x) zd) (x : Int) : Maps.has D (.int q x) = (f x).isSome := by
  cases hfx : f x with
  | none => exact Maps.has_false_of_atKey fun z => by rw [hf, hfx]; rfl
  | some B => exact Maps.has_true_of_atKey (y := .lit (.int .i64 B)) fun z => by rw [hf, hfx]; rfl

theorem PM.store (h : PM w P k q b m f) (hk : P.underlying k = some (.int q)) (ht : P.underlying t = some (.map k e)) (hm : m < maxLen) (x : Int) (hx : (Lit.int q x).wf = true) (B : Nat) :
    ∃ w', (Instr.mapUpdate t (.map (some b)) (.int q x) (.pointer (some ⟨B, 0, none⟩))).run P w = .ok () w' ∧ PM w' P k q b (if (f x).isSome then m else m + 1) (upd f x (some B)) ∧ w.grownBy w' (some b) := by
  have h0 := h
  obtain ⟨D, h, hs, hf⟩ := h
  obtain ⟨w', hrun, h', hg⟩ := h.update (Maps.int_keyed hk) ht hm (Maps.keyOf_int_mk hk hx) (ptrR_some B)
  have hK : Keyed P k := Maps.int_keyed hk
  refine ⟨w', hrun, ⟨D.put (.int q x) (.lit (.int .i64 B)), ?_, ?_, fun y zd => ?_⟩, hg⟩
  · have := ownsMap_size h'
    rw [Maps.size_put (h.tidy hK), h0.has hf, hs] at this
    exact this
  · rw [Maps.size_put (h.tidy hK), h0.has hf, hs]
  · by_cases e : y = x
    · subst e
      rw [Maps.atKey_put_same h.isMap (keyLit q y), upd_same]; rfl
    · rw [Maps.atKey_put_other (by intro e'; injection e' with _ e'; exact e e'), hf, upd_other f _ e]

theorem PM.delete (h : PM w P k q b m f) (hk : P.underlying k = some (.int q)) (ht : P.underlying t = some (.map k e)) (x : Int) (hx : (Lit.int q x).wf = true) (ty : TypeId) :
    ∃ w', (Builtin.delete_ #[t, k] ty #[.map (some b), .int q x]).run P w = .ok (.tuple #[]) w' ∧ PM w' P k q b (if (f x).isSome then m - 1 else m) (upd f x none) ∧ w.mapTurned w' b := by
  have h0 := h
  obtain ⟨D, h, hs, hf⟩ := h
  have hK : Keyed P k := Maps.int_keyed hk
  obtain ⟨w', hrun, h', hg⟩ := h.drop hK ht (Maps.keyOf_int_mk hk hx) ty
  have hsz := Maps.size_del (k := .int q x) (h.tidy hK)
  rw [h0.has hf] at hsz
  have hsz' : Maps.size (D.del (.int q x)) = if (f x).isSome then m - 1 else m := by
    split <;> rename_i hc
    · rw [if_pos hc] at hsz; omega
    · rw [if_neg hc] at hsz; omega
  refine ⟨w', hrun, ⟨D.del (.int q x), ?_, hsz', fun y zd => ?_⟩, hg⟩
  · rw [← hsz']; exact ownsMap_size h'
  · by_cases e : y = x
    · subst e
      rw [Maps.atKey_del_same, upd_same]; rfl
    · rw [Maps.atKey_del_other (by intro e'; injection e' with _ e'; exact e e'), hf, upd_other f _ e]

theorem PM.len (h : PM w P k q b m f) (ht : P.underlying t = some (.map k e)) (ty : TypeId) : (Builtin.len_ #[t] ty #[.map (some b)]).run P w = .ok (.int .i64 m) w := by
  obtain ⟨D, h, hs, hf⟩ := h
  rw [h.len ht ty, hs]
end
end Go.Proofs.YtplgdpjbkdagfaaGreat
