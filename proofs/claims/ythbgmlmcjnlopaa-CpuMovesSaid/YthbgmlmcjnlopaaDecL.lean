/- package dec: the bytes of an instruction, piece by piece. -/
import Derived.Test.YthbgmlmcjnlopaaDecK
import Derived.Test.YthbgmlmcjnlopaaBl
namespace Go.Proofs.Ythbgmlmcjnlopaa
open Go.ChangeShapes Go.WideShapes Go.ChangeAt Go.RowKit
set_option linter.unusedVariables false
set_option linter.unusedSimpArgs false

def zL (bs : List Nat) : List Int := bs.map fun (n : Nat) => (n : Int)
theorem zL_len (bs : List Nat) : (zL bs).length = bs.length := by simp [zL]
theorem zL_app (bs cs : List Nat) : zL (bs ++ cs) = zL bs ++ zL cs := by simp [zL]
theorem litF_zL (bs : List Nat) (i : Nat) : litF (zL bs) i = bF bs i := by
  unfold litF bF zL
  rcases Nat.lt_or_ge i bs.length with h | h
  · simp [List.getD, h]
  · simp [List.getD, h]

def preVal (p : Pre) (a b : Nat) : Nat := (p.base ||| (if 7 < a then p.bitA else 0)) ||| (if 7 < b then p.bitB else 0)
def preBytes (p : Pre) (a b : Nat) : List Nat := if p.spare = true ∧ preVal p a b = p.base then [] else if preVal p a b = 0 then [] else [preVal p a b]
def codeBytes (F : Form) (x : InsV) : List Nat :=
  if F.regs = 0 then [F.code] else if F.regs = 1 then [(F.code + x.a % 8) % 256] else [F.code, (F.ext + x.a % 8 * 8 + x.b % 8) % 256]
def leBytes (v n : Nat) : List Nat := (List.range n).map fun i => v / 2 ^ (8 * i) % 256
def tailVal (F : Form) (x : InsV) : Nat := if F.tail = 5 ∨ F.tail = 6 then (x.disp % 18446744073709551616).toNat else x.imm
def encM (F : Form) (x : InsV) : List Nat := preBytes (preF F.pre) x.a x.b ++ codeBytes F x ++ leBytes (tailVal F x) (tailLen F.tail)

/-- What byteOf tells. -/
def preTold (p : Pre) (a b : Nat) : Nat × Bool := if p.spare = true ∧ preVal p a b = p.base then (0, false) else (preVal p a b, decide (preVal p a b ≠ 0))
theorem preTold_bytes (p : Pre) (a b : Nat) : preBytes p a b = if (preTold p a b).2 = true then [(preTold p a b).1] else [] := by
  unfold preBytes preTold
  split
  · simp
  · by_cases h : preVal p a b = 0 <;> simp [h]

/-- A fresh slice of bytes. -/
def NewB (w w' : World) (e : Ending) (bs : List Nat) : Prop := ∃ g c, e = .returned (.slice (some ⟨g, 0, none⟩) bs.length c) ∧ SlB w' (some ⟨g, 0, none⟩) bs.length (bF bs) ∧ Below w.heap.size w w'

theorem slB_new (w : World) (bs : List Nat) (T : TypeId) : SlB (w.alloc (.cells (bs.map fun (n : Nat) => Value.int .u8 (n : Int)).toArray T)) (some ⟨w.heap.size, 0, none⟩) bs.length (bF bs) := by
  refine .inr ⟨w.heap.size, 0, rfl, by simp, fun i hi => ?_⟩
  rw [Nat.zero_add, cell_of_row _ _ _ _ _ _ (heap_alloc_new _ _)]
  simp [bF, List.getD, hi]

theorem newB_box (w : World) (o : Obj) (bs : List Nat) (c : Nat) (T : TypeId) : NewB w ((w.alloc o).alloc (.cells (bs.map fun (n : Nat) => Value.int .u8 (n : Int)).toArray T)).drew (.returned (.slice (some ⟨w.heap.size + 1, 0, none⟩) bs.length c)) bs := by
  refine ⟨w.heap.size + 1, c, rfl, ?_, (((Below.refl w.heap.size w).alloc (Nat.le_refl _) o).alloc (by simp) _).drew⟩
  have h := slB_new (w.alloc o) bs T
  rw [show (w.alloc o).heap.size = w.heap.size + 1 by simp] at h
  exact h
theorem newB_box2 (w : World) (o : Obj) (bs : List Nat) (c : Nat) (T : TypeId) : NewB w ((w.alloc o).alloc (.cells (bs.map fun (n : Nat) => Value.int .u8 (n : Int)).toArray T)).drew.drew (.returned (.slice (some ⟨w.heap.size + 1, 0, none⟩) bs.length c)) bs := by
  obtain ⟨g, c', h1, h2, h3⟩ := newB_box w o bs c T
  exact ⟨g, c', h1, h2, h3.drew⟩

end Go.Proofs.Ythbgmlmcjnlopaa
