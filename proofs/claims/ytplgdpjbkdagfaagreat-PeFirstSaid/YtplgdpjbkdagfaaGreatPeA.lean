/- package pe: the row of an image, and what its directories lead to. -/
import Derived.Test.YtplgdpjbkdagfaaGreatHdrH
import Derived.Test.YtplgdpjbkdagfaaGreatKept
import Derived.Test.YtplgdpjbkdagfaaGreatRegK
import Derived.Test.YtplgdpjbkdagfaaGreatStoreRow
import Derived.Deep.MidRow
namespace Go.Proofs.YtplgdpjbkdagfaaGreat
open Go.ChangeShapes Go.WideShapes Go.ChangeAt Go.RowKit
set_option linter.unusedVariables false
set_option linter.unusedSimpArgs false
set_option maxRecDepth 100000

/-- An image, cell by cell. -/
structure PeV where
  hd : Nat → Value
  img : Value
  e0 : Value
  e1 : Value
  e2 : Value
  im : Value
  de : Value
  bo : Value
  re : Value
  t0 : Value
  t1 : Value
  t2 : Value
def peF (x : PeV) (j : Nat) : Value :=
  if j < 39 then x.hd j else if j = 39 then x.img else if j = 40 then x.e0 else if j = 41 then x.e1 else if j = 42 then x.e2 else if j = 43 then x.im else if j = 44 then x.de else if j = 45 then x.bo else if j = 46 then x.re else if j = 47 then x.t0 else if j = 48 then x.t1 else x.t2
def PeAt (w : World) (P : Nat) (x : PeV) : Prop := Own w P 50 (peF x)
theorem peF_hd (x : PeV) {j : Nat} (h : j < 39) : peF x j = x.hd j := if_pos h
section
variable {w : World} {P : Nat} {x : PeV}
theorem peF_put (x y : PeV) (k : Nat) (v : Value) (hv : peF y k = v) (ho : ∀ j, j < 50 → j ≠ k → peF y j = peF x j) : ∀ j, j < 50 → (if j = k then v else peF x j) = peF y j := fun j hj => by
  by_cases e : j = k
  · rw [if_pos e, e, hv]
  · rw [if_neg e, ho j hj e]
theorem PeAt.put (h : PeAt w P x) (k : Nat) (hk : k < 50) (v : Value) (y : PeV) (hv : peF y k = v) (ho : ∀ j, j < 50 → j ≠ k → peF y j = peF x j) : PeAt (w.setCell ⟨P, k, none⟩ v) P y :=
  (Own.set h (i := k) hk v).congr (peF_put x y k v hv ho)
theorem PeAt.im (h : PeAt w P x) (v : Value) : PeAt (w.setCell ⟨P, 43, none⟩ v) P { x with im := v } := h.put 43 (by omega) v _ rfl (fun j hj hn => by
  unfold peF; simp only [if_neg hn])
theorem PeAt.de (h : PeAt w P x) (v : Value) : PeAt (w.setCell ⟨P, 44, none⟩ v) P { x with de := v } := h.put 44 (by omega) v _ rfl (fun j hj hn => by
  unfold peF; simp only [if_neg hn])
theorem PeAt.bo (h : PeAt w P x) (v : Value) : PeAt (w.setCell ⟨P, 45, none⟩ v) P { x with bo := v } := h.put 45 (by omega) v _ rfl (fun j hj hn => by
  unfold peF; simp only [if_neg hn])
theorem PeAt.re (h : PeAt w P x) (v : Value) : PeAt (w.setCell ⟨P, 46, none⟩ v) P { x with re := v } := h.put 46 (by omega) v _ rfl (fun j hj hn => by
  unfold peF; simp only [if_neg hn])
theorem PeAt.ex (h : PeAt w P x) (a b c : Value) : PeAt (w.setCells P 40 [a, b, c]) P { x with e0 := a, e1 := b, e2 := c } := by
  have h1 := h.put 40 (by omega) a { x with e0 := a } rfl (fun j hj hn => by unfold peF; simp only [if_neg hn])
  have h2 := h1.put 41 (by omega) b { x with e0 := a, e1 := b } rfl (fun j hj hn => by unfold peF; simp only [if_neg hn])
  exact h2.put 42 (by omega) c { x with e0 := a, e1 := b, e2 := c } rfl (fun j hj hn => by unfold peF; simp only [if_neg hn])
theorem PeAt.tl (h : PeAt w P x) (a b c : Value) : PeAt (w.setCells P 47 [a, b, c]) P { x with t0 := a, t1 := b, t2 := c } := by
  have h1 := h.put 47 (by omega) a { x with t0 := a } rfl (fun j hj hn => by unfold peF; simp only [if_neg hn])
  have h2 := h1.put 48 (by omega) b { x with t0 := a, t1 := b } rfl (fun j hj hn => by unfold peF; simp only [if_neg hn])
  refine h2.put 49 (by omega) c { x with t0 := a, t1 := b, t2 := c } rfl (fun j hj hn => ?_)
  unfold peF
  rcases (by omega : j < 39 ∨ j = 39 ∨ j = 40 ∨ j = 41 ∨ j = 42 ∨ j = 43 ∨ j = 44 ∨ j = 45 ∨ j = 46 ∨ j = 47 ∨ j = 48) with h | rfl | rfl | rfl | rfl | rfl | rfl | rfl | rfl | rfl | rfl <;> simp [*]
theorem PeAt.there (h : PeAt w P x) (o n : Nat) (hn : o + n ≤ 50) : w.there P o n := fun j hj => by
  rw [Own.cell h (i := o + j) (by omega)]
  exact ⟨rfl, Own.frozen h (by omega)⟩
theorem PeAt.kept {w' : World} {R : Nat → Prop} (h : PeAt w P x) (hk : Kept R w w') (hR : R P) : PeAt w' P x := hk.own h hR
end
/-- What was told stays so, as long as what is new stays. -/
def Lasts (base : Nat) (S : World → Prop) (W : World) : Prop := ∀ W2, (∀ k, base ≤ k → k < W.heap.size → W2.heap[k]? = W.heap[k]?) → W.heap.size ≤ W2.heap.size → S W2
theorem Lasts.now {base : Nat} {S : World → Prop} {W : World} (h : Lasts base S W) : S W := h W (fun _ _ _ => rfl) (Nat.le_refl _)
theorem Lasts.on {base : Nat} {S : World → Prop} {W W2 : World} (h : Lasts base S W) (hk : ∀ k, base ≤ k → k < W.heap.size → W2.heap[k]? = W.heap[k]?) (hs : W.heap.size ≤ W2.heap.size) : Lasts base S W2 :=
  fun W3 h3 s3 => h W3 (fun k a b => (h3 k a (by omega)).trans (hk k a b)) (by omega)
theorem Lasts.less {base base' : Nat} {S : World → Prop} {W : World} (h : Lasts base S W) (hb : base' ≤ base) : Lasts base' S W := fun W2 hk hs => h W2 (fun k a b => hk k (by omega) b) hs
theorem Lasts.const {base : Nat} {S : World → Prop} {W : World} (h : ∀ W, S W) : Lasts base S W := fun W2 _ _ => h W2
/-- The blocks of a call's beginning, but for one, are as they were. -/
abbrev KeptBut (P : Nat) (w W : World) : Prop := Kept (fun k => k < w.heap.size ∧ k ≠ P) w W
end Go.Proofs.YtplgdpjbkdagfaaGreat
