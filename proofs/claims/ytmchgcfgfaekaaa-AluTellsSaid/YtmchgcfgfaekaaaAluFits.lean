/- Worlds that keep a block of flags. -/
import Derived.Test.YtmchgcfgfaekaaaAluCond
namespace Go.Proofs.Ytmchgcfgfaekaaa
open Go.ChangeShapes Go.WideShapes Go.ChangeAt Go.RowKit

/-- A world with the flags in block B, and at most new blocks beside those of w. -/
structure Fits (w : World) (B : Nat) (z s c o : Bool) (W : World) : Prop where
  blk : Blk W B z s c o
  bel : Below w.heap.size w W
  lt : B < W.heap.size

theorem Fits.drew {w : World} {B : Nat} {z s c o : Bool} {W : World} (h : Fits w B z s c o W) : Fits w B z s c o W.drew :=
  ⟨h.blk.below (n := W.heap.size) (Below.refl _ _).drew h.lt, h.bel.drew, by have := h.lt; simpa using this⟩
theorem Fits.below {w : World} {B : Nat} {z s c o : Bool} {W W' : World} (h : Fits w B z s c o W) (hb : Below W.heap.size W W') : Fits w B z s c o W' :=
  ⟨h.blk.below hb h.lt, h.bel.trans (hb.mono h.bel.size), Nat.lt_of_lt_of_le h.lt hb.size⟩

theorem Fits.new {w w1 : World} {z s c o : Bool} {t : TypeId} (hb : Below w.heap.size w w1) : Fits w w1.heap.size z s c o (w1.alloc (Obj.cells #[.bool z, .bool s, .bool c, .bool o] t)) :=
  ⟨Blk.new _ _ _ _ _ _, hb.alloc hb.size _, by simp⟩
theorem Fits.ahead {w w1 : World} {B : Nat} {z s c o : Bool} {X : Obj} (h : Fits w B z s c o w1) : Fits w B z s c o (w1.alloc X) :=
  h.below ((Below.refl _ _).alloc (Nat.le_refl _) X)
end Go.Proofs.Ytmchgcfgfaekaaa
