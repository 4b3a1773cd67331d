import Derived.Test.YtplgdpjbkdagfaaGreatZTxtS
import Derived.Test.YtplgdpjbkdagfaaGreatZImpM
import Derived.Test.YtplgdpjbkdagfaaGreatRelApart
import Derived.Test.YtplgdpjbkdagfaaGreatZExpI0
namespace Go.Proofs.YtplgdpjbkdagfaaGreat
open Go.ChangeShapes Go.WideShapes Go.ChangeAt Go.RowKit
set_option linter.unusedVariables false
set_option linter.unusedSimpArgs false
set_option maxRecDepth 100000
structure PIn where
  wh : Int
  fA : Option Addr
  fn : Nat
  fc : Nat
  fS : Nat → ByteArray
  nA : Option Addr
  nn : Nat
  nc : Nat
  nS : Nat → ByteArray
  iA : Option Addr
  im : Nat
  ic : Nat
  iX : ImpIn
  lA : Option Addr
  lm : Nat
  lc : Nat
  lX : ImpIn
  rA : Option Addr
  rL : List Site
  rc : Nat
  bA : Option Addr
  bL : List (ByteArray × Int)
  bc : Nat
  ix : Int
  cA : Option Addr
  cL : List Int
  cc : Nat
def PIn.cells (p : PIn) : Array Value := #[.int .i64 p.wh, .slice p.fA p.fn p.fc, .slice p.nA p.nn p.nc, .slice p.iA p.im p.ic, .slice p.lA p.lm p.lc, .slice p.rA p.rL.length p.rc, .slice p.bA p.bL.length p.bc, .int .i64 p.ix, .slice p.cA p.cL.length p.cc]
structure PIn.Is (p : PIn) (w : World) : Prop where
  f : StrS w p.fA p.fn p.fS
  n : StrS w p.nA p.nn p.nS
  i : InAt w p.iA p.im p.iX
  l : InAt w p.lA p.lm p.lX
  r : SlT relC 2 w p.rA p.rL
  b : SlT bX 2 w p.bA p.bL
  c : SlT intC 1 w p.cA p.cL
theorem PIn.Is.below {p : PIn} {w w' : World} (h : p.Is w) (hb : Below w.heap.size w w') : p.Is w' := ⟨h.f.below hb, h.n.below hb, h.i.below hb, h.l.below hb, h.r.below hb, h.b.below hb, h.c.below hb⟩
structure PIn.Lens (p : PIn) : Prop where
  f : p.fn ≤ 9223372036854775807
  n : p.nn ≤ 9223372036854775807
  i : p.im ≤ 9223372036854775807
  l : p.lm ≤ 9223372036854775807
  r : p.rL.length ≤ 9223372036854775807
  b : p.bL.length ≤ 9223372036854775807
  c : p.cL.length ≤ 9223372036854775807
  fs : ∀ j, j < p.fn → (p.fS j).size ≤ 9223372036854775807
  ns : ∀ j, j < p.nn → (p.nS j).size ≤ 9223372036854775807
  bs : ∀ x ∈ p.bL, x.1.size ≤ 9223372036854775807
structure PIn.Few (p : PIn) : Prop where
  f : ∀ j, j < 12 → j < p.fn → (p.fS j).size ≤ 60
  n : ∀ j, j < 12 → j < p.nn → (p.nS j).size ≤ 60
  b : p.bL.length ≤ 34
  bs : ∀ x ∈ p.bL, x.1.size ≤ 60
  r : p.rL.length ≤ 60
  i : p.im ≤ 20
  is : ∀ j, j < p.im → FewI p.iX j
  l : p.lm ≤ 20
  ls : ∀ j, j < p.lm → FewI p.lX j
theorem atF_len {rows Z : Nat} : ∀ (l : List (List Nat)) (i : Nat) (b : List Nat), rows + 4 * (i + l.length) ≤ Z → Z ≤ b.length → (∀ s ∈ l, TxOk s) → b.length ≤ (atF rows l i b).length ∧ (atF rows l i b).length ≤ b.length + 201 * l.length
  | [], i, b, _, _, _ => by simp [atF]
  | s :: l, i, b, h, hz, hs => by
    have hlc : (s :: l).length = l.length + 1 := List.length_cons
    have hs1 := (hs s (by simp)).2
    have hst : b.length ≤ (fStep rows b i s).length ∧ (fStep rows b i s).length ≤ b.length + 201 := by
      unfold fStep
      split
      · rw [putL_len (by simp only [List.length_append, List.length_singleton]; omega)]
        simp only [List.length_append, List.length_singleton]
        omega
      · rw [putL_len (by omega)]
        omega
    have ih := atF_len (rows := rows) (Z := Z) l (i + 1) (fStep rows b i s) (by omega) (by omega) (fun x hx => hs x (List.mem_cons_of_mem _ hx))
    simp only [atF]
    omega
theorem atN_len {r1 r2 n Z : Nat} : ∀ (l : List (List Nat)) (i : Nat) (b : List Nat), r1 + 4 * (i + l.length) ≤ Z → r2 + 2 * (i + l.length) ≤ Z → Z ≤ b.length → (∀ s ∈ l, TxOk s) → b.length ≤ (atN r1 r2 n l i b).length ∧ (atN r1 r2 n l i b).length ≤ b.length + 201 * l.length
  | [], i, b, _, _, _, _ => by simp [atN]
  | s :: l, i, b, h, h2, hz, hs => by
    have hlc : (s :: l).length = l.length + 1 := List.length_cons
    have hs1 := (hs s (by simp)).2
    have hst : b.length ≤ (nStep r1 r2 n b i s).length ∧ (nStep r1 r2 n b i s).length ≤ b.length + 201 := by
      unfold nStep
      have l1 := putL_len (b := b) (o := r1 + 4 * i) (n := 4) (by omega) b.length
      have l2 := putL_len (b := putL b (r1 + 4 * i) 4 b.length) (o := r2 + 2 * i) (n := 2) (by omega) (i % max n 1)
      simp only [List.length_append, List.length_singleton, l2, l1]
      omega
    have ih := atN_len (r1 := r1) (r2 := r2) (n := n) (Z := Z) l (i + 1) (nStep r1 r2 n b i s) (by omega) (by omega) (by omega) (fun x hx => hs x (List.mem_cons_of_mem _ hx))
    simp only [atN]
    omega
end Go.Proofs.YtplgdpjbkdagfaaGreat
