import Derived.Test.YtplgdpjbkdagfaaGreatZSameHead
import Derived.Test.YtplgdpjbkdagfaaGreatPieces
namespace Go.Proofs.YtplgdpjbkdagfaaGreat
set_option maxRecDepth 100000
open Go.ChangeShapes Go.WideShapes Go.ChangeAt Go.RowKit
set_option linter.unusedVariables false
set_option linter.unusedSimpArgs false
noncomputable def bodyH : Code := (Tryz.f26.body).getD .skip
open Classical in
noncomputable def headE7 (n : Nat) (f : Nat → Int) (P K : Nat) (h : HeadN) : Int :=
  if ¬ chainP h.size n (roundS h.headers 4096) (sectsS f (P + 264) K) then 7 else if h.size ≤ h.entry then 5 else 0
open Classical in
noncomputable def headE6 (n : Nat) (f : Nat → Int) (P : Nat) (h : HeadN) : Int :=
  if ¬ headersP n P h.headers (rdF f (P + 6) 2) then 7 else headE7 n f P (rdF f (P + 6) 2).toNat h
open Classical in
noncomputable def headE5 (n : Nat) (f : Nat → Int) (P : Nat) (h : HeadN) : Int :=
  if ¬ alignS f P h.base h.size then 6 else headE6 n f P h
theorem headE_opt {n : Nat} {f : Nat → Int} {P : Nat} {e : Int} (h1 : beginS n f = ((P : Int), 0)) (h2 : optS f P = e) (h3 : e ≠ 0) : headE n f = e := by
  unfold headE
  rw [if_neg (by rw [h1]; simp), if_pos (by rw [h1]; simp [h2, h3]), h1]
  exact h2
noncomputable def if_align (n : Nat) (f : Nat → Int) (P : Nat) (h : HeadN) : Int := headE5 n f P h
theorem align_yes {n : Nat} {f : Nat → Int} {P : Nat} {h : HeadN} (k : alignS f P h.base h.size) : if_align n f P h = headE6 n f P h := by
  unfold if_align headE5; rw [if_neg (fun hn => hn k)]
theorem align_no {n : Nat} {f : Nat → Int} {P : Nat} {h : HeadN} (k : ¬ alignS f P h.base h.size) : if_align n f P h = 6 := by
  unfold if_align headE5; rw [if_pos k]
theorem headE_5 {n : Nat} {f : Nat → Int} {P : Nat} (h1 : beginS n f = ((P : Int), 0)) (h2 : optS f P = 0) : headE n f = headE5 n f P (readS f P) := by
  unfold headE
  rw [if_neg (by rw [h1]; simp), if_neg (by rw [h1]; simp [h2])]
  rw [h1]
  rfl
def QF (S : ByteArray) (f : Nat → Int) (w : World) : Exit → Act → World → Prop :=
  bodyPost Tryz.prog Tryz.f26 fun e w' => (∃ v, e = .returned v ∧ HeadQ w' S.size f v) ∧ Below w.heap.size w w'
structure RC (S : ByteArray) (f : Nat → Int) (h : HeadN) (nx N0 : Int) (SL TK : List SectN) (s : SectN) (P K i o : Nat) : Prop where
  hs : S.size ≤ 1000000
  hf : PlainAid.bt S = f
  f255 : Bytes255 f
  e8 : ¬ chainP h.size S.size N0 SL → headE S.size f = 7
  ch : chainP h.size S.size N0 SL ↔ chainP h.size S.size nx (SL.drop i)
  dr : SL.drop i = s :: SL.drop (i + 1)
  tk : SL.take (i + 1) = TK ++ [s]
  len : TK.length = i
  ss : sectS f o = s
  sb : SectBd s
  oS : o + 40 ≤ S.size
  ho : P + 264 + 40 * i = o
  x0 : 0 ≤ nx
  x1 : nx ≤ 4294967296 + i * 4294967296
  lt : i < K
  k16 : K ≤ 16
  hp : P < 4294967296
noncomputable def lp2 : Code := inLoop (inBlock (dropS 1 (headS (dropS 16 bodyH))))
noncomputable def bl3 : Code := inBlock (headS (dropS 1 lp2))
end Go.Proofs.YtplgdpjbkdagfaaGreat
