/- Rows of bytes as lists: literals. -/
import Derived.Test.YtplgdpjbkdagfaaGreatBl
namespace Go.Proofs.YtplgdpjbkdagfaaGreat
set_option maxRecDepth 100000
open Go.ChangeShapes Go.WideShapes Go.ChangeAt Go.RowKit
set_option linter.unusedVariables false
set_option linter.unusedSimpArgs false

/-- A block that was just built of bytes. -/
theorem OwnBL.new (w : World) (base : Nat) (hb : base ≤ w.heap.size) (bs : List Int) (hm : bs.length ≤ 1000000) : OwnBL (w.alloc (.cells (bs.map (Value.int .u8)).toArray 5)) base (.slice (some ⟨w.heap.size, 0, none⟩) bs.length bs.length) bs :=
  ⟨by simp [bytesL], .inr ⟨w.heap.size, bs.length, _, rfl, hb, heap_alloc_new w _, Nat.le_refl _, by unfold maxLen; omega, by simp, by rw [bytesL_lit]; simp [List.take_of_length_le]⟩⟩

/-- append of a list of bytes, as a step of a region that draws its order. -/
theorem step_appBL {w : World} {ops : Array Oper} {o : Oper} {a : Act} {K : Act → World → Prop} {Q : Exit → Act → World → Prop} {E : Prop} (hgd : o.guard = none) (s x : Operand) (tx : TypeId)
    (ho : o.op = .call { callee := .builtin .append, args := #[s, x], argTypes := #[25, tx] })
    (base : Nat) (v : Value) (bs : List Int) (hv : a.eval s = v) (hown : OwnBL w base v bs) (X : Value) (hX : a.eval x = X) (cs : List Int) (hs : Src Tryz.prog 1 tx X cs.length (bytesL cs.length (litF cs)) w)
    (h63 : bs.length + cs.length ≤ 140737488355328) (hbase : base ≤ w.heap.size)
    (hK : ∀ A cap w', OwnBL w' base (.slice A (bs.length + cs.length) cap) (bs ++ cs) → w.grownBy w' v.ownBlock → ((Value.slice A (bs.length + cs.length) cap).ownBlock = v.ownBlock ∨ (Value.slice A (bs.length + cs.length) cap).ownBlock = some w.heap.size) → K (a.put o.dst (.slice A (bs.length + cs.length) cap)) w') :
    if Region.wanted o (yielded ops a.tmps) = true then Oper.wp Tryz.prog o a w K Q else E := by
  have hw : Region.wanted o (yielded ops a.tmps) = true := by simp [Region.wanted, hgd]
  rw [if_pos hw]
  obtain ⟨i0, hi, hz0, hz1, hz2⟩ := info_parts infoU8
  obtain ⟨v', w', hrun, hown', hg, _, hat⟩ := run_app_src (P := Tryz.prog) w base 25 tx o.type 5 i0 (.int .u8 0) 1 Tryz.underlying25 hi hz0 hz1 hz2 rfl v bs.length (bytesL bs.length (litF bs)) hown X cs.length (bytesL cs.length (litF cs)) hs (by unfold maxLen; omega) (by omega) hbase
  rw [bytesL_cat, litF_cat] at hown'
  obtain ⟨A, cap, rfl⟩ : ∃ A cap, v' = .slice A (bs.length + cs.length) cap := by
    rcases hown'.2 with ⟨h1, h2⟩ | ⟨g, cap, _, h1, _⟩
    · exact ⟨none, 0, by rw [h1, h2]⟩
    · exact ⟨_, cap, h1⟩
  unfold Oper.wp
  simp [execOp, ho, resolve, invoke, builtin, hv, hX, hrun, Result.andThen]
  exact hK A cap w' (by unfold OwnBL OwnB; rw [List.length_append]; exact hown') hg hat
end Go.Proofs.YtplgdpjbkdagfaaGreat
