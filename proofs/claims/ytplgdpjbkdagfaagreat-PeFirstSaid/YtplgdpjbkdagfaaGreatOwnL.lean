/- Slices of the call's own whose elements are one cell each, as lists of values. -/
import Derived.Test.YtplgdpjbkdagfaaGreatApp
import Derived.Test.YtplgdpjbkdagfaaGreatMem
namespace Go.Proofs.YtplgdpjbkdagfaaGreat
set_option maxRecDepth 100000
open Go.ChangeShapes Go.WideShapes Go.ChangeAt Go.RowKit
set_option linter.unusedVariables false
set_option linter.unusedSimpArgs false

/-- v is a slice of the call's own, from block base on, that holds xs. -/
def OwnL (w : World) (base : Nat) (e : TypeId) (v : Value) (xs : List Value) : Prop := w.ownsRow base e 1 v xs.length xs

theorem OwnL.nil (w : World) (base : Nat) (e : TypeId) : OwnL w base e (.slice none 0 0) [] := World.ownsRow_nil w base _ 1

theorem OwnL.form {w : World} {base : Nat} {e : TypeId} {v : Value} {xs : List Value} (h : OwnL w base e v xs) :
    ∃ A cap, v = .slice A xs.length cap ∧ xs.length ≤ cap ∧ cap ≤ maxLen ∧ (xs = [] ∨ ∃ g, A = some ⟨g, 0, none⟩ ∧ base ≤ g ∧ Own w g xs.length (fun i => xs[i]?.getD undef)) := by
  rcases h.2 with ⟨h1, h2⟩ | ⟨g, cap, cur, h1, hb, _, h2, h3, _⟩
  · exact ⟨none, 0, by rw [h1, h2], by omega, by omega, .inl (List.eq_nil_of_length_eq_zero h2)⟩
  · refine ⟨_, cap, h1, h2, h3, ?_⟩
    by_cases hx : xs = []
    · exact .inl hx
    · refine .inr ⟨g, rfl, hb, ?_⟩
      subst h1
      obtain ⟨g', hA, _, ho⟩ := Own.of_own (f := fun i => xs[i]?.getD undef) h (by cases xs with | nil => exact absurd rfl hx | cons a l => simp) (fun i hi => by rw [List.getElem?_eq_getElem hi]; rfl)
      injection hA with hA
      injection hA with hA
      subst hA
      exact ho

theorem OwnL.of_block {w w' : World} {base : Nat} {e : TypeId} {v : Value} {xs : List Value} (h : OwnL w base e v xs) (hs : w.heap.size ≤ w'.heap.size) (hb : ∀ k, v.ownBlock = some k → w'.heap[k]? = w.heap[k]?) : OwnL w' base e v xs := by
  refine ⟨h.1, ?_⟩
  rcases h.2 with h2 | ⟨g, cap, cur, hv, hg, hh, r⟩
  · exact Or.inl h2
  · exact Or.inr ⟨g, cap, cur, hv, hg, by rw [hb g (by rw [hv]; rfl)]; exact hh, r⟩

theorem OwnL.lt {w : World} {base : Nat} {e : TypeId} {v : Value} {xs : List Value} (h : OwnL w base e v xs) : ∀ k, v.ownBlock = some k → base ≤ k ∧ k < w.heap.size := World.ownsRow.lt h

theorem OwnL.below {w w' : World} {base : Nat} {e : TypeId} {v : Value} {xs : List Value} (h : OwnL w base e v xs) (hb : Below w.heap.size w w') : OwnL w' base e v xs :=
  h.of_block hb.size fun k hk => hb.block k (h.lt k hk).2
theorem OwnL.alloc {w : World} {base : Nat} {e : TypeId} {v : Value} {xs : List Value} (h : OwnL w base e v xs) (o : Obj) : OwnL (w.alloc o) base e v xs := h.below ((Below.refl _ _).alloc (Nat.le_refl _) o)
theorem OwnL.drew {w : World} {base : Nat} {e : TypeId} {v : Value} {xs : List Value} (h : OwnL w base e v xs) : OwnL w.drew base e v xs := h

/-- What an append leaves below. -/
theorem OwnL.grew {B w w' : World} {base : Nat} {e : TypeId} {v : Value} {xs : List Value} (h : OwnL w base e v xs) (hb : Below B.heap.size B w) (hB : B.heap.size ≤ base) (hg : w.grownBy w' v.ownBlock) : Below B.heap.size B w' :=
  hb.grown hg hb.size (fun k hk => Nat.le_trans hB (h.lt k hk).1)

theorem src_one {P : Program} {w : World} {tx e : TypeId} (ht : P.underlying tx = some (.slice e)) {g : Nat} {x : Value} (h1 : x.oneCell' = true) (hc : w.cell? ⟨g, 0, none⟩ = some x) (c : Nat) : Src P 1 tx (.slice (some ⟨g, 0, none⟩) 1 c) 1 [x] w :=
  Src.ofSlice w ht ⟨g, 0, none⟩ 1 c [x] (by simp) (fun j u hu => by
    cases j with
    | zero => simp at hu; subst hu; simpa [Addr.add] using hc
    | succ j => simp at hu) (by simpa using h1)

theorem wpList_appL {P : Program} {w : World} {ops : Array Oper} {rest : List Oper} {o : Oper} {a : Act} {Q : Exit → Act → World → Prop} (hgd : o.guard = none) (s x : Operand) (t tx : TypeId)
    (ho : o.op = .call { callee := .builtin .append, args := #[s, x], argTypes := #[t, tx] })
    (base : Nat) (e : TypeId) (z : Value) (bytes : Nat) (ht : P.underlying t = some (.slice e)) (hinfo : (P.info? e).map (fun i => (i.zero, i.size, i.bytes)) = some (some z, 1, bytes)) (hzs : z.cells.size = 1)
    (v : Value) (xs : List Value) (hv : a.eval s = v) (hown : OwnL w base e v xs) (X : Value) (hX : a.eval x = X) (news : List Value) (hs : Src P 1 tx X news.length news w)
    (h63 : xs.length + news.length ≤ maxLen) (hbytes : (xs.length + news.length) * bytes ≤ 140737488355328) (hbase : base ≤ w.heap.size)
    (hK : ∀ A cap w', OwnL w' base e (.slice A (xs.length + news.length) cap) (xs ++ news) → w.grownBy w' v.ownBlock → ((Value.slice A (xs.length + news.length) cap).ownBlock = v.ownBlock ∨ (Value.slice A (xs.length + news.length) cap).ownBlock = some w.heap.size) → wpList P ops Q rest (a.put o.dst (.slice A (xs.length + news.length) cap)) w') :
    wpList P ops Q (o :: rest) a w := by
  obtain ⟨i0, hi, hz0, hz1, hz2⟩ := info_parts hinfo
  refine wpList_app_src w hgd s x t tx ho base e i0 z bytes ht hi hz0 hz1 hz2 hzs v xs.length xs hv hown X hX news.length news hs h63 hbytes hbase ?_
  intro v' w' hown' hg _ hat
  obtain ⟨A, cap, rfl⟩ : ∃ A cap, v' = .slice A (xs.length + news.length) cap := by
    rcases hown'.2 with ⟨h1, h2⟩ | ⟨g, cap, _, h1, _⟩
    · exact ⟨none, 0, by rw [h1, h2]⟩
    · exact ⟨_, cap, h1⟩
  exact hK A cap w' (by unfold OwnL; rw [List.length_append]; exact hown') hg hat
end Go.Proofs.YtplgdpjbkdagfaaGreat
