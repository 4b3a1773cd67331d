/- Slices of the call's own whose elements have several cells each. -/
import Derived.Test.YtplgdpjbkdagfaaGreatApp
import Derived.Test.YtplgdpjbkdagfaaGreatMem
namespace Go.Proofs.YtplgdpjbkdagfaaGreat
set_option maxRecDepth 100000
open Go.ChangeShapes Go.WideShapes Go.ChangeAt Go.RowKit
set_option linter.unusedVariables false
set_option linter.unusedSimpArgs false

section
variable {α : Type} {C : α → List Value} {sz : Nat}

theorem flatC_len (hC : ∀ x, (C x).length = sz) : ∀ (l : List α), (l.flatMap C).length = l.length * sz
  | [] => by simp
  | x :: l => by rw [List.flatMap_cons, List.length_append, flatC_len hC l, hC, List.length_cons, Nat.add_mul]; omega

theorem flatC_get (hC : ∀ x, (C x).length = sz) : ∀ (l : List α) (i j : Nat) (hi : i < l.length), j < sz → (l.flatMap C)[i * sz + j]? = (C l[i])[j]?
  | [], i, j, hi, _ => by simp at hi
  | x :: l, 0, j, _, hj => by
    rw [List.flatMap_cons, List.getElem?_append_left (by rw [hC]; omega)]
    simp
  | x :: l, i + 1, j, hi, hj => by
    rw [List.flatMap_cons, List.getElem?_append_right (by rw [hC, Nat.add_mul]; omega), hC, show (i + 1) * sz + j - sz = i * sz + j by rw [Nat.add_mul]; omega]
    rw [flatC_get hC l i j (by simpa using hi) hj]
    rfl

/-- v is a slice of the call's own, from block base on, whose elements are l. -/
def OwnT (C : α → List Value) (sz : Nat) (w : World) (base : Nat) (e : TypeId) (v : Value) (l : List α) : Prop := w.ownsRow base e sz v l.length (l.flatMap C)

/-- The elements l lie in a slice at A. -/
def SlT (C : α → List Value) (sz : Nat) (w : World) (A : Option Addr) (l : List α) : Prop :=
  l = [] ∨ ∃ b off, A = some ⟨b, off, none⟩ ∧ b < w.heap.size ∧ ∀ (i : Nat) (hi : i < l.length) (j : Nat) (v : Value), (C l[i])[j]? = some v → w.cell? ⟨b, off + (i * sz + j), none⟩ = some v

theorem OwnT.nil (w : World) (base : Nat) (e : TypeId) : OwnT C sz w base e (.slice none 0 0) [] := World.ownsRow_nil w base e sz
theorem OwnT.made (w : World) (base : Nat) (hb : base ≤ w.heap.size) (e : TypeId) : OwnT C sz (w.alloc (.cells #[] e)) base e (.slice (some ⟨w.heap.size, 0, none⟩) 0 0) [] :=
  ⟨by simp, .inr ⟨w.heap.size, 0, #[], rfl, hb, heap_alloc_new w _, Nat.le_refl _, by omega, by simp, by simp⟩⟩

theorem OwnT.form {w : World} {base : Nat} {e : TypeId} {v : Value} {l : List α} (h : OwnT C sz w base e v l) :
    ∃ A cap, v = .slice A l.length cap ∧ l.length ≤ cap ∧ cap ≤ maxLen ∧ (l = [] ∨ ∃ g, A = some ⟨g, 0, none⟩ ∧ base ≤ g ∧ g < w.heap.size) := by
  rcases h.2 with ⟨h1, h2⟩ | ⟨g, cap, cur, h1, hb, hh, h2, h3, _⟩
  · exact ⟨none, 0, by rw [h1, h2], by omega, by omega, .inl (List.eq_nil_of_length_eq_zero h2)⟩
  · exact ⟨_, cap, h1, h2, h3, .inr ⟨g, rfl, hb, by
      rcases Nat.lt_or_ge g w.heap.size with hlt | hge
      · exact hlt
      · rw [Array.getElem?_eq_none hge] at hh; cases hh⟩⟩

theorem OwnT.cell {w : World} {base : Nat} {e : TypeId} {l : List α} {g cap : Nat} (hC : ∀ x, (C x).length = sz) (h : OwnT C sz w base e (.slice (some ⟨g, 0, none⟩) l.length cap) l) (i : Nat) (hi : i < l.length) (j : Nat) (v : Value) (hv : (C l[i])[j]? = some v) :
    w.cell? ⟨g, i * sz + j, none⟩ = some v := by
  have hj : j < sz := by rw [← hC l[i]]; exact (List.getElem?_eq_some_iff.1 hv).1
  rcases h.2 with ⟨h1, h2⟩ | ⟨g', cap', cur, h1, hb, hh, h2, h3, h4, h5⟩
  · omega
  · injection h1 with h1 _ _
    injection h1 with h1
    injection h1 with h1
    subst h1
    rw [cell_of_row w g (i * sz + j) cur e (0, 0) hh]
    have h6 := flatC_get hC l i j hi hj
    rw [← h5, hv] at h6
    have h7 : i * sz + j < l.length * sz := by
      have : (i + 1) * sz ≤ l.length * sz := Nat.mul_le_mul_right _ hi
      rw [Nat.add_mul] at this
      omega
    rw [List.getElem?_take, if_pos h7] at h6
    simpa using h6

theorem OwnT.sl {w : World} {base : Nat} {e : TypeId} {l : List α} {A : Option Addr} {cap : Nat} (hC : ∀ x, (C x).length = sz) (h : OwnT C sz w base e (.slice A l.length cap) l) : SlT C sz w A l := by
  obtain ⟨A', cap', hv, _, _, hl | ⟨g, hA, hb, hlt⟩⟩ := h.form
  · exact .inl hl
  · injection hv with hv _ _
    subst hv hA
    exact .inr ⟨g, 0, rfl, hlt, fun i hi j v hv => by rw [Nat.zero_add]; exact h.cell hC i hi j v hv⟩

theorem SlT.keep {w w' : World} {A : Option Addr} {l : List α} (h : SlT C sz w A l) (hs : w.heap.size ≤ w'.heap.size) (hb : ∀ b, A.map (·.block) = some b → w'.heap[b]? = w.heap[b]?) : SlT C sz w' A l := by
  rcases h with h | ⟨b, off, rfl, hlt, hc⟩
  · exact .inl h
  · exact .inr ⟨b, off, rfl, by omega, fun i hi j v hv => (World.cell?_of_block (a := ⟨b, _, none⟩) (hb b rfl)).trans (hc i hi j v hv)⟩
theorem SlT.below {w w' : World} {A : Option Addr} {l : List α} (h : SlT C sz w A l) (hb : Below w.heap.size w w') : SlT C sz w' A l := by
  rcases h with h | ⟨b, off, rfl, hlt, hc⟩
  · exact .inl h
  · exact .inr ⟨b, off, rfl, Nat.lt_of_lt_of_le hlt hb.size, fun i hi j v hv => (hb.cell (p := ⟨b, _, none⟩) hlt).trans (hc i hi j v hv)⟩

theorem OwnT.of_block {w w' : World} {base : Nat} {e : TypeId} {v : Value} {l : List α} (h : OwnT C sz w base e v l) (hb : ∀ k, v.ownBlock = some k → w'.heap[k]? = w.heap[k]?) : OwnT C sz w' base e v l := by
  refine ⟨h.1, ?_⟩
  rcases h.2 with h2 | ⟨g, cap, cur, hv, hg, hh, r⟩
  · exact Or.inl h2
  · exact Or.inr ⟨g, cap, cur, hv, hg, by rw [hb g (by rw [hv]; rfl)]; exact hh, r⟩
theorem OwnT.lt {w : World} {base : Nat} {e : TypeId} {v : Value} {l : List α} (h : OwnT C sz w base e v l) : ∀ k, v.ownBlock = some k → base ≤ k ∧ k < w.heap.size := World.ownsRow.lt h
theorem OwnT.below {w w' : World} {base : Nat} {e : TypeId} {v : Value} {l : List α} (h : OwnT C sz w base e v l) (hb : Below w.heap.size w w') : OwnT C sz w' base e v l :=
  h.of_block fun k hk => hb.block k (h.lt k hk).2
theorem OwnT.grown {w w' : World} {base : Nat} {e : TypeId} {v : Value} {l : List α} {row : Option Nat} (h : OwnT C sz w base e v l) (hb : w.grownBy w' row) (hne : ∀ k, v.ownBlock = some k → row ≠ some k) : OwnT C sz w' base e v l :=
  h.of_block fun k hk => hb.block k (h.lt k hk).2 (fun e => hne k hk e.symm)
theorem OwnT.alloc {w : World} {base : Nat} {e : TypeId} {v : Value} {l : List α} (h : OwnT C sz w base e v l) (o : Obj) : OwnT C sz (w.alloc o) base e v l := h.below ((Below.refl _ _).alloc (Nat.le_refl _) o)
theorem OwnT.drew {w : World} {base : Nat} {e : TypeId} {v : Value} {l : List α} (h : OwnT C sz w base e v l) : OwnT C sz w.drew base e v l := h
theorem OwnT.grew {w w' : World} {B base : Nat} {e : TypeId} {v : Value} {l : List α} {a : World} (h : OwnT C sz w base e v l) (hb : Below B a w) (hB : B ≤ base) (hs : B ≤ w.heap.size) (hg : w.grownBy w' v.ownBlock) : Below B a w' :=
  hb.trans ⟨hg.os, hg.tape, hg.output, hg.size, fun k hk => hg.block k (by omega) (fun e => by have := (h.lt k e.symm).1; omega)⟩

/-- append of one element out of a block that is known. -/
theorem wpList_appT {P : Program} {w : World} {ops : Array Oper} {rest : List Oper} {o : Oper} {a : Act} {Q : Exit → Act → World → Prop} (hgd : o.guard = none) (s x : Operand) (t : TypeId)
    (ho : o.op = .call { callee := .builtin .append, args := #[s, x], argTypes := #[t, t] })
    (base : Nat) (e : TypeId) (z : Value) (bytes : Nat) (ht : P.underlying t = some (.slice e)) (hinfo : (P.info? e).map (fun i => (i.zero, i.size, i.bytes)) = some (some z, sz, bytes)) (hzs : z.cells.size = sz) (hsz : 0 < sz) (hC : ∀ x, (C x).length = sz) (hC1 : ∀ x, ∀ u ∈ C x, u.oneCell' = true)
    (v : Value) (l : List α) (hv : a.eval s = v) (hown : OwnT C sz w base e v l) (g : Nat) (c : Nat) (hX : a.eval x = .slice (some ⟨g, 0, none⟩) 1 c) (y : α) (hy : ∀ j u, (C y)[j]? = some u → w.cell? ⟨g, j, none⟩ = some u)
    (h63 : l.length + 1 ≤ maxLen) (hbytes : (l.length + 1) * bytes ≤ 140737488355328) (hbase : base ≤ w.heap.size)
    (hK : ∀ g' cap w', OwnT C sz w' base e (.slice (some ⟨g', 0, none⟩) (l.length + 1) cap) (l ++ [y]) → w.grownBy w' v.ownBlock → (v.ownBlock = some g' ∨ g' = w.heap.size) → wpList P ops Q rest (a.put o.dst (.slice (some ⟨g', 0, none⟩) (l.length + 1) cap)) w') :
    wpList P ops Q (o :: rest) a w := by
  obtain ⟨i0, hi, hz0, hz1, hz2⟩ := info_parts hinfo
  refine wpList_append_lies w hgd s x t ho base e i0 z sz bytes ht hi hz0 hz1 hz2 hzs hsz v l.length (l.flatMap C) hv hown ⟨g, 0, none⟩ 1 c (C y) hX (by rw [hC, Nat.one_mul]) (fun j u hu => ?_) (hC1 y) (by omega) h63 hbytes hbase _ rfl ?_
  · have hadd : (⟨g, 0, none⟩ : Addr).add j = ⟨g, j, none⟩ := by unfold Addr.add; split <;> simp_all
    rw [hadd]
    exact hy j u hu
  · intro g' cap w' hown' hg hat _
    refine hK g' cap w' ?_ hg hat
    unfold OwnT
    rw [List.length_append, List.flatMap_append]
    simpa using hown'
end
end Go.Proofs.YtplgdpjbkdagfaaGreat
