/- package table: a module comes to a table. -/
import Derived.Test.YtclbbekdkljepaaTabD
import Derived.Test.YtclbbekdkljepaaRegK
namespace Go.Proofs.Ytclbbekdkljepaa
open Go.ChangeShapes Go.WideShapes Go.ChangeAt Go.RowKit
set_option linter.unusedVariables false

/-- The table behind the append and the store of its new list. -/
theorem TabAt.added {u w4 w5 : World} {bs B : Nat} {last : Int} {L : List Md} {att : List Int} {sv av : Value} (h : TabAt u bs B last L att sv av) (hl : L.length < 32) (hb4 : Below u.heap.size u w4) (m : Md) (hm : m.at' = w4.heap.size) (one : Obj) (g' cap : Nat)
    (hg : ((w4.alloc (.cells m.cells 72)).alloc one).grownBy w5 sv.ownBlock)
    (hown : OwnL w5 bs 69 (.slice (some ⟨g', 0, none⟩) (L.length + 1) cap) (L.map Md.ptr ++ [m.ptr]))
    (hat : sv.ownBlock = some g' ∨ g' = w4.heap.size + 2) :
    TabAt (w5.setCell ⟨B, 1, none⟩ (.slice (some ⟨g', 0, none⟩) (L.length + 1) cap)) bs B last (L ++ [m]) att (.slice (some ⟨g', 0, none⟩) (L.length + 1) cap) av ∧
      Below bs u (w5.setCell ⟨B, 1, none⟩ (.slice (some ⟨g', 0, none⟩) (L.length + 1) cap)) ∧
      Aside' u (w5.setCell ⟨B, 1, none⟩ (.slice (some ⟨g', 0, none⟩) (L.length + 1) cap)) B L (L ++ [m]) sv av (.slice (some ⟨g', 0, none⟩) (L.length + 1) cap) av := by
  have hBlt := h.lt
  have h4 := h.below hb4
  have hs4 := hb4.size
  obtain ⟨v, hv⟩ : ∃ v, Value.slice (some ⟨g', 0, none⟩) (L.length + 1) cap = v := ⟨_, rfl⟩
  have hvo : v.ownBlock = some g' := by rw [← hv]; rfl
  rw [hv] at hown ⊢
  -- what is as it was: blocks of w4 but sv's
  have hk : ∀ k, k < w4.heap.size → some k ≠ sv.ownBlock → w5.heap[k]? = w4.heap[k]? := fun k hk hne => by
    rw [hg.block k (by simp; omega) hne]
    exact (Below.heap_alloc (w4.alloc (.cells m.cells 72)) one k (by simp; omega)).trans (Below.heap_alloc w4 _ k hk)
  have hE : w5.heap[w4.heap.size]? = some (.cells m.cells 72 (0, 0)) := by
    rw [hg.block w4.heap.size (by simp; omega) (fun e => by have := h4.mods.lt _ e.symm; omega)]
    exact (Below.heap_alloc (w4.alloc (.cells m.cells 72)) one _ (by simp)).trans (heap_alloc_new w4 _)
  have hs5 : w4.heap.size + 2 ≤ w5.heap.size := by have := hg.size; simp at this; omega
  have hgB : g' ≠ B := by
    rcases hat with e | e
    · exact fun e2 => h.sB (by rw [e, e2])
    · omega
  have hsz : w5.heap.size ≤ (w5.setCell ⟨B, 1, none⟩ v).heap.size := by simp [World.setCell]
  have hav : ∀ k, av.ownBlock = some k → k < w4.heap.size ∧ k ≠ B ∧ some k ≠ sv.ownBlock := fun k hk =>
    ⟨(h4.atts.lt k hk).2, fun e => h.aB (by rw [hk, e]), fun e => h.sa k e.symm hk⟩
  have hbs : bs ≤ B := h.le
  have hBB : Below bs u (w5.setCell ⟨B, 1, none⟩ v) := by
    have hbu : bs ≤ u.heap.size := by omega
    have h1 : Below bs u ((w4.alloc (.cells m.cells 72)).alloc one) := (((hb4.mono hbu).alloc (by omega) _).alloc (by simp; omega) _)
    refine Below.setCell (p := ⟨B, 1, none⟩) ?_ hbs v
    refine h1.trans ⟨hg.os, hg.tape, hg.output, hg.size, fun k hk => hg.block k (by simp; omega) (fun e => by have := h4.mods.lt k e.symm; omega)⟩
  have hAS : Aside' u (w5.setCell ⟨B, 1, none⟩ v) B L (L ++ [m]) sv av v av := fun c hc hf => by
    refine ⟨(heap_setCell_other w5 _ c v hf.b).trans ((hk c (by omega) hf.s).trans (hb4.block c hc)), hf.b, fun x hx => ?_, ?_, hf.a⟩
    · rcases List.mem_append.1 hx with hx | hx
      · exact hf.m x hx
      · rw [List.mem_singleton] at hx; subst hx; rw [hm]; omega
    · rw [hvo]
      rcases hat with e | e
      · rw [← e]; exact hf.s
      · intro e'; injection e' with e'; omega
  refine ⟨⟨h.le, ?_, ?_, ?_, ?_, ?_, ?_, h.aB, ?_, by rw [List.length_append, List.length_singleton]; omega⟩, hBB, hAS⟩
  · rw [heap_setCell_same w5 B 1 _ _ _ ((hk B (by omega) (fun e => h.sB e.symm)).trans h4.tab)]; rfl
  · rw [List.map_append]
    exact hown.of_block hsz fun k hk' => heap_setCell_other w5 _ k v (fun e => hgB (by rw [hvo] at hk'; injection hk' with hk'; rw [hk', e]))
  · refine h4.atts.of_block (by omega) fun k hk' => ?_
    obtain ⟨a, b, c⟩ := hav k hk'
    exact (heap_setCell_other w5 _ k v b).trans (hk k a c)
  · intro x hx
    rcases List.mem_append.1 hx with hx | hx
    · obtain ⟨e1, e2, e3, e4, e5⟩ := h4.ent x hx
      have hxl := (Array.getElem?_eq_some_iff.1 e5).1
      refine ⟨e1, e2, ?_, e4, (heap_setCell_other w5 _ _ v e2).trans ((hk _ hxl e3).trans e5)⟩
      rw [hvo]
      rcases hat with e | e
      · rw [← e]; exact e3
      · intro e'; injection e' with e'; omega
    · rw [List.mem_singleton] at hx
      subst hx
      rw [hm]
      refine ⟨by omega, by omega, ?_, fun e => ?_, (heap_setCell_other w5 ⟨B, 1, none⟩ w4.heap.size v (show w4.heap.size ≠ B by omega)).trans hE⟩
      · rw [hvo]
        rcases hat with e | e
        · intro e'; have := h4.mods.lt g' e; injection e' with e'; omega
        · intro e'; injection e' with e'; omega
      · have := h4.atts.lt _ e.symm; omega
  · rw [List.map_append, List.nodup_append]
    refine ⟨h.apart, by simp, fun a ha b hb => ?_⟩
    obtain ⟨x, hx, rfl⟩ := List.mem_map.1 ha
    simp only [List.map_cons, List.map_nil, List.mem_singleton] at hb
    rw [hb, hm]
    have := (Array.getElem?_eq_some_iff.1 (h4.ent x hx).2.2.2.2).1
    omega
  · rw [hvo]; intro e; injection e with e; exact hgB e
  · intro k hk' e
    rw [hvo] at hk'
    injection hk' with hk'
    subst hk'
    obtain ⟨a, b, c⟩ := hav _ e
    rcases hat with e | e
    · exact c e.symm
    · omega
end Go.Proofs.Ytclbbekdkljepaa
