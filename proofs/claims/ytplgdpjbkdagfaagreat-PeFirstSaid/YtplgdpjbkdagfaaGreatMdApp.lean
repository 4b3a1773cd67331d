/- law 5: append onto such a row, a store into it. -/
import Derived.Test.YtplgdpjbkdagfaaGreatMd
import Derived.Test.YtplgdpjbkdagfaaGreatBl
namespace Go.Proofs.YtplgdpjbkdagfaaGreat
set_option maxRecDepth 100000
open Go.ChangeShapes Go.WideShapes Go.ChangeAt Go.RowKit
set_option linter.unusedVariables false
set_option linter.unusedSimpArgs false

def setF (f : Nat → Int) (o : Nat) (v : Int) (j : Nat) : Int := if j = o then v else f j
theorem setF255 {f : Nat → Int} (hf : Bytes255 f) (o : Nat) {v : Int} (h0 : 0 ≤ v) (h1 : v ≤ 255) : Bytes255 (setF f o v) := fun i => by
  unfold setF; split
  · exact ⟨h0, h1⟩
  · exact hf i

theorem OwnC.set {w : World} {base g n cap : Nat} {f : Nat → Int} (h : OwnC w base g n cap f) (o : Nat) (v : Int) (ho : o < n) (h0 : 0 ≤ v) (h1 : v ≤ 255) :
    OwnC (w.setCell ⟨g, o, none⟩ (.int .u8 v)) base g n cap (setF f o v) := by
  refine ⟨h.le, by simpa using h.lt, fun i hi => ?_, setF255 h.by255 o h0 h1, h.len, h.most, fun j hj => ⟨?_, by rw [World.frozen?_setCell]; exact (h.wr j hj).2⟩⟩
  · unfold setF
    rw [Nat.zero_add]
    have hi' := h.row i hi
    rw [Nat.zero_add] at hi'
    by_cases e : i = o
    · subst e
      rw [if_pos rfl, World.cell?_setCell_same _ _ _ hi']
    · rw [if_neg e, World.cell?_setCell_other _ _ _ _ (by intro h; injection h with _ h2; omega)]
      exact hi'
  · obtain ⟨u, hu⟩ := Option.isSome_iff_exists.1 (h.wr j hj).1
    by_cases e : j = o
    · subst e
      rw [World.cell?_setCell_same _ _ _ hu]; rfl
    · rw [World.cell?_setCell_other _ _ _ _ (by intro h; injection h with _ h2; omega), hu]; rfl

theorem wpList_appC {w : World} {ops : Array Oper} {rest : List Oper} {o : Oper} {a : Act} {Q : Exit → Act → World → Prop} (hgd : o.guard = none) (s x : Operand)
    (ho : o.op = .call { callee := .builtin .append, args := #[s, x], argTypes := #[25, 25] })
    {base g n cap m c : Nat} {A : Option Addr} {f h : Nat → Int} (hown : OwnC w base g n cap f) (hsl : SlB w A m h) (h255 : Bytes255 h) (hnm : n + m ≤ 1000000) (hbase : base ≤ w.heap.size)
    (hv : a.eval s = .slice (some ⟨g, 0, none⟩) n cap) (hx : a.eval x = .slice A m c)
    (hK : ∀ g' cap' w', OwnC w' base g' (n + m) cap' (catF n f h) → Below base w w' → wpList Tryz.prog ops Q rest (a.put o.dst (.slice (some ⟨g', 0, none⟩) (n + m) cap')) w') : wpList Tryz.prog ops Q (o :: rest) a w := by
  obtain ⟨i0, hi, hz0, hz1, hz2⟩ := info_parts infoU8
  have hs : Src Tryz.prog i0.size 25 (.slice A m c) m (bytesL m h) w := by rw [hz1]; exact src_sl hsl
  have hrun : ∃ g' cap' w', (Builtin.append_ #[25, 25] o.type #[.slice (some ⟨g, 0, none⟩) n cap, .slice A m c]).run Tryz.prog w = .ok (.slice (some ⟨g', 0, none⟩) (n + m) cap') w' ∧ OwnC w' base g' (n + m) cap' (catF n f h) ∧ Below base w w' := by
    by_cases hroom : n + m ≤ cap
    · have hin : ∀ j, j < (bytesL m h).length → (w.cell? ⟨g, n + j, none⟩).isSome = true := fun j hj => (hown.wr (n + j) (by rw [bytesL_len] at hj; omega)).1
      have hr := run_append_room_src (P := Tryz.prog) w 25 25 o.type 5 i0 Tryz.underlying25 hi g 0 n cap (.slice A m c) m _ hs hroom
        (fun j hj => by rw [hz1, Nat.mul_one, Nat.zero_add]; exact hin j hj) (fun j hj => by rw [hz1, Nat.mul_one, Nat.zero_add]; exact (hown.wr (n + j) (by rw [bytesL_len] at hj; omega)).2)
      rw [hz1, Nat.mul_one, Nat.zero_add] at hr
      refine ⟨_, _, _, hr, ⟨hown.le, by rw [size_setCells]; exact hown.lt, fun i hi => ?_, cat255 hown.by255 h255, hroom, hown.most, fun j hj => ⟨World.isSome_setCells _ _ _ _ _ (hown.wr j hj).1, by rw [World.frozen?_setCells]; exact (hown.wr j hj).2⟩⟩, below_setCells hown.le _ _ _ (Below.refl base w)⟩
      unfold catF
      rw [Nat.zero_add]
      by_cases e : i < n
      · rw [if_pos e, World.cell?_setCells_out _ _ _ _ _ (fun _ _ => .inl e)]
        have := hown.row i e
        rwa [Nat.zero_add] at this
      · rw [if_neg e]
        have := World.cell?_setCells_in g (bytesL m h) n w hin (i - n) (by rw [bytesL_len]; omega)
        rw [show n + (i - n) = i by omega] at this
        rw [this]
        simp [bytesL]
    · have hold : (Builtin.firstCells i0.size n (.slice (some ⟨g, 0, none⟩) n cap)).run Tryz.prog w.drew = .ok (bytesL n f).toArray w.drew := by
        rw [hz1]
        refine run_firstCells_some w.drew 1 n ⟨g, 0, none⟩ n cap (bytesL n f) (by rw [bytesL_len, Nat.mul_one]) fun j u hu => ?_
        have hj : j < n := by
          rcases Nat.lt_or_ge j n with hj | hj
          · exact hj
          · rw [List.getElem?_eq_none (by rw [bytesL_len]; omega)] at hu; cases hu
        rw [bytesL_get n f hj] at hu
        injection hu with hu
        subst hu
        have hadd : (⟨g, 0, none⟩ : Addr).add j = ⟨g, 0 + j, none⟩ := by unfold Addr.add; split <;> simp_all
        rw [hadd]
        exact hown.row j hj
      have hr := run_append_grow_src (P := Tryz.prog) w 25 25 o.type 5 i0 (.int .u8 0) Tryz.underlying25 hi hz0 (some ⟨g, 0, none⟩) n cap (bytesL n f) hold (.slice A m c) m _ hs (by omega) (by omega) (growslice_fits (by omega) (by rw [hz2]; omega))
      have hcap := grownCap_ge w (n + m) cap 5
      have hcm := grownCap_le_maxLen w (n + m) cap 5 (by simp only [maxLen]; omega)
      simp only [maxLen] at hcm
      have hz : (Value.int .u8 0).cells = #[.int .u8 0] := rfl
      have hh := heap_alloc_new w.drew (.cells ((bytesL n f ++ bytesL m h).toArray ++ Builtin.zeroCells (Value.int .u8 0).cells (grownCap w (n + m) cap 5 - (n + m))) 5)
      have hsz : ((bytesL n f ++ bytesL m h).toArray ++ Builtin.zeroCells (Value.int .u8 0).cells (grownCap w (n + m) cap 5 - (n + m))).size = grownCap w (n + m) cap 5 := by
        rw [Array.size_append, size_zeroCells, hz]
        simp [bytesL_len]
        omega
      refine ⟨_, _, _, hr, ⟨hbase, by simp, fun i hi => ?_, cat255 hown.by255 h255, hcap, by omega, fun j hj => ⟨?_, frozen_of_row _ _ _ _ _ hh⟩⟩, ((Below.refl base w).drew).alloc (by simpa using hbase) _⟩
      · rw [Nat.zero_add]
        have := cell_of_row _ _ i _ _ _ hh
        refine Eq.trans this ?_
        rw [bytesL_cat, Array.getElem?_append_left (by simpa [bytesL_len] using hi), List.getElem?_toArray, bytesL_get _ _ hi]
      · have := cell_of_row _ _ j _ _ _ hh
        refine Eq.trans (congrArg Option.isSome this) ?_
        rw [Array.getElem?_eq_getElem (by omega)]
        rfl
  refine wpList_plain hgd fun K hK' => ?_
  obtain ⟨g', cap', w', hrun, r1, r2⟩ := hrun
  unfold Oper.wp execOp
  simp only [ho, resolve, invoke, builtin, Sem.run_bind, Sem.run_pure, Result.andThen_ok, List.map_toArray, List.map_cons, List.map_nil, hv, hx, hrun]
  exact hK' _ _ (hK g' cap' w' r1 r2)
end Go.Proofs.YtplgdpjbkdagfaaGreat
