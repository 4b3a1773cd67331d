/- Bytes of the call's own, as lists, with what is spare: made, converted, appended to. -/
import Derived.Test.YtbjabncefhgefaaLst
import Derived.Test.YtbjabncefhgefaaBl
import Derived.Deep.AppendSrc
import Derived.Deep.MidRow
namespace Go.Proofs.Ytbjabncefhgefaa
open Go.ChangeShapes Go.WideShapes Go.ChangeAt Go.RowKit
set_option linter.unusedVariables false
set_option linter.unusedSimpArgs false

/-- A slice of the bytes bs in a block g of the call's own, cap of which may be written. -/
structure OwnD (w : World) (base g cap : Nat) (bs : List Nat) : Prop where
  le : base ≤ g
  lt : g < w.heap.size
  row : Row w g 0 bs.length (lF bs)
  lb : Lb bs
  len : bs.length ≤ cap
  most : cap ≤ 9223372036854775807
  wr : ∀ j, j < cap → (w.cell? ⟨g, j, none⟩).isSome = true ∧ w.frozen? ⟨g, j, none⟩ = false

theorem OwnD.of_block {w w' : World} {base g cap : Nat} {bs : List Nat} (h : OwnD w base g cap bs) (hs : w.heap.size ≤ w'.heap.size) (hb : w'.heap[g]? = w.heap[g]?) : OwnD w' base g cap bs :=
  ⟨h.le, Nat.lt_of_lt_of_le h.lt hs, fun i hi => (World.cell?_of_block (a := ⟨g, _, none⟩) hb).trans (h.row i hi), h.lb, h.len, h.most, fun j hj => by
    rw [World.cell?_of_block (a := ⟨g, j, none⟩) hb, World.frozen?_of_block (a := ⟨g, j, none⟩) hb]; exact h.wr j hj⟩
theorem OwnD.below {w w' : World} {base g cap : Nat} {bs : List Nat} (h : OwnD w base g cap bs) (hb : Below w.heap.size w w') : OwnD w' base g cap bs := h.of_block hb.size (hb.block g h.lt)
theorem OwnD.weaken {w : World} {base base' g cap : Nat} {bs : List Nat} (h : OwnD w base g cap bs) (hb : base' ≤ base) : OwnD w base' g cap bs := ⟨Nat.le_trans hb h.le, h.lt, h.row, h.lb, h.len, h.most, h.wr⟩
theorem OwnD.alloc {w : World} {base g cap : Nat} {bs : List Nat} (h : OwnD w base g cap bs) (o : Obj) : OwnD (w.alloc o) base g cap bs := h.below ((Below.refl _ _).alloc (Nat.le_refl _) o)
theorem OwnD.slB {w : World} {base g cap : Nat} {bs : List Nat} (h : OwnD w base g cap bs) : SlB w (some ⟨g, 0, none⟩) bs.length (lF bs) := .inr ⟨g, 0, rfl, h.lt, h.row⟩
theorem OwnD.noughts {w : World} {base g n : Nat} (h : Own w g n (fun _ => .int .u8 0)) (hb : base ≤ g) (hm : n ≤ 9223372036854775807) : OwnD w base g n (List.replicate n 0) := by
  refine ⟨hb, h.1, fun i hi => ?_, fun v hv => by rw [List.eq_of_mem_replicate hv]; omega, by simp, hm, fun j hj => ⟨by rw [h.cell hj]; rfl, h.frozen hj⟩⟩
  have hi' : i < n := by simpa using hi
  rw [Nat.zero_add, h.cell hi']
  unfold lF
  simp [List.getD, hi']
theorem OwnD.conv (w : World) (bs : List Nat) (cap lo hi : Nat) (hb : Lb bs) (h : bs.length ≤ cap) (hm : cap ≤ 9223372036854775807) (h1 : cap ≤ lo) :
    OwnD (w.alloc (.cells (bytesRow (txt bs) cap) 5 (lo, hi))) w.heap.size w.heap.size cap bs := by
  have hz : (bytesRow (txt bs) cap).size = cap := by
    have : (txt bs).data.size = (txt bs).size := rfl
    have := txt_size bs
    simp [bytesRow]
    omega
  refine ⟨Nat.le_refl _, by simp, fun i hi' => ?_, hb, h, hm, fun j hj => ⟨?_, ?_⟩⟩
  · have hi2 : i < (txt bs).data.size := by have := txt_size bs; exact (show i < (txt bs).size by omega)
    rw [Nat.zero_add, World.cell?_alloc_mark w (bytesRow (txt bs) cap) 5 (lo, hi) i, bytesRow_at (txt bs) cap i hi2, ← txt_bt hb hi']
    unfold PlainAid.bt
    rw [dif_pos (show i < (txt bs).size from hi2)]
    rfl
  · rw [World.cell?_alloc_mark w (bytesRow (txt bs) cap) 5 (lo, hi) j, Array.getElem?_eq_getElem (by omega)]
    rfl
  · rw [World.frozen?_alloc_mark w (bytesRow (txt bs) cap) 5 lo hi j]
    simp only [Bool.and_eq_false_iff, decide_eq_false_iff_not]
    left
    omega
theorem lF_cat (bs cs : List Nat) (i : Nat) : lF (bs ++ cs) i = catF bs.length (lF bs) (lF cs) i := by
  unfold lF catF
  by_cases h : i < bs.length
  · rw [if_pos h]; simp [List.getD, List.getElem?_append_left h]
  · rw [if_neg h]; simp [List.getD, List.getElem?_append_right (Nat.le_of_not_lt h)]
theorem src_txt {w : World} (t : List Nat) (h : Lb t) : Src Try.prog 1 9 (.string (txt t)) t.length (bytesL t.length (lF t)) w := by
  have h' := src_str (w := w) (txt t)
  rw [txt_size, bytesL_congr (f' := lF t) (fun i hi => txt_bt h hi)] at h'
  exact h'

theorem size_setCells (g : Nat) : ∀ (vs : List Value) (o : Nat) (w : World), (w.setCells g o vs).heap.size = w.heap.size
  | [], _, _ => rfl
  | v :: r, o, w => by rw [World.setCells, size_setCells g r]; simp

/-- append to bytes of the call's own, of any source. -/
theorem wpList_appD {w : World} {ops : Array Oper} {rest : List Oper} {o : Oper} {a : Act} {Q : Exit → Act → World → Prop} (hgd : o.guard = none) (s x : Operand) (tx : TypeId)
    (ho : o.op = .call { callee := .builtin .append, args := #[s, x], argTypes := #[24, tx] })
    {base g n cap m : Nat} {bs cs : List Nat} (X : Value) (hown : OwnD w base g cap bs) (hbn : n = bs.length) (hcm : m = cs.length) (hs1 : Src Try.prog 1 tx X m (bytesL m (lF cs)) w) (hcs : Lb cs) (hnm : n + m ≤ 1000000) (hbase : base ≤ w.heap.size)
    (hv : a.eval s = .slice (some ⟨g, 0, none⟩) n cap) (hx : a.eval x = X)
    (hK : ∀ g' cap' w', OwnD w' base g' cap' (bs ++ cs) → Below base w w' → wpList Try.prog ops Q rest (a.put o.dst (.slice (some ⟨g', 0, none⟩) (n + m) cap')) w') : wpList Try.prog ops Q (o :: rest) a w := by
  obtain ⟨i0, hi, hz0, hz1, hz2⟩ := info_parts infoU8
  subst hbn hcm
  have hs : Src Try.prog i0.size tx X cs.length (bytesL cs.length (lF cs)) w := by rw [hz1]; exact hs1
  have hrun : ∃ g' cap' w', (Builtin.append_ #[24, tx] o.type #[.slice (some ⟨g, 0, none⟩) bs.length cap, X]).run Try.prog w = .ok (.slice (some ⟨g', 0, none⟩) (bs.length + cs.length) cap') w' ∧ OwnD w' base g' cap' (bs ++ cs) ∧ Below base w w' := by
    by_cases hroom : bs.length + cs.length ≤ cap
    · have hin : ∀ j, j < (bytesL cs.length (lF cs)).length → (w.cell? ⟨g, bs.length + j, none⟩).isSome = true := fun j hj => (hown.wr (bs.length + j) (by rw [bytesL_len] at hj; omega)).1
      have hr := run_append_room_src (P := Try.prog) w 24 tx o.type 5 i0 Try.underlying24 hi g 0 bs.length cap X cs.length _ hs hroom
        (fun j hj => by rw [hz1, Nat.mul_one, Nat.zero_add]; exact hin j hj) (fun j hj => by rw [hz1, Nat.mul_one, Nat.zero_add]; exact (hown.wr (bs.length + j) (by rw [bytesL_len] at hj; omega)).2)
      rw [hz1, Nat.mul_one, Nat.zero_add] at hr
      refine ⟨_, _, _, hr, ⟨hown.le, by rw [size_setCells]; exact hown.lt, fun i hi => ?_, hown.lb.append hcs, by rw [List.length_append]; exact hroom, hown.most, fun j hj => ⟨World.isSome_setCells _ _ _ _ _ (hown.wr j hj).1, by rw [World.frozen?_setCells]; exact (hown.wr j hj).2⟩⟩, below_setCells hown.le _ _ _ (Below.refl base w)⟩
      rw [lF_cat]
      unfold catF
      rw [List.length_append] at hi
      rw [Nat.zero_add]
      by_cases e : i < bs.length
      · rw [if_pos e, World.cell?_setCells_out _ _ _ _ _ (fun _ _ => .inl e)]
        have := hown.row i e
        rwa [Nat.zero_add] at this
      · rw [if_neg e]
        have := World.cell?_setCells_in g (bytesL cs.length (lF cs)) bs.length w hin (i - bs.length) (by rw [bytesL_len]; omega)
        rw [show bs.length + (i - bs.length) = i by omega] at this
        rw [this]
        simp [bytesL]
    · have hold : (Builtin.firstCells i0.size bs.length (.slice (some ⟨g, 0, none⟩) bs.length cap)).run Try.prog w.drew = .ok (bytesL bs.length (lF bs)).toArray w.drew := by
        rw [hz1]
        refine run_firstCells_some w.drew 1 bs.length ⟨g, 0, none⟩ bs.length cap (bytesL bs.length (lF bs)) (by rw [bytesL_len, Nat.mul_one]) fun j u hu => ?_
        have hj : j < bs.length := by
          rcases Nat.lt_or_ge j bs.length with hj | hj
          · exact hj
          · rw [List.getElem?_eq_none (by rw [bytesL_len]; omega)] at hu; cases hu
        rw [bytesL_get bs.length (lF bs) hj] at hu
        obtain rfl := Option.some.inj hu
        have hadd : (⟨g, 0, none⟩ : Addr).add j = ⟨g, 0 + j, none⟩ := by unfold Addr.add; split <;> simp_all
        rw [hadd]
        exact hown.row j hj
      have hr := run_append_grow_src (P := Try.prog) w 24 tx o.type 5 i0 (.int .u8 0) Try.underlying24 hi hz0 (some ⟨g, 0, none⟩) bs.length cap (bytesL bs.length (lF bs)) hold X cs.length _ hs (by omega) (by omega) (growslice_fits (by omega) (by rw [hz2]; omega))
      have hcap := grownCap_ge w (bs.length + cs.length) cap 5
      have hcm := grownCap_le_maxLen w (bs.length + cs.length) cap 5 (by simp only [maxLen]; omega)
      simp only [maxLen] at hcm
      have hz : (Value.int .u8 0).cells = #[.int .u8 0] := rfl
      have hh := heap_alloc_new w.drew (.cells ((bytesL bs.length (lF bs) ++ bytesL cs.length (lF cs)).toArray ++ Builtin.zeroCells (Value.int .u8 0).cells (grownCap w (bs.length + cs.length) cap 5 - (bs.length + cs.length))) 5)
      have hsz : ((bytesL bs.length (lF bs) ++ bytesL cs.length (lF cs)).toArray ++ Builtin.zeroCells (Value.int .u8 0).cells (grownCap w (bs.length + cs.length) cap 5 - (bs.length + cs.length))).size = grownCap w (bs.length + cs.length) cap 5 := by
        rw [Array.size_append, size_zeroCells, hz]
        simp [bytesL_len]
        omega
      refine ⟨_, _, _, hr, ⟨hbase, by simp, fun i hi => ?_, hown.lb.append hcs, by rw [List.length_append]; exact hcap, by omega, fun j hj => ⟨?_, frozen_of_row _ _ _ _ _ hh⟩⟩, ((Below.refl base w).drew).alloc (by simpa using hbase) _⟩
      · rw [List.length_append] at hi
        rw [Nat.zero_add, lF_cat]
        have := cell_of_row _ _ i _ _ _ hh
        refine Eq.trans this ?_
        rw [bytesL_cat, Array.getElem?_append_left (by simpa [bytesL_len] using hi), List.getElem?_toArray, bytesL_get _ _ hi]
      · have := cell_of_row _ _ j _ _ _ hh
        refine Eq.trans (congrArg Option.isSome this) ?_
        rw [Array.getElem?_eq_getElem (by omega)]
        rfl
  refine wpList_plain hgd fun K hK' => ?_
  obtain ⟨g', cap', w', hrun, r1, r2⟩ := hrun
  unfold Oper.wp execOp
  simp only [ho, resolve, invoke, builtin, Sem.run_bind, Sem.run_pure, Result.andThen_ok, List.map_toArray, List.map_cons, List.map_nil, hv, hx, hrun]
  exact hK' _ _ (hK g' cap' w' r1 r2)
end Go.Proofs.Ytbjabncefhgefaa
