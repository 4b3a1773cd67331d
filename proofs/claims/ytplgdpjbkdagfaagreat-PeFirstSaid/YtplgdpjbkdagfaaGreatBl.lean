/- Rows of bytes as lists. -/
import Derived.Test.YtplgdpjbkdagfaaGreatRow
import Derived.Test.YtplgdpjbkdagfaaGreatCopy
namespace Go.Proofs.YtplgdpjbkdagfaaGreat
set_option maxRecDepth 100000
open Go.ChangeShapes Go.WideShapes Go.ChangeAt Go.RowKit
set_option linter.unusedVariables false
set_option linter.unusedSimpArgs false

theorem i64_or (a b : Nat) (ha : a < 2 ^ 62) (hb : b < 2 ^ 62) : bits .or .i64 (a : Int) (b : Int) = ((a ||| b : Nat) : Int) := by
  show IntKind.i64.wrap ((BitVec.ofInt 64 (a : Int) ||| BitVec.ofInt 64 (b : Int)).toNat : Int) = _
  have h := Nat.or_lt_two_pow ha hb
  rw [BitVec.toNat_or, BitVec.ofInt_natCast, BitVec.ofInt_natCast, BitVec.toNat_ofNat, BitVec.toNat_ofNat, Nat.mod_eq_of_lt (by omega), Nat.mod_eq_of_lt (by omega), IntKind.wrap_i64]
  omega

theorem litF_cat (bs cs : List Int) : catF bs.length (litF bs) (litF cs) = litF (bs ++ cs) := by
  funext i
  unfold catF litF
  simp only [List.getD_eq_getElem?_getD]
  split
  · rw [List.getElem?_append_left (by assumption)]
  · rw [List.getElem?_append_right (by omega)]

theorem litF_cons_zero (b : Int) (bs : List Int) : litF (b :: bs) 0 = b := rfl
theorem litF_cons_succ (b : Int) (bs : List Int) (i : Nat) : litF (b :: bs) (i + 1) = litF bs i := by simp [litF]
theorem litF_append_left {bs cs : List Int} {i : Nat} (h : i < bs.length) : litF (bs ++ cs) i = litF bs i := by simp [litF, List.getElem?_append_left h]
theorem litF_append_right {bs cs : List Int} {i : Nat} (h : bs.length ≤ i) : litF (bs ++ cs) i = litF cs (i - bs.length) := by simp [litF, List.getElem?_append_right h]

/-- All of a list are bytes. -/
def Bs (bs : List Int) : Prop := ∀ b ∈ bs, 0 ≤ b ∧ b ≤ 255
theorem Bs.lit {bs : List Int} (h : Bs bs) : Bytes255 (litF bs) := by
  intro i
  unfold litF
  rw [List.getD_eq_getElem?_getD]
  cases hg : bs[i]? with
  | none => simp
  | some b => simpa using h b (List.mem_of_getElem? hg)
theorem Bs.append {bs cs : List Int} (h : Bs bs) (k : Bs cs) : Bs (bs ++ cs) := fun b hb => by
  rcases List.mem_append.1 hb with hb | hb
  · exact h b hb
  · exact k b hb
theorem Bs.nil : Bs [] := fun b hb => by simp at hb

/-- The n bytes of f as a list. -/
def listF (f : Nat → Int) (n : Nat) : List Int := (List.range n).map f
theorem listF_len (f : Nat → Int) (n : Nat) : (listF f n).length = n := by simp [listF]
theorem litF_listF {f : Nat → Int} {n i : Nat} (h : i < n) : litF (listF f n) i = f i := by simp [litF, listF, h]
theorem Bs.listF {f : Nat → Int} (hf : Bytes255 f) (n : Nat) : Bs (listF f n) := fun b hb => by
  simp only [YtplgdpjbkdagfaaGreat.listF, List.mem_map, List.mem_range] at hb
  obtain ⟨i, _, rfl⟩ := hb
  exact hf i
theorem bytesL_lit (bs : List Int) : bytesL bs.length (litF bs) = bs.map (Value.int .u8) := by
  apply List.ext_getElem?
  intro i
  rcases Nat.lt_or_ge i bs.length with h | h
  · rw [bytesL_get _ _ h, List.getElem?_map, List.getElem?_eq_getElem h]
    simp [litF, h]
  · rw [List.getElem?_eq_none (by rw [bytesL_len]; exact h), List.getElem?_eq_none (by simpa using h)]
theorem bytesL_congr {n : Nat} {f f' : Nat → Int} (h : ∀ i, i < n → f i = f' i) : bytesL n f = bytesL n f' := by
  apply List.ext_getElem?
  intro i
  rcases Nat.lt_or_ge i n with hi | hi
  · rw [bytesL_get _ _ hi, bytesL_get _ _ hi, h i hi]
  · rw [List.getElem?_eq_none (by rw [bytesL_len]; exact hi), List.getElem?_eq_none (by rw [bytesL_len]; exact hi)]

/-- v is a slice of the call's own, from block base on, of the bytes bs. -/
def OwnBL (w : World) (base : Nat) (v : Value) (bs : List Int) : Prop := OwnB w base v bs.length (litF bs)

theorem OwnBL.nil (w : World) (base : Nat) : OwnBL w base (.slice none 0 0) [] := ownB_nil w base _
theorem OwnBL.made0 (w : World) (base : Nat) (hb : base ≤ w.heap.size) : OwnBL (w.alloc (.cells #[] 5)) base (.slice (some ⟨w.heap.size, 0, none⟩) 0 0) [] := ownB_made w base hb _
theorem OwnBL.lt {w : World} {base : Nat} {v : Value} {bs : List Int} (h : OwnBL w base v bs) : ∀ k, v.ownBlock = some k → base ≤ k ∧ k < w.heap.size := World.ownsRow.lt h
theorem OwnBL.below {w w' : World} {base : Nat} {v : Value} {bs : List Int} (h : OwnBL w base v bs) (hb : Below w.heap.size w w') : OwnBL w' base v bs := OwnB.below h hb
theorem OwnBL.alloc {w : World} {base : Nat} {v : Value} {bs : List Int} (h : OwnBL w base v bs) (o : Obj) : OwnBL (w.alloc o) base v bs := h.below ((Below.refl _ _).alloc (Nat.le_refl _) o)
theorem OwnBL.drewN {w : World} {base : Nat} {v : Value} {bs : List Int} (h : OwnBL w base v bs) (n : Nat) : OwnBL (w.drewN n) base v bs := h
theorem OwnBL.of_block {w w' : World} {base : Nat} {v : Value} {bs : List Int} (h : OwnBL w base v bs) (hb : ∀ k, v.ownBlock = some k → w'.heap[k]? = w.heap[k]?) : OwnBL w' base v bs := by
  refine ⟨h.1, ?_⟩
  rcases h.2 with h2 | ⟨g, cap, cur, hv, hg, hh, r⟩
  · exact Or.inl h2
  · exact Or.inr ⟨g, cap, cur, hv, hg, by rw [hb g (by rw [hv]; rfl)]; exact hh, r⟩
theorem OwnBL.grown {w w' : World} {base : Nat} {v : Value} {bs : List Int} {row : Option Nat} (h : OwnBL w base v bs) (hb : w.grownBy w' row) (hne : ∀ k, v.ownBlock = some k → row ≠ some k) : OwnBL w' base v bs :=
  h.of_block fun k hk => hb.block k (h.lt k hk).2 (fun e => hne k hk e.symm)
/-- What an append leaves below. -/
theorem OwnBL.grew {w w' : World} {B base : Nat} {v : Value} {bs : List Int} {a : World} (h : OwnBL w base v bs) (hb : Below B a w) (hB : B ≤ base) (hs : B ≤ w.heap.size) (hg : w.grownBy w' v.ownBlock) : Below B a w' :=
  hb.trans ⟨hg.os, hg.tape, hg.output, hg.size, fun k hk => hg.block k (by omega) (fun e => by have := (h.lt k e.symm).1; omega)⟩
theorem OwnBL.slice {w : World} {base n cap : Nat} {A : Option Addr} {bs : List Int} (h : OwnBL w base (.slice A n cap) bs) :
    n = bs.length ∧ n ≤ cap ∧ cap ≤ maxLen ∧ SlB w A n (litF bs) ∧ (n = 0 ∨ ∃ g, A = some ⟨g, 0, none⟩ ∧ base ≤ g ∧ Own w g n (fun i => .int .u8 (litF bs i))) := by
  have hn : n = bs.length := by
    rcases h.2 with ⟨h1, h2⟩ | ⟨g, cap', cur, h1, _⟩
    · injection h1 with _ h1 _; omega
    · injection h1 with _ h1 _
  subst hn
  obtain ⟨h1, h2, h3⟩ := OwnB.slice h
  refine ⟨rfl, h1, h2, ?_, h3⟩
  rcases h3 with h3 | ⟨g, rfl, _, ho⟩
  · exact .inl h3
  · exact .inr ⟨g, 0, rfl, ho.1, own_row ho (fun i _ => rfl)⟩

/-- append of a list of bytes. -/
theorem wpList_appBL {w : World} {ops : Array Oper} {rest : List Oper} {o : Oper} {a : Act} {Q : Exit → Act → World → Prop} (hgd : o.guard = none) (s x : Operand) (tx : TypeId)
    (ho : o.op = .call { callee := .builtin .append, args := #[s, x], argTypes := #[25, tx] })
    (base : Nat) (v : Value) (bs : List Int) (hv : a.eval s = v) (hown : OwnBL w base v bs) (X : Value) (hX : a.eval x = X) (cs : List Int) (hs : Src Tryz.prog 1 tx X cs.length (bytesL cs.length (litF cs)) w)
    (h63 : bs.length + cs.length ≤ 140737488355328) (hbase : base ≤ w.heap.size)
    (hK : ∀ A cap w', OwnBL w' base (.slice A (bs.length + cs.length) cap) (bs ++ cs) → w.grownBy w' v.ownBlock → ((Value.slice A (bs.length + cs.length) cap).ownBlock = v.ownBlock ∨ (Value.slice A (bs.length + cs.length) cap).ownBlock = some w.heap.size) → wpList Tryz.prog ops Q rest (a.put o.dst (.slice A (bs.length + cs.length) cap)) w') :
    wpList Tryz.prog ops Q (o :: rest) a w := by
  refine wpList_appV hgd s x tx ho base v bs.length (litF bs) hv hown X hX cs.length (litF cs) hs h63 hbase ?_
  intro v' w' hown' hg hat
  rw [litF_cat] at hown'
  obtain ⟨A, cap, rfl⟩ : ∃ A cap, v' = .slice A (bs.length + cs.length) cap := by
    rcases hown'.2 with ⟨h1, h2⟩ | ⟨g, cap, _, h1, _⟩
    · exact ⟨none, 0, by rw [h1, h2]⟩
    · exact ⟨_, cap, h1⟩
  exact hK A cap w' (by unfold OwnBL; rw [List.length_append]; exact hown') hg hat

theorem src_bl {w : World} {A : Option Addr} {m c : Nat} {f : Nat → Int} {cs : List Int} (h : SlB w A m f) (hm : m = cs.length) (hf : ∀ i, i < m → f i = litF cs i) : Src Tryz.prog 1 25 (.slice A m c) cs.length (bytesL cs.length (litF cs)) w := by
  subst hm
  have := src_sl (c := c) h
  rwa [bytesL_congr hf] at this
theorem src_own {w : World} {base : Nat} {A : Option Addr} {m c : Nat} {cs : List Int} (h : OwnBL w base (.slice A m c) cs) : Src Tryz.prog 1 25 (.slice A m c) cs.length (bytesL cs.length (litF cs)) w := by
  obtain ⟨h1, _, _, h2, _⟩ := h.slice
  exact src_bl h2 h1 (fun _ _ => rfl)
/-- a slice that was just built of bytes. -/
theorem src_new (w : World) (cs : List Int) (c : Nat) : Src Tryz.prog 1 25 (.slice (some ⟨w.heap.size, 0, none⟩) cs.length c) cs.length (bytesL cs.length (litF cs)) (w.alloc (.cells (cs.map (Value.int .u8)).toArray 5)) :=
  src_bl (f := litF cs) (by
    by_cases h : cs.length = 0
    · exact .inl h
    · exact .inr ⟨w.heap.size, 0, rfl, by simp, row_lit cs rfl⟩) rfl (fun _ _ => rfl)
theorem src_text {w : World} {f : Nat → Int} (hf : Bytes255 f) (o n : Nat) : Src Tryz.prog 1 9 (.string (strF f o n)) (listF (fun i => f (o + i)) n).length (bytesL (listF (fun i => f (o + i)) n).length (litF (listF (fun i => f (o + i)) n))) w := by
  have h := src_str (w := w) (strF f o n)
  rw [strF_size] at h
  rw [listF_len]
  rw [bytesL_congr (f' := litF (listF (fun i => f (o + i)) n)) (fun i hi => by rw [bt_strF hf hi, litF_listF hi])] at h
  exact h

theorem OwnBL.stored {w : World} {base g n cap : Nat} {bs : List Int} (h : OwnBL w base (.slice (some ⟨g, 0, none⟩) n cap) bs) (j : Nat) (u : Int) :
    OwnBL (w.setCell ⟨g, j, none⟩ (.int .u8 u)) base (.slice (some ⟨g, 0, none⟩) n cap) (bs.set j u) ∧ w.grownBy (w.setCell ⟨g, j, none⟩ (.int .u8 u)) (some g) := by
  have hn := h.slice.1
  subst hn
  unfold OwnBL OwnB at h
  have h2 := World.ownsRow.stored h j (.int .u8 u)
  refine ⟨?_, h2.2⟩
  unfold OwnBL OwnB
  rw [List.length_set]
  have e : (bytesL bs.length (litF bs)).set j (.int .u8 u) = bytesL bs.length (litF (bs.set j u)) := by
    rw [bytesL_lit, ← List.map_set, ← bytesL_lit, List.length_set]
  rw [e] at h2
  exact h2.1

/-- make of n bytes: they are owned. -/
theorem wpList_make_bl {w : World} {ops : Array Oper} {rest : List Oper} {o : Oper} {a : Act} {Q : Exit → Act → World → Prop}
    (hg : o.guard = none) (l c : Operand) (hop : o.op = Op.makeSlice 25 l c) (base : Nat) (kl kc : IntKind) (n : Nat) (hl : a.eval l = .int kl n) (hc : a.eval c = .int kc n) (b2 : n ≤ 281474976710656) (b4 : base ≤ w.heap.size)
    (hK : ∀ w', OwnBL w' base (.slice (some ⟨w.heap.size, 0, none⟩) n n) (List.replicate n 0) → Below w.heap.size w w' → w'.heap.size = w.heap.size + 1 → wpList Tryz.prog ops Q rest (a.put o.dst (.slice (some ⟨w.heap.size, 0, none⟩) n n)) w') :
    wpList Tryz.prog ops Q (o :: rest) a w := by
  obtain ⟨i0, hi, hz0, hz1, hz2⟩ := info_parts infoU8
  refine wpList_plain hg fun K hK' => ?_
  have hbb : (i0.bytes : Int) * (n : Int) ≤ 281474976710656 := by rw [hz2]; omega
  have hrun := run_make (P := Tryz.prog) w 25 5 i0 (.int .u8 0) Tryz.underlying25 hi hz0 kl kc n n (by omega) (Int.le_refl _) hbb (by omega)
  rw [hz1] at hrun
  simp only [Int.toNat_natCast, Nat.mul_one] at hrun
  unfold Oper.wp
  simp [execOp, hop, hl, hc, hrun, Result.andThen]
  refine hK' _ _ (hK _ ?_ ((Below.refl w.heap.size w).alloc (Nat.le_refl _) _) (by simp))
  have hcs : (madeCells (Value.int .u8 0).cells n).toList = (List.replicate n (0 : Int)).map (Value.int .u8) := by
    apply List.ext_getElem?
    intro j
    have hz : (Value.int .u8 0).cells = #[.int .u8 0] := rfl
    by_cases hj : j < n <;> simp [madeCells, hz, hj, Nat.mod_one, List.getElem?_replicate]
  refine ⟨by simp [bytesL], .inr ⟨w.heap.size, n, _, by simp, b4, heap_alloc_new w _, by simp, by unfold maxLen; omega, by simp [madeCells], ?_⟩⟩
  rw [hcs, bytesL_lit]
  simp
end Go.Proofs.YtplgdpjbkdagfaaGreat
