/- append of bytes onto a row of the call's own. -/
import Derived.Test.YtplgdpjbkdagfaaGreatApp
import Derived.Test.YtplgdpjbkdagfaaGreatSl
import Derived.PlainAid
namespace Go.Proofs.YtplgdpjbkdagfaaGreat
set_option maxRecDepth 100000
open Go.ChangeShapes Go.WideShapes Go.ChangeAt Go.RowKit
set_option linter.unusedVariables false
set_option linter.unusedSimpArgs false

/-- n cells of bytes f. -/
def bytesL (n : Nat) (f : Nat → Int) : List Value := (List.range n).map fun i => .int .u8 (f i)
theorem bytesL_len (n : Nat) (f : Nat → Int) : (bytesL n f).length = n := by simp [bytesL]
theorem bytesL_get (n : Nat) (f : Nat → Int) {i : Nat} (h : i < n) : (bytesL n f)[i]? = some (.int .u8 (f i)) := by simp [bytesL, h]

/-- f, and behind its first n elements h. -/
def catF (n : Nat) (f h : Nat → Int) (i : Nat) : Int := if i < n then f i else h (i - n)

theorem bytesL_cat (n m : Nat) (f h : Nat → Int) : bytesL n f ++ bytesL m h = bytesL (n + m) (catF n f h) := by
  apply List.ext_getElem?
  intro i
  rcases Nat.lt_or_ge i n with h1 | h1
  · rw [List.getElem?_append_left (by rw [bytesL_len]; omega), bytesL_get n f h1, bytesL_get _ _ (by omega)]
    simp [catF, h1]
  · rw [List.getElem?_append_right (by rw [bytesL_len]; omega), bytesL_len]
    rcases Nat.lt_or_ge (i - n) m with h2 | h2
    · rw [bytesL_get m h h2, bytesL_get _ _ (by omega)]
      simp [catF, show ¬ i < n by omega]
    · rw [List.getElem?_eq_none (by rw [bytesL_len]; omega), List.getElem?_eq_none (by rw [bytesL_len]; omega)]

theorem cat255 {n : Nat} {f h : Nat → Int} (hf : Bytes255 f) (hh : Bytes255 h) : Bytes255 (catF n f h) := by
  intro i; unfold catF; split
  · exact hf i
  · exact hh _

theorem bytesL_one (n : Nat) (f : Nat → Int) : ∀ u ∈ bytesL n f, u.oneCell' = true := by
  intro u hu
  obtain ⟨i, _, rfl⟩ := List.mem_map.1 hu
  rfl

theorem src_sl {w : World} {A : Option Addr} {m c : Nat} {f : Nat → Int} (h : SlB w A m f) : Src Tryz.prog 1 25 (.slice A m c) m (bytesL m f) w := by
  rcases A with _ | x
  · rcases h with rfl | ⟨b, off, hA, _⟩
    · exact Src.ofNil w Tryz.underlying25 c
    · cases hA
  · refine Src.ofSlice w Tryz.underlying25 x m c (bytesL m f) (by rw [bytesL_len, Nat.mul_one]) (fun j u hu => ?_) (bytesL_one m f)
    rcases h with rfl | ⟨b, off, hA, _, hr⟩
    · simp [bytesL] at hu
    · injection hA with hA
      subst hA
      have hj : j < m := by
        rcases Nat.lt_or_ge j m with hj | hj
        · exact hj
        · rw [List.getElem?_eq_none (by rw [bytesL_len]; omega)] at hu; cases hu
      rw [bytesL_get m f hj] at hu
      injection hu with hu
      subst hu
      have hadd : (⟨b, off, none⟩ : Addr).add j = ⟨b, off + j, none⟩ := by unfold Addr.add; split <;> simp_all
      rw [hadd]
      exact hr j hj

theorem src_str {w : World} (s : ByteArray) : Src Tryz.prog 1 9 (.string s) s.size (bytesL s.size (PlainAid.bt s)) w := by
  have h := Src.ofString (P := Tryz.prog) w Tryz.underlying9 s
  have e : byteCells s = bytesL s.size (PlainAid.bt s) := by
    apply List.ext_getElem?
    intro i
    rcases Nat.lt_or_ge i s.size with hi | hi
    · rw [bytesL_get _ _ hi]
      have hi' : i < s.data.size := hi
      simp only [byteCells, List.getElem?_map, Array.getElem?_toList, Array.getElem?_eq_getElem hi', Option.map_some]
      unfold PlainAid.bt
      rw [dif_pos hi]
      rfl
    · rw [List.getElem?_eq_none (by rw [byteCells_length]; omega), List.getElem?_eq_none (by rw [bytesL_len]; omega)]
  rw [e] at h
  exact h

theorem bt255 (s : ByteArray) : Bytes255 (PlainAid.bt s) := fun i => ⟨PlainAid.bt_nonneg s i, PlainAid.bt_le s i⟩

/-- An owned slice of n bytes f. -/
def OwnB (w : World) (base : Nat) (v : Value) (n : Nat) (f : Nat → Int) : Prop := w.ownsRow base 5 1 v n (bytesL n f)

theorem ownB_made (w : World) (base : Nat) (hb : base ≤ w.heap.size) (f : Nat → Int) : OwnB (w.alloc (.cells #[] 5)) base (.slice (some ⟨w.heap.size, 0, none⟩) 0 0) 0 f :=
  ⟨by simp [bytesL], .inr ⟨w.heap.size, 0, #[], rfl, hb, heap_alloc_new w _, Nat.le_refl _, by omega, rfl, by simp [bytesL]⟩⟩

theorem ownB_nil (w : World) (base : Nat) (f : Nat → Int) : OwnB w base (.slice none 0 0) 0 f := World.ownsRow_nil w base _ 1

theorem OwnB.own {w : World} {base g n cap : Nat} {f : Nat → Int} (h : OwnB w base (.slice (some ⟨g, 0, none⟩) n cap) n f) (hn : 0 < n) : base ≤ g ∧ g < w.heap.size ∧ n ≤ cap ∧ cap ≤ maxLen ∧ Own w g n (fun i => .int .u8 (f i)) := by
  obtain ⟨g', hA, hb, hown⟩ := Own.of_own (f := fun i => .int .u8 (f i)) h hn (fun i hi => bytesL_get n f hi)
  injection hA with hA
  injection hA with hA
  subst hA
  rcases h.2 with ⟨h0, h1⟩ | ⟨g', cap', cur, hv, _, _, h1, h2, _⟩
  · omega
  · injection hv with _ _ hv
    subst hv
    exact ⟨hb, hown.1, h1, h2, hown⟩

/-- append of bytes: the value written out. -/
theorem wpList_appB {w : World} {ops : Array Oper} {rest : List Oper} {o : Oper} {a : Act} {Q : Exit → Act → World → Prop} (hgd : o.guard = none) (s x : Operand) (tx : TypeId)
    (ho : o.op = .call { callee := .builtin .append, args := #[s, x], argTypes := #[25, tx] })
    (base : Nat) (v : Value) (n : Nat) (f : Nat → Int) (hv : a.eval s = v) (hown : OwnB w base v n f) (X : Value) (hX : a.eval x = X) (m : Nat) (h : Nat → Int) (hs : Src Tryz.prog 1 tx X m (bytesL m h) w)
    (hpos : 0 < n + m) (h63 : n + m ≤ 140737488355328) (hbase : base ≤ w.heap.size)
    (hK : ∀ g cap w', OwnB w' base (.slice (some ⟨g, 0, none⟩) (n + m) cap) (n + m) (catF n f h) → w.grownBy w' v.ownBlock → (v.ownBlock = some g ∨ g = w.heap.size) → wpList Tryz.prog ops Q rest (a.put o.dst (.slice (some ⟨g, 0, none⟩) (n + m) cap)) w') :
    wpList Tryz.prog ops Q (o :: rest) a w := by
  obtain ⟨i0, hi, hz0, hz1, hz2⟩ := info_parts infoU8
  refine wpList_app_src w hgd s x 25 tx ho base 5 i0 (.int .u8 0) 1 Tryz.underlying25 hi hz0 hz1 hz2 rfl v n (bytesL n f) hv hown X hX m (bytesL m h) hs (by unfold maxLen; omega) (by omega) hbase ?_
  intro v' w' hown' hg _ hat
  rw [bytesL_cat] at hown'
  obtain ⟨g, cap, hv', hb, hlt⟩ := hown'.form hpos
  subst hv'
  exact hK g cap w' hown' hg (by
    rcases hat with hat | hat
    · left; rw [← hat]; rfl
    · right; simpa [Value.ownBlock] using hat)

/-- append of bytes: whatever comes, nothing too. -/
theorem wpList_appV {w : World} {ops : Array Oper} {rest : List Oper} {o : Oper} {a : Act} {Q : Exit → Act → World → Prop} (hgd : o.guard = none) (s x : Operand) (tx : TypeId)
    (ho : o.op = .call { callee := .builtin .append, args := #[s, x], argTypes := #[25, tx] })
    (base : Nat) (v : Value) (n : Nat) (f : Nat → Int) (hv : a.eval s = v) (hown : OwnB w base v n f) (X : Value) (hX : a.eval x = X) (m : Nat) (h : Nat → Int) (hs : Src Tryz.prog 1 tx X m (bytesL m h) w)
    (h63 : n + m ≤ 140737488355328) (hbase : base ≤ w.heap.size)
    (hK : ∀ v' w', OwnB w' base v' (n + m) (catF n f h) → w.grownBy w' v.ownBlock → (v'.ownBlock = v.ownBlock ∨ v'.ownBlock = some w.heap.size) → wpList Tryz.prog ops Q rest (a.put o.dst v') w') :
    wpList Tryz.prog ops Q (o :: rest) a w := by
  obtain ⟨i0, hi, hz0, hz1, hz2⟩ := info_parts infoU8
  refine wpList_app_src w hgd s x 25 tx ho base 5 i0 (.int .u8 0) 1 Tryz.underlying25 hi hz0 hz1 hz2 rfl v n (bytesL n f) hv hown X hX m (bytesL m h) hs (by unfold maxLen; omega) (by omega) hbase ?_
  intro v' w' hown' hg _ hat
  rw [bytesL_cat] at hown'
  exact hK v' w' hown' hg hat

/-- append of bytes: a slice of whatever address comes. -/
theorem wpList_appS {w : World} {ops : Array Oper} {rest : List Oper} {o : Oper} {a : Act} {Q : Exit → Act → World → Prop} (hgd : o.guard = none) (s x : Operand) (tx : TypeId)
    (ho : o.op = .call { callee := .builtin .append, args := #[s, x], argTypes := #[25, tx] })
    (base : Nat) (v : Value) (n : Nat) (f : Nat → Int) (hv : a.eval s = v) (hown : OwnB w base v n f) (X : Value) (hX : a.eval x = X) (m : Nat) (h : Nat → Int) (hs : Src Tryz.prog 1 tx X m (bytesL m h) w)
    (h63 : n + m ≤ 140737488355328) (hbase : base ≤ w.heap.size)
    (hK : ∀ A cap w', OwnB w' base (.slice A (n + m) cap) (n + m) (catF n f h) → w.grownBy w' v.ownBlock → wpList Tryz.prog ops Q rest (a.put o.dst (.slice A (n + m) cap)) w') :
    wpList Tryz.prog ops Q (o :: rest) a w := by
  refine wpList_appV hgd s x tx ho base v n f hv hown X hX m h hs h63 hbase ?_
  intro v' w' hown' hg _
  obtain ⟨A, cap, rfl⟩ : ∃ A cap, v' = .slice A (n + m) cap := by
    rcases hown'.2 with ⟨h1, h2⟩ | ⟨g, cap, _, h1, _⟩
    · exact ⟨none, 0, by rw [h1, h2]⟩
    · exact ⟨_, cap, h1⟩
  exact hK A cap w' hown' hg

theorem OwnB.slice {w : World} {base n cap : Nat} {A : Option Addr} {f : Nat → Int} (h : OwnB w base (.slice A n cap) n f) :
    n ≤ cap ∧ cap ≤ maxLen ∧ (n = 0 ∨ ∃ g, A = some ⟨g, 0, none⟩ ∧ base ≤ g ∧ Own w g n (fun i => .int .u8 (f i))) := by
  rcases Nat.eq_zero_or_pos n with h0 | h0
  · subst h0
    rcases h.2 with ⟨h1, _⟩ | ⟨g, cap', _, h1, _, _, h2, h3, _⟩
    · injection h1 with _ _ h1; subst h1; exact ⟨by omega, by omega, .inl rfl⟩
    · injection h1 with _ _ h1; subst h1; exact ⟨h2, h3, .inl rfl⟩
  · obtain ⟨g, hA, hb, hown⟩ := Own.of_own (f := fun i => .int .u8 (f i)) h h0 (fun i hi => bytesL_get n f hi)
    subst hA
    obtain ⟨_, _, h2, h3, _⟩ := h.own h0
    exact ⟨h2, h3, .inr ⟨g, rfl, hb, hown⟩⟩

/-- What the grown row leaves below. -/
theorem below_own {w w' : World} {base : Nat} {v : Value} {n : Nat} {f : Nat → Int} {B : World} (h : Below B.heap.size B w) (hb : B.heap.size ≤ base) (hown : OwnB w base v n f) (hg : w.grownBy w' v.ownBlock) : Below B.heap.size B w' :=
  h.grown hg h.size (fun k hk => Nat.le_trans hb (hown.lt k hk).1)
theorem OwnB.below {w w' : World} {base : Nat} {v : Value} {n : Nat} {f : Nat → Int} (h : OwnB w base v n f) (hb : Below w.heap.size w w') : OwnB w' base v n f :=
  World.ownsRow.kept h (row := none) ⟨hb.os, hb.tape, hb.output, hb.size, fun i hi _ => hb.block i hi⟩ (by
    cases hv : v.ownBlock with
    | none => exact .inl rfl
    | some k => exact .inr (by simp))
end Go.Proofs.YtplgdpjbkdagfaaGreat
