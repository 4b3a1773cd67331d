/- The document's memory of pages (slipwayref3), as far as room is asked for: rows that rise; what is found in them. -/
import Derived.Test.YtlifaldbdjcgjaaAppTs2
import Derived.Test.YtlifaldbdjcgjaaOwnT
namespace Go.Proofs.Ytlifaldbdjcgjaa
open Go.ChangeShapes Go.WideShapes Go.ChangeAt Go.RowKit
set_option linter.unusedVariables false
set_option linter.unusedSimpArgs false

/-- A page of the document's. -/
structure RPg where
  at' : Nat
  prot : Int
  txt : ByteArray
def rpC (y : RPg) : List Value := [.int .u64 y.at', .int .i64 y.prot, .string y.txt]
theorem rpC_len (y : RPg) : (rpC y).length = 3 := rfl
theorem rpC_one (y : RPg) : ∀ u ∈ rpC y, u.oneCell' = true := by
  intro u hu
  simp [rpC] at hu
  rcases hu with rfl | rfl | rfl <;> rfl
/-- How many lie below a place. -/
def fidx : List RPg → Nat → Nat
  | [], _ => 0
  | y :: l, a => if y.at' < a then fidx l a + 1 else 0
/-- Is a page there? -/
def hasP (l : List RPg) (a : Nat) : Bool := l.any fun y => y.at' == a
/-- Rows that rise, of pages' places. -/
def RiseP (l : List RPg) : Prop := l.Pairwise (fun x y => x.at' < y.at') ∧ ∀ y ∈ l, y.at' % 4096 = 0 ∧ y.at' < 140737488355328
theorem hasP_iff {l : List RPg} {a : Nat} : hasP l a = true ↔ ∃ y ∈ l, y.at' = a := by
  unfold hasP
  rw [List.any_eq_true]
  exact ⟨fun ⟨y, hy, h⟩ => ⟨y, hy, by simpa using h⟩, fun ⟨y, hy, h⟩ => ⟨y, hy, by simpa using h⟩⟩
theorem fidx_le : ∀ (l : List RPg) (a : Nat), fidx l a ≤ l.length
  | [], _ => Nat.le_refl _
  | y :: l, a => by
    unfold fidx
    split
    · have := fidx_le l a
      simp; omega
    · simp
theorem fidx_low : ∀ (l : List RPg) (a i : Nat) (hi : i < l.length), i < fidx l a → l[i].at' < a
  | [], _, i, hi, _ => by simp at hi
  | y :: l, a, i, hi, h => by
    unfold fidx at h
    split at h
    · rename_i hy
      rcases i with _ | i
      · exact hy
      · exact fidx_low l a i (by simpa using hi) (by omega)
    · omega
theorem fidx_at : ∀ (l : List RPg) (a : Nat) (h : fidx l a < l.length), ¬ l[fidx l a].at' < a
  | [], _, h => by simp at h
  | y :: l, a, h => by
    by_cases hy : y.at' < a
    · have e : fidx (y :: l) a = fidx l a + 1 := by rw [fidx, if_pos hy]
      have h2 : fidx l a < l.length := by rw [e] at h; simpa using h
      have := fidx_at l a h2
      have e2 : (y :: l)[fidx (y :: l) a]'h = l[fidx l a]'h2 := by
        have : ∀ k (hk : k < (y :: l).length), k = fidx l a + 1 → (y :: l)[k]'hk = l[fidx l a]'h2 := fun k hk e => by subst e; rfl
        exact this _ h e
      rw [e2]
      exact this
    · have e : fidx (y :: l) a = 0 := by rw [fidx, if_neg hy]
      have e2 : (y :: l)[fidx (y :: l) a]'h = y := by
        have : ∀ k (hk : k < (y :: l).length), k = 0 → (y :: l)[k]'hk = y := fun k hk e => by subst e; rfl
        exact this _ h e
      rw [e2]
      exact hy
theorem fidx_take {l : List RPg} {a : Nat} : ∀ y ∈ l.take (fidx l a), y.at' < a := by
  intro y hy
  obtain ⟨i, hi, rfl⟩ := List.mem_iff_getElem.mp hy
  rw [List.length_take] at hi
  rw [List.getElem_take]
  exact fidx_low l a i (by omega) (by omega)
theorem fidx_drop {l : List RPg} {a : Nat} (hr : RiseP l) : ∀ y ∈ l.drop (fidx l a), a ≤ y.at' := by
  intro y hy
  obtain ⟨i, hi, rfl⟩ := List.mem_iff_getElem.mp hy
  rw [List.length_drop] at hi
  rw [List.getElem_drop]
  have h0 := fidx_at l a (by omega)
  rcases Nat.eq_zero_or_pos i with h | h
  · subst h; simp only [Nat.add_zero]; omega
  · have := List.pairwise_iff_getElem.mp hr.1 (fidx l a) (fidx l a + i) (by omega) (by omega) (by omega)
    omega
theorem fidx_has {l : List RPg} {a : Nat} (hr : RiseP l) : hasP l a = true ↔ ∃ h : fidx l a < l.length, l[fidx l a].at' = a := by
  rw [hasP_iff]
  constructor
  · rintro ⟨y, hy, hya⟩
    obtain ⟨i, hi, rfl⟩ := List.mem_iff_getElem.mp hy
    have h1 : fidx l a ≤ i := by
      rcases Nat.lt_or_ge i (fidx l a) with h | h
      · have := fidx_low l a i hi h; omega
      · exact h
    have h2 : fidx l a < l.length := by omega
    refine ⟨h2, ?_⟩
    have h0 := fidx_at l a h2
    rcases Nat.lt_or_ge (fidx l a) i with h | h
    · have := List.pairwise_iff_getElem.mp hr.1 (fidx l a) i h2 hi h
      omega
    · have e : i = fidx l a := by omega
      have : ∀ k (hk : k < l.length), k = i → l[k].at' = l[i].at' := fun k hk e => by subst e; rfl
      rw [this _ h2 e.symm, hya]
  · rintro ⟨h, he⟩
    exact ⟨_, List.getElem_mem h, he⟩
/-- New pages. -/
def newP (a n : Nat) (t : ByteArray) : List RPg := (List.range n).map fun i => ⟨a + i * 4096, 1, t⟩
theorem newP_len (a n : Nat) (t : ByteArray) : (newP a n t).length = n := by simp [newP]
theorem newP_succ (a n : Nat) (t : ByteArray) : newP a (n + 1) t = newP a n t ++ [⟨a + n * 4096, 1, t⟩] := by simp [newP, List.range_succ]
def insP (l : List RPg) (a n : Nat) (t : ByteArray) : List RPg := l.take (fidx l a) ++ newP a n t ++ l.drop (fidx l a)
theorem insP_len (l : List RPg) (a n : Nat) (t : ByteArray) : (insP l a n t).length = l.length + n := by
  unfold insP
  have := fidx_le l a
  rw [List.length_append, List.length_append, newP_len, List.length_take, List.length_drop]
  omega
theorem insP_has {l : List RPg} {a n b : Nat} {t : ByteArray} : hasP (insP l a n t) b = true ↔ hasP l b = true ∨ ∃ i, i < n ∧ b = a + i * 4096 := by
  rw [hasP_iff, hasP_iff]
  unfold insP
  constructor
  · rintro ⟨y, hy, rfl⟩
    rcases List.mem_append.mp hy with h | h
    · rcases List.mem_append.mp h with h | h
      · exact .inl ⟨y, List.mem_of_mem_take h, rfl⟩
      · obtain ⟨i, hi, rfl⟩ := List.mem_map.mp h
        exact .inr ⟨i, List.mem_range.mp hi, rfl⟩
    · exact .inl ⟨y, List.mem_of_mem_drop h, rfl⟩
  · rintro (⟨y, hy, rfl⟩ | ⟨i, hi, rfl⟩)
    · rw [← List.take_append_drop (fidx l a) l] at hy
      rcases List.mem_append.mp hy with h | h
      · exact ⟨y, List.mem_append.mpr (.inl (List.mem_append.mpr (.inl h))), rfl⟩
      · exact ⟨y, List.mem_append.mpr (.inr h), rfl⟩
    · exact ⟨_, List.mem_append.mpr (.inl (List.mem_append.mpr (.inr (List.mem_map.mpr ⟨i, List.mem_range.mpr hi, rfl⟩)))), rfl⟩
theorem insP_rise {l : List RPg} {a n : Nat} {t : ByteArray} (hr : RiseP l) (ha : a % 4096 = 0) (hb : a + n * 4096 ≤ 140737488355328) (hf : ∀ i, i < n → hasP l (a + i * 4096) = false) : RiseP (insP l a n t) := by
  have hlow := fidx_take (l := l) (a := a)
  have hhigh : ∀ y ∈ l.drop (fidx l a), a + n * 4096 ≤ y.at' := by
    intro y hy
    have h1 := fidx_drop hr y hy
    have h2 := (hr.2 y (List.mem_of_mem_drop hy)).1
    rcases Nat.lt_or_ge y.at' (a + n * 4096) with h | h
    · exfalso
      have h3 := hf ((y.at' - a) / 4096) (by omega)
      have h4 : a + (y.at' - a) / 4096 * 4096 = y.at' := by omega
      rw [h4] at h3
      have := hasP_iff.mpr ⟨y, List.mem_of_mem_drop hy, rfl⟩
      rw [this] at h3
      cases h3
    · exact h
  have hnew : ∀ y ∈ newP a n t, a ≤ y.at' ∧ y.at' + 4096 ≤ a + n * 4096 ∧ y.at' % 4096 = 0 := by
    intro y hy
    obtain ⟨i, hi, rfl⟩ := List.mem_map.mp hy
    have := List.mem_range.mp hi
    refine ⟨by show a ≤ a + i * 4096; omega, by show a + i * 4096 + 4096 ≤ _; omega, by show (a + i * 4096) % 4096 = 0; omega⟩
  refine ⟨?_, fun y hy => ?_⟩
  · unfold insP
    rw [List.pairwise_append, List.pairwise_append]
    refine ⟨⟨hr.1.sublist (List.take_sublist _ _), ?_, fun x hx y hy => ?_⟩, hr.1.sublist (List.drop_sublist _ _), fun x hx y hy => ?_⟩
    · unfold newP
      rw [List.pairwise_map]
      exact List.pairwise_lt_range.imp (fun h => by show a + _ * 4096 < a + _ * 4096; omega)
    · have := hlow x hx
      have := (hnew y hy).1
      omega
    · have h1 := hhigh y hy
      rcases List.mem_append.mp hx with h | h
      · have := hlow x h; omega
      · have := (hnew x h).2.1; omega
  · unfold insP at hy
    rcases List.mem_append.mp hy with h | h
    · rcases List.mem_append.mp h with h | h
      · exact hr.2 y (List.mem_of_mem_take h)
      · have := hnew y h; omega
    · exact hr.2 y (List.mem_of_mem_drop h)
/-- The document's memory at B: its pages. -/
def RefM (w : World) (B : Nat) (L : List RPg) : Prop :=
  ∃ A c, w.heap[B]? = some (.cells #[.slice A L.length c, .int .i64 1024] 73 (0, 0)) ∧ SlT rpC 3 w A L ∧ L.length ≤ 100000 ∧ L.length ≤ c ∧ c ≤ maxLen ∧ (A = none ∧ c = 0 ∨ ∃ b, A = some ⟨b, 0, none⟩)
theorem RefM.lt {w : World} {B : Nat} {L : List RPg} (h : RefM w B L) : B < w.heap.size := by
  obtain ⟨A, c, h1, _⟩ := h
  rcases Nat.lt_or_ge B w.heap.size with h | h
  · exact h
  · rw [Array.getElem?_eq_none h] at h1; cases h1
theorem RefM.below {w w' : World} {B : Nat} {L : List RPg} (h : RefM w B L) (hb : Below w.heap.size w w') : RefM w' B L := by
  have hB := h.lt
  obtain ⟨A, c, h1, h2, h3⟩ := h
  exact ⟨A, c, (hb.block B hB).trans h1, h2.below hb, h3⟩
theorem RefM.drewN {w : World} {B : Nat} {L : List RPg} (h : RefM w B L) (n : Nat) : RefM (w.drewN n) B L := h.below ⟨rfl, rfl, rfl, Nat.le_refl _, fun _ _ => rfl⟩
end Go.Proofs.Ytlifaldbdjcgjaa
