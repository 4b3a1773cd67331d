/- law 18: what TableFull keeps: names, rows, the list of those that came. -/
import Derived.Test.YtclbbekdkljepaaTabI
import Derived.Test.YtclbbekdkljepaaDigits
import Derived.Test.YtclbbekdkljepaaAwake18
import Derived.Test.YtclbbekdkljepaaTlsG
import Derived.Test.YtclbbekdkljepaaMask
namespace Go.Proofs.Ytclbbekdkljepaa
open Go.ChangeShapes Go.WideShapes Go.ChangeAt Go.RowKit
set_option linter.unusedVariables false

/-- The names m1, m2 .. and their keys. -/
def nmB (i : Nat) : ByteArray := ⟨#[109]⟩ ++ dB i
def kyB (i : Nat) : ByteArray := nmB i ++ dotDll
def moreB : ByteArray := ⟨#[109, 111, 114, 101]⟩
def moreK : ByteArray := ⟨#[109, 111, 114, 101, 46, 100, 108, 108]⟩
set_option maxRecDepth 100000 in
theorem nm_facts : ∀ i, i < 34 → ((nmB i).size ≤ 10 ∧ (dB i).size ≤ 9 ∧ lowT (nmB i) = nmB i ∧ ∀ j, j < (nmB i).size → PlainAid.bt (nmB i) j ≠ 46) := by decide +kernel
set_option maxRecDepth 100000 in
theorem ky_inj : ∀ i, i < 34 → ∀ j, j < 34 → kyB i = kyB j → i = j := by decide +kernel
set_option maxRecDepth 100000 in
theorem ky_more : ∀ i, i < 34 → kyB i ≠ moreK := by decide +kernel
theorem ky_of (i : Nat) (hi : i < 34) : KeyOf (nmB i) (kyB i) := by
  obtain ⟨_, _, h1, h2⟩ := nm_facts i hi
  exact ⟨fun ⟨j, hj, e⟩ => absurd e (h2 j hj), fun _ => by rw [h1]; rfl⟩
set_option maxRecDepth 100000 in
theorem more_of : KeyOf moreB moreK := ⟨fun h => absurd h (noDot_lit' _ (by decide)), fun _ => by decide⟩

/-- The rows of the first n, of which those in C are attached. -/
structure Rows18 (L : List Md) (n : Nat) (C : List Int) : Prop where
  len : L.length = n
  id : ∀ j (hj : j < L.length), L[j].id = (j : Int) + 1
  key : ∀ j (hj : j < L.length), L[j].key = kyB (j + 1)
  att : ∀ j (hj : j < L.length), (L[j].att = true ↔ ((j : Int) + 1) ∈ C)

theorem Rows18.nil : Rows18 [] 0 [] := ⟨rfl, fun j hj => by simp at hj, fun j hj => by simp at hj, fun j hj => by simp at hj⟩
theorem Rows18.of {L : List Md} {n : Nat} {C : List Int} (h : Rows18 L n C) (k : Nat) (hk : k < L.length) (id : Int) (hid : (k : Int) + 1 = id) : ofL L id = some L[k] :=
  ofL_at k hk (by rw [h.id k hk, hid]) (fun j hj => by rw [h.id j (by omega)]; omega)
theorem Rows18.key_no {L : List Md} {n : Nat} {C : List Int} (h : Rows18 L n C) (hn : n < 33) : keyL L (kyB (n + 1)) = none :=
  keyL_none fun j hj e => by
    rw [h.key j hj] at e
    have := ky_inj (j + 1) (by have := h.len; omega) (n + 1) (by omega) e
    have := h.len
    omega
theorem Rows18.more_no {L : List Md} {n : Nat} {C : List Int} (h : Rows18 L n C) (hn : n < 33) : keyL L moreK = none :=
  keyL_none fun j hj => by rw [h.key j hj]; exact ky_more (j + 1) (by have := h.len; omega)
theorem Rows18.more_no' {L : List Md} {n : Nat} {C : List Int} (h : Rows18 L n C) (hn : n < 33) (k : Nat) : keyL (L.eraseIdx k) moreK = none :=
  keyL_none fun j hj => by
    obtain ⟨i, hi, e⟩ := List.getElem_of_mem ((List.eraseIdx_sublist L k).subset (List.getElem_mem hj))
    rw [← e, h.key i hi]
    exact ky_more (i + 1) (by have := h.len; omega)
theorem Rows18.gone {L : List Md} {n : Nat} {C : List Int} (h : Rows18 L n C) (k : Nat) (m : Md) (hm : m.id ≠ (k : Int) + 1) : ofL (L.eraseIdx k ++ [m]) ((k : Int) + 1) = none :=
  ofL_none fun j hj => by
    rw [List.getElem_append]
    split
    · rename_i h1
      rw [List.getElem_eraseIdx]
      split
      · rw [h.id]; omega
      · rw [h.id]; omega
    · simpa using hm
theorem Rows18.other {L : List Md} {n : Nat} {C : List Int} (h : Rows18 L n C) (k j : Nat) (hj : j < L.length) (hne : j ≠ k) : L[j].id ≠ (k : Int) + 1 := by
  rw [h.id j hj]; omega
theorem Rows18.add {L : List Md} {n : Nat} (h : Rows18 L n []) (p : Nat) : Rows18 (L ++ [⟨(n : Int) + 1, kyB (n + 1), 0, 0, -1, false, p⟩]) (n + 1) [] := by
  have hl := h.len
  refine ⟨by rw [List.length_append, hl]; rfl, fun j hj => ?_, fun j hj => ?_, fun j hj => ?_⟩
  all_goals
    rw [List.getElem_append]
    split
  · exact h.id j _
  · simp at hj; rename_i e; obtain rfl : j = n := by omega
    simp [hl]
  · exact h.key j _
  · simp at hj; rename_i e; obtain rfl : j = n := by omega
    simp [hl]
  · exact h.att j _
  · simp
theorem Rows18.set {L : List Md} {n : Nat} {C : List Int} (h : Rows18 L n C) (k : Nat) (hk : k < L.length) (id : Int) (hid : (k : Int) + 1 = id) : Rows18 (L.set k { L[k] with att := true }) n (C ++ [id]) := by
  refine ⟨by rw [List.length_set]; exact h.len, fun j hj => ?_, fun j hj => ?_, fun j hj => ?_⟩
  all_goals
    rw [List.length_set] at hj
    rw [List.getElem_set]
    split
  · rename_i e; subst e; exact h.id k hk
  · exact h.id j hj
  · rename_i e; subst e; exact h.key k hk
  · exact h.key j hj
  · rename_i e; subst e; simp [hid]
  · rename_i e
    rw [h.att j hj, List.mem_append, List.mem_singleton]
    constructor
    · exact .inl
    · rintro (h1 | h1)
      · exact h1
      · omega

/-- The table stays where only what is none of its is turned. -/
theorem TabAt.grownFar {u u' : World} {bs B : Nat} {last : Int} {L : List Md} {att : List Int} {sv av : Value} {r : Option Nat} (h : TabAt u bs B last L att sv av) (hg : u.grownBy u' r) (hr : ∀ g, r = some g → Far g B L sv av) : TabAt u' bs B last L att sv av := by
  have hk : ∀ k, k < u.heap.size → ¬ Far k B L sv av → u'.heap[k]? = u.heap[k]? := fun k k1 k2 => hg.block k k1 (fun e => k2 (hr k e.symm))
  refine ⟨h.le, (hk B h.lt (fun f => f.b rfl)).trans h.tab, h.mods.of_block hg.size (fun k e => hk k (h.mods.lt k e).2 (fun f => f.s e.symm)), h.atts.of_block hg.size (fun k e => hk k (h.atts.lt k e).2 (fun f => f.a e.symm)), fun m hm => ?_, h.apart, h.sB, h.aB, h.sa, h.most⟩
  obtain ⟨a, b, c, d, e⟩ := h.ent m hm
  exact ⟨a, b, c, d, (hk _ (Array.getElem?_eq_some_iff.1 e).1 (fun f => f.m m hm rfl)).trans e⟩

/-- The list of those that came, beside the table. -/
structure Came (wr : World) (bs B : Nat) (L : List Md) (sv av : Value) (cv : Value) (D : List Int) : Prop where
  own : OwnL wr bs 3 cv (D.map (Value.int .i64))
  far : ∀ g, cv.ownBlock = some g → Far g B L sv av
theorem Came.aside {u w' : World} {bs B : Nat} {L L' : List Md} {sv av sv' av' cv : Value} {D : List Int} (h : Came u bs B L sv av cv D) (ha : Aside' u w' B L L' sv av sv' av') (hs : u.heap.size ≤ w'.heap.size) : Came w' bs B L' sv' av' cv D :=
  ⟨h.own.of_block hs fun k e => (ha k (h.own.lt k e).2 (h.far k e)).1, fun g e => (ha g (h.own.lt g e).2 (h.far g e)).2⟩
theorem Far.newer {u : World} {bs B : Nat} {last : Int} {L : List Md} {att : List Int} {sv av : Value} (h : TabAt u bs B last L att sv av) {g : Nat} (hg : u.heap.size ≤ g) : Far g B L sv av :=
  ⟨by have := h.lt; omega, fun m hm => by have := (Array.getElem?_eq_some_iff.1 (h.ent m hm).2.2.2.2).1; omega, fun e => by have := (h.mods.lt g e.symm).2; omega, fun e => by have := (h.atts.lt g e.symm).2; omega⟩

theorem ownB_len (A : Option Addr) (n c n' c' : Nat) : (Value.slice A n c).ownBlock = (Value.slice A n' c').ownBlock := by cases A <;> rfl
theorem Came.append {u w5 : World} {bs B : Nat} {last : Int} {L : List Md} {att : List Int} {sv av cv cv' : Value} {C : List Int} (ht : TabAt u bs B last L att sv av) (h : Came u bs B L sv av cv C) (one : Obj) (x : Int)
    (hg : (u.alloc one).grownBy w5 cv.ownBlock) (hown : OwnL w5 bs 3 cv' (C.map (Value.int .i64) ++ [.int .i64 x])) (hat : cv'.ownBlock = cv.ownBlock ∨ cv'.ownBlock = some (u.heap.size + 1)) :
    TabAt w5 bs B last L att sv av ∧ Came w5 bs B L sv av cv' (C ++ [x]) ∧ Below bs u w5 := by
  have hb1 := (Below.refl u.heap.size u).alloc (Nat.le_refl _) one
  have hbs : bs ≤ u.heap.size := by have := ht.le; have := ht.lt; omega
  refine ⟨(ht.below hb1).grownFar hg (fun g e => h.far g e), ⟨?_, fun g e => ?_⟩, ?_⟩
  · rw [List.map_append]; exact hown
  · rcases hat with e2 | e2
    · exact h.far g (by rw [← e2, e])
    · rw [e2] at e; injection e with e
      exact Far.newer ht (by omega)
  · exact (hb1.mono hbs).trans (Below.of_grown hg (fun k e => (h.own.lt k e).1) (by simp; omega))

/-- Set on again: nothing is done. -/
theorem att_again (u : World) (bs B : Nat) (last : Int) (L : List Md) (att : List Int) (sv av : Value) (id : Int) (k : Nat) (hk : k < L.length) (h : TabAt u bs B last L att sv av) (hm : ofL L id = some L[k]) (hon : L[k].att = true) :
    Calls Try.prog 16 #[.pointer (some ⟨B, 0, none⟩), .int .i64 id, .bool true] u fun e w' => e = .returned (.bool true) ∧ u = w' := by
  have HOF := Lib.hid (of_any u bs B last L att sv av id h)
  rw [ofV_some hm] at HOF
  have hg := h.block hm
  have c5 : u.cell? ⟨L[k].at', 5, none⟩ = some (.bool true) := by rw [cell_of_row _ _ _ _ _ _ hg, ← hon]; rfl
  clear h hm hg hon
  generalize L[k].at' = E at *
  go_enter Try.func16, Try.ntmps16
  go_wp2_with (go_fit HOF.out; rintro e w1 ⟨rfl, rfl⟩)
  go_ret
  exact ⟨rfl, rfl⟩

/-- Is x among the first q? -/
def memK (C : List Int) (x : Int) (q : Nat) : Bool := (C.take q).any (· == x)
theorem memK_zero (C : List Int) (x : Int) : memK C x 0 = false := by simp [memK]
theorem memK_succ (C : List Int) (x : Int) (q : Nat) (hq : q < C.length) : memK C x (q + 1) = (memK C x q || (C[q] == x)) := by
  unfold memK
  rw [List.take_succ_eq_append_getElem hq, List.any_append]
  simp
theorem memK_all (C : List Int) (x : Int) : memK C x C.length = true ↔ x ∈ C := by
  unfold memK
  rw [List.take_length, List.any_eq_true]
  constructor
  · rintro ⟨y, h1, h2⟩; rw [beq_iff_eq] at h2; subst h2; exact h1
  · intro h; exact ⟨x, h, by simp⟩
theorem without_snoc (C : List Int) (x y : Int) : without (C ++ [y]) x = if y = x then without C x else without C x ++ [y] := by
  unfold without
  rw [List.filter_append]
  by_cases h : y = x
  · rw [if_pos h, List.filter_cons, if_neg (by simpa using h)]; simp
  · rw [if_neg h, List.filter_cons, if_pos (by simpa using h)]; rfl
theorem without_le (C : List Int) (x : Int) : (without C x).length ≤ C.length := List.length_filter_le _ _
end Go.Proofs.Ytclbbekdkljepaa
