/- Slices of the call's own whose elements have several cells each. · package hdr: sects. · package hdr: sectsOk. · package hdr: Parse. · Maps from integers to pointers at whole blocks. · What a call leaves as it was: the blocks of a set. Maps of pointers at the walk's operations. · Slices of the call's own whose elements are one cell each, as lists of values. · Regions that draw their order, where one late operation (number k) stores over what an early one loads: what is held of the world may fall with k. · A whole struct stored over a block, as a step of a region; rows read. -/
import Derived.Test.YtplgdpjbkdagfaaGreatMgA
import Derived.Test.YtplgdpjbkdagfaaGreatMgB
import Derived.OwnWalk
import Derived.Test.YtplgdpjbkdagfaaGreatRows
import Derived.WalkKit
import Derived.ProofKit
import Derived.OpenShut
import Derived.Below
import Derived.Lib.Hide
import Derived.Outline
import Derived.IntWalk
import Derived.Handy
import Derived.Maps.OwnOps
import Derived.Maps.OwnSet
import Derived.Maps.Views
import Derived.Maps.RangeWalk
import Derived.Maps.Keyed
import Derived.Maps.AppendAt
import Derived.Laws.Tables
import Derived.Deep.RegionHeld3
import Derived.Laws.CopyOwn
namespace Go.Proofs.YtplgdpjbkdagfaaGreat
set_option maxRecDepth 100000
open Go.ChangeShapes Go.WideShapes Go.ChangeAt Go.RowKit
set_option linter.unusedVariables false
set_option linter.unusedSimpArgs false

section
variable {α : Type} {C : α → List Value} {sz : Nat}

theorem flatC_len (hC : ∀ x, (C x).length = sz) : ∀ (l : List α), (l.flatMap C).length = l.length * sz
  | [] => by simp
  | x :: l => by rw [List.flatMap_cons, List.length_append, flatC_len hC l, hC, List.length_cons, Nat.add_mul]; omega

theorem flatC_get (hC : ∀ x, (C x).length = sz) : ∀ (l : List α) (i j : Nat) (hi : i < l.length), j < sz → (l.flatMap C)[i * sz + j]? = (C l[i])[j]?
  | [], i, j, hi, _ => by simp at hi
  | x :: l, 0, j, _, hj => by
    rw [List.flatMap_cons, List.getElem?_append_left (by rw [hC]; omega)]
    simp
  | x :: l, i + 1, j, hi, hj => by
    rw [List.flatMap_cons, List.getElem?_append_right (by rw [hC, Nat.add_mul]; omega), hC, show (i + 1) * sz + j - sz = i * sz + j by rw [Nat.add_mul]; omega]
    rw [flatC_get hC l i j (by simpa using hi) hj]
    rfl

/-- v is a slice of the call's own, from block base on, whose elements are l. -/
def OwnT (C : α → List Value) (sz : Nat) (w : World) (base : Nat) (e : TypeId) (v : Value) (l : List α) : Prop := w.ownsRow base e sz v l.length (l.flatMap C)

/-- The elements l lie in a slice at A. -/
def SlT (C : α → List Value) (sz : Nat) (w : World) (A : Option Addr) (l : List α) : Prop :=
  l = [] ∨ ∃ b off, A = some ⟨b, off, none⟩ ∧ b < w.heap.size ∧ ∀ (i : Nat) (hi : i < l.length) (j : Nat) (v : Value), (C l[i])[j]? = some v → w.cell? ⟨b, off + (i * sz + j), none⟩ = some v

theorem OwnT.nil (w : World) (base : Nat) (e : TypeId) : OwnT C sz w base e (.slice none 0 0) [] := World.ownsRow_nil w base e sz
theorem OwnT.made (w : World) (base : Nat) (hb : base ≤ w.heap.size) (e : TypeId) : OwnT C sz (w.alloc (.cells #[] e)) base e (.slice (some ⟨w.heap.size, 0, none⟩) 0 0) [] :=
  ⟨by simp, .inr ⟨w.heap.size, 0, #[], rfl, hb, heap_alloc_new w _, Nat.le_refl _, by omega, by simp, by simp⟩⟩

theorem OwnT.form {w : World} {base : Nat} {e : TypeId} {v : Value} {l : List α} (h : OwnT C sz w base e v l) :
    ∃ A cap, v = .slice A l.length cap ∧ l.length ≤ cap ∧ cap ≤ maxLen ∧ (l = [] ∨ ∃ g, A = some ⟨g, 0, none⟩ ∧ base ≤ g ∧ g < w.heap.size) := by
  rcases h.2 with ⟨h1, h2⟩ | ⟨g, cap, cur, h1, hb, hh, h2, h3, _⟩
  · exact ⟨none, 0, by rw [h1, h2], by omega, by omega, .inl (List.eq_nil_of_length_eq_zero h2)⟩
  · exact ⟨_, cap, h1, h2, h3, .inr ⟨g, rfl, hb, by
      rcases Nat.lt_or_ge g w.heap.size with hlt | hge
      · exact hlt
      · rw [Array.getElem?_eq_none hge] at hh; cases hh⟩⟩

theorem OwnT.cell {w : World} {base : Nat} {e : TypeId} {l : List α} {g cap : Nat} (hC : ∀ x, (C x).length = sz) (h : OwnT C sz w base e (.slice (some ⟨g, 0, none⟩) l.length cap) l) (i : Nat) (hi : i < l.length) (j : Nat) (v : Value) (hv : (C l[i])[j]? = some v) :
    w.cell? ⟨g, i * sz + j, none⟩ = some v := by
  have hj : j < sz := by rw [← hC l[i]]; exact (List.getElem?_eq_some_iff.1 hv).1
  rcases h.2 with ⟨h1, h2⟩ | ⟨g', cap', cur, h1, hb, hh, h2, h3, h4, h5⟩
  · omega
  · injection h1 with h1 _ _
    injection h1 with h1
    injection h1 with h1
    subst h1
    rw [cell_of_row w g (i * sz + j) cur e (0, 0) hh]
    have h6 := flatC_get hC l i j hi hj
    rw [← h5, hv] at h6
    have h7 : i * sz + j < l.length * sz := by
      have : (i + 1) * sz ≤ l.length * sz := Nat.mul_le_mul_right _ hi
      rw [Nat.add_mul] at this
      omega
    rw [List.getElem?_take, if_pos h7] at h6
    simpa using h6

theorem OwnT.sl {w : World} {base : Nat} {e : TypeId} {l : List α} {A : Option Addr} {cap : Nat} (hC : ∀ x, (C x).length = sz) (h : OwnT C sz w base e (.slice A l.length cap) l) : SlT C sz w A l := by
  obtain ⟨A', cap', hv, _, _, hl | ⟨g, hA, hb, hlt⟩⟩ := h.form
  · exact .inl hl
  · injection hv with hv _ _
    subst hv hA
    exact .inr ⟨g, 0, rfl, hlt, fun i hi j v hv => by rw [Nat.zero_add]; exact h.cell hC i hi j v hv⟩

theorem SlT.keep {w w' : World} {A : Option Addr} {l : List α} (h : SlT C sz w A l) (hs : w.heap.size ≤ w'.heap.size) (hb : ∀ b, A.map (·.block) = some b → w'.heap[b]? = w.heap[b]?) : SlT C sz w' A l := by
  rcases h with h | ⟨b, off, rfl, hlt, hc⟩
  · exact .inl h
  · exact .inr ⟨b, off, rfl, by omega, fun i hi j v hv => (World.cell?_of_block (a := ⟨b, _, none⟩) (hb b rfl)).trans (hc i hi j v hv)⟩
theorem SlT.below {w w' : World} {A : Option Addr} {l : List α} (h : SlT C sz w A l) (hb : Below w.heap.size w w') : SlT C sz w' A l := by
  rcases h with h | ⟨b, off, rfl, hlt, hc⟩
  · exact .inl h
  · exact .inr ⟨b, off, rfl, Nat.lt_of_lt_of_le hlt hb.size, fun i hi j v hv => (hb.cell (p := ⟨b, _, none⟩) hlt).trans (hc i hi j v hv)⟩

theorem OwnT.of_block {w w' : World} {base : Nat} {e : TypeId} {v : Value} {l : List α} (h : OwnT C sz w base e v l) (hb : ∀ k, v.ownBlock = some k → w'.heap[k]? = w.heap[k]?) : OwnT C sz w' base e v l := by
  refine ⟨h.1, ?_⟩
  rcases h.2 with h2 | ⟨g, cap, cur, hv, hg, hh, r⟩
  · exact Or.inl h2
  · exact Or.inr ⟨g, cap, cur, hv, hg, by rw [hb g (by rw [hv]; rfl)]; exact hh, r⟩
theorem OwnT.lt {w : World} {base : Nat} {e : TypeId} {v : Value} {l : List α} (h : OwnT C sz w base e v l) : ∀ k, v.ownBlock = some k → base ≤ k ∧ k < w.heap.size := World.ownsRow.lt h
theorem OwnT.below {w w' : World} {base : Nat} {e : TypeId} {v : Value} {l : List α} (h : OwnT C sz w base e v l) (hb : Below w.heap.size w w') : OwnT C sz w' base e v l :=
  h.of_block fun k hk => hb.block k (h.lt k hk).2
theorem OwnT.grown {w w' : World} {base : Nat} {e : TypeId} {v : Value} {l : List α} {row : Option Nat} (h : OwnT C sz w base e v l) (hb : w.grownBy w' row) (hne : ∀ k, v.ownBlock = some k → row ≠ some k) : OwnT C sz w' base e v l :=
  h.of_block fun k hk => hb.block k (h.lt k hk).2 (fun e => hne k hk e.symm)
theorem OwnT.alloc {w : World} {base : Nat} {e : TypeId} {v : Value} {l : List α} (h : OwnT C sz w base e v l) (o : Obj) : OwnT C sz (w.alloc o) base e v l := h.below ((Below.refl _ _).alloc (Nat.le_refl _) o)
theorem OwnT.drew {w : World} {base : Nat} {e : TypeId} {v : Value} {l : List α} (h : OwnT C sz w base e v l) : OwnT C sz w.drew base e v l := h
theorem OwnT.grew {w w' : World} {B base : Nat} {e : TypeId} {v : Value} {l : List α} {a : World} (h : OwnT C sz w base e v l) (hb : Below B a w) (hB : B ≤ base) (hs : B ≤ w.heap.size) (hg : w.grownBy w' v.ownBlock) : Below B a w' :=
  hb.trans ⟨hg.os, hg.tape, hg.output, hg.size, fun k hk => hg.block k (by omega) (fun e => by have := (h.lt k e.symm).1; omega)⟩

/-- append of one element out of a block that is known. -/
theorem wpList_appT {P : Program} {w : World} {ops : Array Oper} {rest : List Oper} {o : Oper} {a : Act} {Q : Exit → Act → World → Prop} (hgd : o.guard = none) (s x : Operand) (t : TypeId)
    (ho : o.op = .call { callee := .builtin .append, args := #[s, x], argTypes := #[t, t] })
    (base : Nat) (e : TypeId) (z : Value) (bytes : Nat) (ht : P.underlying t = some (.slice e)) (hinfo : (P.info? e).map (fun i => (i.zero, i.size, i.bytes)) = some (some z, sz, bytes)) (hzs : z.cells.size = sz) (hsz : 0 < sz) (hC : ∀ x, (C x).length = sz) (hC1 : ∀ x, ∀ u ∈ C x, u.oneCell' = true)
    (v : Value) (l : List α) (hv : a.eval s = v) (hown : OwnT C sz w base e v l) (g : Nat) (c : Nat) (hX : a.eval x = .slice (some ⟨g, 0, none⟩) 1 c) (y : α) (hy : ∀ j u, (C y)[j]? = some u → w.cell? ⟨g, j, none⟩ = some u)
    (h63 : l.length + 1 ≤ maxLen) (hbytes : (l.length + 1) * bytes ≤ 140737488355328) (hbase : base ≤ w.heap.size)
    (hK : ∀ g' cap w', OwnT C sz w' base e (.slice (some ⟨g', 0, none⟩) (l.length + 1) cap) (l ++ [y]) → w.grownBy w' v.ownBlock → (v.ownBlock = some g' ∨ g' = w.heap.size) → wpList P ops Q rest (a.put o.dst (.slice (some ⟨g', 0, none⟩) (l.length + 1) cap)) w') :
    wpList P ops Q (o :: rest) a w := by
  obtain ⟨i0, hi, hz0, hz1, hz2⟩ := info_parts hinfo
  refine wpList_append_lies w hgd s x t ho base e i0 z sz bytes ht hi hz0 hz1 hz2 hzs hsz v l.length (l.flatMap C) hv hown ⟨g, 0, none⟩ 1 c (C y) hX (by rw [hC, Nat.one_mul]) (fun j u hu => ?_) (hC1 y) (by omega) h63 hbytes hbase _ rfl ?_
  · have hadd : (⟨g, 0, none⟩ : Addr).add j = ⟨g, j, none⟩ := by unfold Addr.add; split <;> simp_all
    rw [hadd]
    exact hy j u hu
  · intro g' cap w' hown' hg hat _
    refine hK g' cap w' ?_ hg hat
    unfold OwnT
    rw [List.length_append, List.flatMap_append]
    simpa using hown'
end
end Go.Proofs.YtplgdpjbkdagfaaGreat
namespace Go.Proofs.YtplgdpjbkdagfaaGreat
set_option maxRecDepth 100000
open Go.ChangeShapes Go.WideShapes Go.ChangeAt Go.RowKit
set_option linter.unusedVariables false
set_option linter.unusedSimpArgs false

/-- A section. -/
structure SectN where
  name : ByteArray
  vsize : Int
  rva : Int
  raw : Int
  spot : Int
  chars : Int

def SectN.cells (s : SectN) : List Value := [.string s.name, .int .i64 s.vsize, .int .i64 s.rva, .int .i64 s.raw, .int .i64 s.spot, .int .i64 s.chars]
theorem SectN.cells_len (s : SectN) : s.cells.length = 6 := rfl

/-- A section's cells, as they are written down. -/
def SectN.arr (s : SectN) : Array Value := #[.string s.name, .int .i64 s.vsize, .int .i64 s.rva, .int .i64 s.raw, .int .i64 s.spot, .int .i64 s.chars]
theorem SectN.arr_list (s : SectN) : s.arr.toList = s.cells := rfl
theorem SectN.arr_one (s : SectN) : s.arr.all (·.oneCell') = true := by simp [SectN.arr, Value.oneCell']
theorem built_sect (s : SectN) : Tryz.prog.built 72 [(0, .string s.name), (1, .int .i64 s.vsize), (2, .int .i64 s.rva), (3, .int .i64 s.raw), (4, .int .i64 s.spot), (5, .int .i64 s.chars)] = some s.arr := by
  kernel_rfl

/-- The section whose row begins at o. -/
def sectS (f : Nat → Int) (o : Nat) : SectN := ⟨nameS f o, rdF f (o + 8) 4, rdF f (o + 12) 4, rdF f (o + 16) 4, rdF f (o + 20) 4, rdF f (o + 36) 4⟩

def sectsS (f : Nat → Int) (o k : Nat) : List SectN := (List.range k).map fun j => sectS f (o + 40 * j)

/-- The world while sections are read into the row g of n: i of them are there. -/
structure SectsAt (w u : World) (g n : Nat) (s : Nat → SectN) (i : Nat) : Prop where
  bel : Below w.heap.size w u
  lt : g < u.heap.size
  le : w.heap.size ≤ g
  got : ∀ j, j < i → u.rangeAt g (j * 6) (s j).cells
  there : ∀ j, j < n → u.there g (j * 6) 6

theorem below_setCells {B : Nat} {a : World} {g : Nat} (hg : B ≤ g) : ∀ (vs : List Value) (o : Nat) (w : World), Below B a w → Below B a (w.setCells g o vs)
  | [], _, _, h => h
  | v :: r, o, w, h => below_setCells hg r (o + 1) _ (h.setCell hg v)

theorem size_setCells (g : Nat) : ∀ (vs : List Value) (o : Nat) (w : World), (w.setCells g o vs).heap.size = w.heap.size
  | [], _, _ => rfl
  | v :: r, o, w => by rw [World.setCells, size_setCells g r]; simp

theorem SectsAt.next {w u : World} {g n i : Nat} {s : Nat → SectN} (x : SectsAt w u g n s i) (hi : i < n) (l : List Value) (hl : l = (s i).cells) : SectsAt w (u.setCells g (i * 6) l) g n s (i + 1) := by
  subst hl
  refine ⟨below_setCells x.le _ _ _ x.bel, by rw [size_setCells]; exact x.lt, x.le, fun j hj => ?_, fun j hj => World.there_setCells (x.there j hj) _ _ _⟩
  by_cases e : j = i
  · subst e
    exact World.rangeAt_setCells_same _ _ _ _ (x.there j hi)
  · exact World.rangeAt_setCells_apart (x.got j (by omega)) _ _ _ (.inr (.inl (by rw [SectN.cells_len]; omega)))

theorem SectsAt.all {w u : World} {g n : Nat} {s : Nat → SectN} (x : SectsAt w u g n s n) : SlT SectN.cells 6 u (some ⟨g, 0, none⟩) ((List.range n).map s) :=
  .inr ⟨g, 0, rfl, x.lt, fun i hi j v hv => by
    rw [Nat.zero_add]
    simp only [List.length_map, List.length_range] at hi
    simp only [List.getElem_map, List.getElem_range] at hv
    exact x.got i hi j v hv⟩

/-- 'make([]T, n)', elements of whatever size. -/
theorem wpList_make_rows {P : Program} (w : World) {ops : Array Oper} {rest : List Oper} {o : Oper} {a : Act} {Q : Exit → Act → World → Prop}
    (hg : o.guard = none) (l c : Operand) (t : TypeId) (hop : o.op = Op.makeSlice t l c)
    (e : TypeId) (z : Value) (size bytes : Nat) (ht : P.underlying t = some (.slice e)) (hinfo : (P.info? e).map (fun i => (i.zero, i.size, i.bytes)) = some (some z, size, bytes))
    (kl kc : IntKind) (n : Nat) (hl : a.eval l = .int kl (n : Int)) (hc : a.eval c = .int kc (n : Int)) (hbytes : bytes * n ≤ 281474976710656) (h63 : n ≤ 9223372036854775807)
    (hK : wpList P ops Q rest (a.put o.dst (.slice (some ⟨w.heap.size, 0, none⟩) n n)) (w.alloc (.cells (madeCells z.cells (n * size)) e))) :
    wpList P ops Q (o :: rest) a w := by
  obtain ⟨i, hi, hzz⟩ := Option.map_eq_some_iff.1 hinfo
  simp only [Prod.mk.injEq] at hzz
  obtain ⟨hz, hs, hb⟩ := hzz
  refine wpList_plain hg fun K hK' => ?_
  have hb' : (i.bytes : Int) * (n : Int) ≤ 281474976710656 := by
    have h : ((i.bytes * n : Nat) : Int) ≤ 281474976710656 := by rw [hb]; omega
    rwa [Int.natCast_mul] at h
  have hrun := run_make (P := P) w t e i z ht hi hz kl kc n n (by omega) (Int.le_refl _) hb' (by omega)
  simp only [Int.toNat_natCast, hs] at hrun
  unfold Oper.wp
  simp [execOp, hop, hl, hc, hrun, Result.andThen]
  exact hK' _ _ hK

theorem SectsAt.start (w : World) (zc : Array Value) (e : TypeId) (n : Nat) (s : Nat → SectN) : SectsAt w (w.alloc (.cells (madeCells zc (n * 6)) e)) w.heap.size n s 0 :=
  ⟨(Below.refl _ w).alloc (Nat.le_refl _) _, by simp, Nat.le_refl _, fun j hj => by omega, fun j hj k hk => by
    have hh := heap_alloc_new w (.cells (madeCells zc (n * 6)) e)
    refine ⟨?_, frozen_of_row _ _ _ _ _ hh⟩
    rw [cell_of_row _ _ _ _ _ _ hh, Array.getElem?_eq_getElem (by rw [size_madeCells]; omega)]
    rfl⟩

set_option maxRecDepth 100000 in
set_option maxHeartbeats 400000 in
theorem sects_any (b off n cap : Nat) (f : Nat → Int) (o k : Nat) (w : World) (h : RowB w b off n cap f) (hk : 1 ≤ k) (hk2 : k ≤ 16) (ho : o + 40 * k ≤ n) (ho2 : o ≤ 8589934592) :
    Calls Tryz.prog 67 #[.slice (some ⟨b, off, none⟩) n cap, .int .i64 o, .int .i64 k] w fun e w' => e = .returned (.slice (some ⟨w.heap.size, 0, none⟩) k k) ∧ SlT SectN.cells 6 w' (some ⟨w.heap.size, 0, none⟩) (sectsS f o k) ∧ Below w.heap.size w w' := by
  have HR := Lib.hid h
  have hcn := h.len
  have hcm := h.most
  clear h
  go_enter Tryz.func67, Tryz.ntmps67
  go_wp2_with (at_make; refine wpList_make_rows _ rfl (.tmp 9) (.tmp 9) 39 rfl 72 (.agg #[.string ⟨#[]⟩, .int .i64 0, .int .i64 0, .int .i64 0, .int .i64 0, .int .i64 0]) 6 56 (by kernel_rfl) (by kernel_rfl) .i64 .i64 k (by simp [Act.eval, Act.put]) (by simp [Act.eval, Act.put]) (by omega) (by omega) ?_)
  go_loopw [1, 8, 13] (fun o1 o8 o13 wr => ∃ i : Nat, i ≤ k ∧ o13 = .int .i64 i ∧ o1 = .int .i64 ((o + 40 * i : Nat) : Int) ∧ SectsAt w wr w.heap.size k (fun j => sectS f (o + 40 * j)) i) (fun _ _ o13 _ => k - (intOf o13).toNat)
  case atStart => exact ⟨0, by omega, rfl, by simp, SectsAt.start w _ _ k _⟩
  case round =>
    obtain ⟨i, hi, rfl, rfl, ha⟩ := hrel
    have HA := Lib.hid ha
    clear ha
    by_cases hlt : i < k
    · have hlt' : (i : Int) < k := by omega
      have hb := HR.out.below HA.out.bel
      have hn := name_any b off n cap f (o + 40 * i) (cap - (o + 40 * i)) _ hb (by omega) (by omega)
      have h1 := hu32 b off n cap f (o + 40 * i + 8) _ hb (by omega)
      have h2 := hu32 b off n cap f (o + 40 * i + 12) _ hb (by omega)
      have h3 := hu32 b off n cap f (o + 40 * i + 16) _ hb (by omega)
      have h4 := hu32 b off n cap f (o + 40 * i + 20) _ hb (by omega)
      have h5 := hu32 b off n cap f (o + 40 * i + 36) _ hb (by omega)
      have hth := HA.out.there i hlt
      generalize hP : o + 40 * i = p at *
      rw [show ((p + 8 : Nat) : Int) = (p : Int) + 8 by omega] at h1
      rw [show ((p + 12 : Nat) : Int) = (p : Int) + 12 by omega] at h2
      rw [show ((p + 16 : Nat) : Int) = (p : Int) + 16 by omega] at h3
      rw [show ((p + 20 : Nat) : Int) = (p : Int) + 20 by omega] at h4
      rw [show ((p + 36 : Nat) : Int) = (p : Int) + 36 by omega] at h5
      have HN := Lib.hid hn
      have H1 := Lib.hid h1
      have H2 := Lib.hid h2
      have H3 := Lib.hid h3
      have H4 := Lib.hid h4
      have H5 := Lib.hid h5
      have hp1 : p + 40 ≤ n := by omega
      clear hn h1 h2 h3 h4 h5 hb
      go_wp2_with (first | (go_fit HN.out; rintro e w' ⟨rfl, rfl⟩) | (go_fit H1.out; rintro e w' ⟨rfl, rfl⟩) | (go_fit H2.out; rintro e w' ⟨rfl, rfl⟩) | (go_fit H3.out; rintro e w' ⟨rfl, rfl⟩) | (go_fit H4.out; rintro e w' ⟨rfl, rfl⟩))
      refine H5.out.mono ?_
      rintro e w' ⟨rfl, rfl⟩
      rename_i hK
      refine hK _ _ ?_
      refine wpList_build_to rfl 72 _ rfl [(0, .string (sectS f p).name), (1, .int .i64 (sectS f p).vsize), (2, .int .i64 (sectS f p).rva), (3, .int .i64 (sectS f p).raw), (4, .int .i64 (sectS f p).spot), (5, .int .i64 (sectS f p).chars)] (sectS f p).arr ?hv ?hb ?_
      case hv => simp [go_sem, sectS]
      case hb => exact built_sect _
      have hone := (sectS f p).arr_one
      have hsz : (sectS f p).arr.size = 6 := rfl
      have hcl := Lib.hid ((sectS f p).arr_list)
      generalize (sectS f p).arr = C1 at hone hsz hcl ⊢
      go_wp2_with (refine wpList_store_mid rfl 72 _ _ rfl w.heap.size (i * 6) C1 ?hx ?hy (by rw [hsz]; exact hth) (by rw [hsz]; rfl) hone ?_)
      case hx => rfl
      case hy => rfl
      go_roundw
      case rel =>
        refine ⟨i + 1, by omega, by go_num, ?_, HA.out.next hlt _ (by rw [hP]; exact hcl.out)⟩
        rw [show o + 40 * (i + 1) = p + 40 by omega]
        go_num
      case measure => simp [intOf]; omega
    · obtain rfl : i = k := by omega
      go_wp2_with fail
      go_ret
      exact ⟨rfl, HA.out.all, HA.out.bel⟩
end Go.Proofs.YtplgdpjbkdagfaaGreat
namespace Go.Proofs.YtplgdpjbkdagfaaGreat
set_option maxRecDepth 100000
open Go.ChangeShapes Go.WideShapes Go.ChangeAt Go.RowKit
set_option linter.unusedVariables false
set_option linter.unusedSimpArgs false

/-- Whether a section may stand at next. -/
def stepP (size len next : Int) (s : SectN) : Prop :=
  s.rva = next ∧ s.vsize ≠ 0 ∧ s.vsize ≤ size ∧ s.raw % 512 = 0 ∧ s.raw ≤ roundS s.vsize 4096 ∧ ¬ (0 < s.raw ∧ len < s.spot + s.raw)

/-- Whether sections stand one behind the other from next on, up to size. -/
def chainP (size len : Int) : Int → List SectN → Prop
  | next, [] => next = size
  | next, s :: l => stepP size len next s ∧ chainP size len (next + roundS s.vsize 4096) l

structure SectBd (s : SectN) : Prop where
  v0 : 0 ≤ s.vsize
  v1 : s.vsize < 4294967296
  r0 : 0 ≤ s.rva
  r1 : s.rva < 4294967296
  w0 : 0 ≤ s.raw
  w1 : s.raw < 4294967296
  s0 : 0 ≤ s.spot
  s1 : s.spot < 4294967296
  c0 : 0 ≤ s.chars
  c1 : s.chars < 4294967296

theorem sectS_bd {f : Nat → Int} (h : Bytes255 f) (o : Nat) : SectBd (sectS f o) :=
  ⟨(rdF_bd f h 4 _).1, (rdF_bd f h 4 _).2, (rdF_bd f h 4 _).1, (rdF_bd f h 4 _).2, (rdF_bd f h 4 _).1, (rdF_bd f h 4 _).2, (rdF_bd f h 4 _).1, (rdF_bd f h 4 _).2, (rdF_bd f h 4 _).1, (rdF_bd f h 4 _).2⟩

theorem roundS_bd4 (n : Int) (h : n < 4294967296) : 0 ≤ roundS n 4096 ∧ roundS n 4096 ≤ 4294967296 := by
  unfold roundS
  split
  · omega
  · rw [show max (4096 : Int) 1 = 4096 by omega, show min n 1099511627776 = n by omega]
    omega

theorem SlT.at6 {w : World} {g : Nat} {l : List SectN} (h : SlT SectN.cells 6 w (some ⟨g, 0, none⟩) l) (i : Nat) (hi : i < l.length) :
    w.cell? ⟨g, i * 6, none⟩ = some (.string l[i].name) ∧ w.cell? ⟨g, i * 6 + 1, none⟩ = some (.int .i64 l[i].vsize) ∧ w.cell? ⟨g, i * 6 + 2, none⟩ = some (.int .i64 l[i].rva) ∧
    w.cell? ⟨g, i * 6 + 3, none⟩ = some (.int .i64 l[i].raw) ∧ w.cell? ⟨g, i * 6 + 4, none⟩ = some (.int .i64 l[i].spot) ∧ w.cell? ⟨g, i * 6 + 5, none⟩ = some (.int .i64 l[i].chars) := by
  rcases h with rfl | ⟨b, off, hb, hlt, hc⟩
  · simp at hi
  · injection hb with hb
    injection hb with h1 h2
    subst h1 h2
    have k := fun j v hv => hc i hi j v hv
    simp only [Nat.zero_add] at k
    exact ⟨k 0 _ rfl, k 1 _ rfl, k 2 _ rfl, k 3 _ rfl, k 4 _ rfl, k 5 _ rfl⟩

set_option maxRecDepth 100000 in
set_option maxHeartbeats 2000000 in
theorem chain_any (cs : Array Value) (h : HeadN) (g c : Nat) (l : List SectN) (n : Int) (bb : Bool) (w : World) (hv : HeadV cs h (.slice (some ⟨g, 0, none⟩) l.length c)) (hl : SlT SectN.cells 6 w (some ⟨g, 0, none⟩) l) (hg : g < w.heap.size)
    (hbd : ∀ s ∈ l, SectBd s) (hk : l.length ≤ 16) (h0 : 0 ≤ h.headers) (h1 : h.headers < 4294967296) (z0 : 0 ≤ h.size) (z1 : h.size < 4294967296) (n0 : 0 ≤ n) (n1 : n ≤ 9223372036854775807)
    (hb : bb = true ↔ chainP h.size n (roundS h.headers 4096) l) :
    Calls Tryz.prog 68 #[.agg cs, .int .i64 n] w fun e w' => e = .returned (.bool bb) ∧ Below w.heap.size w w' := by
  have HB0 := Lib.hid ((Below.refl w.heap.size w).alloc (Nat.le_refl _) (.cells cs 41))
  have HG0 := Lib.hid (heap_alloc_new w (.cells cs 41))
  have hr := roundS_bd4 h.headers h1
  have c4 := hv.c4
  have c5 := hv.c5
  have c38 := hv.c38
  have HV := Lib.hid hv
  have HL := Lib.hid hl
  have HB := Lib.hid hb
  clear hl hb hv
  generalize h.headers = y5 at *
  generalize h.size = y4 at *
  go_enter Tryz.func68, Tryz.ntmps68
  go_wp2_with (refine (round_any y5 4096 _ (by omega) (by omega) (by omega) (by omega)).mono ?_; rintro e w' ⟨rfl, rfl⟩)
  generalize roundS y5 4096 = N0 at *
  clear c5 c38
  generalize w.alloc (.cells cs 41) = w1 at HB0 HG0 ⊢
  go_loopw [5, 7, 8, 15] (fun o5 _ _ o15 wr => ∃ (i : Nat) (nx : Int), i ≤ l.length ∧ o15 = .int .i64 i ∧ o5 = .int .i64 nx ∧ 0 ≤ nx ∧ nx ≤ 4294967296 + i * 4294967296 ∧ (chainP y4 n N0 l ↔ chainP y4 n nx (l.drop i)) ∧ Below w.heap.size w wr ∧ wr.heap[w.heap.size]? = some (.cells cs 41 (0, 0))) (fun _ _ _ o15 _ => l.length - (intOf o15).toNat)
  case atStart => exact ⟨0, N0, by omega, rfl, rfl, by omega, by omega, by simp, HB0.out, HG0.out⟩
  case round =>
    obtain ⟨i, nx, hi, rfl, rfl, x0, x1, hch, hbel, hgg⟩ := hrel
    clear HB0 HG0
    have HCH := Lib.hid hch
    have HBE := Lib.hid hbel
    have HGG := Lib.hid hgg
    have HLT := Lib.hid (Array.getElem?_eq_some_iff.1 hgg).1
    have c4' : wr.cell? ⟨w.heap.size, 4, none⟩ = some (.int .i64 y4) := by rw [cell_of_row wr _ 4 _ _ _ hgg]; exact c4
    have c4a : ∀ o, (wr.alloc o).cell? ⟨w.heap.size, 4, none⟩ = some (.int .i64 y4) := fun o => by rw [World.cell?_alloc_lt _ _ _ HLT.out]; exact c4'
    clear hch hbel hgg
    by_cases hlt : i < l.length
    · have hlt' : (i : Int) < l.length := by omega
      obtain ⟨d0, d1, d2, d3, d4, d5⟩ := (HL.out.below HBE.out).at6 i hlt
      have hsb := hbd l[i] (List.getElem_mem hlt)
      have hdr : l.drop i = l[i] :: l.drop (i + 1) := List.drop_eq_getElem_cons hlt
      have HDR := Lib.hid hdr
      clear hdr
      generalize l[i] = s at *
      obtain ⟨nm, v, rva, raw, spot, ch⟩ := s
      simp only at d0 d1 d2 d3 d4 d5
      have hrb := roundS_bd4 v hsb.v1
      obtain ⟨v0, v1, r0, r1, w0, w1', s0, s1, ch0, ch1⟩ := hsb
      simp only at v0 v1 r0 r1 w0 w1' s0 s1 ch0 ch1
      have hX : bb = true ↔ stepP y4 n nx ⟨nm, v, rva, raw, spot, ch⟩ ∧ chainP y4 n (nx + roundS v 4096) (l.drop (i + 1)) := by rw [HB.out, HCH.out, HDR.out]; rfl
      have HR := Lib.hid (fun W => round_any v 4096 W (by omega) (by omega) (by omega) (by omega))
      have hcs : (rva != nx) = true ∧ bb = false ∨ (rva != nx) = false ∧ ((v == 0) = true ∧ bb = false ∨ (v == 0) = false ∧ (decide (y4 < v) = true ∧ bb = false ∨ decide (y4 < v) = false ∧ ((¬ raw % 512 = 0) ∧ bb = false ∨ raw % 512 = 0 ∧
          (roundS v 4096 < raw ∧ bb = false ∨ raw ≤ roundS v 4096 ∧ (0 < raw ∧ n < spot + raw ∧ bb = false ∨ 0 < raw ∧ spot + raw ≤ n ∧ (bb = true ↔ chainP y4 n (nx + roundS v 4096) (l.drop (i + 1))) ∨
          raw ≤ 0 ∧ (bb = true ↔ chainP y4 n (nx + roundS v 4096) (l.drop (i + 1)))))))) := by
        have hf : ∀ P : Prop, (P → False) → (bb = true ↔ P) → bb = false := fun P h1 h2 => by cases bb with
          | false => rfl
          | true => exact (h1 (h2.1 rfl)).elim
        unfold stepP at hX
        simp only at hX
        simp only [bne_iff_ne, ne_eq, bne_eq_false_iff_eq, beq_iff_eq, beq_eq_false_iff_ne, decide_eq_true_eq, decide_eq_false_iff_not]
        by_cases e1 : rva = nx
        · by_cases e2 : v = 0
          · exact .inr ⟨e1, .inl ⟨e2, hf _ (fun h => h.1.2.1 e2) hX⟩⟩
          · by_cases e3 : y4 < v
            · exact .inr ⟨e1, .inr ⟨e2, .inl ⟨e3, hf _ (fun h => by have := h.1.2.2.1; omega) hX⟩⟩⟩
            · by_cases e4 : raw % 512 = 0
              · by_cases e5 : roundS v 4096 < raw
                · exact .inr ⟨e1, .inr ⟨e2, .inr ⟨e3, .inr ⟨e4, .inl ⟨e5, hf _ (fun h => by have := h.1.2.2.2.2.1; omega) hX⟩⟩⟩⟩⟩
                · by_cases e6 : 0 < raw
                  · by_cases e7 : n < spot + raw
                    · exact .inr ⟨e1, .inr ⟨e2, .inr ⟨e3, .inr ⟨e4, .inr ⟨by omega, .inl ⟨e6, e7, hf _ (fun h => h.1.2.2.2.2.2 ⟨e6, e7⟩) hX⟩⟩⟩⟩⟩⟩
                    · exact .inr ⟨e1, .inr ⟨e2, .inr ⟨e3, .inr ⟨e4, .inr ⟨by omega, .inr (.inl ⟨e6, by omega, by rw [hX]; exact ⟨fun h => h.2, fun h => ⟨⟨e1, e2, by omega, e4, by omega, fun h => e7 h.2⟩, h⟩⟩⟩)⟩⟩⟩⟩⟩
                  · exact .inr ⟨e1, .inr ⟨e2, .inr ⟨e3, .inr ⟨e4, .inr ⟨by omega, .inr (.inr ⟨by omega, by rw [hX]; exact ⟨fun h => h.2, fun h => ⟨⟨e1, e2, by omega, e4, by omega, fun h => e6 h.1⟩, h⟩⟩⟩)⟩⟩⟩⟩⟩
              · exact .inr ⟨e1, .inr ⟨e2, .inr ⟨e3, .inl ⟨e4, hf _ (fun h => e4 h.1.2.2.2.1) hX⟩⟩⟩⟩
        · exact .inl ⟨e1, hf _ (fun h => e1 h.1.1) hX⟩
      have HBD := Lib.hid hbd
      clear hX hr h0 h1 hbd
      generalize roundS v 4096 = R at *
      rcases hcs with ⟨e1, rfl⟩ | ⟨e1, ⟨e2, rfl⟩ | ⟨e2, ⟨e3, rfl⟩ | ⟨e3, ⟨e4, rfl⟩ | ⟨e4, ⟨e5, rfl⟩ | ⟨e5, ⟨e6, e7, rfl⟩ | ⟨e6, e7, e8⟩ | ⟨e6, e8⟩⟩⟩⟩⟩⟩
      iterate 6
        · go_wp2_with (go_fit (HR.out _); rintro e w' ⟨rfl, rfl⟩)
          go_ret
          exact ⟨rfl, HBE.out.alloc HBE.out.size _⟩
      all_goals
        go_wp2_with (go_fit (HR.out _); rintro e w' ⟨rfl, rfl⟩)
        go_roundw
        case rel => exact ⟨i + 1, nx + R, by omega, by go_num, rfl, by omega, by omega, by rw [← HB.out, e8], HBE.out.alloc HBE.out.size _, by rw [heap_alloc_old _ _ HLT.out]; exact HGG.out⟩
        case measure => simp [intOf]; omega
    · obtain rfl : i = l.length := by omega
      have hbb : bb = decide (nx = y4) := by
        have h1 := HB.out
        rw [HCH.out, List.drop_length] at h1
        rw [Bool.eq_iff_iff, h1, decide_eq_true_eq]
        rfl
      subst hbb
      go_wp2_with fail
      go_ret
      refine ⟨congrArg (fun b => Ending.returned (.bool b)) ?_, HBE.out⟩
      rw [Bool.eq_iff_iff, beq_iff_eq, decide_eq_true_eq]
end Go.Proofs.YtplgdpjbkdagfaaGreat
namespace Go.Proofs.YtplgdpjbkdagfaaGreat
set_option maxRecDepth 100000
open Go.ChangeShapes Go.WideShapes Go.ChangeAt Go.RowKit
set_option linter.unusedVariables false
set_option linter.unusedSimpArgs false

open Classical in
/-- Why n bytes f are no image; 0: they are one. -/
noncomputable def headE (n : Nat) (f : Nat → Int) : Int :=
  if (beginS n f).2 ≠ 0 then (beginS n f).2 else
  if optS f (beginS n f).1.toNat ≠ 0 then optS f (beginS n f).1.toNat else
  if ¬ alignS f (beginS n f).1.toNat (readS f (beginS n f).1.toNat).base (readS f (beginS n f).1.toNat).size then 6 else
  if ¬ headersP n (beginS n f).1.toNat (readS f (beginS n f).1.toNat).headers (rdF f ((beginS n f).1.toNat + 6) 2) then 7 else
  if ¬ chainP (readS f (beginS n f).1.toNat).size n (roundS (readS f (beginS n f).1.toNat).headers 4096) (sectsS f ((beginS n f).1.toNat + 264) (rdF f ((beginS n f).1.toNat + 6) 2).toNat) then 7 else
  if (readS f (beginS n f).1.toNat).size ≤ (readS f (beginS n f).1.toNat).entry then 5 else 0

/-- The head of an image that begins at p. -/
def headP (n : Nat) (f : Nat → Int) : Nat := (beginS n f).1.toNat
/-- How many sections it has. -/
def headK (n : Nat) (f : Nat → Int) : Nat := (rdF f (headP n f + 6) 2).toNat

def noHead : HeadN := ⟨0, 0, 0, 0, 0, 0, fun _ => (0, 0)⟩
theorem headV_none : HeadV (headC 0 0 0 0 0 0) noHead (.slice none 0 0) := by
  refine ⟨rfl, rfl, rfl, rfl, rfl, rfl, rfl, fun i hi => ?_, fun i hi => ?_, rfl⟩
  · rcases (by omega : i = 0 ∨ i = 1 ∨ i = 2 ∨ i = 3 ∨ i = 4 ∨ i = 5 ∨ i = 6 ∨ i = 7 ∨ i = 8 ∨ i = 9 ∨ i = 10 ∨ i = 11 ∨ i = 12 ∨ i = 13 ∨ i = 14 ∨ i = 15) with h | h | h | h | h | h | h | h | h | h | h | h | h | h | h | h <;> subst h <;> rfl
  · rcases (by omega : i = 0 ∨ i = 1 ∨ i = 2 ∨ i = 3 ∨ i = 4 ∨ i = 5 ∨ i = 6 ∨ i = 7 ∨ i = 8 ∨ i = 9 ∨ i = 10 ∨ i = 11 ∨ i = 12 ∨ i = 13 ∨ i = 14 ∨ i = 15) with h | h | h | h | h | h | h | h | h | h | h | h | h | h | h | h <;> subst h <;> rfl

theorem HeadV.one {cs : Array Value} {h : HeadN} {sv : Value} (x : HeadV cs h sv) (hs : sv.oneCell' = true) : cs.all (·.oneCell') = true := by
  refine Array.all_eq_true_iff_forall_mem.2 fun v hv => ?_
  obtain ⟨j, hj, rfl⟩ := Array.mem_iff_getElem.1 hv
  have hsz := x.size
  have k : ∀ u, cs[j]? = some u → u.oneCell' = true → cs[j].oneCell' = true := fun u h1 h2 => by
    rw [Array.getElem?_eq_getElem hj] at h1
    injection h1 with h1
    rw [h1]; exact h2
  rcases (by omega : j = 0 ∨ j = 1 ∨ j = 2 ∨ j = 3 ∨ j = 4 ∨ j = 5 ∨ j = 38 ∨ ((j - 6) / 2 < 16 ∧ j = 6 + 2 * ((j - 6) / 2)) ∨ ((j - 6) / 2 < 16 ∧ j = 6 + 2 * ((j - 6) / 2) + 1)) with h | h | h | h | h | h | h | ⟨hi, h⟩ | ⟨hi, h⟩
  · exact k _ (by rw [h]; exact x.c0) rfl
  · exact k _ (by rw [h]; exact x.c1) rfl
  · exact k _ (by rw [h]; exact x.c2) rfl
  · exact k _ (by rw [h]; exact x.c3) rfl
  · exact k _ (by rw [h]; exact x.c4) rfl
  · exact k _ (by rw [h]; exact x.c5) rfl
  · exact k _ (by rw [h]; exact x.c38) hs
  · exact k _ (by rw [h]; exact x.dir0 _ hi) rfl
  · exact k _ (by rw [h]; exact x.dir1 _ hi) rfl

theorem HeadV.sects {cs : Array Value} {h : HeadN} {sv : Value} (x : HeadV cs h sv) (sv' : Value) : HeadV (cs.setIfInBounds 38 sv') h sv' := by
  have hs := x.size
  have k : ∀ j v, j ≠ 38 → cs[j]? = some v → (cs.setIfInBounds 38 sv')[j]? = some v := fun j v h1 h2 => by
    rw [Array.getElem?_setIfInBounds_ne (by omega)]; exact h2
  exact ⟨by simp [hs], k _ _ (by omega) x.c0, k _ _ (by omega) x.c1, k _ _ (by omega) x.c2, k _ _ (by omega) x.c3, k _ _ (by omega) x.c4, k _ _ (by omega) x.c5, fun i hi => k _ _ (by omega) (x.dir0 i hi), fun i hi => k _ _ (by omega) (x.dir1 i hi), by rw [Array.getElem?_setIfInBounds_self_of_lt (by omega)]⟩

/-- What Parse tells of n bytes f: why they are none, or a head and its sections. -/
def HeadR (w : World) (n : Nat) (f : Nat → Int) (v : Value) : Prop :=
  ∃ cs, v = .tuple #[.agg cs, .int .i64 (headE n f)] ∧
    ((headE n f ≠ 0 ∧ HeadV cs noHead (.slice none 0 0)) ∨
     (headE n f = 0 ∧ ∃ g, HeadV cs (readS f (headP n f)) (.slice (some ⟨g, 0, none⟩) (headK n f) (headK n f)) ∧ SlT SectN.cells 6 w (some ⟨g, 0, none⟩) (sectsS f (headP n f + 264) (headK n f)) ∧ g < w.heap.size))

theorem results_cell_tmp {P : Program} {fn : Func} {p q : Tmp} {ty : TypeId} (h : fn.results = #[.cell p ty, .tmp q]) (tmps : Array Value) (w : World) (g : Nat) (t : TypeId) (cs : Array Value) (fr : Nat × Nat) (d : TypeDesc) (v : Value)
    (hp : tmps.getD p undef = .pointer (some ⟨g, 0, none⟩)) (hq : tmps.getD q undef = v) (hg : w.heap[g]? = some (.cells cs t fr))
    (hu : P.underlying ty = some d) (hd : (match d with | .struct _ | .array _ _ => true | _ => false) = true) (hi : (P.info? ty).map (·.size) = some cs.size) :
    (results fn tmps).run P w = .ok (.tuple #[.agg cs, v]) w := by
  have hp' : tmps[p]?.getD undef = .pointer (some ⟨g, 0, none⟩) := by simpa using hp
  have hq' : tmps[q]?.getD undef = v := by simpa using hq
  simp [results, h, hp', hq', asAddr, run_loadVar_row w g t ty cs fr d hg hu hd hi]

theorem beginS_ok {n : Nat} {f : Nat → Int} (hf : Bytes255 f) (h : (beginS n f).2 = 0) : ∃ p : Nat, (beginS n f).1 = p ∧ 64 ≤ p ∧ p % 4 = 0 ∧ p + 264 ≤ n ∧ p < 4294967296 := by
  have hb := rdF_bd f hf 4 60
  unfold beginS at h ⊢
  split at h
  · cases h
  · split at h
    · cases h
    · split at h
      · cases h
      · split at h
        · cases h
        · rename_i h1 h2 h3 h4
          rw [if_neg h1, if_neg h2, if_neg h3, if_neg h4]
          refine ⟨(rdF f 60 4).toNat, ?_, ?_, ?_, ?_, ?_⟩ <;> simp only [] at * <;> omega

set_option maxRecDepth 100000 in
set_option maxHeartbeats 4000000 in
theorem hparse_any (b off n cap : Nat) (f : Nat → Int) (w : World) (h : RowB w b off n cap f) :
    Calls Tryz.prog 23 #[.slice (some ⟨b, off, none⟩) n cap] w fun e w' => (∃ v, e = .returned v ∧ HeadR w' n f v) ∧ Below w.heap.size w w' := by
  have hbx := begin_any b off n cap f
  have hZ := heap_alloc_new w (.cells (headC 0 0 0 0 0 0) 41)
  have HB0 := Lib.hid ((Below.refl w.heap.size w).alloc (Nat.le_refl _) (.cells (headC 0 0 0 0 0 0) 41))
  have hs1 : (w.alloc (.cells (headC 0 0 0 0 0 0) 41)).heap.size = w.heap.size + 1 := by simp
  have HR1 := Lib.hid (h.below HB0.out)
  clear h
  go_enter Tryz.func23, Tryz.ntmps23
  go_wp2_with fail
  rw [zero_head]
  generalize w.alloc (.cells (headC 0 0 0 0 0 0) 41) = w1 at hZ HB0 HR1 hs1 ⊢
  refine (hbx w1 HR1.out).mono ?_
  rintro e w2 ⟨rfl, hb2⟩
  have HB2 := Lib.hid (HB0.out.trans (hb2.mono (by omega)))
  have HR2 := Lib.hid (HR1.out.below hb2)
  have hZ2 := (hb2.block w.heap.size (by omega)).trans hZ
  have H255 := Lib.hid HR1.out.by255
  clear hbx hZ HB0 HR1 hb2 hs1
  by_cases e0 : (beginS n f).2 ≠ 0
  · have hE : headE n f = (beginS n f).2 := by unfold headE; rw [if_pos e0]
    have HE := Lib.hid hE
    clear hE
    generalize (beginS n f).2 = x2 at *
    generalize (beginS n f).1 = x1 at *
    have e1 : (x2 != 0) = true := by simpa using e0
    go_wp2_with (refine wpList_store_row rfl 41 _ _ rfl w.heap.size (headC 0 0 0 0 0 0) rfl rfl 41 _ hZ2 rfl rfl (headC_one _ _ _ _ _ _) ?_)
    refine bodyPost_ret (v := .tuple #[.agg (headC 0 0 0 0 0 0), .int .i64 x2]) (results_cell_tmp rfl _ _ w.heap.size 41 _ (0, 0) _ _ rfl rfl (setRow_heap _ _ _ _ _ _ hZ2) rfl rfl rfl) rfl ⟨⟨_, rfl, _, by rw [HE.out], .inl ⟨by rw [HE.out]; exact e0, headV_none⟩⟩, below_setRow HB2.out (Nat.le_refl _) _⟩
  · have e0' : (beginS n f).2 = 0 := by omega
    obtain ⟨p, hp, p0, p1, p2, p3⟩ := beginS_ok H255.out e0'
    have hP : headP n f = p := by unfold headP; rw [hp]; rfl
    have hK : headK n f = (rdF f (p + 6) 2).toNat := by unfold headK; rw [hP]
    have HP := Lib.hid hP
    have HK := Lib.hid hK
    have hE : headE n f = headE n f := rfl
    conv at hE => rhs; unfold headE
    rw [if_neg e0, hp, Int.toNat_natCast] at hE
    have HE := Lib.hid hE
    rw [e0', hp]
    clear hE hP hK hp e0 e0'
    have ho := opt_any b off n cap f p w2 HR2.out p2 (by omega)
    have HO := Lib.hid ho
    clear ho
    by_cases eo : optS f p ≠ 0
    · have hE : headE n f = optS f p := by rw [HE.out, if_pos eo]
      have HE2 := Lib.hid hE
      clear hE
      generalize optS f p = x2 at *
      have e1 : (x2 != 0) = true := by simpa using eo
      go_wp2_with (first | (go_fit HO.out; rintro e w' ⟨rfl, rfl⟩) | (refine wpList_store_row rfl 41 _ _ rfl w.heap.size (headC 0 0 0 0 0 0) rfl rfl 41 _ hZ2 rfl rfl (headC_one _ _ _ _ _ _) ?_))
      refine bodyPost_ret (v := .tuple #[.agg (headC 0 0 0 0 0 0), .int .i64 x2]) (results_cell_tmp rfl _ _ w.heap.size 41 _ (0, 0) _ _ rfl rfl (setRow_heap _ _ _ _ _ _ hZ2) rfl rfl rfl) rfl ⟨⟨_, rfl, _, by rw [HE2.out], .inl ⟨by rw [HE2.out]; exact eo, headV_none⟩⟩, below_setRow HB2.out (Nat.le_refl _) _⟩
    · have eo' : optS f p = 0 := by omega
      rw [eo'] at HO
      have hE : headE n f = _ := HE.out
      rw [if_neg eo] at hE
      have HE2 := Lib.hid hE
      clear hE HE eo eo'
      go_wp2_with (go_fit HO.out; rintro e w' ⟨rfl, rfl⟩)
      refine (read_any b off n cap f p w2 HR2.out p2 (by omega)).mono ?_
      rintro e w3 ⟨⟨cs, rfl, hv⟩, hb3⟩
      have HB3 := Lib.hid (HB2.out.trans (hb3.mono HB2.out.size))
      have HR3 := Lib.hid (HR2.out.below hb3)
      have hlt2 : w.heap.size < w2.heap.size := (Array.getElem?_eq_some_iff.1 hZ2).1
      have hZ3 := (hb3.block w.heap.size hlt2).trans hZ2
      have hlt3 : w.heap.size < w3.heap.size := Nat.lt_of_lt_of_le hlt2 hb3.size
      have hone := hv.one rfl
      have hcz := hv.size
      clear HB2 HR2 HO hb3 hZ2 hlt2
      go_wp2_with (first
        | (refine wpList_store_row rfl 41 _ _ rfl w3.heap.size cs rfl rfl 41 _ (heap_alloc_new _ _) (by rw [hcz]; rfl) (by rw [hcz]; rfl) hone ?_)
        | (refine wpList_load_row rfl 41 _ rfl w3.heap.size rfl 41 cs (0, 0) _ (setRow_heap _ _ _ _ _ _ (heap_alloc_new _ _)) rfl rfl (by rw [hcz]; rfl) ?_))
      rw [zero_head]
      have h74 := setRow_heap (w3.alloc (.cells (headC 0 0 0 0 0 0) 41)) w3.heap.size _ cs _ _ (heap_alloc_new _ _)
      have hZ4 : ((w3.alloc (.cells (headC 0 0 0 0 0 0) 41)).setRow w3.heap.size cs).heap[w.heap.size]? = some (.cells (headC 0 0 0 0 0 0) 41 (0, 0)) := by rw [setRow_other _ _ _ _ (by omega), heap_alloc_old _ _ hlt3]; exact hZ3
      have hB34 : Below w3.heap.size w3 ((w3.alloc (.cells (headC 0 0 0 0 0 0) 41)).setRow w3.heap.size cs) := below_setRow ((Below.refl _ w3).alloc (Nat.le_refl _) _) (Nat.le_refl _) _
      have HB4 := Lib.hid (HB3.out.trans (hB34.mono HB3.out.size))
      have HR4 := Lib.hid (HR3.out.below hB34)
      have hsz4 : w3.heap.size < ((w3.alloc (.cells (headC 0 0 0 0 0 0) 41)).setRow w3.heap.size cs).heap.size := by simp
      clear hB34 hZ3 HR3 HB3
      generalize (w3.alloc (.cells (headC 0 0 0 0 0 0) 41)).setRow w3.heap.size cs = w4 at *
      generalize w3.heap.size = g7 at *
      have HV := Lib.hid hv
      have HLT := Lib.hid hlt3
      have HONE := Lib.hid hone
      clear hv hlt3 hone
      by_cases ea : alignS f p (readS f p).base (readS f p).size
      · have hE : headE n f = _ := HE2.out
        rw [if_neg (fun h => h ea)] at hE
        have HE3 := Lib.hid hE
        clear hE HE2
        have hbs : ∀ k, Hid (0 ≤ rdF f (p + k) 4 ∧ rdF f (p + k) 4 < 4294967296) := fun k => Lib.hid (rdF_bd f H255.out 4 _)
        have hb2 := rdF_bd f H255.out 2 (p + 6)
        refine (align_any b off n cap f p cs _ _ true w4 HR4.out p2 (by omega) HV.out ⟨fun _ => ea, fun _ => rfl⟩).mono ?_
        rintro e w5 ⟨rfl, hb5⟩
        have HB5 := Lib.hid (HB4.out.trans (hb5.mono HB4.out.size))
        have HR5 := Lib.hid (HR4.out.below hb5)
        have hZ5 := (hb5.block w.heap.size (Nat.lt_trans HLT.out hsz4)).trans hZ4
        have h75 := (hb5.block g7 hsz4).trans h74
        have hsz5 : g7 < w5.heap.size := Nat.lt_of_lt_of_le hsz4 hb5.size
        have H6 := Lib.hid (hu16 b off n cap f (p + 6) w5 HR5.out (by omega))
        rw [show ((p + 6 : Nat) : Int) = (p : Int) + 6 by omega] at H6
        have hK := HK.out
        obtain ⟨k, hk⟩ : ∃ k : Nat, rdF f (p + 6) 2 = k := ⟨(rdF f (p + 6) 2).toNat, by omega⟩
        rw [hk] at hK H6 hb2
        rw [hk] at HE3
        simp only [Int.toNat_natCast] at hK HE3
        have HK2 := Lib.hid hK
        have c5 : w5.cell? ⟨g7, 5, none⟩ = some (.int .i64 (readS f p).headers) := by rw [cell_of_row _ _ _ _ _ _ h75]; exact HV.out.c5
        clear hb5 hZ4 h74 hsz4 HK hK ea HB4 HR4
        go_wp2_with (go_fit H6.out; rintro e w' ⟨rfl, rfl⟩)
        by_cases eh : headersP n p (readS f p).headers k
        · have hE : headE n f = _ := HE3.out
          rw [if_neg (fun h => h eh)] at hE
          have HE4 := Lib.hid hE
          clear hE HE3
          refine (headers_any _ n cap p _ _ true w5 (by have := HR5.out.len; have := HR5.out.most; omega) (by omega) ((hbs 84).out).1 (Int.le_of_lt ((hbs 84).out).2) (by omega) (by omega) ⟨fun _ => eh, fun _ => rfl⟩).mono ?_
          rintro e w' ⟨rfl, rfl⟩
          obtain ⟨k1, k2, k3, k4, k5⟩ := eh
          have hsx := sects_any b off n cap f (p + 264) k w5 HR5.out (by omega) (by omega) (by omega) (by omega)
          rw [show ((p + 264 : Nat) : Int) = (p : Int) + 264 by omega] at hsx
          go_wp2_with fail
          refine hsx.mono ?_
          rintro e w6 ⟨rfl, hsl, hb6⟩
          clear hsx c5 H6
          have hlen : (sectsS f (p + 264) k).length = k := by simp [sectsS]
          have HN63 : Hid ((n : Int) ≤ 9223372036854775807) := Lib.hid (by have := HR5.out.len; have := HR5.out.most; omega)
          have HG75 := Lib.hid hsz5
          have hgS : w5.heap.size < w6.heap.size := by
            rcases hsl with h | ⟨b', off', h1, h2, _⟩
            · rw [h] at hlen; simp at hlen; omega
            · injection h1 with h1
              injection h1 with h1
              omega
          have HB6 := Lib.hid (HB5.out.trans (hb6.mono HB5.out.size))
          have hZ6 := (hb6.block w.heap.size (Nat.lt_trans HLT.out hsz5)).trans hZ5
          have h76 := (hb6.block g7 hsz5).trans h75
          have c38 : w6.cell? ⟨g7, 38, none⟩ = some (.slice none 0 0) := by rw [cell_of_row _ _ _ _ _ _ h76]; exact HV.out.c38
          have z38 := frozen_of_row _ _ 38 _ _ h76
          have hcz7 : (cs.setIfInBounds 38 (.slice (some ⟨w5.heap.size, 0, none⟩) k k)).size = 39 := by rw [Array.size_setIfInBounds]; exact hcz
          have h77 : (w6.setCell ⟨g7, 38, none⟩ (.slice (some ⟨w5.heap.size, 0, none⟩) k k)).heap[g7]? = _ := heap_setCell_same _ _ _ _ _ _ h76
          have hZ7 : (w6.setCell ⟨g7, 38, none⟩ (.slice (some ⟨w5.heap.size, 0, none⟩) k k)).heap[w.heap.size]? = some (.cells (headC 0 0 0 0 0 0) 41 (0, 0)) := by
            rw [heap_setCell_other _ _ _ _ (by have := HLT.out; show w.heap.size ≠ g7; omega)]; exact hZ6
          have HB7 : Hid (Below w.heap.size w (w6.setCell ⟨g7, 38, none⟩ (.slice (some ⟨w5.heap.size, 0, none⟩) k k))) := Lib.hid (HB6.out.setCell (Nat.le_of_lt HLT.out) _)
          have HSL7 : Hid (SlT SectN.cells 6 (w6.setCell ⟨g7, 38, none⟩ (.slice (some ⟨w5.heap.size, 0, none⟩) k k)) (some ⟨w5.heap.size, 0, none⟩) (sectsS f (p + 264) k)) :=
            Lib.hid (hsl.keep (by simp) fun b' hb' => by
              simp only [Option.map_some, Option.some.injEq] at hb'
              exact heap_setCell_other _ _ _ _ (by show b' ≠ g7; omega))
          have hgS7 : w5.heap.size < (w6.setCell ⟨g7, 38, none⟩ (.slice (some ⟨w5.heap.size, 0, none⟩) k k)).heap.size := by simpa using hgS
          have HV7 := Lib.hid (HV.out.sects (.slice (some ⟨w5.heap.size, 0, none⟩) k k))
          clear hsl hb6 hZ5 h75 hZ6 h76 HB6 HB5 HR5 HV hcz
          go_wp2_with (refine wpList_load_row rfl 41 _ rfl g7 rfl 41 _ (0, 0) _ h77 rfl rfl (by rw [hcz7]; rfl) ?_)
          generalize w6.setCell ⟨g7, 38, none⟩ (.slice (some ⟨w5.heap.size, 0, none⟩) k k) = w7 at *
          have hsz7 : g7 < w7.heap.size := by omega
          clear hsz5 hgS c38 z38
          generalize w5.heap.size = gS at *
          generalize cs.setIfInBounds 38 (.slice (some ⟨gS, 0, none⟩) k k) = cs7 at *
          have HCH := fun bb hbb => chain_any cs7 (readS f p) gS k (sectsS f (p + 264) k) n bb w7 (by rw [hlen]; exact HV7.out) HSL7.out hgS7 (fun s hs => by
            simp only [sectsS, List.mem_map] at hs
            obtain ⟨j, _, rfl⟩ := hs
            exact sectS_bd H255.out _) (by omega) ((hbs 84).out).1 ((hbs 84).out).2 ((hbs 80).out).1 ((hbs 80).out).2 (by omega) HN63.out hbb
          have h3 := HV7.out.c3
          have h4 := HV7.out.c4
          have hone7 := HV7.out.one rfl
          by_cases ec : chainP (readS f p).size n (roundS (readS f p).headers 4096) (sectsS f (p + 264) k)
          · have hE : headE n f = _ := HE4.out
            rw [if_neg (fun h => h ec)] at hE
            have HE5 := Lib.hid hE
            clear hE HE4
            refine (HCH true ⟨fun _ => ec, fun _ => rfl⟩).mono ?_
            rintro e w8 ⟨rfl, hb8⟩
            have HB8 := Lib.hid (HB7.out.trans (hb8.mono HB7.out.size))
            have hZ8 := (hb8.block w.heap.size (Nat.lt_trans HLT.out hsz7)).trans hZ7
            have h78 := (hb8.block g7 hsz7).trans h77
            have HSL8 := Lib.hid (HSL7.out.below hb8)
            have hgS8 : gS < w8.heap.size := Nat.lt_of_lt_of_le hgS7 hb8.size
            have c3 : w8.cell? ⟨g7, 3, none⟩ = some (.int .i64 (readS f p).entry) := by rw [cell_of_row _ _ _ _ _ _ h78]; exact h3
            have c4 : w8.cell? ⟨g7, 4, none⟩ = some (.int .i64 (readS f p).size) := by rw [cell_of_row _ _ _ _ _ _ h78]; exact h4
            clear hb8 hZ7 h77 hsz7 hgS7 HSL7 HB7 HCH h3 h4 ec
            generalize hy3 : (readS f p).entry = y3 at *
            generalize hy4 : (readS f p).size = y4 at *
            by_cases ee : y4 ≤ y3
            · have hE : headE n f = 5 := by rw [HE5.out, if_pos ee]
              have HE6 := Lib.hid hE
              clear hE h78
              go_wp2_with (first | (refine wpList_store_row rfl 41 _ _ rfl w.heap.size (headC 0 0 0 0 0 0) rfl rfl 41 _ hZ8 rfl rfl (headC_one _ _ _ _ _ _) ?_))
              refine bodyPost_ret (v := .tuple #[.agg (headC 0 0 0 0 0 0), .int .i64 5]) (results_cell_tmp rfl _ _ w.heap.size 41 _ (0, 0) _ _ rfl rfl (setRow_heap _ _ _ _ _ _ hZ8) rfl rfl rfl) rfl ⟨⟨_, rfl, _, by rw [HE6.out], .inl ⟨by rw [HE6.out]; omega, headV_none⟩⟩, below_setRow HB8.out (Nat.le_refl _) _⟩
            · have hE : headE n f = 0 := by rw [HE5.out, if_neg ee]
              have HE6 := Lib.hid hE
              clear hE
              have ee' : y3 < y4 := by omega
              go_wp2_with (first
                | (refine wpList_load_row rfl 41 _ rfl g7 rfl 41 cs7 (0, 0) _ h78 rfl rfl (by rw [hcz7]; rfl) ?_)
                | (refine wpList_store_row rfl 41 _ _ rfl w.heap.size cs7 rfl rfl 41 _ hZ8 (by rw [hcz7]; rfl) (by rw [hcz7]; rfl) hone7 ?_))
              refine bodyPost_ret (v := .tuple #[.agg cs7, .int .i64 0]) (results_cell_tmp rfl _ _ w.heap.size 41 cs7 (0, 0) _ _ rfl rfl (setRow_heap _ _ _ _ _ _ hZ8) rfl rfl (by rw [hcz7]; rfl)) rfl ⟨⟨_, rfl, cs7, by rw [HE6.out], .inr ⟨HE6.out, gS, ?_, ?_, ?_⟩⟩, below_setRow HB8.out (Nat.le_refl _) _⟩
              · rw [HP.out, HK2.out]; exact HV7.out
              · rw [HP.out, HK2.out]
                exact HSL8.out.keep (by simp) fun b' hb' => by
                  simp only [Option.map_some, Option.some.injEq] at hb'
                  exact setRow_other _ _ _ _ (by have := HLT.out; have := HG75.out; omega)
              · simpa using hgS8
          · have hE : headE n f = 7 := by rw [HE4.out, if_pos ec]
            have HE5 := Lib.hid hE
            clear hE
            refine (HCH false ⟨fun h => (by cases h), fun h => (ec h).elim⟩).mono ?_
            rintro e w8 ⟨rfl, hb8⟩
            have HB8 := Lib.hid (HB7.out.trans (hb8.mono HB7.out.size))
            have hZ8 := (hb8.block w.heap.size (Nat.lt_trans HLT.out hsz7)).trans hZ7
            clear hb8 hZ7 h77 hsz7 hgS7 HCH h3 h4 ec hone7
            go_wp2_with (first | (refine wpList_store_row rfl 41 _ _ rfl w.heap.size (headC 0 0 0 0 0 0) rfl rfl 41 _ hZ8 rfl rfl (headC_one _ _ _ _ _ _) ?_))
            refine bodyPost_ret (v := .tuple #[.agg (headC 0 0 0 0 0 0), .int .i64 7]) (results_cell_tmp rfl _ _ w.heap.size 41 _ (0, 0) _ _ rfl rfl (setRow_heap _ _ _ _ _ _ hZ8) rfl rfl rfl) rfl ⟨⟨_, rfl, _, by rw [HE5.out], .inl ⟨by rw [HE5.out]; omega, headV_none⟩⟩, below_setRow HB8.out (Nat.le_refl _) _⟩
        · have hE : headE n f = 7 := by rw [HE3.out, if_pos eh]
          have HE4 := Lib.hid hE
          clear hE
          refine (headers_any _ n cap p _ _ false w5 (by have := HR5.out.len; have := HR5.out.most; omega) (by omega) ((hbs 84).out).1 (Int.le_of_lt ((hbs 84).out).2) (by omega) (by omega) ⟨fun h => (by cases h), fun h => (eh h).elim⟩).mono ?_
          rintro e w' ⟨rfl, rfl⟩
          clear c5 h75 hsz5
          go_wp2_with (first | (refine wpList_store_row rfl 41 _ _ rfl w.heap.size (headC 0 0 0 0 0 0) rfl rfl 41 _ hZ5 rfl rfl (headC_one _ _ _ _ _ _) ?_))
          refine bodyPost_ret (v := .tuple #[.agg (headC 0 0 0 0 0 0), .int .i64 7]) (results_cell_tmp rfl _ _ w.heap.size 41 _ (0, 0) _ _ rfl rfl (setRow_heap _ _ _ _ _ _ hZ5) rfl rfl rfl) rfl ⟨⟨_, rfl, _, by rw [HE4.out], .inl ⟨by rw [HE4.out]; omega, headV_none⟩⟩, below_setRow HB5.out (Nat.le_refl _) _⟩
      · have hE : headE n f = 6 := by rw [HE2.out, if_pos ea]
        have HE3 := Lib.hid hE
        clear hE
        refine (align_any b off n cap f p cs _ _ false w4 HR4.out p2 (by omega) HV.out ⟨fun h => (by cases h), fun h => (ea h).elim⟩).mono ?_
        rintro e w5 ⟨rfl, hb5⟩
        have HB5 := Lib.hid (HB4.out.trans (hb5.mono HB4.out.size))
        have hZ5 := (hb5.block w.heap.size (Nat.lt_trans HLT.out hsz4)).trans hZ4
        clear hb5 hZ4 h74 hsz4
        go_wp2_with (first | (refine wpList_store_row rfl 41 _ _ rfl w.heap.size (headC 0 0 0 0 0 0) rfl rfl 41 _ hZ5 rfl rfl (headC_one _ _ _ _ _ _) ?_))
        refine bodyPost_ret (v := .tuple #[.agg (headC 0 0 0 0 0 0), .int .i64 6]) (results_cell_tmp rfl _ _ w.heap.size 41 _ (0, 0) _ _ rfl rfl (setRow_heap _ _ _ _ _ _ hZ5) rfl rfl rfl) rfl ⟨⟨_, rfl, _, by rw [HE3.out], .inl ⟨by rw [HE3.out]; omega, headV_none⟩⟩, below_setRow HB5.out (Nat.le_refl _) _⟩
end Go.Proofs.YtplgdpjbkdagfaaGreat
namespace Go.Proofs.YtplgdpjbkdagfaaGreat
set_option maxRecDepth 100000
open Go.ChangeShapes Go.WideShapes Go.ChangeAt Go.RowKit
open Go.Maps (Keyed)
set_option linter.unusedVariables false
set_option linter.unusedSimpArgs false

/-- How a pointer at a whole block reads. -/
def ptrR : Value → Option (DataW Unit × List MemPlace)
  | .pointer none => some (.nil, [])
  | .pointer (some a) => if a = ⟨a.block, 0, none⟩ then some (.lit (.int .i64 a.block), []) else none
  | _ => none
def ptrV : Option Nat → Value
  | none => .pointer none
  | some b => .pointer (some ⟨b, 0, none⟩)
def ptrD : Option Nat → DataW Unit → DataW Unit
  | none, z => z
  | some b, _ => .lit (.int .i64 b)

theorem ptrR_some (b : Nat) : ptrR (.pointer (some ⟨b, 0, none⟩)) = some (.lit (.int .i64 b), []) := by simp [ptrR]
theorem ptrR_inv {v : Value} {y : DataW Unit × List MemPlace} (h : ptrR v = some y) : (v = .pointer none ∧ y = (.nil, [])) ∨ ∃ b : Nat, v = .pointer (some ⟨b, 0, none⟩) ∧ y = (.lit (.int .i64 b), []) := by
  unfold ptrR at h
  split at h
  · cases h; exact Or.inl ⟨rfl, rfl⟩
  · rename_i a
    split at h
    · rename_i e
      cases h
      exact Or.inr ⟨a.block, by rw [e], rfl⟩
    · cases h
  · cases h

/-- Block b is a map with m keys that leads from each key x to the block f x. -/
def PM (w : World) (P : Program) (k : TypeId) (q : IntKind) (b m : Nat) (f : Int → Option Nat) : Prop :=
  ∃ D : DataW Unit, w.ownsMap P k ptrR b m D ∧ Maps.size D = m ∧ ∀ x zd, D.atKey (.int q x) zd = ptrD (f x) zd

/-- A function turned at one place. -/
def upd {α : Type} (f : Int → α) (x : Int) (v : α) : Int → α := fun y => if y = x then v else f y
theorem upd_same {α : Type} (f : Int → α) (x : Int) (v : α) : upd f x v x = v := by simp [upd]
theorem upd_other {α : Type} (f : Int → α) {x y : Int} (v : α) (h : y ≠ x) : upd f x v y = f y := by simp [upd, h]

section
variable {w w' : World} {P : Program} {k t e : TypeId} {q : IntKind} {b m : Nat} {f : Int → Option Nat}

theorem ownsMap_size {D : DataW Unit} {n : Nat} (h : w.ownsMap P k ptrR b n D) : w.ownsMap P k ptrR b (Maps.size D) D := by
  obtain ⟨es, clock, hb, F, hs, rfl⟩ := h
  exact ⟨es, clock, hb, F, by simp [Maps.size, length_sorted], rfl⟩

theorem PM.made (w : World) (P : Program) (k : TypeId) (q : IntKind) : PM (w.alloc (.map #[] 0)) P k q w.heap.size 0 (fun _ => none) :=
  ⟨.map [], World.ownsMap_made w P k ptrR, rfl, fun _ _ => rfl⟩
theorem PM.lt (h : PM w P k q b m f) : b < w.heap.size := by obtain ⟨D, h, _⟩ := h; exact h.lt
theorem PM.kept {row : Option Nat} (h : PM w P k q b m f) (hg : w.grownBy w' row) (hne : some b ≠ row) : PM w' P k q b m f := by
  obtain ⟨D, h, r⟩ := h; exact ⟨D, h.kept hg hne, r⟩
theorem PM.of_block (h : PM w P k q b m f) (e : w'.heap[b]? = w.heap[b]?) : PM w' P k q b m f := by
  obtain ⟨D, ⟨es, clock, hb, r⟩, r'⟩ := h; exact ⟨D, ⟨es, clock, e.trans hb, r⟩, r'⟩
theorem PM.congr {f' : Int → Option Nat} (h : PM w P k q b m f) (e : ∀ x, f' x = f x) : PM w P k q b m f' := by
  obtain ⟨D, h1, h2, h3⟩ := h; exact ⟨D, h1, h2, fun x zd => by rw [e, h3]⟩

theorem PM.lookup (h : PM w P k q b m f) (hk : P.underlying k = some (.int q)) (ht : P.underlying t = some (.map k e)) (hz : ∀ w, (zeroValue e).run P w = .ok (.pointer none) w) (x : Int) (hx : (Lit.int q x).wf = true) :
    (Instr.lookup t (.map (some b)) (.int q x) false).run P w = .ok (ptrV (f x)) w := by
  obtain ⟨D, h, _, hf⟩ := h
  obtain ⟨v, ps, hrun, hv⟩ := h.lookup (Maps.int_keyed hk) ht (hz w) (zd := .nil) (zp := []) rfl (Maps.keyOf_int_mk hk hx)
  rw [hrun]
  congr 1
  rw [hf] at hv
  rcases ptrR_inv hv with ⟨rfl, hy⟩ | ⟨b', rfl, hy⟩
  · cases hfx : f x with
    | none => rfl
    | some B => rw [hfx] at hy; simp [ptrD] at hy
  · cases hfx : f x with
    | none => rw [hfx] at hy; simp [ptrD] at hy
    | some B =>
      rw [hfx] at hy
      simp only [ptrD, Prod.mk.injEq, DataW.lit.injEq, Lit.int.injEq, true_and] at hy
      have : B = b' := by omega
      rw [this]; rfl

theorem keyLit (q : IntKind) (x : Int) : WideAt.IsKeyLit (.int q x) := by trivial

theorem PM.has (h : PM w P k q b m f) {D : DataW Unit} (hf : ∀ x zd, D.atKey (.int q x) zd = ptrD (f x) zd) (x : Int) : Maps.has D (.int q x) = (f x).isSome := by
  cases hfx : f x with
  | none => exact Maps.has_false_of_atKey fun z => by rw [hf, hfx]; rfl
  | some B => exact Maps.has_true_of_atKey (y := .lit (.int .i64 B)) fun z => by rw [hf, hfx]; rfl

theorem PM.store (h : PM w P k q b m f) (hk : P.underlying k = some (.int q)) (ht : P.underlying t = some (.map k e)) (hm : m < maxLen) (x : Int) (hx : (Lit.int q x).wf = true) (B : Nat) :
    ∃ w', (Instr.mapUpdate t (.map (some b)) (.int q x) (.pointer (some ⟨B, 0, none⟩))).run P w = .ok () w' ∧ PM w' P k q b (if (f x).isSome then m else m + 1) (upd f x (some B)) ∧ w.grownBy w' (some b) := by
  have h0 := h
  obtain ⟨D, h, hs, hf⟩ := h
  obtain ⟨w', hrun, h', hg⟩ := h.update (Maps.int_keyed hk) ht hm (Maps.keyOf_int_mk hk hx) (ptrR_some B)
  have hK : Keyed P k := Maps.int_keyed hk
  refine ⟨w', hrun, ⟨D.put (.int q x) (.lit (.int .i64 B)), ?_, ?_, fun y zd => ?_⟩, hg⟩
  · have := ownsMap_size h'
    rw [Maps.size_put (h.tidy hK), h0.has hf, hs] at this
    exact this
  · rw [Maps.size_put (h.tidy hK), h0.has hf, hs]
  · by_cases e : y = x
    · subst e
      rw [Maps.atKey_put_same h.isMap (keyLit q y), upd_same]; rfl
    · rw [Maps.atKey_put_other (by intro e'; injection e' with _ e'; exact e e'), hf, upd_other f _ e]

theorem PM.delete (h : PM w P k q b m f) (hk : P.underlying k = some (.int q)) (ht : P.underlying t = some (.map k e)) (x : Int) (hx : (Lit.int q x).wf = true) (ty : TypeId) :
    ∃ w', (Builtin.delete_ #[t, k] ty #[.map (some b), .int q x]).run P w = .ok (.tuple #[]) w' ∧ PM w' P k q b (if (f x).isSome then m - 1 else m) (upd f x none) ∧ w.mapTurned w' b := by
  have h0 := h
  obtain ⟨D, h, hs, hf⟩ := h
  have hK : Keyed P k := Maps.int_keyed hk
  obtain ⟨w', hrun, h', hg⟩ := h.drop hK ht (Maps.keyOf_int_mk hk hx) ty
  have hsz := Maps.size_del (k := .int q x) (h.tidy hK)
  rw [h0.has hf] at hsz
  have hsz' : Maps.size (D.del (.int q x)) = if (f x).isSome then m - 1 else m := by
    split <;> rename_i hc
    · rw [if_pos hc] at hsz; omega
    · rw [if_neg hc] at hsz; omega
  refine ⟨w', hrun, ⟨D.del (.int q x), ?_, hsz', fun y zd => ?_⟩, hg⟩
  · rw [← hsz']; exact ownsMap_size h'
  · by_cases e : y = x
    · subst e
      rw [Maps.atKey_del_same, upd_same]; rfl
    · rw [Maps.atKey_del_other (by intro e'; injection e' with _ e'; exact e e'), hf, upd_other f _ e]

theorem PM.len (h : PM w P k q b m f) (ht : P.underlying t = some (.map k e)) (ty : TypeId) : (Builtin.len_ #[t] ty #[.map (some b)]).run P w = .ok (.int .i64 m) w := by
  obtain ⟨D, h, hs, hf⟩ := h
  rw [h.len ht ty, hs]
end
end Go.Proofs.YtplgdpjbkdagfaaGreat
namespace Go.Proofs.YtplgdpjbkdagfaaGreat
set_option maxRecDepth 100000
open Go.ChangeShapes Go.WideShapes Go.ChangeAt Go.RowKit
open Go.Maps (Keyed)
set_option linter.unusedVariables false
set_option linter.unusedSimpArgs false

/-- The blocks of R are as they were. -/
structure Kept (R : Nat → Prop) (w w' : World) : Prop where
  os : w'.os = w.os
  tape : w'.tape = w.tape
  output : w'.output = w.output
  size : w.heap.size ≤ w'.heap.size
  block : ∀ k, R k → w'.heap[k]? = w.heap[k]?

namespace Kept
variable {R R' : Nat → Prop} {a w w' : World}
theorem refl (R : Nat → Prop) (w : World) : Kept R w w := ⟨rfl, rfl, rfl, Nat.le_refl _, fun _ _ => rfl⟩
theorem trans {b c : World} (h : Kept R a b) (k : Kept R b c) : Kept R a c :=
  ⟨k.os.trans h.os, k.tape.trans h.tape, k.output.trans h.output, Nat.le_trans h.size k.size, fun i hi => (k.block i hi).trans (h.block i hi)⟩
theorem mono (h : Kept R w w') (hR : ∀ k, R' k → R k) : Kept R' w w' := ⟨h.os, h.tape, h.output, h.size, fun k hk => h.block k (hR k hk)⟩
theorem drew (h : Kept R a w) : Kept R a w.drew := ⟨h.os, h.tape, h.output, h.size, h.block⟩
theorem alloc (h : Kept R a w) (hR : ∀ k, R k → k < a.heap.size) (o : Obj) : Kept R a (w.alloc o) :=
  h.trans ⟨rfl, rfl, rfl, by simp, fun k hk => Below.heap_alloc w o k (Nat.lt_of_lt_of_le (hR k hk) h.size)⟩
theorem setCell (h : Kept R a w) {p : Addr} (hp : ¬ R p.block) (u : Value) : Kept R a (w.setCell p u) :=
  h.trans ⟨rfl, rfl, rfl, by simp [World.setCell], fun k hk => Below.heap_setCell _ _ _ _ (fun e => hp (by rw [← e]; exact hk))⟩
theorem grown {row : Option Nat} (h : Kept R a w) (hg : w.grownBy w' row) (hR : ∀ k, R k → k < a.heap.size) (hr : ∀ k, row = some k → ¬ R k) : Kept R a w' :=
  h.trans ⟨hg.os, hg.tape, hg.output, hg.size, fun k hk => hg.block k (Nat.lt_of_lt_of_le (hR k hk) h.size) (fun e => hr k e.symm hk)⟩
theorem of_below {B : Nat} (h : Below B w w') (hR : ∀ k, R k → k < B) : Kept R w w' := ⟨h.os, h.tape, h.output, h.size, fun k hk => h.block k (hR k hk)⟩
theorem below {B : Nat} (h : Kept R w w') (hR : ∀ k, k < B → R k) : Below B w w' := ⟨h.os, h.tape, h.output, h.size, fun k hk => h.block k (hR k hk)⟩
theorem cell (h : Kept R w w') {p : Addr} (hp : R p.block) : w'.cell? p = w.cell? p := World.cell?_of_block (h.block _ hp)
theorem frozen (h : Kept R w w') {p : Addr} (hp : R p.block) : w'.frozen? p = w.frozen? p := World.frozen?_of_block (h.block _ hp)
theorem own {g n : Nat} {f : Nat → Value} (h : Kept R w w') (ho : Own w g n f) (hg : R g) : Own w' g n f := ho.of_block (h.block g hg) h.size
end Kept

theorem PM.own_ne {w : World} {P : Program} {k : TypeId} {q : IntKind} {b m : Nat} {f : Int → Option Nat} (h : PM w P k q b m f) {c : Nat} {o : Nat} {v : Value} (hc : w.cell? ⟨c, o, none⟩ = some v) : c ≠ b := by
  rintro rfl
  obtain ⟨D, ⟨es, clock, hb, r⟩, r'⟩ := h
  simp [World.cell?, hb] at hc

section
variable {P : Program} (w : World) {ops : Array Oper} {rest : List Oper} {o : Oper} {a : Act} {Q : Exit → Act → World → Prop}

theorem wpList_mapUpdate_pm (hg : o.guard = none) (m x v : Operand) (t : TypeId) (hop : o.op = Op.mapUpdate t m x v) (k e : TypeId) (q : IntKind)
    (hk : P.underlying k = some (.int q)) (ht : P.underlying t = some (.map k e)) (b n : Nat) (f : Int → Option Nat) (hm : a.eval m = .map (some b)) (hown : PM w P k q b n f) (hn : n < maxLen)
    (x0 : Int) (hx : a.eval x = .int q x0) (hwf : (Lit.int q x0).wf = true) (B : Nat) (hv : a.eval v = .pointer (some ⟨B, 0, none⟩))
    (hK : ∀ w', PM w' P k q b (if (f x0).isSome then n else n + 1) (upd f x0 (some B)) → w.grownBy w' (some b) → wpList P ops Q rest (a.put o.dst undef) w') :
    wpList P ops Q (o :: rest) a w := by
  refine wpList_plain hg fun K' hK' => ?_
  obtain ⟨w', hrun, r1, r2⟩ := hown.store hk ht hn x0 hwf B
  unfold Oper.wp
  simp [execOp, hop, hm, hx, hv, hrun, Result.andThen]
  exact hK' _ _ (hK w' r1 r2)

theorem wpList_lookup_pm (hg : o.guard = none) (m x : Operand) (t : TypeId) (hop : o.op = Op.lookup t m x false) (k e : TypeId) (q : IntKind)
    (hk : P.underlying k = some (.int q)) (ht : P.underlying t = some (.map k e)) (hz : ∀ w, (zeroValue e).run P w = .ok (.pointer none) w) (b n : Nat) (f : Int → Option Nat) (hm : a.eval m = .map (some b)) (hown : PM w P k q b n f)
    (x0 : Int) (hx : a.eval x = .int q x0) (hwf : (Lit.int q x0).wf = true)
    (hK : wpList P ops Q rest (a.put o.dst (ptrV (f x0))) w) :
    wpList P ops Q (o :: rest) a w := by
  refine wpList_plain hg fun K' hK' => ?_
  have hrun := hown.lookup hk ht hz x0 hwf
  unfold Oper.wp
  simp [execOp, hop, hm, hx, hrun, Result.andThen]
  exact hK' _ _ hK

theorem wpList_delete_pm (hg : o.guard = none) (m x : Operand) (t k : TypeId) (hop : o.op = Op.call { callee := Callee.builtin Builtin.delete, args := #[m, x], argTypes := #[t, k] }) (e : TypeId) (q : IntKind)
    (hk : P.underlying k = some (.int q)) (ht : P.underlying t = some (.map k e)) (b n : Nat) (f : Int → Option Nat) (hm : a.eval m = .map (some b)) (hown : PM w P k q b n f)
    (x0 : Int) (hx : a.eval x = .int q x0) (hwf : (Lit.int q x0).wf = true)
    (hK : ∀ w', PM w' P k q b (if (f x0).isSome then n - 1 else n) (upd f x0 none) → w.grownBy w' (some b) → wpList P ops Q rest (a.put o.dst (.tuple #[])) w') :
    wpList P ops Q (o :: rest) a w := by
  refine wpList_plain hg fun K' hK' => ?_
  obtain ⟨w', hrun, r1, r2⟩ := hown.delete hk ht x0 hwf o.type
  unfold Oper.wp
  simp [execOp, hop, resolve, invoke, builtin, hm, hx, hrun, Result.andThen]
  exact hK' _ _ (hK w' r1 r2.grown)
end
end Go.Proofs.YtplgdpjbkdagfaaGreat
namespace Go.Proofs.YtplgdpjbkdagfaaGreat
set_option maxRecDepth 100000
open Go.ChangeShapes Go.WideShapes Go.ChangeAt Go.RowKit
set_option linter.unusedVariables false
set_option linter.unusedSimpArgs false

/-- v is a slice of the call's own, from block base on, that holds xs. -/
def OwnL (w : World) (base : Nat) (e : TypeId) (v : Value) (xs : List Value) : Prop := w.ownsRow base e 1 v xs.length xs

theorem OwnL.nil (w : World) (base : Nat) (e : TypeId) : OwnL w base e (.slice none 0 0) [] := World.ownsRow_nil w base _ 1

theorem OwnL.form {w : World} {base : Nat} {e : TypeId} {v : Value} {xs : List Value} (h : OwnL w base e v xs) :
    ∃ A cap, v = .slice A xs.length cap ∧ xs.length ≤ cap ∧ cap ≤ maxLen ∧ (xs = [] ∨ ∃ g, A = some ⟨g, 0, none⟩ ∧ base ≤ g ∧ Own w g xs.length (fun i => xs[i]?.getD undef)) := by
  rcases h.2 with ⟨h1, h2⟩ | ⟨g, cap, cur, h1, hb, _, h2, h3, _⟩
  · exact ⟨none, 0, by rw [h1, h2], by omega, by omega, .inl (List.eq_nil_of_length_eq_zero h2)⟩
  · refine ⟨_, cap, h1, h2, h3, ?_⟩
    by_cases hx : xs = []
    · exact .inl hx
    · refine .inr ⟨g, rfl, hb, ?_⟩
      subst h1
      obtain ⟨g', hA, _, ho⟩ := Own.of_own (f := fun i => xs[i]?.getD undef) h (by cases xs with | nil => exact absurd rfl hx | cons a l => simp) (fun i hi => by rw [List.getElem?_eq_getElem hi]; rfl)
      injection hA with hA
      injection hA with hA
      subst hA
      exact ho

theorem OwnL.of_block {w w' : World} {base : Nat} {e : TypeId} {v : Value} {xs : List Value} (h : OwnL w base e v xs) (hs : w.heap.size ≤ w'.heap.size) (hb : ∀ k, v.ownBlock = some k → w'.heap[k]? = w.heap[k]?) : OwnL w' base e v xs := by
  refine ⟨h.1, ?_⟩
  rcases h.2 with h2 | ⟨g, cap, cur, hv, hg, hh, r⟩
  · exact Or.inl h2
  · exact Or.inr ⟨g, cap, cur, hv, hg, by rw [hb g (by rw [hv]; rfl)]; exact hh, r⟩

theorem OwnL.lt {w : World} {base : Nat} {e : TypeId} {v : Value} {xs : List Value} (h : OwnL w base e v xs) : ∀ k, v.ownBlock = some k → base ≤ k ∧ k < w.heap.size := World.ownsRow.lt h

theorem OwnL.below {w w' : World} {base : Nat} {e : TypeId} {v : Value} {xs : List Value} (h : OwnL w base e v xs) (hb : Below w.heap.size w w') : OwnL w' base e v xs :=
  h.of_block hb.size fun k hk => hb.block k (h.lt k hk).2
theorem OwnL.alloc {w : World} {base : Nat} {e : TypeId} {v : Value} {xs : List Value} (h : OwnL w base e v xs) (o : Obj) : OwnL (w.alloc o) base e v xs := h.below ((Below.refl _ _).alloc (Nat.le_refl _) o)
theorem OwnL.drew {w : World} {base : Nat} {e : TypeId} {v : Value} {xs : List Value} (h : OwnL w base e v xs) : OwnL w.drew base e v xs := h

/-- What an append leaves below. -/
theorem OwnL.grew {B w w' : World} {base : Nat} {e : TypeId} {v : Value} {xs : List Value} (h : OwnL w base e v xs) (hb : Below B.heap.size B w) (hB : B.heap.size ≤ base) (hg : w.grownBy w' v.ownBlock) : Below B.heap.size B w' :=
  hb.grown hg hb.size (fun k hk => Nat.le_trans hB (h.lt k hk).1)

theorem src_one {P : Program} {w : World} {tx e : TypeId} (ht : P.underlying tx = some (.slice e)) {g : Nat} {x : Value} (h1 : x.oneCell' = true) (hc : w.cell? ⟨g, 0, none⟩ = some x) (c : Nat) : Src P 1 tx (.slice (some ⟨g, 0, none⟩) 1 c) 1 [x] w :=
  Src.ofSlice w ht ⟨g, 0, none⟩ 1 c [x] (by simp) (fun j u hu => by
    cases j with
    | zero => simp at hu; subst hu; simpa [Addr.add] using hc
    | succ j => simp at hu) (by simpa using h1)

theorem wpList_appL {P : Program} {w : World} {ops : Array Oper} {rest : List Oper} {o : Oper} {a : Act} {Q : Exit → Act → World → Prop} (hgd : o.guard = none) (s x : Operand) (t tx : TypeId)
    (ho : o.op = .call { callee := .builtin .append, args := #[s, x], argTypes := #[t, tx] })
    (base : Nat) (e : TypeId) (z : Value) (bytes : Nat) (ht : P.underlying t = some (.slice e)) (hinfo : (P.info? e).map (fun i => (i.zero, i.size, i.bytes)) = some (some z, 1, bytes)) (hzs : z.cells.size = 1)
    (v : Value) (xs : List Value) (hv : a.eval s = v) (hown : OwnL w base e v xs) (X : Value) (hX : a.eval x = X) (news : List Value) (hs : Src P 1 tx X news.length news w)
    (h63 : xs.length + news.length ≤ maxLen) (hbytes : (xs.length + news.length) * bytes ≤ 140737488355328) (hbase : base ≤ w.heap.size)
    (hK : ∀ A cap w', OwnL w' base e (.slice A (xs.length + news.length) cap) (xs ++ news) → w.grownBy w' v.ownBlock → ((Value.slice A (xs.length + news.length) cap).ownBlock = v.ownBlock ∨ (Value.slice A (xs.length + news.length) cap).ownBlock = some w.heap.size) → wpList P ops Q rest (a.put o.dst (.slice A (xs.length + news.length) cap)) w') :
    wpList P ops Q (o :: rest) a w := by
  obtain ⟨i0, hi, hz0, hz1, hz2⟩ := info_parts hinfo
  refine wpList_app_src w hgd s x t tx ho base e i0 z bytes ht hi hz0 hz1 hz2 hzs v xs.length xs hv hown X hX news.length news hs h63 hbytes hbase ?_
  intro v' w' hown' hg _ hat
  obtain ⟨A, cap, rfl⟩ : ∃ A cap, v' = .slice A (xs.length + news.length) cap := by
    rcases hown'.2 with ⟨h1, h2⟩ | ⟨g, cap, _, h1, _⟩
    · exact ⟨none, 0, by rw [h1, h2]⟩
    · exact ⟨_, cap, h1⟩
  exact hK A cap w' (by unfold OwnL; rw [List.length_append]; exact hown') hg hat
end Go.Proofs.YtplgdpjbkdagfaaGreat
namespace Go.Proofs.YtplgdpjbkdagfaaGreat
set_option maxRecDepth 100000
set_option linter.unusedVariables false
set_option linter.unusedSimpArgs false

section
variable {P : Program} {ops : Array Oper} {Q : Exit → Act → World → Prop} {md : Region.Mode} {S R : World → Prop} {k : Nat}

/-- Whatever order is picked: S holds behind each operation, R as long as number k has not come. -/
def wpAnyK (P : Program) (md : Region.Mode) (ops : Array Oper) (Q : Exit → Act → World → Prop) (S R : World → Prop) (k : Nat) : Nat → Array Bool → Act → World → Prop
  | 0, listed, a, w => Region.ready md ops listed = [] ∧ Q .normal a w
  | fuel + 1, listed, a, w =>
    (Region.ready md ops listed = [] → Q .normal a w) ∧
    ∀ i ∈ Region.ready md ops listed, wpOp P ops Q i (fun a' w' => (S w' ∧ ((listed.setIfInBounds i true).getD k true = false → R w')) ∧ wpAnyK P md ops Q S R k fuel (listed.setIfInBounds i true) a' w') a w

theorem wpAny_of_K : ∀ (fuel : Nat) (listed : Array Bool) (a : Act) (w : World), wpAnyK P md ops Q S R k fuel listed a w → wpAny P md ops Q fuel listed a w
  | 0, _, _, _, h => h
  | fuel + 1, _, _, _, h => ⟨h.1, fun i hi => wpOp_mono (fun a' w' h' => wpAny_of_K fuel _ a' w' h'.2) (h.2 i hi)⟩

/-- Taken first: T is what its value hangs on; T follows from what is held wherever it has not come yet. -/
theorem wpAnyK_first {T : World → Prop} {I : Array Bool → Prop} {i : Nat} {oi : Oper} {v : Value} (hi : ops[i]? = some oi) (hsel : ∀ (j : Nat) (o : Oper) cs b, ops[j]? = some o → o.op ≠ .select cs b)
    (hQ : ∀ c a w, Q (.panic c) (a.put oi.dst v) w → Q (.panic c) a w) (hik : i ≠ k)
    (hT : ∀ l w, I l → S w → (l.getD k true = false → R w) → T w)
    (hI : ∀ l j, I l → i ∈ Region.ready md ops l → j ∈ Region.ready md ops l → j ≠ i → I (l.setIfInBounds j true)) :
    ∀ (fuel : Nat) (listed : Array Bool) (a : Act) (w : World), I listed →
      (∀ j oj, ops[j]? = some oj → j ≠ i → listed.getD j true = false → (∀ e ∈ oj.after, Region.binds md e = true → e.on ≠ i) → oi.apart ops oj = true) →
      i ∈ Region.ready md ops listed → YieldsIf P ops T oi v a → S w → (listed.getD k true = false → R w) →
      wpAnyK P md ops Q S R k fuel (listed.setIfInBounds i true) (a.put oi.dst v) w → wpAnyK P md ops Q S R k (fuel + 1) listed a w := by
  have hset : ∀ l : Array Bool, (l.setIfInBounds i true).getD k true = l.getD k true := fun l => getD_set_ne true hik
  intro fuel
  induction fuel with
  | zero =>
    intro listed a w hIl _ hr hy hS hR H
    refine ⟨fun h => (by rw [h] at hr; cases hr), fun j hj => ?_⟩
    by_cases hji : j = i
    · subst hji; exact hy.wpOp hi (hT listed w hIl hS hR) ⟨⟨hS, by rw [hset]; exact hR⟩, H⟩
    · have := ready_mono hj hji
      rw [H.1] at this
      cases this
  | succ fuel ih =>
    intro listed a w hIl hfree hr hy hS hR H
    refine ⟨fun h => (by rw [h] at hr; cases hr), fun j hj => ?_⟩
    by_cases hji : j = i
    · subst hji; exact hy.wpOp hi (hT listed w hIl hS hR) ⟨⟨hS, by rw [hset]; exact hR⟩, H⟩
    · have h1 := H.2 j (ready_mono hj hji)
      obtain ⟨hjun, oj, hoj, hall⟩ := mem_ready.1 hj
      have hnot : ∀ e ∈ oj.after, Region.binds md e = true → e.on ≠ i := fun e he hb heq => by
        have h1 := hall e he hb
        have h0 := (mem_ready.1 hr).1
        rw [heq] at h1
        rcases Nat.lt_or_ge i listed.size with h' | h'
        · simp [h'] at h0 h1; rw [h0] at h1; cases h1
        · simp [Array.getElem?_eq_none h'] at h1
      have h2 := wpOp_putIf hoj (hfree j oj hoj hji hjun hnot) (fun cs b => hsel i oi cs b hi) (fun cs b => hsel j oj cs b hoj) hQ hy h1
      have hfree' : ∀ k ok, ops[k]? = some ok → k ≠ i → (listed.setIfInBounds j true).getD k true = false →
          (∀ e ∈ ok.after, Region.binds md e = true → e.on ≠ i) → oi.apart ops ok = true := fun k ok hk hki hun hno => by
        refine hfree k ok hk hki ?_ hno
        by_cases hjk : j = k
        · subst hjk; exact hjun
        · rw [getD_set_ne true hjk] at hun; exact hun
      refine wpOp_mono (fun a' w' h3 => ?_) h2
      have hsw : (listed.setIfInBounds i true).setIfInBounds j true = (listed.setIfInBounds j true).setIfInBounds i true := Array.setIfInBounds_comm _ _ (Ne.symm hji)
      have hR' : (listed.setIfInBounds j true).getD k true = false → R w' := fun e => h3.2.1.2 (by rw [hsw, hset]; exact e)
      refine ⟨⟨h3.2.1.1, hR'⟩, ih (listed.setIfInBounds j true) a' w' (hI _ _ hIl hr hj hji) hfree' (ready_mono hr (Ne.symm hji)) h3.1 h3.2.1.1 hR' ?_⟩
      rw [← hsw]
      exact h3.2.2

/-- One whose value hangs on what stays. -/
theorem wpAnyK_take {i : Nat} {oi : Oper} {v : Value} {fuel : Nat} {listed : Array Bool} {a : Act} {w : World} (hi : ops[i]? = some oi)
    (hs : Region.noSelect ops = true) (hf : Region.free md ops listed i = true) (hr : (Region.ready md ops listed).contains i = true)
    (hQ : ∀ c a w, Q (.panic c) (a.put oi.dst v) w → Q (.panic c) a w) (hik : i ≠ k) (hy : YieldsIf P ops S oi v a) (hS : S w) (hR : listed.getD k true = false → R w)
    (h : wpAnyK P md ops Q S R k fuel (listed.setIfInBounds i true) (a.put oi.dst v) w) : wpAnyK P md ops Q S R k (fuel + 1) listed a w :=
  wpAnyK_first (T := S) (I := fun _ => True) hi (Region.noSelect_spec hs) hQ hik (fun _ _ _ h _ => h) (fun _ _ _ _ _ _ => trivial) fuel listed a w trivial (Region.free_spec hi hf) (by simpa using hr) hy hS hR h

/-- Does number m wait for number i? -/
def waits (md : Region.Mode) (ops : Array Oper) (m i : Nat) : Bool := (ops[m]?.map fun o => o.after.any fun e => Region.binds md e && e.on == i).getD false
theorem waits_not {m i : Nat} (h : waits md ops m i = true) {l : Array Bool} (hm : m ∈ Region.ready md ops l) : l.getD i false = true := by
  obtain ⟨_, o, ho, hall⟩ := mem_ready.1 hm
  unfold waits at h
  rw [ho] at h
  simp only [Option.map_some, Option.getD_some, Array.any_eq_true, Bool.and_eq_true, beq_iff_eq] at h
  obtain ⟨j, hj, hb, he⟩ := h
  rw [← he]
  exact hall _ (Array.getElem_mem hj) hb
theorem not_listed {l : Array Bool} {i : Nat} (h : l.getD i true = false) : l.getD i false = false := by
  rcases Nat.lt_or_ge i l.size with h' | h'
  · simp [h'] at h ⊢; exact h
  · simp [Array.getElem?_eq_none h'] at h

/-- One whose value hangs on what k turns: number m waits for it, and k waits for m. -/
theorem wpAnyK_early {i m : Nat} {oi : Oper} {v : Value} {fuel : Nat} {listed : Array Bool} {a : Act} {w : World} (hi : ops[i]? = some oi)
    (hs : Region.noSelect ops = true) (hf : Region.free md ops listed i = true) (hr : (Region.ready md ops listed).contains i = true)
    (hQ : ∀ c a w, Q (.panic c) (a.put oi.dst v) w → Q (.panic c) a w) (hik : i ≠ k) (hm : waits md ops m i = true) (hk : waits md ops k m = true) (hlm : listed.getD m true = false) (hlk : listed.getD k true = false)
    (hy : YieldsIf P ops (fun W => S W ∧ R W) oi v a) (hS : S w) (hR : R w)
    (h : wpAnyK P md ops Q S R k fuel (listed.setIfInBounds i true) (a.put oi.dst v) w) : wpAnyK P md ops Q S R k (fuel + 1) listed a w := by
  refine wpAnyK_first (T := fun W => S W ∧ R W) (I := fun l => l.getD m true = false ∧ l.getD k true = false) hi (Region.noSelect_spec hs) hQ hik (fun l w hl hS hR => ⟨hS, hR hl.2⟩) (fun l j hl hri hrj hne => ?_) fuel listed a w ⟨hlm, hlk⟩ (Region.free_spec hi hf) (by simpa using hr) hy hS (fun _ => hR) h
  have hjm : j ≠ m := fun e => by
    subst e
    have h1 := waits_not hm hrj
    have h2 := not_listed (mem_ready.1 hri).1
    rw [h1] at h2; cases h2
  have hjk : j ≠ k := fun e => by
    subst e
    have h1 := waits_not hk hrj
    have h2 := not_listed hl.1
    rw [h1] at h2; cases h2
  exact ⟨by rw [getD_set_ne true hjm]; exact hl.1, by rw [getD_set_ne true hjk]; exact hl.2⟩

/-- Just one may come up. -/
theorem wpAnyK_one {i : Nat} {o : Oper} {fuel : Nat} {listed : Array Bool} {a : Act} {w : World} (hr : Region.ready md ops listed = [i]) (ho : ops[i]? = some o)
    (h : ∀ K' : Act → World → Prop, Shut (∀ a w, S w → ((listed.setIfInBounds i true).getD k true = false → R w) → wpAnyK P md ops Q S R k fuel (listed.setIfInBounds i true) a w → K' a w) → if Region.wanted o (yielded ops a.tmps) = true then Oper.wp P o a w K' Q else K' (a.put o.dst undef) w) :
    wpAnyK P md ops Q S R k (fuel + 1) listed a w :=
  ⟨fun h0 => absurd (hr ▸ h0) (by simp), fun j hj => by
    rw [hr, List.mem_singleton] at hj
    subst hj
    exact wpOp_step ho (fun K' hK => h K' (fun a w hS hR hW => hK a w ⟨⟨hS, hR⟩, hW⟩))⟩

theorem wpAnyK_done {listed : Array Bool} {a : Act} {w : World} (hr : Region.ready md ops listed = []) (h : Q .normal a w) :
    ∀ fuel, wpAnyK P md ops Q S R k fuel listed a w
  | 0 => ⟨hr, h⟩
  | _ + 1 => ⟨fun _ => h, by rw [hr]; simp⟩

theorem wp_region_K (S R : World → Prop) (k : Nat) {id : Nat} {a : Act} {w : World} (hm : P.follows .mixedOrders = true)
    (h : wpAnyK P .any ops Q S R k ops.size (Array.replicate ops.size false) a w.drew) : (Code.region id ops true).wp P Q a w :=
  wp_region_any hm (wpAny_of_K _ _ _ _ h)

/-- The load of a whole struct, under what is held. -/
theorem yieldsIf_load_row {T : World → Prop} {o : Oper} {a : Act} (ty : TypeId) (x : Operand) (g : Nat) (t : TypeId) (cs : Array Value) (fr : Nat × Nat) (hgd : o.guard = none) (ho : o.op = .load ty x)
    (hx : a.eval x = .pointer (some ⟨g, 0, none⟩)) (hg : ∀ W, T W → W.heap[g]? = some (.cells cs t fr))
    (hu : (match P.underlying ty with | some (.struct _) => true | some (.array _ _) => true | _ => false) = true) (hi : (P.info? ty).map (·.size) = some cs.size) :
    YieldsIf P ops T o (.agg cs) a := by
  refine Or.inl ⟨by simp [Region.wanted, hgd], fun w hw => ?_⟩
  obtain ⟨d, hd, hd'⟩ : ∃ d, P.underlying ty = some d ∧ (match d with | .struct _ | .array _ _ => true | _ => false) = true := by
    cases h : P.underlying ty with
    | none => rw [h] at hu; cases hu
    | some d => exact ⟨d, rfl, by rw [h] at hu; cases d <;> first | rfl | exact hu⟩
  unfold execOp
  simp only [ho, hx, Instr.loadAt, Instr.sureAddr, Sem.run_bind, Sem.run_pure, Result.andThen_ok, run_loadVar_row w g t ty cs fr d (hg w hw) hd (by cases d <;> first | rfl | exact hd') hi]

theorem yieldsIf_load_row_g {T : World → Prop} {o : Oper} {a : Act} (ty : TypeId) (x : Operand) (g : Nat) (t : TypeId) (cs : Array Value) (fr : Nat × Nat) (hw : Region.wanted o (yielded ops a.tmps) = true) (ho : o.op = .load ty x)
    (hx : a.eval x = .pointer (some ⟨g, 0, none⟩)) (hg : ∀ W, T W → W.heap[g]? = some (.cells cs t fr))
    (hu : (match P.underlying ty with | some (.struct _) => true | some (.array _ _) => true | _ => false) = true) (hi : (P.info? ty).map (·.size) = some cs.size) :
    YieldsIf P ops T o (.agg cs) a := by
  refine Or.inl ⟨hw, fun w hw' => ?_⟩
  obtain ⟨d, hd, hd'⟩ : ∃ d, P.underlying ty = some d ∧ (match d with | .struct _ | .array _ _ => true | _ => false) = true := by
    cases h : P.underlying ty with
    | none => rw [h] at hu; cases hu
    | some d => exact ⟨d, rfl, by rw [h] at hu; cases d <;> first | rfl | exact hu⟩
  unfold execOp
  simp only [ho, hx, Instr.loadAt, Instr.sureAddr, Sem.run_bind, Sem.run_pure, Result.andThen_ok, run_loadVar_row w g t ty cs fr d (hg w hw') hd (by cases d <;> first | rfl | exact hd') hi]

/-- A struct is built, what it is laid ahead. -/
theorem step_build {o : Oper} {a : Act} {w : World} {K : Act → World → Prop} {E : Prop} (t : TypeId) (parts : Array (Nat × Operand)) (l : List (Nat × Value)) (cells : Array Value) (hgd : o.guard = none) (ho : o.op = .build t parts)
    (hl : (parts.map fun (i, x) => (i, a.eval x)).toList = l) (hf : P.built t l = some cells)
    (h : K (a.put o.dst (.agg cells)) w) : if Region.wanted o (yielded ops a.tmps) = true then Oper.wp P o a w K Q else E := by
  have hw : Region.wanted o (yielded ops a.tmps) = true := by simp [Region.wanted, hgd]
  rw [if_pos hw]
  refine wp_build t parts ho (by rw [hl, hf]; rfl) ?_
  rw [hl, hf]
  exact h

/-- One value is appended to a slice of the call's own. -/
theorem step_appL1 {o : Oper} {a : Act} {w : World} {K : Act → World → Prop} {E : Prop} (s x : Operand) (t : TypeId) (base : Nat) (e : TypeId) (z : Value) (bytes : Nat) (v : Value) (xs : List Value) (g c : Nat) (y : Value) (H : Nat)
    (hgd : o.guard = none) (ho : o.op = .call { callee := .builtin .append, args := #[s, x], argTypes := #[t, t] })
    (ht : P.underlying t = some (.slice e)) (hinfo : (P.info? e).map (fun i => (i.zero, i.size, i.bytes)) = some (some z, 1, bytes)) (hzs : z.cells.size = 1)
    (hs : a.eval s = v) (hown : OwnL w base e v xs) (hx : a.eval x = .slice (some ⟨g, 0, none⟩) 1 c) (hy : w.cell? ⟨g, 0, none⟩ = some y) (hy1 : y.oneCell' = true)
    (h63 : xs.length + 1 ≤ maxLen) (hbytes : (xs.length + 1) * bytes ≤ 140737488355328) (hbase : base ≤ w.heap.size) (hH : w.heap.size = H)
    (h : ∀ g' cap w', OwnL w' base e (.slice (some ⟨g', 0, none⟩) (xs.length + 1) cap) (xs ++ [y]) → w.grownBy w' v.ownBlock → (v.ownBlock = some g' ∨ g' = H) → g' < w'.heap.size → K (a.put o.dst (.slice (some ⟨g', 0, none⟩) (xs.length + 1) cap)) w') :
    if Region.wanted o (yielded ops a.tmps) = true then Oper.wp P o a w K Q else E := by
  obtain ⟨i0, hi, hz0, hz1, hz2⟩ := info_parts hinfo
  refine step_append_lies w hgd s x t ho base e i0 z 1 bytes ht hi hz0 hz1 hz2 hzs Nat.one_pos v xs.length xs hs hown ⟨g, 0, none⟩ 1 c [y] hx rfl (fun j u hu => ?_) (fun u hu => ?_) Nat.one_pos h63 hbytes hbase H hH ?_
  · cases j with
    | zero => simp at hu; subst hu; simpa [Addr.add] using hy
    | succ j => simp at hu
  · rw [List.mem_singleton] at hu; subst hu; exact hy1
  · intro g' cap w' h1 h2 h3 h4
    exact h g' cap w' (by unfold OwnL; rw [List.length_append]; exact h1) h2 h3 h4

/-! ### A quiet call taken first -/
theorem wpOp_inv {Y : Act → Prop} {j : Nat} {oj : Oper} {K : Act → World → Prop} {a : Act} {w : World} (hj : ops[j]? = some oj) (h1 : ∀ u, Y (a.put oj.dst u)) (h2 : ∀ d u, Y (({ a with defers := d :: a.defers } : Act).put oj.dst u))
    (h : wpOp P ops Q j K a w) : wpOp P ops Q j (fun a' w' => Y a' ∧ K a' w') a w := by
  unfold wpOp at *
  simp only [hj] at *
  by_cases hw : Region.wanted oj (yielded ops a.tmps) = true
  · rw [if_pos hw] at h ⊢
    rcases h with h | h
    · left
      unfold Oper.wp at *
      revert h
      generalize (execOp a.eval oj).run P w = r
      intro h
      cases r with
      | ok n w' =>
        cases n with
        | value u => exact ⟨h1 u, h⟩
        | skip => exact ⟨h1 _, h⟩
        | defer d => exact ⟨h2 d _, h⟩
        | enter f args =>
          refine Calls.mono h fun e w'' he => ?_
          cases e with
          | returned u => exact ⟨h1 u, he⟩
          | panicked c => exact he
          | outgrown => exact he
        | row row args => exact Rows.mono h fun u w'' he => ⟨h1 u, he⟩
        | _ => exact h
      | halt x w' => cases x <;> exact h
    · exact .inr h
  · rw [if_neg hw] at h ⊢
    exact ⟨h1 _, h⟩

/-- In state 'a', in every world that meets 'S', operation 'o' calls what hands back 'v' and leaves the world as it was. -/
def YieldsQ (P : Program) (ops : Array Oper) (S : World → Prop) (o : Oper) (v : Value) (a : Act) : Prop :=
  Region.wanted o (yielded ops a.tmps) = true ∧ ∀ w, S w → ∃ f args, (execOp a.eval o).run P w = .ok (.enter f args) w ∧ Calls P f args w fun e w' => e = .returned v ∧ w = w'
theorem YieldsQ.of_same {o : Oper} {v : Value} {a a' : Act} {S : World → Prop} (hy : YieldsQ P ops S o v a) (he : execOp a'.eval o = execOp a.eval o)
    (hw : Region.wanted o (yielded ops a'.tmps) = Region.wanted o (yielded ops a.tmps)) : YieldsQ P ops S o v a' := by
  unfold YieldsQ at *
  rw [he, hw]
  exact hy
theorem YieldsQ.wpOp {i : Nat} {o : Oper} {v : Value} {a : Act} (hi : ops[i]? = some o) (hy : YieldsQ P ops S o v a) {K : Act → World → Prop} {w : World} (hS : S w) (h : K (a.put o.dst v) w) : wpOp P ops Q i K a w := by
  unfold Go.wpOp
  obtain ⟨hw, hv⟩ := hy
  obtain ⟨f, args, hr, hc⟩ := hv w hS
  simp only [hi, hw, if_true]
  left
  unfold Oper.wp
  rw [hr]
  refine Calls.mono hc ?_
  rintro e w' ⟨rfl, rfl⟩
  exact h

theorem wpOp_putQ {j : Nat} {oi oj : Oper} {v : Value} (hj : ops[j]? = some oj) (hap : oi.apart ops oj = true)
    (hsi : ∀ cs b, oi.op ≠ .select cs b) (hsj : ∀ cs b, oj.op ≠ .select cs b) (hQ : ∀ c a w, Q (.panic c) (a.put oi.dst v) w → Q (.panic c) a w) {K : Act → World → Prop} {a : Act} {w : World}
    (hy : YieldsQ P ops S oi v a) (h : wpOp P ops Q j K (a.put oi.dst v) w) : wpOp P ops Q j (fun a' w' => YieldsQ P ops S oi v a' ∧ K (a'.put oi.dst v) w') a w := by
  obtain ⟨_, _, h3⟩ := Oper.apart_spec hap
  have hF : YieldsIf P ops (fun _ => False) oi v a := .inl ⟨hy.1, fun _ h => h.elim⟩
  have h' := wpOp_putIf hj hap hsi hsj hQ hF h
  have h'' := wpOp_inv (Y := YieldsQ P ops S oi v) hj
    (fun u => hy.of_same (execOp_put oi hsi a oj.dst u h3) (wanted_put oi a oj.dst u h3))
    (fun d u => (show YieldsQ P ops S oi v ({ a with defers := d :: a.defers } : Act) from hy.of_same rfl rfl).of_same (execOp_put oi hsi _ oj.dst u h3) (wanted_put oi _ oj.dst u h3)) h'
  exact wpOp_mono (fun a' w' q => ⟨q.1, q.2.2⟩) h''

theorem wpAnyK_firstQ {T : World → Prop} {I : Array Bool → Prop} {i : Nat} {oi : Oper} {v : Value} (hi : ops[i]? = some oi) (hsel : ∀ (j : Nat) (o : Oper) cs b, ops[j]? = some o → o.op ≠ .select cs b)
    (hQ : ∀ c a w, Q (.panic c) (a.put oi.dst v) w → Q (.panic c) a w) (hik : i ≠ k)
    (hT : ∀ l w, I l → S w → (l.getD k true = false → R w) → T w)
    (hI : ∀ l j, I l → i ∈ Region.ready md ops l → j ∈ Region.ready md ops l → j ≠ i → I (l.setIfInBounds j true)) :
    ∀ (fuel : Nat) (listed : Array Bool) (a : Act) (w : World), I listed →
      (∀ j oj, ops[j]? = some oj → j ≠ i → listed.getD j true = false → (∀ e ∈ oj.after, Region.binds md e = true → e.on ≠ i) → oi.apart ops oj = true) →
      i ∈ Region.ready md ops listed → YieldsQ P ops T oi v a → S w → (listed.getD k true = false → R w) →
      wpAnyK P md ops Q S R k fuel (listed.setIfInBounds i true) (a.put oi.dst v) w → wpAnyK P md ops Q S R k (fuel + 1) listed a w := by
  have hset : ∀ l : Array Bool, (l.setIfInBounds i true).getD k true = l.getD k true := fun l => getD_set_ne true hik
  intro fuel
  induction fuel with
  | zero =>
    intro listed a w hIl _ hr hy hS hR H
    refine ⟨fun h => (by rw [h] at hr; cases hr), fun j hj => ?_⟩
    by_cases hji : j = i
    · subst hji; exact hy.wpOp hi (hT listed w hIl hS hR) ⟨⟨hS, by rw [hset]; exact hR⟩, H⟩
    · have := ready_mono hj hji
      rw [H.1] at this
      cases this
  | succ fuel ih =>
    intro listed a w hIl hfree hr hy hS hR H
    refine ⟨fun h => (by rw [h] at hr; cases hr), fun j hj => ?_⟩
    by_cases hji : j = i
    · subst hji; exact hy.wpOp hi (hT listed w hIl hS hR) ⟨⟨hS, by rw [hset]; exact hR⟩, H⟩
    · have h1 := H.2 j (ready_mono hj hji)
      obtain ⟨hjun, oj, hoj, hall⟩ := mem_ready.1 hj
      have hnot : ∀ e ∈ oj.after, Region.binds md e = true → e.on ≠ i := fun e he hb heq => by
        have h1 := hall e he hb
        have h0 := (mem_ready.1 hr).1
        rw [heq] at h1
        rcases Nat.lt_or_ge i listed.size with h' | h'
        · simp [h'] at h0 h1; rw [h0] at h1; cases h1
        · simp [Array.getElem?_eq_none h'] at h1
      have h2 := wpOp_putQ hoj (hfree j oj hoj hji hjun hnot) (fun cs b => hsel i oi cs b hi) (fun cs b => hsel j oj cs b hoj) hQ hy h1
      have hfree' : ∀ k ok, ops[k]? = some ok → k ≠ i → (listed.setIfInBounds j true).getD k true = false →
          (∀ e ∈ ok.after, Region.binds md e = true → e.on ≠ i) → oi.apart ops ok = true := fun k ok hk hki hun hno => by
        refine hfree k ok hk hki ?_ hno
        by_cases hjk : j = k
        · subst hjk; exact hjun
        · rw [getD_set_ne true hjk] at hun; exact hun
      refine wpOp_mono (fun a' w' h3 => ?_) h2
      have hsw : (listed.setIfInBounds i true).setIfInBounds j true = (listed.setIfInBounds j true).setIfInBounds i true := Array.setIfInBounds_comm _ _ (Ne.symm hji)
      have hR' : (listed.setIfInBounds j true).getD k true = false → R w' := fun e => h3.2.1.2 (by rw [hsw, hset]; exact e)
      refine ⟨⟨h3.2.1.1, hR'⟩, ih (listed.setIfInBounds j true) a' w' (hI _ _ hIl hr hj hji) hfree' (ready_mono hr (Ne.symm hji)) h3.1 h3.2.1.1 hR' ?_⟩
      rw [← hsw]
      exact h3.2.2

/-- A quiet call, whose answer hangs on what stays. -/
theorem wpAnyK_takeQ {i : Nat} {oi : Oper} {v : Value} {fuel : Nat} {listed : Array Bool} {a : Act} {w : World} (hi : ops[i]? = some oi)
    (hs : Region.noSelect ops = true) (hf : Region.free md ops listed i = true) (hr : (Region.ready md ops listed).contains i = true)
    (hQ : ∀ c a w, Q (.panic c) (a.put oi.dst v) w → Q (.panic c) a w) (hik : i ≠ k) (hy : YieldsQ P ops S oi v a) (hS : S w) (hR : listed.getD k true = false → R w)
    (h : wpAnyK P md ops Q S R k fuel (listed.setIfInBounds i true) (a.put oi.dst v) w) : wpAnyK P md ops Q S R k (fuel + 1) listed a w :=
  wpAnyK_firstQ (T := S) (I := fun _ => True) hi (Region.noSelect_spec hs) hQ hik (fun _ _ _ h _ => h) (fun _ _ _ _ _ _ => trivial) fuel listed a w trivial (Region.free_spec hi hf) (by simpa using hr) hy hS hR h

theorem wpAnyK_two {i j : Nat} {o o2 : Oper} {fuel : Nat} {listed : Array Bool} {a : Act} {w : World} (hr : Region.ready md ops listed = [i, j]) (ho : ops[i]? = some o) (ho2 : ops[j]? = some o2)
    (h : ∀ K' : Act → World → Prop, Shut (∀ a w, S w → ((listed.setIfInBounds i true).getD k true = false → R w) → wpAnyK P md ops Q S R k fuel (listed.setIfInBounds i true) a w → K' a w) → if Region.wanted o (yielded ops a.tmps) = true then Oper.wp P o a w K' Q else K' (a.put o.dst undef) w)
    (h2 : ∀ K' : Act → World → Prop, Shut (∀ a w, S w → ((listed.setIfInBounds j true).getD k true = false → R w) → wpAnyK P md ops Q S R k fuel (listed.setIfInBounds j true) a w → K' a w) → if Region.wanted o2 (yielded ops a.tmps) = true then Oper.wp P o2 a w K' Q else K' (a.put o2.dst undef) w) :
    wpAnyK P md ops Q S R k (fuel + 1) listed a w :=
  ⟨fun h0 => absurd (hr ▸ h0) (by simp), fun q hq => by
    rw [hr] at hq
    rcases List.mem_cons.1 hq with e | hq
    · subst e; exact wpOp_step ho (fun K' hK => h K' (fun a w hS hR hW => hK a w ⟨⟨hS, hR⟩, hW⟩))
    · rw [List.mem_singleton] at hq
      subst hq; exact wpOp_step ho2 (fun K' hK => h2 K' (fun a w hS hR hW => hK a w ⟨⟨hS, hR⟩, hW⟩))⟩
end
end Go.Proofs.YtplgdpjbkdagfaaGreat
namespace Go.Proofs.YtplgdpjbkdagfaaGreat
set_option maxRecDepth 100000
open Go.ChangeShapes Go.WideShapes Go.ChangeAt Go.RowKit
set_option linter.unusedVariables false

theorem lt_of_row' {w : World} {b : Nat} {c : Obj} (h : w.heap[b]? = some c) : b < w.heap.size := by
  rcases Nat.lt_or_ge b w.heap.size with h' | h'
  · exact h'
  · rw [Array.getElem?_eq_none h'] at h; cases h
theorem step_store_row' {P : Program} {ops : Array Oper} {o : Oper} {a : Act} {w : World} {K : Act → World → Prop} {Q : Exit → Act → World → Prop} {E : Prop} (hgd : o.guard = none) (ty : TypeId) (x y : Operand) (ho : o.op = .store ty x y)
    (g : Nat) (cells : Array Value) (hx : a.eval x = .pointer (some ⟨g, 0, none⟩)) (hy : a.eval y = .agg cells)
    (t : TypeId) (old : Array Value) (hg : w.heap[g]? = some (.cells old t (0, 0))) (hi : (P.info? ty).map (·.size) = some cells.size)
    (hold : old.size = cells.size) (h1 : cells.all (·.oneCell') = true)
    (h : K (a.put o.dst undef) (w.setRow g cells)) : if Region.wanted o (yielded ops a.tmps) = true then Oper.wp P o a w K Q else E := by
  rw [if_pos (by simp [Region.wanted, hgd])]
  exact wp_store_row ty x y ho g cells hx hy t old hg hi hold h1 h
theorem row_set {w : World} {g : Nat} {old cells : Array Value} {t : TypeId} {fr : Nat × Nat} (h : w.heap[g]? = some (.cells old t fr)) : (w.setRow g cells).heap[g]? = some (.cells cells t fr) := by
  obtain ⟨hlt, hx⟩ := Array.getElem?_eq_some_iff.1 h
  unfold World.setRow
  simp [hlt, hx, Array.getElem_modify]
theorem cell_of_row' {w : World} {g j : Nat} {cells : Array Value} {t : TypeId} {fr : Nat × Nat} (h : w.heap[g]? = some (.cells cells t fr)) : w.cell? ⟨g, j, none⟩ = cells[j]? := by
  simp [World.cell?, h]
end Go.Proofs.YtplgdpjbkdagfaaGreat
