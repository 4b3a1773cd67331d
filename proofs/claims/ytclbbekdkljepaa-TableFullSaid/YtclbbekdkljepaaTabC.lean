/- package table: what a table is in memory; its lookups. -/
import Derived.Test.YtclbbekdkljepaaTabB
import Derived.Test.YtclbbekdkljepaaFoldKey
import Derived.Test.YtclbbekdkljepaaOwnL
namespace Go.Proofs.Ytclbbekdkljepaa
open Go.ChangeShapes Go.WideShapes Go.ChangeAt Go.RowKit
set_option linter.unusedVariables false

/-- A module as a table keeps it: what is known of it, and the block where it lies. -/
structure Md where
  id : Int
  key : ByteArray
  base : Int
  handles : Int
  index : Int
  att : Bool
  at' : Nat

def Md.modC (m : Md) : Array Value := #[.int .i64 m.id, .string m.key, .int .u64 m.base, .int .i64 m.handles, .int .i64 m.index, .bool m.att]
def Md.cells (m : Md) : Array Value := #[.int .i64 m.id, .string m.key, .int .u64 m.base, .int .i64 m.handles, .int .i64 m.index, .bool m.att, .int .u64 0, .int .i64 0, .int .i64 0, .int .i64 0, .int .i64 0, .int .i64 0, .int .i64 0, .int .i64 0, .int .i64 0, .int .i64 0, .int .i64 0, .int .i64 0, .int .i64 0, .int .i64 0, .int .i64 0, .int .i64 0, .int .i64 0, .int .i64 0, .int .i64 0, .int .i64 0, .int .i64 0, .int .i64 0, .int .i64 0, .int .i64 0, .int .i64 0, .int .i64 0, .int .i64 0, .int .i64 0, .int .i64 0, .int .i64 0, .int .i64 0, .int .i64 0, .int .i64 0, .int .i64 0, .int .i64 0, .int .i64 0, .int .i64 0, .int .i64 0, .slice none 0 0, .slice none 0 0, .int .i64 0, .slice none 0 0, .slice none 0 0, .slice none 0 0, .slice none 0 0, .slice none 0 0, .slice none 0 0, .bool false, .int .i64 0, .slice none 0 0]
theorem Md.cells_cat (m : Md) : m.cells = m.modC ++ peZ := by kernel_rfl
def Md.ptr (m : Md) : Value := .pointer (some ⟨m.at', 0, none⟩)

theorem Md.cells_size (m : Md) : m.cells.size = 56 := rfl
theorem Md.c0 (m : Md) : m.cells[0]? = some (.int .i64 m.id) := rfl
theorem Md.c1 (m : Md) : m.cells[1]? = some (.string m.key) := rfl
theorem Md.c2 (m : Md) : m.cells[2]? = some (.int .u64 m.base) := rfl
theorem Md.c3 (m : Md) : m.cells[3]? = some (.int .i64 m.handles) := rfl
theorem Md.c4 (m : Md) : m.cells[4]? = some (.int .i64 m.index) := rfl
theorem Md.c5 (m : Md) : m.cells[5]? = some (.bool m.att) := rfl

/-- The table in block B: the last number given, its modules, those that are attached; all of it from block bs on. -/
structure TabAt (u : World) (bs B : Nat) (last : Int) (L : List Md) (att : List Int) (sv av : Value) : Prop where
  le : bs ≤ B
  tab : u.heap[B]? = some (.cells #[.int .i64 last, sv, av] 68 (0, 0))
  mods : OwnL u bs 69 sv (L.map Md.ptr)
  atts : OwnL u bs 3 av (att.map (Value.int .i64))
  ent : ∀ m ∈ L, bs ≤ m.at' ∧ m.at' ≠ B ∧ some m.at' ≠ sv.ownBlock ∧ some m.at' ≠ av.ownBlock ∧ u.heap[m.at']? = some (.cells m.cells 72 (0, 0))
  apart : (L.map Md.at').Nodup
  sB : sv.ownBlock ≠ some B
  aB : av.ownBlock ≠ some B
  sa : ∀ k, sv.ownBlock = some k → av.ownBlock ≠ some k
  most : L.length ≤ 32

theorem TabAt.lt {u : World} {bs B : Nat} {last : Int} {L : List Md} {att : List Int} {sv av : Value} (h : TabAt u bs B last L att sv av) : B < u.heap.size := (Array.getElem?_eq_some_iff.1 h.tab).1

theorem TabAt.of_block {u u' : World} {bs B : Nat} {last : Int} {L : List Md} {att : List Int} {sv av : Value} (h : TabAt u bs B last L att sv av) (hs : u.heap.size ≤ u'.heap.size)
    (hb : ∀ k, bs ≤ k → k < u.heap.size → u'.heap[k]? = u.heap[k]?) : TabAt u' bs B last L att sv av := by
  refine ⟨h.le, (hb B h.le h.lt).trans h.tab, h.mods.of_block hs (fun k hk => hb k (h.mods.lt k hk).1 (h.mods.lt k hk).2), h.atts.of_block hs (fun k hk => hb k (h.atts.lt k hk).1 (h.atts.lt k hk).2), fun m hm => ?_, h.apart, h.sB, h.aB, h.sa, h.most⟩
  obtain ⟨a, b, c, d, e⟩ := h.ent m hm
  exact ⟨a, b, c, d, (hb _ a (Array.getElem?_eq_some_iff.1 e).1).trans e⟩
theorem TabAt.below {u u' : World} {bs B : Nat} {last : Int} {L : List Md} {att : List Int} {sv av : Value} (h : TabAt u bs B last L att sv av) (hb : Below u.heap.size u u') : TabAt u' bs B last L att sv av :=
  h.of_block hb.size fun k _ hk => hb.block k hk

/-- Block c is none of the table's. -/
structure Far (c B : Nat) (L : List Md) (sv av : Value) : Prop where
  b : c ≠ B
  m : ∀ m ∈ L, c ≠ m.at'
  s : some c ≠ sv.ownBlock
  a : some c ≠ av.ownBlock
/-- What is none of the table's is as it was, and none of its still. -/
def Aside' (u w' : World) (B : Nat) (L L' : List Md) (sv av sv' av' : Value) : Prop := ∀ c, c < u.heap.size → Far c B L sv av → w'.heap[c]? = u.heap[c]? ∧ Far c B L' sv' av'
theorem Aside'.refl (u : World) (B : Nat) (L : List Md) (sv av : Value) : Aside' u u B L L sv av sv av := fun c _ h => ⟨rfl, h⟩
theorem Aside'.trans {u v w : World} {B : Nat} {L L' L'' : List Md} {sv av sv' av' sv'' av'' : Value} (hs : u.heap.size ≤ v.heap.size) (h1 : Aside' u v B L L' sv av sv' av') (h2 : Aside' v w B L' L'' sv' av' sv'' av'') : Aside' u w B L L'' sv av sv'' av'' :=
  fun c hc hf => by
    obtain ⟨a1, a2⟩ := h1 c hc hf
    obtain ⟨b1, b2⟩ := h2 c (Nat.lt_of_lt_of_le hc hs) a2
    exact ⟨b1.trans a1, b2⟩
theorem Aside'.below {u v : World} {B : Nat} {L : List Md} {sv av : Value} (h : Below u.heap.size u v) : Aside' u v B L L sv av sv av := fun c hc hf => ⟨h.block c hc, hf⟩

/-- New: an empty table. -/
theorem tabNew (w : World) : Calls Try.prog 6 #[] w fun e w' => e = .returned (.pointer (some ⟨w.heap.size, 0, none⟩)) ∧ TabAt w' w.heap.size w.heap.size 0 [] [] (.slice none 0 0) (.slice none 0 0) ∧ Below w.heap.size w w' := by
  go_enter Try.func6, Try.ntmps6
  go_wp2
  go_ret
  refine ⟨rfl, ⟨Nat.le_refl _, heap_alloc_new _ _, OwnL.nil _ _ _, OwnL.nil _ _ _, fun m hm => by simp at hm, List.nodup_nil, by simp [Value.ownBlock], by simp [Value.ownBlock], fun k hk => by simp [Value.ownBlock] at hk, by simp⟩, (Below.refl _ _).alloc (Nat.le_refl _) _⟩

/-- Which module has that number. -/
def ofL (L : List Md) (id : Int) : Option Md := L.find? (fun m => m.id == id)

theorem ofL_none {L : List Md} {id : Int} (h : ∀ j (hj : j < L.length), L[j].id ≠ id) : ofL L id = none :=
  List.find?_eq_none.2 fun m hm => by obtain ⟨j, hj, rfl⟩ := List.getElem_of_mem hm; simpa using h j hj
theorem ofL_at {L : List Md} {id : Int} (k : Nat) (hk : k < L.length) (hid : L[k].id = id) (h : ∀ j (hj : j < k), (L[j]'(by omega)).id ≠ id) : ofL L id = some L[k] :=
  List.find?_eq_some_iff_getElem.2 ⟨by simpa using hid, k, hk, rfl, fun j hj => by simpa using h j hj⟩

/-- What 'of' tells: where the module lies. -/
def ofV (L : List Md) (id : Int) : Value := match ofL L id with | some m => m.ptr | none => .pointer none
theorem ofV_none {L : List Md} {id : Int} (h : ofL L id = none) : ofV L id = .pointer none := by unfold ofV; rw [h]
theorem ofV_some {L : List Md} {id : Int} {m : Md} (h : ofL L id = some m) : ofV L id = .pointer (some ⟨m.at', 0, none⟩) := by unfold ofV; rw [h]; rfl

/-- A module's block, read through the table's list. -/
theorem TabAt.at_k {u : World} {bs B : Nat} {last : Int} {L : List Md} {att : List Int} {sv av : Value} (h : TabAt u bs B last L att sv av) {A : Option Addr} {c : Nat} (hs : sv = .slice A L.length c) (k : Nat) (hk : k < L.length) :
    ∃ g, A = some ⟨g, 0, none⟩ ∧ u.cell? ⟨g, k, none⟩ = some (.pointer (some ⟨L[k].at', 0, none⟩)) ∧ u.heap[L[k].at']? = some (.cells L[k].cells 72 (0, 0)) := by
  obtain ⟨A', c', hv, _, _, hown⟩ := h.mods.form
  rw [List.length_map] at hv hown
  rw [hs] at hv
  injection hv with h1 h2 h3
  subst h1
  rcases hown with e | ⟨g, hA, _, ho⟩
  · rw [List.map_eq_nil_iff] at e; subst e; simp at hk
  · refine ⟨g, hA, ?_, (h.ent _ (List.getElem_mem hk)).2.2.2.2⟩
    rw [ho.cell hk, List.getElem?_map, List.getElem?_eq_getElem hk]
    rfl

theorem of_any (u : World) (bs B : Nat) (last : Int) (L : List Md) (att : List Int) (sv av : Value) (id : Int) (h : TabAt u bs B last L att sv av) :
    Calls Try.prog 21 #[.pointer (some ⟨B, 0, none⟩), .int .i64 id] u fun e w' => e = .returned (ofV L id) ∧ u = w' := by
  obtain ⟨A, cap, hsv, hcap, hmax, hown⟩ := h.mods.form
  rw [List.length_map] at hsv
  have c1 : u.cell? ⟨B, 1, none⟩ = some (.slice A L.length cap) := by
    rw [cell_of_row _ _ _ _ _ _ h.tab, hsv]; rfl
  have hm32 := h.most
  have HK := Lib.hid (fun k hk => h.at_k hsv k hk)
  clear h hsv hcap hmax hown
  have hl32 : (L.length : Int) ≤ 32 := by omega
  go_enter Try.func21, Try.ntmps21
  go_wp2
  go_loop [12] (fun v12 => ∃ k : Nat, k ≤ L.length ∧ v12 = .int .i64 k ∧ ∀ j (hj : j < k) (hl : j < L.length), L[j].id ≠ id) (fun v12 => L.length - (intOf v12).toNat)
  case atStart => exact ⟨0, by omega, rfl, fun j hj => by omega⟩
  case round =>
    obtain ⟨k, hk, rfl, hne⟩ := hrel
    have HNE := Lib.hid hne
    clear hne
    by_cases hlt : k < L.length
    · obtain ⟨g, rfl, hc, hg⟩ := HK.out k hlt
      have c0 : u.cell? ⟨L[k].at', 0, none⟩ = some (.int .i64 L[k].id) := by rw [cell_of_row _ _ _ _ _ _ hg]; rfl
      have HLK := Lib.hid (show ∀ m, L[k] = m → L[k] = m from fun _ e => e)
      clear hg HLK
      obtain ⟨m, hm⟩ : ∃ m, L[k] = m := ⟨_, rfl⟩
      rw [hm] at hc c0
      have HM := Lib.hid hm
      clear hm
      have hlt' : (k : Int) < (L.length : Int) := by omega
      by_cases hid' : m.id = id
      · have e0 : (m.id == id) = true := by simp [hid']
        have HE := Lib.hid hid'
        clear hid'
        go_wp2
        go_ret
        refine ⟨?_, rfl⟩
        have hof := ofL_at (id := id) k hlt (by rw [HM.out]; exact HE.out) (fun j hj => HNE.out j hj (by omega))
        rw [HM.out] at hof
        rw [ofV_some hof]
        rfl
      · have e0 : (m.id == id) = false := by simp [hid']
        have HE := Lib.hid hid'
        clear hid'
        go_wp2
        go_round
        case rel =>
          refine ⟨k + 1, by omega, by go_num, fun j hj hl => ?_⟩
          by_cases e : j = k
          · subst e; rw [HM.out]; exact HE.out
          · exact HNE.out j (by omega) hl
        case measure => simp [intOf]; omega
    · obtain rfl : k = L.length := by omega
      go_wp2
      go_ret
      refine ⟨?_, rfl⟩
      rw [ofV_none (ofL_none fun j hj => HNE.out j hj hj)]
      rfl
end Go.Proofs.Ytclbbekdkljepaa
