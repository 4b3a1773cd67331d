/- package table: SetAttached (on), Attached, Add of a name that is there, of one too many. -/
import Derived.Test.YtclbbekdkljepaaTabAdd
import Derived.Test.YtclbbekdkljepaaShelf
import Derived.Test.YtclbbekdkljepaaTlsC
namespace Go.Proofs.Ytclbbekdkljepaa
open Go.ChangeShapes Go.WideShapes Go.ChangeAt Go.RowKit
set_option linter.unusedVariables false

theorem Below.of_grown {bs : Nat} {w w' : World} {r : Option Nat} (hg : w.grownBy w' r) (hr : ∀ k, r = some k → bs ≤ k) (hs : bs ≤ w.heap.size) : Below bs w w' :=
  ⟨hg.os, hg.tape, hg.output, hg.size, fun k hk => hg.block k (by omega) (fun e => by have := hr k e.symm; omega)⟩

/-- The table behind the append to its list of those that are attached, and the store of that list. -/
theorem TabAt.attached {u w5 : World} {bs B : Nat} {last : Int} {L : List Md} {att : List Int} {sv av : Value} (h : TabAt u bs B last L att sv av) (one : Obj) (id : Int) (g' n cap : Nat)
    (hg : (u.alloc one).grownBy w5 av.ownBlock)
    (hown : OwnL w5 bs 3 (.slice (some ⟨g', 0, none⟩) n cap) (att.map (Value.int .i64) ++ [.int .i64 id]))
    (hat : av.ownBlock = some g' ∨ g' = u.heap.size + 1) :
    TabAt (w5.setCell ⟨B, 2, none⟩ (.slice (some ⟨g', 0, none⟩) n cap)) bs B last L (att ++ [id]) sv (.slice (some ⟨g', 0, none⟩) n cap) ∧
      Below bs u (w5.setCell ⟨B, 2, none⟩ (.slice (some ⟨g', 0, none⟩) n cap)) ∧
      Aside' u (w5.setCell ⟨B, 2, none⟩ (.slice (some ⟨g', 0, none⟩) n cap)) B L L sv av sv (.slice (some ⟨g', 0, none⟩) n cap) := by
  have hBlt := h.lt
  have hbs : bs ≤ B := h.le
  obtain ⟨v, hv⟩ : ∃ v, Value.slice (some ⟨g', 0, none⟩) n cap = v := ⟨_, rfl⟩
  have hvo : v.ownBlock = some g' := by rw [← hv]; rfl
  rw [hv] at hown ⊢
  have hk : ∀ k, k < u.heap.size → some k ≠ av.ownBlock → w5.heap[k]? = u.heap[k]? := fun k hk hne => by
    rw [hg.block k (by simp; omega) hne]
    exact Below.heap_alloc u one k hk
  have hs5 : u.heap.size + 1 ≤ w5.heap.size := by have := hg.size; simp at this; omega
  have hgB : g' ≠ B := by
    rcases hat with e | e
    · exact fun e2 => h.aB (by rw [e, e2])
    · omega
  have hsz : w5.heap.size ≤ (w5.setCell ⟨B, 2, none⟩ v).heap.size := by simp [World.setCell]
  have hsv : ∀ k, sv.ownBlock = some k → k < u.heap.size ∧ k ≠ B ∧ some k ≠ av.ownBlock := fun k hk =>
    ⟨(h.mods.lt k hk).2, fun e => h.sB (by rw [hk, e]), fun e => h.sa k hk e.symm⟩
  have hBB : Below bs u (w5.setCell ⟨B, 2, none⟩ v) := by
    refine Below.setCell (p := ⟨B, 2, none⟩) ?_ hbs v
    exact ((Below.refl bs u).alloc (by omega) one).trans (Below.of_grown hg (fun k e => (h.atts.lt k e).1) (by simp; omega))
  refine ⟨⟨h.le, ?_, ?_, ?_, ?_, h.apart, h.sB, ?_, ?_, h.most⟩, hBB, fun c hc hf => ⟨(heap_setCell_other w5 _ c v hf.b).trans (hk c hc hf.a), hf.b, hf.m, hf.s, by
    rw [hvo]
    rcases hat with e | e
    · rw [← e]; exact hf.a
    · intro e'; injection e' with e'; omega⟩⟩
  · rw [heap_setCell_same w5 B 2 _ _ _ ((hk B (by omega) (fun e => h.aB e.symm)).trans h.tab)]; rfl
  · refine h.mods.of_block (by omega) fun k hk' => ?_
    obtain ⟨a, b, c⟩ := hsv k hk'
    exact (heap_setCell_other w5 _ k v b).trans (hk k a c)
  · rw [List.map_append]
    exact hown.of_block hsz fun k hk' => heap_setCell_other w5 _ k v (fun e => hgB (by rw [hvo] at hk'; injection hk' with hk'; rw [hk', e]))
  · intro x hx
    obtain ⟨e1, e2, e3, e4, e5⟩ := h.ent x hx
    have hxl := (Array.getElem?_eq_some_iff.1 e5).1
    refine ⟨e1, e2, e3, ?_, (heap_setCell_other w5 _ _ v e2).trans ((hk _ hxl e4).trans e5)⟩
    rw [hvo]
    rcases hat with e | e
    · rw [← e]; exact e4
    · intro e'; injection e' with e'; omega
  · rw [hvo]; intro e; injection e with e; exact hgB e
  · intro k hk' e
    rw [hvo] at e
    injection e with e
    subst e
    obtain ⟨a, b, c⟩ := hsv _ hk'
    rcases hat with e | e
    · exact c e.symm
    · omega

set_option maxRecDepth 100000 in
set_option maxHeartbeats 2000000 in
theorem att_on (u : World) (bs B : Nat) (last : Int) (L : List Md) (att : List Int) (sv av : Value) (id : Int) (k : Nat) (hk : k < L.length) (h : TabAt u bs B last L att sv av) (hm : ofL L id = some L[k]) (hoff : L[k].att = false) (hal : att.length ≤ 1000) :
    Calls Try.prog 16 #[.pointer (some ⟨B, 0, none⟩), .int .i64 id, .bool true] u fun e w' => e = .returned (.bool true) ∧
      ∃ av', TabAt w' bs B last (L.set k { L[k] with att := true }) (att ++ [id]) sv av' ∧ Below bs u w' ∧ Aside' u w' B L (L.set k { L[k] with att := true }) sv av sv av' := by
  have HOF := Lib.hid (of_any u bs B last L att sv av id h)
  rw [ofV_some hm] at HOF
  have hg := h.block hm
  have hent := h.ent _ (List.getElem_mem hk)
  have c5 : u.cell? ⟨L[k].at', 5, none⟩ = some (.bool false) := by rw [cell_of_row _ _ _ _ _ _ hg, ← hoff]; rfl
  have f5 : u.frozen? ⟨L[k].at', 5, none⟩ = false := frozen_of_row _ _ _ _ _ hg
  have h1 := h.set k hk { L[k] with att := true } rfl 5 (.bool true) (Md.set5 _ true)
  have hb1 : Below bs u (u.setCell ⟨L[k].at', 5, none⟩ (.bool true)) := (Below.refl _ _).setCell (p := ⟨L[k].at', 5, none⟩) hent.1 _
  have H1 := Lib.hid h1
  have HB1 := Lib.hid hb1
  have HO1 := Lib.hid (show Aside' u (u.setCell ⟨L[k].at', 5, none⟩ (.bool true)) B L (L.set k { L[k] with att := true }) sv av sv av from fun c hc hf =>
    ⟨heap_setCell_other u _ c _ (hf.m _ (List.getElem_mem hk)), hf.b, fun x hx => by
      obtain ⟨j, hj, rfl⟩ := List.getElem_of_mem hx
      rw [List.length_set] at hj
      rw [List.getElem_set]
      split
      · exact hf.m L[k] (List.getElem_mem hk)
      · exact hf.m _ (List.getElem_mem hj), hf.s, hf.a⟩)
  have HZ1 := Lib.hid (show u.heap.size ≤ (u.setCell ⟨L[k].at', 5, none⟩ (.bool true)).heap.size by simp [World.setCell])
  clear h hm hg hent h1 hb1
  generalize L[k].at' = E at *
  generalize L.set k { L[k] with att := true } = L' at *
  go_enter Try.func16, Try.ntmps16
  go_upto_region 8 with (go_fit HOF.out; rintro e w1 ⟨rfl, rfl⟩)
  clear c5 f5 HOF
  generalize u.setCell ⟨E, 5, none⟩ (.bool true) = u1 at *
  have ht := H1.out.tab
  have c2 : u1.cell? ⟨B, 2, none⟩ = some av := by rw [cell_of_row _ _ _ _ _ _ ht]; rfl
  have hBlt := H1.out.lt
  have hat2 := H1.out.atts.alloc (.cells #[.int .i64 id] 3)
  have HAT2 := Lib.hid hat2
  have hsrc : (u1.alloc (.cells #[.int .i64 id] 3)).cell? ⟨u1.heap.size, 0, none⟩ = some (.int .i64 id) := by
    rw [cell_of_row _ _ _ _ _ _ (heap_alloc_new u1 (.cells #[.int .i64 id] 3))]; rfl
  have HSRC := Lib.hid hsrc
  have HLE := Lib.hid (show bs ≤ (u1.alloc (.cells #[.int .i64 id] 3)).heap.size by have := H1.out.le; simp; omega)
  clear ht hat2 hsrc
  have HAL := Lib.hid (show (att.map (Value.int .i64)).length ≤ 1000 by simpa using hal)
  clear hal
  go_wp2_with (refine wpList_appL rfl (.tmp 30) (.tmp 32) 22 22 rfl bs 3 (.int .i64 0) 8 rfl rfl rfl av (att.map (Value.int .i64)) rfl HAT2.out (.slice (some ⟨u1.heap.size, 0, none⟩) 1 1) rfl [.int .i64 id] (src_one rfl rfl HSRC.out 1) ?_ ?_ HLE.out ?_)
  · exact Nat.le_trans (Nat.succ_le_succ HAL.out) (by decide)
  · exact Nat.le_trans (Nat.mul_le_mul_right 8 (Nat.succ_le_succ HAL.out)) (by decide)
  intro A' cap' w5 hown5 hg5 hat5
  obtain ⟨g', rfl⟩ : ∃ g', A' = some ⟨g', 0, none⟩ := by
    obtain ⟨A2, c2', e, _, _, ho⟩ := hown5.form
    injection e with e1 e2 e3
    rcases ho with ho | ⟨g, hA, _⟩
    · exact absurd ho (by simp)
    · exact ⟨g, e1.trans hA⟩
  have hnB : some B ≠ av.ownBlock := fun e => H1.out.aB e.symm
  have hB5 : w5.heap[B]? = some (.cells #[.int .i64 last, sv, av] 68 (0, 0)) :=
    (hg5.block B (by simp; omega) hnB).trans ((Below.heap_alloc u1 _ B hBlt).trans H1.out.tab)
  have f9 := frozen_of_row w5 B 2 _ _ hB5
  have c9 : w5.cell? ⟨B, 2, none⟩ = some av := by rw [cell_of_row _ _ _ _ _ _ hB5]; rfl
  have HX := Lib.hid (TabAt.attached H1.out (.cells #[.int .i64 id] 3) id g' _ cap' hg5 hown5 (by
    rcases hat5 with e | e
    · exact .inl (by rw [← e]; rfl)
    · refine .inr ?_
      have e' : some g' = some (u1.heap.size + 1) := by first | exact e | simpa using e
      injection e' with e'))
  clear hown5 hg5 hat5 hB5 c2 hBlt hnB
  go_wp2
  go_ret
  exact ⟨rfl, _, HX.out.1, HB1.out.trans HX.out.2.1, HO1.out.trans HZ1.out HX.out.2.2⟩

/-- What a list of numbers of the call's own holds, for who reads it. -/
theorem OwnL.slT {w : World} {base : Nat} {e : TypeId} {A : Option Addr} {n c : Nat} {l : List Int} (h : OwnL w base e (.slice A n c) (l.map (Value.int .i64))) : SlT intC 1 w A l := by
  obtain ⟨A', c', hv, _, _, ho⟩ := h.form
  injection hv with h1 h2 h3
  subst h1
  rcases ho with e | ⟨g, hA, _, ho⟩
  · exact .inl (by simpa using e)
  · refine .inr ⟨g, 0, hA, ho.1, fun i hi j v hv => ?_⟩
    rcases j with _ | j
    · simp [intC] at hv
      subst hv
      have := ho.cell (i := i) (by simpa using hi)
      simp only [List.getElem?_map, List.getElem?_eq_getElem hi, Option.map_some, Option.getD_some] at this
      simpa using this
    · simp [intC] at hv

theorem clone_ints (w : World) (base : Nat) (v : Value) (l : List Int) (h : OwnL w base 3 v (l.map (Value.int .i64))) (hl : l.length ≤ 1000000) :
    Calls Try.prog 25 #[v] w fun e w' => ∃ A c, e = .returned (.slice A l.length c) ∧ SlT intC 1 w' A l ∧ Below w.heap.size w w' := by
  obtain ⟨A, c, hv, _, _, ho⟩ := h.form
  rw [List.length_map] at hv
  subst hv
  rcases ho with e | ⟨g, hA, _, ho⟩
  · obtain rfl : l = [] := by simpa using e
    rcases A with _ | a
    · refine (Try.slices_Clone_int_nil 0 c w).mono ?_
      rintro e w' ⟨rfl, rfl⟩
      exact ⟨none, 0, rfl, .inl rfl, Below.refl _ _⟩
    · refine (Try.slices_Clone_int_zero a c w).mono ?_
      rintro e w' ⟨v', rfl, hown, hne, hb⟩
      rcases hown.2 with ⟨h1, _⟩ | ⟨g, cap, cur, h1, _⟩
      · exact absurd h1 hne
      · subst h1; exact ⟨_, _, rfl, .inl rfl, hb⟩
  · subst hA
    rw [List.length_map] at ho
    refine (Try.slices_Clone_int g 0 l.length c l w (Nat.le_refl _) (by omega) (fun j hj => ?_)).mono ?_
    · have := ho.cell (i := j) hj
      simp only [List.getElem?_map, List.getElem?_eq_getElem hj, Option.map_some, Option.getD_some] at this
      rw [Nat.zero_add, this, List.getD_eq_getElem?_getD, List.getElem?_eq_getElem hj]; rfl
    · rintro e w' ⟨v', rfl, hown, hne, hb⟩
      rw [List.take_length] at hown
      have hO : OwnL w' w.heap.size 3 v' (l.map (Value.int .i64)) := by unfold OwnL; rw [List.length_map]; exact hown
      obtain ⟨A2, c2, hv2, _⟩ := hO.form
      rw [List.length_map] at hv2
      subst hv2
      exact ⟨A2, c2, rfl, hO.slT, hb⟩

theorem attached_any (u : World) (bs B : Nat) (last : Int) (L : List Md) (att : List Int) (sv av : Value) (h : TabAt u bs B last L att sv av) (hal : att.length ≤ 1000) :
    Calls Try.prog 18 #[.pointer (some ⟨B, 0, none⟩)] u fun e w' => ∃ A c, e = .returned (.slice A att.length c) ∧ SlT intC 1 w' A att ∧ Below u.heap.size u w' := by
  have HCL := Lib.hid (clone_ints u bs av att h.atts (by omega))
  have c2 : u.cell? ⟨B, 2, none⟩ = some av := by rw [cell_of_row _ _ _ _ _ _ h.tab]; rfl
  clear h hal
  go_enter Try.func18, Try.ntmps18
  go_wp2_with (go_fit HCL.out; rintro e w1 ⟨A, c, rfl, h1, h2⟩; have H1 := Lib.hid h1; have H2 := Lib.hid h2; clear h1 h2)
  go_ret
  exact ⟨A, c, rfl, H1.out, H2.out⟩

set_option maxRecDepth 100000 in
set_option maxHeartbeats 1000000 in
theorem add_old (u : World) (bs B : Nat) (last : Int) (L : List Md) (att : List Int) (sv av : Value) (S T : ByteArray) (m : Md) (h : TabAt u bs B last L att sv av) (hS : S.size ≤ 140737488355328) (hT : KeyOf S T) (hm : keyL L T = some m) :
    Calls Try.prog 7 #[.pointer (some ⟨B, 0, none⟩), .string S, .agg peZ] u fun e w' => e = .returned (.tuple #[.int .i64 0, .int .i64 20]) ∧ Below u.heap.size u w' := by
  have HFIND := Lib.hid (fun W (hb : Below u.heap.size u W) => find_any' W bs B last L att sv av S T (h.below hb) hS hT)
  rw [findV_some hm] at HFIND
  obtain ⟨p, hp⟩ : ∃ p, peZ = p := ⟨_, rfl⟩
  rw [hp]
  have hb0 := (Below.refl u.heap.size u).alloc (Nat.le_refl _) (.cells p 46)
  have HB0 := Lib.hid hb0
  clear h hT hm hp hb0
  go_enter Try.func7, Try.ntmps7
  go_wp2_with (go_fit (HFIND.out _ HB0.out); rintro e u1 ⟨rfl, hb1⟩; have HB1 := Lib.hid hb1; clear hb1)
  go_ret2
  exact ⟨rfl, HB0.out.trans (HB1.out.mono HB0.out.size)⟩

set_option maxRecDepth 100000 in
set_option maxHeartbeats 1000000 in
theorem add_full (u : World) (bs B : Nat) (last : Int) (L : List Md) (att : List Int) (sv av : Value) (S T : ByteArray) (h : TabAt u bs B last L att sv av) (hS : S.size ≤ 140737488355328) (hT : KeyOf S T) (hm : keyL L T = none) (hl : L.length = 32) :
    Calls Try.prog 7 #[.pointer (some ⟨B, 0, none⟩), .string S, .agg peZ] u fun e w' => e = .returned (.tuple #[.int .i64 0, .int .i64 14]) ∧ Below u.heap.size u w' := by
  have HFIND := Lib.hid (fun W (hb : Below u.heap.size u W) => find_any' W bs B last L att sv av S T (h.below hb) hS hT)
  rw [findV_none hm] at HFIND
  obtain ⟨p, hp⟩ : ∃ p, peZ = p := ⟨_, rfl⟩
  rw [hp]
  have hb0 := (Below.refl u.heap.size u).alloc (Nat.le_refl _) (.cells p 46)
  have HB0 := Lib.hid hb0
  have HH := Lib.hid h
  clear h hT hm hp hb0
  go_enter Try.func7, Try.ntmps7
  go_upto_region 4 with (go_fit (HFIND.out _ HB0.out); rintro e u1 ⟨rfl, hb1⟩)
  have HB1 := Lib.hid (HB0.out.trans (hb1.mono HB0.out.size))
  clear hb1
  have h1 := HH.out.below HB1.out
  obtain ⟨A, cap, hsv, _, _, _⟩ := h1.mods.form
  rw [List.length_map, hl] at hsv
  have c1 : u1.cell? ⟨B, 1, none⟩ = some sv := by rw [cell_of_row _ _ _ _ _ _ h1.tab]; rfl
  rw [hsv] at c1
  clear h1 hsv hl HH
  go_wp2
  go_ret2
  exact ⟨rfl, HB1.out⟩
end Go.Proofs.Ytclbbekdkljepaa
