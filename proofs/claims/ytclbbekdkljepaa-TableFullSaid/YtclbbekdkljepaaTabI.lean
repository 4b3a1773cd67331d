/- package table: Drop. -/
import Derived.Test.YtclbbekdkljepaaTabH
namespace Go.Proofs.Ytclbbekdkljepaa
open Go.ChangeShapes Go.WideShapes Go.ChangeAt Go.RowKit
set_option linter.unusedVariables false

theorem TabAt.detached {u w5 : World} {bs B : Nat} {last : Int} {L : List Md} {att att' : List Int} {sv av v : Value} (h : TabAt u bs B last L att sv av)
    (hg : u.grownBy w5 av.ownBlock) (hown : OwnL w5 bs 3 v (att'.map (Value.int .i64))) (hvo : v.ownBlock = av.ownBlock) :
    TabAt (w5.setCell ⟨B, 2, none⟩ v) bs B last L att' sv v ∧ Below bs u (w5.setCell ⟨B, 2, none⟩ v) ∧ Aside' u (w5.setCell ⟨B, 2, none⟩ v) B L L sv av sv v := by
  have hBlt := h.lt
  have hbs : bs ≤ B := h.le
  have hk : ∀ k, k < u.heap.size → some k ≠ av.ownBlock → w5.heap[k]? = u.heap[k]? := fun k hk hne => hg.block k hk hne
  have hsz : w5.heap.size ≤ (w5.setCell ⟨B, 2, none⟩ v).heap.size := by simp [World.setCell]
  have hs5 := hg.size
  have hsv : ∀ k, sv.ownBlock = some k → k < u.heap.size ∧ k ≠ B ∧ some k ≠ av.ownBlock := fun k hk =>
    ⟨(h.mods.lt k hk).2, fun e => h.sB (by rw [hk, e]), fun e => h.sa k hk e.symm⟩
  have hBB : Below bs u (w5.setCell ⟨B, 2, none⟩ v) := by
    refine Below.setCell (p := ⟨B, 2, none⟩) ?_ hbs v
    exact Below.of_grown hg (fun k e => (h.atts.lt k e).1) (by omega)
  refine ⟨⟨h.le, ?_, ?_, ?_, ?_, h.apart, h.sB, by rw [hvo]; exact h.aB, fun k hk' => by rw [hvo]; exact h.sa k hk', h.most⟩, hBB, fun c hc hf => ⟨(heap_setCell_other w5 _ c v hf.b).trans (hk c hc hf.a), hf.b, hf.m, hf.s, by rw [hvo]; exact hf.a⟩⟩
  · rw [heap_setCell_same w5 B 2 _ _ _ ((hk B (by omega) (fun e => h.aB e.symm)).trans h.tab)]; rfl
  · refine h.mods.of_block (by omega) fun k hk' => ?_
    obtain ⟨a, b, c⟩ := hsv k hk'
    exact (heap_setCell_other w5 _ k v b).trans (hk k a c)
  · exact hown.of_block hsz fun k hk' => heap_setCell_other w5 _ k v (fun e => h.aB (by rw [← hvo, hk', e]))
  · intro x hx
    obtain ⟨e1, e2, e3, e4, e5⟩ := h.ent x hx
    have hxl := (Array.getElem?_eq_some_iff.1 e5).1
    exact ⟨e1, e2, e3, by rw [hvo]; exact e4, (heap_setCell_other w5 _ _ v e2).trans ((hk _ hxl e4).trans e5)⟩

theorem TabAt.dropped {u w5 : World} {bs B : Nat} {last : Int} {L L' : List Md} {att : List Int} {sv av v : Value} (h : TabAt u bs B last L att sv av) (hL : L'.Sublist L)
    (hg : u.grownBy w5 sv.ownBlock) (hown : OwnL w5 bs 69 v (L'.map Md.ptr)) (hvo : v.ownBlock = sv.ownBlock) :
    TabAt (w5.setCell ⟨B, 1, none⟩ v) bs B last L' att v av ∧ Below bs u (w5.setCell ⟨B, 1, none⟩ v) ∧ Aside' u (w5.setCell ⟨B, 1, none⟩ v) B L L' sv av v av := by
  have hBlt := h.lt
  have hbs : bs ≤ B := h.le
  have hk : ∀ k, k < u.heap.size → some k ≠ sv.ownBlock → w5.heap[k]? = u.heap[k]? := fun k hk hne => hg.block k hk hne
  have hsz : w5.heap.size ≤ (w5.setCell ⟨B, 1, none⟩ v).heap.size := by simp [World.setCell]
  have hs5 := hg.size
  have hav : ∀ k, av.ownBlock = some k → k < u.heap.size ∧ k ≠ B ∧ some k ≠ sv.ownBlock := fun k hk =>
    ⟨(h.atts.lt k hk).2, fun e => h.aB (by rw [hk, e]), fun e => h.sa k e.symm hk⟩
  have hBB : Below bs u (w5.setCell ⟨B, 1, none⟩ v) := by
    refine Below.setCell (p := ⟨B, 1, none⟩) ?_ hbs v
    exact Below.of_grown hg (fun k e => (h.mods.lt k e).1) (by omega)
  refine ⟨⟨h.le, ?_, ?_, ?_, ?_, h.apart.sublist (hL.map _), by rw [hvo]; exact h.sB, h.aB, fun k hk' => h.sa k (by rw [← hvo]; exact hk'), Nat.le_trans hL.length_le h.most⟩, hBB, fun c hc hf => ⟨(heap_setCell_other w5 _ c v hf.b).trans (hk c hc hf.s), hf.b, fun x hx => hf.m x (hL.subset hx), by rw [hvo]; exact hf.s, hf.a⟩⟩
  · rw [heap_setCell_same w5 B 1 _ _ _ ((hk B (by omega) (fun e => h.sB e.symm)).trans h.tab)]; rfl
  · exact hown.of_block hsz fun k hk' => heap_setCell_other w5 _ k v (fun e => h.sB (by rw [← hvo, hk', e]))
  · refine h.atts.of_block (by omega) fun k hk' => ?_
    obtain ⟨a, b, c⟩ := hav k hk'
    exact (heap_setCell_other w5 _ k v b).trans (hk k a c)
  · intro x hx
    obtain ⟨e1, e2, e3, e4, e5⟩ := h.ent x (hL.subset hx)
    have hxl := (Array.getElem?_eq_some_iff.1 e5).1
    exact ⟨e1, e2, by rw [hvo]; exact e3, e4, (heap_setCell_other w5 _ _ v e2).trans ((hk _ hxl e3).trans e5)⟩

set_option maxHeartbeats 1000000 in
theorem index_ints_no (W : World) (A : Option Addr) (cap I : Nat) (id : Int) (L : List Int) (hA : ∀ k (hk : k < L.length), ∃ g, A = some ⟨g, 0, none⟩ ∧ W.cell? ⟨g, k, none⟩ = some (.int .i64 L[k])) (hbox : W.cell? ⟨I, 0, none⟩ = some (.int .i64 id)) (hl : L.length ≤ 1000) (hne : ∀ j (hj : j < L.length), L[j] ≠ id) :
    Calls Try.prog 40 #[.slice A L.length cap, .func (.func 35) #[] #[.pointer (some ⟨I, 0, none⟩)]] W fun e w' => e = .returned (.int .i64 (-1)) ∧ W = w' := by
  have eg : ∀ args w, (callFunc 35 args).run Try.prog w = .ok (.enter 35 args) w := enters_of Try.func35 (by kernel_rfl) rfl
  have HH := Lib.hid hA
  have HNE := Lib.hid hne
  have hl' : (L.length : Int) ≤ 1000 := by omega
  clear hA hne
  go_enter Try.func40, Try.ntmps40
  go_wp2_with fail
  go_loop [8] (fun v => ∃ k : Nat, k ≤ L.length ∧ v = .int .i64 k) (fun v => L.length - (intOf v).toNat)
  case atStart => exact ⟨0, by omega, rfl⟩
  case round =>
    obtain ⟨k, hk, rfl⟩ := hrel
    by_cases hlt : k < L.length
    · obtain ⟨g, rfl, c0⟩ := HH.out k hlt
      have HC := Lib.hid (det1_any W I L[k] id hbox)
      have hlt' : (k : Int) < (L.length : Int) := by omega
      have e1 : (L[k] == id) = false := by simpa using HNE.out k hlt
      rw [e1] at HC
      clear e1
      generalize L[k] = E at *
      go_wp2_with (go_at_fn 35; refine HC.out.mono ?_; rintro e w' ⟨rfl, rfl⟩)
      go_round
      case rel => exact ⟨k + 1, by omega, by go_num⟩
      case measure => simp [intOf]; omega
    · obtain rfl : k = L.length := by omega
      go_wp2_with fail
      go_ret
      exact ⟨rfl, rfl⟩

theorem del_ints_no (W : World) (A : Option Addr) (cap I : Nat) (id : Int) (L : List Int) (hA : ∀ k (hk : k < L.length), ∃ g, A = some ⟨g, 0, none⟩ ∧ W.cell? ⟨g, k, none⟩ = some (.int .i64 L[k])) (hbox : W.cell? ⟨I, 0, none⟩ = some (.int .i64 id)) (hl : L.length ≤ 1000) (hne : ∀ j (hj : j < L.length), L[j] ≠ id) :
    Calls Try.prog 34 #[.slice A L.length cap, .func (.func 35) #[] #[.pointer (some ⟨I, 0, none⟩)]] W fun e w' => e = .returned (.slice A L.length cap) ∧ W = w' := by
  have HIX := Lib.hid (index_ints_no W A cap I id L hA hbox hl hne)
  clear hA hne hbox
  go_enter Try.func34, Try.ntmps34
  go_wp2_with (go_fit HIX.out; rintro e w1 ⟨rfl, rfl⟩)
  go_ret
  exact ⟨rfl, rfl⟩

set_option maxHeartbeats 1000000 in
theorem detach_no (u : World) (bs B : Nat) (last : Int) (L : List Md) (att : List Int) (sv av : Value) (id : Int) (h : TabAt u bs B last L att sv av) (hal : att.length ≤ 1000) (hne : ∀ j (hj : j < att.length), att[j] ≠ id) :
    Calls Try.prog 22 #[.pointer (some ⟨B, 0, none⟩), .int .i64 id] u fun e w' => e = .returned (.tuple #[]) ∧ Below u.heap.size u w' := by
  have hmf : ∀ (fn : Fn) (first cap : Array Value) (w : World), (Instr.makeFunc fn first cap).run Try.prog w = .ok (.func fn first cap) w := fun _ _ _ _ => rfl
  have hb := (Below.refl u.heap.size u).alloc (Nat.le_refl _) (.cells #[.int .i64 id] 3)
  have h1 := h.below hb
  have hbx : (u.alloc (.cells #[.int .i64 id] 3)).cell? ⟨u.heap.size, 0, none⟩ = some (.int .i64 id) := by rw [cell_of_row _ _ _ _ _ _ (heap_alloc_new u (.cells #[.int .i64 id] 3))]; rfl
  obtain ⟨A, cap, hav, _, _, ho⟩ := h1.atts.form
  rw [List.length_map] at hav
  have HD := Lib.hid (del_ints_no (u.alloc (.cells #[.int .i64 id] 3)) A cap u.heap.size id att (fun k hk => by
    rcases ho with e | ⟨g, hA, _, ho⟩
    · rw [List.map_eq_nil_iff] at e; subst e; simp at hk
    · refine ⟨g, hA, ?_⟩
      have := ho.cell (i := k) (by simpa using hk)
      simp only [List.getElem?_map, List.getElem?_eq_getElem hk, Option.map_some, Option.getD_some] at this
      exact this) hbx hal hne)
  have HB := Lib.hid hb
  have HT := Lib.hid h1.tab
  rw [hav] at HT
  clear h h1 ho hne hav hbx
  have HN := Lib.hid (show (u.alloc (.cells #[.int .i64 id] 3)).setCell ⟨B, 2, none⟩ (.slice A att.length cap) = u.alloc (.cells #[.int .i64 id] 3) from set_noop HT.out rfl)
  go_enter Try.func22, Try.ntmps22
  go_upto_region 1 with fail
  generalize u.alloc (.cells #[.int .i64 id] 3) = u1 at *
  have c2 : u1.cell? ⟨B, 2, none⟩ = some (.slice A att.length cap) := by rw [cell_of_row _ _ _ _ _ _ HT.out]; rfl
  have f2 : u1.frozen? ⟨B, 2, none⟩ = false := frozen_of_row _ _ _ _ _ HT.out
  go_wp2_with (go_fit HD.out; rintro e w1 ⟨rfl, rfl⟩)
  rw [HN.out]
  go_end0
  exact ⟨rfl, HB.out⟩

set_option maxHeartbeats 1000000 in
theorem detach_yes (u : World) (bs B : Nat) (last : Int) (L : List Md) (att : List Int) (sv av : Value) (id : Int) (k0 : Nat) (hk0 : k0 < att.length) (hid : att[k0] = id) (h : TabAt u bs B last L att sv av) (hal : att.length ≤ 1000) (hne : ∀ j (hj : j < att.length), j ≠ k0 → att[j] ≠ id) :
    Calls Try.prog 22 #[.pointer (some ⟨B, 0, none⟩), .int .i64 id] u fun e w' => e = .returned (.tuple #[]) ∧ ∃ av', TabAt w' bs B last L (att.eraseIdx k0) sv av' ∧ Below bs u w' ∧ Aside' u w' B L L sv av sv av' := by
  have hmf : ∀ (fn : Fn) (first cap : Array Value) (w : World), (Instr.makeFunc fn first cap).run Try.prog w = .ok (.func fn first cap) w := fun _ _ _ _ => rfl
  have hb := (Below.refl u.heap.size u).alloc (Nat.le_refl _) (.cells #[.int .i64 id] 3)
  have h1 := h.below hb
  have hbx : (u.alloc (.cells #[.int .i64 id] 3)).cell? ⟨u.heap.size, 0, none⟩ = some (.int .i64 id) := by rw [cell_of_row _ _ _ _ _ _ (heap_alloc_new u (.cells #[.int .i64 id] 3))]; rfl
  obtain ⟨A, cap, hav, _, _, ho⟩ := h1.atts.form
  rw [List.length_map] at hav
  obtain ⟨g, rfl, hbg⟩ : ∃ g, A = some ⟨g, 0, none⟩ ∧ bs ≤ g := by
    rcases ho with e | ⟨g, hA, hb, _⟩
    · rw [List.map_eq_nil_iff] at e; subst e; simp at hk0
    · exact ⟨g, hA, hb⟩
  have hglt := (h.atts.lt g (by rw [hav]; rfl)).2
  have hown := h1.atts
  rw [hav] at hown
  have HD := Lib.hid (del_ints (u.alloc (.cells #[.int .i64 id] 3)) bs g cap u.heap.size id att hown hbg hbx ⟨by simp, by omega⟩ hal k0 hk0 hid hne)
  have HB := Lib.hid hb
  have HT := Lib.hid h1
  have HAV := Lib.hid hav
  have hbsu : bs ≤ u.heap.size := by have := h.le; have := h.lt; omega
  have HBS := Lib.hid hbsu
  clear h h1 ho hne hav hbx hown hid hbsu hglt
  go_enter Try.func22, Try.ntmps22
  go_upto_region 1 with fail
  generalize u.alloc (.cells #[.int .i64 id] 3) = u1 at *
  have c2 : u1.cell? ⟨B, 2, none⟩ = some (.slice (some ⟨g, 0, none⟩) att.length cap) := by rw [cell_of_row _ _ _ _ _ _ HT.out.tab, HAV.out]; rfl
  have hgB : some B ≠ some g := fun e => HT.out.aB (by rw [HAV.out]; exact e.symm)
  have HGB := Lib.hid hgB
  have hBlt := HT.out.lt
  clear hgB
  go_wp2_with (go_fit HD.out; rintro e w1 ⟨rfl, hown1, hg1⟩; have HO1 := Lib.hid hown1; have HG1 := Lib.hid hg1; clear hown1 hg1; have hB1 := (HG1.out.block B hBlt HGB.out).trans HT.out.tab; have c9 : w1.cell? ⟨B, 2, none⟩ = some av := (by rw [cell_of_row _ _ _ _ _ _ hB1]; rfl); have f9 : w1.frozen? ⟨B, 2, none⟩ = false := frozen_of_row _ _ _ _ _ hB1; clear hB1)
  go_end0
  have hX := TabAt.detached HT.out (v := .slice (some ⟨g, 0, none⟩) (att.length - 1) cap) (by rw [HAV.out]; exact HG1.out) HO1.out (by rw [HAV.out]; rfl)
  exact ⟨rfl, _, hX.1, ((HB.out.mono HBS.out)).trans hX.2.1, (Aside'.below HB.out).trans HB.out.size hX.2.2⟩

/-- Whether a module is attached makes no difference: its number is gone from the list. -/
def without (att : List Int) (id : Int) : List Int := att.filter (fun x => x != id)
theorem without_no {att : List Int} {id : Int} (h : ∀ j (hj : j < att.length), att[j] ≠ id) : without att id = att :=
  List.filter_eq_self.2 fun x hx => by obtain ⟨j, hj, rfl⟩ := List.getElem_of_mem hx; simpa using h j hj
theorem without_yes {att : List Int} {id : Int} (k0 : Nat) (hk0 : k0 < att.length) (hid : att[k0] = id) (h : ∀ j (hj : j < att.length), j ≠ k0 → att[j] ≠ id) : without att id = att.eraseIdx k0 := by
  unfold without
  induction att generalizing k0 with
  | nil => simp at hk0
  | cons a l ih =>
    cases k0 with
    | zero =>
      have ha : a = id := hid
      subst ha
      rw [List.filter_cons, if_neg (by simp), List.eraseIdx_cons_zero]
      exact List.filter_eq_self.2 fun x hx => by
        obtain ⟨j, hj, rfl⟩ := List.getElem_of_mem hx
        have e : l[j] ≠ a := h (j + 1) (by simp; omega) (by omega)
        simpa using e
    | succ k =>
      have ha : a ≠ id := h 0 (by simp) (by omega)
      rw [List.filter_cons, if_pos (by simpa using ha), List.eraseIdx_cons_succ, ih k (by simpa using hk0) (by simpa using hid) (fun j hj hne => h (j + 1) (by simp; omega) (by omega))]

theorem detach_any (u : World) (bs B : Nat) (last : Int) (L : List Md) (att : List Int) (sv av : Value) (id : Int) (h : TabAt u bs B last L att sv av) (hal : att.length ≤ 1000) (hnd : att.Nodup) :
    Calls Try.prog 22 #[.pointer (some ⟨B, 0, none⟩), .int .i64 id] u fun e w' => e = .returned (.tuple #[]) ∧ ∃ av', TabAt w' bs B last L (without att id) sv av' ∧ Below bs u w' ∧ Aside' u w' B L L sv av sv av' := by
  by_cases hm : id ∈ att
  · obtain ⟨k0, hk0, hid⟩ := List.getElem_of_mem hm
    have hne : ∀ j (hj : j < att.length), j ≠ k0 → att[j] ≠ id := fun j hj hne e => hne ((List.getElem_inj (h₀ := hj) (h₁ := hk0) hnd).1 (e.trans hid.symm))
    rw [without_yes k0 hk0 hid hne]
    exact detach_yes u bs B last L att sv av id k0 hk0 hid h hal hne
  · have hne : ∀ j (hj : j < att.length), att[j] ≠ id := fun j hj e => hm (by rw [← e]; exact List.getElem_mem hj)
    rw [without_no hne]
    have hbsu : bs ≤ u.heap.size := by have := h.le; have := h.lt; omega
    exact (detach_no u bs B last L att sv av id h hal hne).mono fun e w' ⟨he, hb⟩ => ⟨he, av, h.below hb, hb.mono hbsu, Aside'.below hb⟩

set_option maxHeartbeats 2000000 in
theorem drop_no (u : World) (bs B : Nat) (last : Int) (L : List Md) (att : List Int) (sv av : Value) (id : Int) (h : TabAt u bs B last L att sv av) (hm : ofL L id = none) :
    Calls Try.prog 13 #[.pointer (some ⟨B, 0, none⟩), .int .i64 id] u fun e w' => e = .returned (.bool false) ∧ Below u.heap.size u w' := by
  have hb := (Below.refl u.heap.size u).alloc (Nat.le_refl _) (.cells #[.int .i64 id] 3)
  have HOF := Lib.hid (of_any (u.alloc (.cells #[.int .i64 id] 3)) bs B last L att sv av id (h.below hb))
  rw [ofV_none hm] at HOF
  have HB := Lib.hid hb
  clear h hm hb
  go_enter Try.func13, Try.ntmps13
  go_wp2_with (go_fit HOF.out; rintro e w1 ⟨rfl, rfl⟩)
  go_ret
  exact ⟨rfl, HB.out⟩

set_option maxHeartbeats 2000000 in
theorem drop_yes (u : World) (bs B : Nat) (last : Int) (L : List Md) (att : List Int) (sv av : Value) (id : Int) (k0 : Nat) (hk0 : k0 < L.length) (hid : L[k0].id = id) (h : TabAt u bs B last L att sv av) (hal : att.length ≤ 1000) (hnd : att.Nodup) (hm : ofL L id = some L[k0]) (hne : ∀ j (hj : j < L.length), j ≠ k0 → L[j].id ≠ id) :
    Calls Try.prog 13 #[.pointer (some ⟨B, 0, none⟩), .int .i64 id] u fun e w' => e = .returned (.bool true) ∧ ∃ sv' av', TabAt w' bs B last (L.eraseIdx k0) (without att id) sv' av' ∧ Below bs u w' ∧ Aside' u w' B L (L.eraseIdx k0) sv av sv' av' := by
  have hmf : ∀ (fn : Fn) (first cap : Array Value) (w : World), (Instr.makeFunc fn first cap).run Try.prog w = .ok (.func fn first cap) w := fun _ _ _ _ => rfl
  have hb := (Below.refl u.heap.size u).alloc (Nat.le_refl _) (.cells #[.int .i64 id] 3)
  have hr1 := heap_alloc_new u (.cells #[.int .i64 id] 3)
  have h1 := h.below hb
  have HOF := Lib.hid (of_any (u.alloc (.cells #[.int .i64 id] 3)) bs B last L att sv av id h1)
  rw [ofV_some hm] at HOF
  have HDT := Lib.hid (detach_any (u.alloc (.cells #[.int .i64 id] 3)) bs B last L att sv av id h1 hal hnd)
  have hIB : u.heap.size ≠ B := by have := h.lt; omega
  have hIav : some u.heap.size ≠ av.ownBlock := fun e => by have := (h.atts.lt _ e.symm).2; omega
  have hIsv : ∀ g, sv.ownBlock = some g → u.heap.size ≠ g := fun g e => by have := (h.mods.lt _ e).2; omega
  have hbsu : bs ≤ u.heap.size := by have := h.le; have := h.lt; omega
  have HB := Lib.hid (hb.mono hbsu)
  have HR1 := Lib.hid hr1
  have HISV := Lib.hid hIsv
  have HIX := Lib.hid (show u.heap.size ≠ B ∧ some u.heap.size ≠ av.ownBlock ∧ u.heap.size < (u.alloc (.cells #[.int .i64 id] 3)).heap.size from ⟨hIB, hIav, by simp⟩)
  have HFI := Lib.hid (show Far u.heap.size B L sv av from ⟨hIB, fun m hm => by have := (Array.getElem?_eq_some_iff.1 (h.ent m hm).2.2.2.2).1; omega, fun e => hIsv _ e.symm rfl, hIav⟩)
  have HAB := Lib.hid (Aside'.below (B := B) (L := L) (sv := sv) (av := av) hb)
  have HZ1 := Lib.hid hb.size
  have HNE := Lib.hid hne
  have HID := Lib.hid hid
  clear h h1 hm hb hr1 hIB hIav hIsv hbsu hne hid hnd hal
  go_enter Try.func13, Try.ntmps13
  go_upto_region 1 with fail
  generalize u.alloc (.cells #[.int .i64 id] 3) = u1 at *
  obtain ⟨I, hI⟩ : ∃ I, u.heap.size = I := ⟨_, rfl⟩
  rw [hI] at HR1 HIX HISV HFI ⊢
  clear hI
  have cI : u1.cell? ⟨I, 0, none⟩ = some (.int .i64 id) := by rw [cell_of_row _ _ _ _ _ _ HR1.out]; rfl
  go_upto_region 4 with (first
    | (go_fit HOF.out; rintro e w1 ⟨rfl, rfl⟩)
    | (go_fit HDT.out; rintro e w2 ⟨rfl, hx⟩; have HX := Lib.hid hx; clear hx))
  obtain ⟨av', h2, hb2, ho2⟩ := HX.out
  have hr2 := (ho2 I HIX.out.2.2 HFI.out).1.trans HR1.out
  have HO2 := Lib.hid (HAB.out.trans HZ1.out ho2)
  have HZ2 := Lib.hid (Nat.le_trans HZ1.out hb2.size)
  have H2 := Lib.hid h2
  have HB2 := Lib.hid (HB.out.trans hb2)
  clear cI h2 hb2 ho2 HX HDT HOF HB
  have hm2 := H2.out.mods
  obtain ⟨A, cap, hsv, _, _, ho⟩ := hm2.form
  rw [List.length_map] at hsv
  obtain ⟨g, rfl, hbg⟩ : ∃ g, A = some ⟨g, 0, none⟩ ∧ bs ≤ g := by
    rcases ho with e | ⟨g, hA, hb, _⟩
    · rw [List.map_eq_nil_iff] at e; subst e; simp at hk0
    · exact ⟨g, hA, hb⟩
  have hgo : sv.ownBlock = some g := by rw [hsv]; rfl
  have cI : w2.cell? ⟨I, 0, none⟩ = some (.int .i64 id) := by rw [cell_of_row _ _ _ _ _ _ hr2]; rfl
  rw [hsv] at hm2
  have HDM := Lib.hid (del_mods w2 bs g cap I id L hm2 hbg (fun k hk => by
    obtain ⟨e1, e2, e3, e4, e5⟩ := H2.out.ent _ (List.getElem_mem hk)
    exact ⟨by rw [cell_of_row _ _ _ _ _ _ e5]; rfl, (Array.getElem?_eq_some_iff.1 e5).1, fun e => e3 (by rw [hgo, e])⟩) cI ⟨(Array.getElem?_eq_some_iff.1 hr2).1, HISV.out g hgo⟩ H2.out.most k0 hk0 HID.out HNE.out)
  have c1 : w2.cell? ⟨B, 1, none⟩ = some (.slice (some ⟨g, 0, none⟩) L.length cap) := by rw [cell_of_row _ _ _ _ _ _ H2.out.tab, hsv]; rfl
  have HGB := Lib.hid (show some B ≠ some g from fun e => H2.out.sB (by rw [hgo]; exact e.symm))
  have hBlt := H2.out.lt
  have HSV := Lib.hid hsv
  clear hm2 ho hgo hsv hr2 cI
  go_wp2_with (go_fit HDM.out; rintro e w3 ⟨rfl, hown1, hg1⟩; have HO1 := Lib.hid hown1; have HG1 := Lib.hid hg1; clear hown1 hg1; have hB1 := (HG1.out.block B hBlt HGB.out).trans H2.out.tab; have c9 : w3.cell? ⟨B, 1, none⟩ = some sv := (by rw [cell_of_row _ _ _ _ _ _ hB1]; rfl); have f9 : w3.frozen? ⟨B, 1, none⟩ = false := frozen_of_row _ _ _ _ _ hB1; clear hB1)
  go_ret
  have hX := TabAt.dropped H2.out (List.eraseIdx_sublist L k0) (v := .slice (some ⟨g, 0, none⟩) (L.length - 1) cap) (by rw [HSV.out]; exact HG1.out) HO1.out (by rw [HSV.out]; rfl)
  exact ⟨rfl, _, _, hX.1, HB2.out.trans hX.2.1, HO2.out.trans HZ2.out hX.2.2⟩
end Go.Proofs.Ytclbbekdkljepaa
