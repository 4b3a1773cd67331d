/- package table: Add (under way: region 7 is not through). -/
import Derived.Test.YtclbbekdkljepaaTabD
import Derived.Test.YtclbbekdkljepaaTabE
import Derived.Deep.RegionWith
import Derived.Deep.Cut
import Derived.Deep.RegionHeld3
import Derived.RegionTactic
import Derived.ChangeAlike
namespace Go.Proofs.Ytclbbekdkljepaa
open Go.ChangeShapes Go.WideShapes Go.ChangeAt Go.RowKit
set_option linter.unusedVariables false

def AddS (u2 : World) (B : Nat) (n : Int) (W : World) : Prop := W.cell? ⟨B, 0, none⟩ = some (.int .i64 n) ∧ Below u2.heap.size u2 W
theorem AddS.cell {u2 : World} {B : Nat} {n : Int} {W : World} (h : AddS u2 B n W) : W.cell? ⟨B, 0, none⟩ = some (.int .i64 n) := h.1
theorem AddS.drew {u2 : World} {B : Nat} {n : Int} {W : World} (h : AddS u2 B n W) : AddS u2 B n W.drew := ⟨h.1, h.2.drew⟩
theorem AddS.below {u2 : World} {B : Nat} {n : Int} {W W' : World} (hB : B < u2.heap.size) (h : AddS u2 B n W) (hb : Below W.heap.size W W') : AddS u2 B n W' :=
  ⟨(hb.cell (p := ⟨B, 0, none⟩) (Nat.lt_of_lt_of_le hB h.2.size)).trans h.1, h.2.trans (hb.mono h.2.size)⟩
theorem AddS.alloc {u2 : World} {B : Nat} {n : Int} {W : World} (hB : B < u2.heap.size) (h : AddS u2 B n W) (o : Obj) : AddS u2 B n (W.alloc o) := h.below hB ((Below.refl _ _).alloc (Nat.le_refl _) o)

structure Six (W : World) (g : Nat) (a0 a1 a2 a3 a4 a5 : Value) : Prop where
  c0 : W.cell? ⟨g, 0, none⟩ = some a0
  c1 : W.cell? ⟨g, 1, none⟩ = some a1
  c2 : W.cell? ⟨g, 2, none⟩ = some a2
  c3 : W.cell? ⟨g, 3, none⟩ = some a3
  c4 : W.cell? ⟨g, 4, none⟩ = some a4
  c5 : W.cell? ⟨g, 5, none⟩ = some a5
  z : ∀ k, W.frozen? ⟨g, k, none⟩ = false
theorem six_of {W : World} {g : Nat} {t : TypeId} {a0 a1 a2 a3 a4 a5 : Value} (h : W.heap[g]? = some (.cells #[a0, a1, a2, a3, a4, a5] t (0, 0))) : Six W g a0 a1 a2 a3 a4 a5 :=
  ⟨cell_of_row _ _ 0 _ _ _ h, cell_of_row _ _ 1 _ _ _ h, cell_of_row _ _ 2 _ _ _ h, cell_of_row _ _ 3 _ _ _ h, cell_of_row _ _ 4 _ _ _ h, cell_of_row _ _ 5 _ _ _ h, fun k => frozen_of_row _ _ k _ _ h⟩
theorem block_behind {u2 w3 : World} {o : Obj} (hb : Below (u2.alloc o).heap.size (u2.alloc o) w3) : w3.heap[u2.heap.size]? = some o := (hb.block u2.heap.size (by simp)).trans (heap_alloc_new u2 o)
theorem block_behind_drew {u2 w3 : World} {o : Obj} (hb : Below (u2.alloc o).drew.heap.size (u2.alloc o).drew w3) : w3.heap[u2.heap.size]? = some o := (hb.block u2.heap.size (by simp)).trans (heap_alloc_new u2 o)
theorem AddS.set {u2 : World} {B : Nat} {n : Int} {W : World} (hB : B < u2.heap.size) (h : AddS u2 B n W) {g : Nat} (hg : u2.heap.size ≤ g) (i : Nat) (v : Value) : AddS u2 B n (W.setCell ⟨g, i, none⟩ v) :=
  ⟨(World.cell?_setCell_other W _ _ v (fun e => by injection e with e _; omega)).trans h.1, h.2.setCell (p := ⟨g, i, none⟩) hg v⟩
theorem AddS.le {u2 : World} {B : Nat} {n : Int} {W : World} (h : AddS u2 B n W) : u2.heap.size ≤ W.heap.size := h.2.size
theorem AddS.row {u2 : World} {B : Nat} {n : Int} {W : World} (hB : B < u2.heap.size) (h : AddS u2 B n W) {g : Nat} (hg : u2.heap.size ≤ g) (cs : Array Value) : AddS u2 B n (W.setRow g cs) :=
  ⟨(World.cell?_of_block (a := ⟨B, 0, none⟩) (setRow_other W g B cs (by omega))).trans h.1, below_setRow h.2 hg cs⟩
theorem AddS.set6 {u2 : World} {B : Nat} {n : Int} {W : World} (hB : B < u2.heap.size) (h : AddS u2 B n W) (v0 v1 v2 v3 v4 v5 : Value) :
    AddS u2 B n ((((((W.setCell ⟨u2.heap.size, 0, none⟩ v0).setCell ⟨u2.heap.size, 1, none⟩ v1).setCell ⟨u2.heap.size, 2, none⟩ v2).setCell ⟨u2.heap.size, 3, none⟩ v3).setCell ⟨u2.heap.size, 4, none⟩ v4).setCell ⟨u2.heap.size, 5, none⟩ v5) :=
  (((((h.set hB (Nat.le_refl _) 0 v0).set hB (Nat.le_refl _) 1 v1).set hB (Nat.le_refl _) 2 v2).set hB (Nat.le_refl _) 3 v3).set hB (Nat.le_refl _) 4 v4).set hB (Nat.le_refl _) 5 v5
theorem heap_set6 {w : World} {g : Nat} {t : TypeId} (a0 a1 a2 a3 a4 a5 v0 v1 v2 v3 v4 v5 : Value) (h : w.heap[g]? = some (.cells #[a0, a1, a2, a3, a4, a5] t (0, 0))) :
    ((((((w.setCell ⟨g, 0, none⟩ v0).setCell ⟨g, 1, none⟩ v1).setCell ⟨g, 2, none⟩ v2).setCell ⟨g, 3, none⟩ v3).setCell ⟨g, 4, none⟩ v4).setCell ⟨g, 5, none⟩ v5).heap[g]? = some (.cells #[v0, v1, v2, v3, v4, v5] t (0, 0)) :=
  heap_setCell_same _ g 5 _ t _ (heap_setCell_same _ g 4 _ t _ (heap_setCell_same _ g 3 _ t _ (heap_setCell_same _ g 2 _ t _ (heap_setCell_same _ g 1 _ t _ (heap_setCell_same _ g 0 _ t _ h)))))

/-- The last number turned. -/
theorem TabAt.next {u : World} {bs B : Nat} {last : Int} {L : List Md} {att : List Int} {sv av : Value} (h : TabAt u bs B last L att sv av) (n : Int) : TabAt (u.setCell ⟨B, 0, none⟩ (.int .i64 n)) bs B n L att sv av := by
  have hs : u.heap.size ≤ (u.setCell ⟨B, 0, none⟩ (.int .i64 n)).heap.size := by simp [World.setCell]
  refine ⟨h.le, by rw [heap_setCell_same u B 0 _ _ _ h.tab]; rfl, h.mods.of_block hs fun b hb => heap_setCell_other u _ b _ (fun e => h.sB (by rw [hb, e])), h.atts.of_block hs fun b hb => heap_setCell_other u _ b _ (fun e => h.aB (by rw [hb, e])), fun m hm => ?_, h.apart, h.sB, h.aB, h.sa, h.most⟩
  obtain ⟨e1, e2, e3, e4, e5⟩ := h.ent m hm
  exact ⟨e1, e2, e3, e4, (heap_setCell_other u _ _ _ e2).trans e5⟩

/-- The two rows that the last region loads. -/
def RowsS (G g : Nat) (cs p : Array Value) (W : World) : Prop := W.heap[G]? = some (.cells cs 50 (0, 0)) ∧ W.heap[g]? = some (.cells p 46 (0, 0))

theorem RowsS.below {G g : Nat} {cs p : Array Value} {W W' : World} (h : RowsS G g cs p W) (hb : Below W.heap.size W W') : RowsS G g cs p W' :=
  ⟨(hb.block _ (Array.getElem?_eq_some_iff.1 h.1).1).trans h.1, (hb.block _ (Array.getElem?_eq_some_iff.1 h.2).1).trans h.2⟩
theorem RowsS.alloc {G g : Nat} {cs p : Array Value} {W : World} (h : RowsS G g cs p W) (o : Obj) : RowsS G g cs p (W.alloc o) := h.below ((Below.refl _ _).alloc (Nat.le_refl _) o)
theorem RowsS.grown {G g : Nat} {cs p : Array Value} {W W' : World} {r : Option Nat} (h : RowsS G g cs p W) (hg : W.grownBy W' r) (h1 : some G ≠ r) (h2 : some g ≠ r) : RowsS G g cs p W' :=
  ⟨(hg.block _ (Array.getElem?_eq_some_iff.1 h.1).1 h1).trans h.1, (hg.block _ (Array.getElem?_eq_some_iff.1 h.2).1 h2).trans h.2⟩
theorem RowsS.set {G g B : Nat} {cs p : Array Value} {W : World} (h : RowsS G g cs p W) (h1 : G ≠ B) (h2 : g ≠ B) (i : Nat) (v : Value) : RowsS G g cs p (W.setCell ⟨B, i, none⟩ v) :=
  ⟨(heap_setCell_other W _ _ v h1).trans h.1, (heap_setCell_other W _ _ v h2).trans h.2⟩
set_option maxRecDepth 100000 in
theorem built_ent (m : Md) : Try.prog.built 72 [(0, .agg m.modC), (1, .agg peZ)] = some m.cells := by kernel_rfl

set_option maxRecDepth 100000 in
set_option maxHeartbeats 4000000 in
theorem add_newF (u : World) (bs B : Nat) (last : Int) (L : List Md) (att : List Int) (sv av : Value) (S T : ByteArray) (h : TabAt u bs B last L att sv av) (hS : S.size ≤ 140737488355328) (hT : KeyOf S T)
    (hno : keyL L T = none) (hl : L.length < 32) (l0 : 0 ≤ last) (l1 : last ≤ 1000000000) :
    Calls Try.prog 7 #[.pointer (some ⟨B, 0, none⟩), .string S, .agg peZ] u fun e w' => e = .returned (.tuple #[.int .i64 (last + 1), .int .i64 0]) ∧
      ∃ sv' p, TabAt w' bs B (last + 1) (L ++ [⟨last + 1, T, 0, 0, -1, false, p⟩]) att sv' av ∧ Below bs u w' ∧ Aside' u w' B L (L ++ [⟨last + 1, T, 0, 0, -1, false, p⟩]) sv av sv' av := by
  have HKEY := Lib.hid (fun W => key_any S T W hS hT)
  have HFIND := Lib.hid (fun W (hb : Below u.heap.size u W) => find_any' W bs B last L att sv av S T (h.below hb) hS hT)
  rw [findV_none hno] at HFIND
  have hone := peZ_one
  have hinf := peZ_info
  have HCL := Lib.hid clone_zero
  obtain ⟨p, hp⟩ : ∃ p, peZ = p := ⟨_, rfl⟩
  have HP := Lib.hid hp
  have HBUILT := Lib.hid built_ent
  rw [hp] at hone hinf HCL HBUILT ⊢
  have HONE := Lib.hid hone
  have HINF := Lib.hid hinf
  have HH := Lib.hid h
  have hl' : ¬ (32 : Int) ≤ L.length := by omega
  clear hp hone hinf h hno hT
  go_enter Try.func7, Try.ntmps7
  go_upto_region 1 with fail
  have hb0 := (Below.refl u.heap.size u).alloc (Nat.le_refl _) (.cells p 46)
  have hg0 := heap_alloc_new u (.cells p 46)
  have HB0 := Lib.hid hb0
  have HG0 := Lib.hid hg0
  clear hb0 hg0
  generalize u.alloc (.cells p 46) = u0 at *
  go_upto_region 4 with (go_fit (HFIND.out _ HB0.out); rintro e u1 ⟨rfl, hb1⟩)
  have HB1 := Lib.hid (HB0.out.trans (hb1.mono HB0.out.size))
  have hlt0 := (Array.getElem?_eq_some_iff.1 HG0.out).1
  have HG1 := Lib.hid ((hb1.block u.heap.size hlt0).trans HG0.out)
  clear hb1 HB0 HG0 hlt0 HFIND
  have h1 := HH.out.below HB1.out
  have c0 : u1.cell? ⟨B, 0, none⟩ = some (.int .i64 last) := by rw [cell_of_row _ _ _ _ _ _ h1.tab]; rfl
  have c1 : u1.cell? ⟨B, 1, none⟩ = some sv := by rw [cell_of_row _ _ _ _ _ _ h1.tab]; rfl
  obtain ⟨A, cap, hsv, _, _, _⟩ := h1.mods.form
  rw [List.length_map] at hsv
  have f0 := frozen_of_row u1 B 0 _ _ h1.tab
  have H1 := Lib.hid h1
  have HSV := Lib.hid hsv
  rw [hsv] at c1
  clear h1 hsv
  go_upto_region 7 with fail
  have h2 := H1.out.next (last + 1)
  have hbu := HB1.out
  have hlt1 := (Array.getElem?_eq_some_iff.1 HG1.out).1
  have hg2 : (u1.setCell ⟨B, 0, none⟩ (.int .i64 (last + 1))).heap[u.heap.size]? = some (.cells p 46 (0, 0)) := (heap_setCell_other u1 _ _ _ (by have := HH.out.lt; show u.heap.size ≠ B; omega)).trans HG1.out
  have hb2 : Below bs u (u1.setCell ⟨B, 0, none⟩ (.int .i64 (last + 1))) := (hbu.mono (by have := HH.out.le; have := HH.out.lt; omega)).setCell (p := ⟨B, 0, none⟩) HH.out.le _
  have H2 := Lib.hid h2
  have HG2 := Lib.hid hg2
  have HB2 := Lib.hid hb2
  have HA2 := Lib.hid (show Aside' u (u1.setCell ⟨B, 0, none⟩ (.int .i64 (last + 1))) B L L sv av sv av from fun c hc hf => ⟨(heap_setCell_other u1 _ c _ hf.b).trans (hbu.block c hc), hf⟩)
  clear h2 hbu hlt1 hg2 hb2 c0 c1 f0 HG1 H1 HB1
  generalize u1.setCell ⟨B, 0, none⟩ (.int .i64 (last + 1)) = u2 at *
  have c0 : u2.cell? ⟨B, 0, none⟩ = some (.int .i64 (last + 1)) := by rw [cell_of_row _ _ _ _ _ _ H2.out.tab]; rfl
  have hBlt := H2.out.lt
  go_cut [10] from 31 (fun v10 wx => ∃ G : Nat, v10 = .pointer (some ⟨G, 0, none⟩) ∧ Below u2.heap.size u2 wx ∧ wx.heap[G]? = some (.cells (Md.modC ⟨last + 1, T, 0, 0, -1, false, 0⟩) 50 (0, 0)) ∧ u2.heap.size ≤ G)
  case first =>
    have HSET := Lib.hid (fun (W : World) (i : Nat) (v : Value) => show (W.setCell ⟨u2.heap.size, i, none⟩ v).cell? ⟨B, 0, none⟩ = W.cell? ⟨B, 0, none⟩ from World.cell?_setCell_other W _ _ v (fun e => by injection e with e _; omega))
    have HSS := Lib.hid (show AddS u2 B (last + 1) u2 from ⟨c0, Below.refl _ _⟩)
    go_region_held3 (fun W => W.cell? ⟨B, 0, none⟩ = some (.int .i64 (last + 1)))
      (first | (simp only [HSET.out]; with_reducible exact AddS.cell HW3.out) | with_reducible exact AddS.cell HSS.out | with_reducible exact AddS.cell (AddS.drew HSS.out) | with_reducible exact AddS.cell HW3.out | with_reducible exact AddS.cell (AddS.alloc hBlt HW3.out _) | with_reducible exact AddS.cell (AddS.alloc hBlt HSS.out _) | with_reducible exact AddS.cell (AddS.drew (AddS.alloc hBlt HSS.out _)) | fail)
      (first | (go_at_call 19; refine (HKEY.out _).mono ?_; rintro e w3 ⟨rfl, hb3⟩; have HW3 := Lib.hid (show AddS u2 B (last + 1) w3 from AddS.below hBlt (by first | with_reducible exact HSS.out | with_reducible exact AddS.drew HSS.out | with_reducible exact AddS.alloc hBlt HSS.out _ | with_reducible exact AddS.drew (AddS.alloc hBlt HSS.out _)) hb3); try (have hq : w3.heap[u2.heap.size]? = some (.cells #[.int .i64 0, .string ⟨#[]⟩, .int .u64 0, .int .i64 0, .int .i64 0, .bool false] 50) := (by first | with_reducible exact block_behind (u2 := u2) (o := (.cells #[.int .i64 0, .string ⟨#[]⟩, .int .u64 0, .int .i64 0, .int .i64 0, .bool false] 50)) hb3 | with_reducible exact block_behind_drew (u2 := u2) (o := (.cells #[.int .i64 0, .string ⟨#[]⟩, .int .u64 0, .int .i64 0, .int .i64 0, .bool false] 50)) hb3); have HQ := Lib.hid hq; clear hq; obtain ⟨d0, d1, d2, d3, d4, d5, dz⟩ := six_of HQ.out; have e0 := dz 0; have e1 := dz 1; have e2 := dz 2; have e3 := dz 3; have e4 := dz 4; have e5 := dz 5; clear dz)))
    · go_wp2_with fail
      go_meet
      case rel => exact ⟨w3.heap.size, rfl, HW3.out.2.alloc HW3.out.2.size _, heap_alloc_new _ _, HW3.out.2.size⟩
    · go_wp2_with fail
      go_meet
      case rel => exact ⟨u2.heap.size, rfl, (AddS.set6 hBlt HW3.out _ _ _ _ _ _).2, heap_set6 _ _ _ _ _ _ _ _ _ _ _ _ HQ.out, Nat.le_refl _⟩
  case rest =>
    obtain ⟨G, rfl, hbc, hgc, hle⟩ := hcut
    clear c0 HKEY
    have h3 := H2.out.below hbc
    have hg3 : wc.heap[u.heap.size]? = some (.cells p 46 (0, 0)) := (hbc.block u.heap.size (Array.getElem?_eq_some_iff.1 HG2.out).1).trans HG2.out
    have H3 := Lib.hid h3
    have HG3 := Lib.hid hg3
    have HGC := Lib.hid hgc
    have HA3 := Lib.hid (HA2.out.trans HB2.out.size (Aside'.below hbc))
    have HB3 := Lib.hid (HB2.out.trans (hbc.mono (by have := HB2.out.size; have := HH.out.le; have := HH.out.lt; have := hbc.size; omega)))
    have HLE := Lib.hid (show G ≠ B ∧ u.heap.size ≠ B from ⟨by omega, by have := HH.out.lt; omega⟩)
    have HNG := Lib.hid (show some G ≠ sv.ownBlock ∧ some u.heap.size ≠ sv.ownBlock from ⟨fun e => by have := (H2.out.mods.lt _ e.symm).2; omega, fun e => by have := (HH.out.mods.lt _ e.symm).2; omega⟩)
    rw [HSV.out] at HNG
    have HSB := Lib.hid H2.out.sB
    rw [HSV.out] at HSB
    clear h3 hg3 hgc hbc hle HG2 H2 HB2 hBlt
    go_upto_region 8 with fail
    have hs0 : RowsS G u.heap.size (Md.modC ⟨last + 1, T, 0, 0, -1, false, 0⟩) p wc.drew := ⟨HGC.out, HG3.out⟩
    have hr0 : wc.drew.cell? ⟨B, 1, none⟩ = some (.slice A L.length cap) := by
      show wc.cell? ⟨B, 1, none⟩ = _
      rw [cell_of_row _ _ _ _ _ _ H3.out.tab, HSV.out]; rfl
    have HS := Lib.hid hs0
    have HR := Lib.hid hr0
    clear hs0 hr0
    refine wp_region_noPanic ?_
    refine wp_region_K (RowsS G u.heap.size (Md.modC ⟨last + 1, T, 0, 0, -1, false, 0⟩) p) (fun W => W.cell? ⟨B, 1, none⟩ = some (.slice A L.length cap)) 14 (by kernel_rfl) ?_
    refine wpAnyK_take (i := 0) (oi := ?_) (v := ?_) ?_ (by kernel_rfl) (by kernel_rfl) (by kernel_rfl) (fun _ _ _ h => h) (by decide) ?_ HS.out (fun _ => HR.out) ?_
    rotate_left 2
    · (simp only [List.getElem?_toArray, List.getElem?_cons_succ, List.getElem?_cons_zero]; rfl)
    · (refine Or.inl ⟨by rfl, ?_⟩; intro w hSw; clear hSw; go_simp; try with_reducible rfl)
    try simp only [Act.put, List.setIfInBounds_toArray, List.set_cons_zero, List.set_cons_succ]
    refine wpAnyK_take (i := 1) (oi := ?_) (v := ?_) ?_ (by kernel_rfl) (by kernel_rfl) (by kernel_rfl) (fun _ _ _ h => h) (by decide) ?_ HS.out (fun _ => HR.out) ?_
    rotate_left 2
    · (simp only [List.getElem?_toArray, List.getElem?_cons_succ, List.getElem?_cons_zero]; rfl)
    · (refine Or.inl ⟨by rfl, ?_⟩; intro w hSw; clear hSw; go_simp; try with_reducible rfl)
    try simp only [Act.put, List.setIfInBounds_toArray, List.set_cons_zero, List.set_cons_succ]
    refine wpAnyK_take (i := 2) (oi := ?_) (v := ?_) ?_ (by kernel_rfl) (by kernel_rfl) (by kernel_rfl) (fun _ _ _ h => h) (by decide) ?_ HS.out (fun _ => HR.out) ?_
    rotate_left 2
    · (simp only [List.getElem?_toArray, List.getElem?_cons_succ, List.getElem?_cons_zero]; rfl)
    · (refine Or.inl ⟨by rfl, ?_⟩; intro w hSw; clear hSw; go_simp; try with_reducible rfl)
    try simp only [Act.put, List.setIfInBounds_toArray, List.set_cons_zero, List.set_cons_succ]
    refine wpAnyK_take (i := 3) (oi := ?_) (v := ?_) ?_ (by kernel_rfl) (by kernel_rfl) (by kernel_rfl) (fun _ _ _ h => h) (by decide) ?_ HS.out (fun _ => HR.out) ?_
    rotate_left 2
    · (simp only [List.getElem?_toArray, List.getElem?_cons_succ, List.getElem?_cons_zero]; rfl)
    · (refine Or.inl ⟨by rfl, ?_⟩; intro w hSw; clear hSw; go_simp; try with_reducible rfl)
    try simp only [Act.put, List.setIfInBounds_toArray, List.set_cons_zero, List.set_cons_succ]
    refine wpAnyK_early (i := 4) (m := 11) (oi := ?_) (v := ?_) ?_ (by kernel_rfl) (by kernel_rfl) (by kernel_rfl) (fun _ _ _ h => h) (by decide) (by kernel_rfl) (by kernel_rfl) (by kernel_rfl) (by kernel_rfl) ?_ HS.out HR.out ?_
    rotate_left 2
    · (simp only [List.getElem?_toArray, List.getElem?_cons_succ, List.getElem?_cons_zero]; rfl)
    · (refine Or.inl ⟨by rfl, ?_⟩; intro w hSw; have hc := hSw.2; clear hSw; go_simp; try with_reducible rfl)
    try simp only [Act.put, List.setIfInBounds_toArray, List.set_cons_zero, List.set_cons_succ]
    refine wpAnyK_take (i := 5) (oi := ?_) (v := ?_) ?_ (by kernel_rfl) (by kernel_rfl) (by kernel_rfl) (fun _ _ _ h => h) (by decide) ?_ HS.out (fun _ => HR.out) ?_
    rotate_left 2
    · (simp only [List.getElem?_toArray, List.getElem?_cons_succ, List.getElem?_cons_zero]; rfl)
    · refine yieldsIf_load_row 50 (.tmp 10) G 50 (Md.modC ⟨last + 1, T, 0, 0, -1, false, 0⟩) (0, 0) ?_ ?_ ?_ ?_ ?_ ?_
      · rfl
      · rfl
      · rfl
      · exact fun W hW => hW.1
      · rfl
      · exact rfl
    try simp only [Act.put, List.setIfInBounds_toArray, List.set_cons_zero, List.set_cons_succ]
    refine wpAnyK_take (i := 6) (oi := ?_) (v := ?_) ?_ (by kernel_rfl) (by kernel_rfl) (by kernel_rfl) (fun _ _ _ h => h) (by decide) ?_ HS.out (fun _ => HR.out) ?_
    rotate_left 2
    · (simp only [List.getElem?_toArray, List.getElem?_cons_succ, List.getElem?_cons_zero]; rfl)
    · refine yieldsIf_load_row 46 (.tmp 5) u.heap.size 46 p (0, 0) ?_ ?_ ?_ ?_ ?_ ?_
      · rfl
      · rfl
      · rfl
      · exact fun W hW => hW.2
      · rfl
      · exact HINF.out
    try simp only [Act.put, List.setIfInBounds_toArray, List.set_cons_zero, List.set_cons_succ]
    refine wpAnyK_one (i := 7) (by kernel_rfl) rfl (fun K hK => ?_)
    go_simp
    go_at_call 20
    refine (HCL.out _).mono ?_
    rintro e w4 ⟨rfl, hb4⟩
    have HB4 := Lib.hid (show Below wc.heap.size wc w4 from (Below.refl _ _).drew.trans hb4)
    refine hK.out _ _ (RowsS.below HS.out hb4) (fun _ => (hb4.cell (p := ⟨B, 1, none⟩) H3.out.lt).trans HR.out) ?_
    clear hK K
    have HS4 := Lib.hid (RowsS.below HS.out hb4)
    have HR4 := Lib.hid ((hb4.cell (p := ⟨B, 1, none⟩) H3.out.lt).trans HR.out)
    clear hb4
    refine wpAnyK_one (i := 8) (by kernel_rfl) rfl (fun K hK => ?_)
    refine step_build 72 _ [(0, .agg (Md.modC ⟨last + 1, T, 0, 0, -1, false, 0⟩)), (1, .agg p)] _ rfl rfl ?_ (HBUILT.out _) ?_
    · kernel_rfl
    refine hK.out _ _ HS4.out (fun _ => HR4.out) ?_
    clear hK K
    obtain ⟨cs, hcs⟩ : ∃ cs, Md.cells ⟨last + 1, T, 0, 0, -1, false, 0⟩ = cs := ⟨_, rfl⟩
    have HCS := Lib.hid hcs
    rw [hcs]
    clear hcs
    try simp only [Act.put, List.setIfInBounds_toArray, List.set_cons_zero, List.set_cons_succ]
    refine wpAnyK_one (i := 9) (by kernel_rfl) rfl (fun K hK => ?_)
    go_simp
    have hB4 : B < w4.heap.size := Nat.lt_of_lt_of_le H3.out.lt HB4.out.size
    have HB44 := Lib.hid hB4
    clear hB4
    refine hK.out _ _ (RowsS.alloc HS4.out _) (fun _ => (World.cell?_alloc_lt _ _ _ HB44.out).trans HR4.out) ?_
    clear hK K
    have HR5 := Lib.hid ((World.cell?_alloc_lt w4 (.cells cs 72) ⟨B, 1, none⟩ HB44.out).trans HR4.out)
    refine wpAnyK_one (i := 10) (by kernel_rfl) rfl (fun K hK => ?_)
    go_simp
    refine hK.out _ _ (RowsS.alloc (RowsS.alloc HS4.out _) _) (fun _ => (World.cell?_alloc_lt _ _ ⟨B, 1, none⟩ (by have := HB44.out; simp; omega)).trans HR5.out) ?_
    clear hK K
    have hs6 := RowsS.alloc (RowsS.alloc HS4.out (.cells cs 72)) (.cells #[.pointer (some ⟨w4.heap.size, 0, none⟩)] 69)
    have hmo := ((H3.out.below HB4.out).mods.alloc (.cells cs 72)).alloc (.cells #[.pointer (some ⟨w4.heap.size, 0, none⟩)] 69)
    have hyc : ((w4.alloc (.cells cs 72)).alloc (.cells #[.pointer (some ⟨w4.heap.size, 0, none⟩)] 69)).cell? ⟨w4.heap.size + 1, 0, none⟩ = some (.pointer (some ⟨w4.heap.size, 0, none⟩)) := by
      have h := heap_alloc_new (w4.alloc (.cells cs 72)) (.cells #[.pointer (some ⟨w4.heap.size, 0, none⟩)] 69)
      rw [show (w4.alloc (.cells cs 72)).heap.size = w4.heap.size + 1 by simp] at h
      rw [cell_of_row _ _ _ _ _ _ h]; rfl
    rw [HSV.out] at hmo
    have hsz6 : ((w4.alloc (.cells cs 72)).alloc (.cells #[.pointer (some ⟨w4.heap.size, 0, none⟩)] 69)).heap.size = w4.heap.size + 2 := by simp
    have HS6 := Lib.hid hs6
    have HMO := Lib.hid hmo
    have HYC := Lib.hid hyc
    have HSZ6 := Lib.hid hsz6
    have HBW := Lib.hid (show bs ≤ w4.heap.size from by have := HB44.out; have := HH.out.le; omega)
    clear hs6 hmo hyc hsz6
    refine wpAnyK_one (i := 11) (by kernel_rfl) rfl (fun K hK => ?_)
    refine step_appL1 (.tmp 42) (.tmp 48) 66 bs 69 (.pointer none) 8 (.slice A L.length cap) (L.map Md.ptr) (w4.heap.size + 1) 1 (.pointer (some ⟨w4.heap.size, 0, none⟩)) (w4.heap.size + 2) ?_ ?_ ?_ ?_ ?_ ?_ HMO.out ?_ HYC.out ?_ ?_ ?_ ?_ HSZ6.out ?_
    · rfl
    · rfl
    · rfl
    · rfl
    · rfl
    · first | rfl | simp [Act.eval]
    · first | rfl | simp [Act.eval]
    · rfl
    · (rw [List.length_map]; unfold maxLen; omega)
    · (rw [List.length_map]; omega)
    · (rw [HSZ6.out]; have := HBW.out; omega)
    intro g' cap' w5 hown5 hg5 hat5 hlt5
    rw [List.length_map] at hown5 ⊢
    have hr5 : w5.cell? ⟨B, 1, none⟩ = some (.slice A L.length cap) :=
      (hg5.cell_far ⟨B, 1, none⟩ (by rw [HSZ6.out]; have := HB44.out; show B < _; omega) (fun e => HSB.out e.symm)).trans ((World.cell?_alloc_lt _ _ ⟨B, 1, none⟩ (by have := HB44.out; simp; omega)).trans HR5.out)
    have hrow5 := (TabAt.added H3.out hl HB4.out ⟨last + 1, T, 0, 0, -1, false, w4.heap.size⟩ rfl (.cells #[.pointer (some ⟨w4.heap.size, 0, none⟩)] 69) g' cap' (by rw [HSV.out]; rw [← HCS.out] at hg5; exact hg5) hown5 (by rw [HSV.out]; exact hat5))
    have hf5 : w5.frozen? ⟨B, 1, none⟩ = false := by
      have h1 := (H3.out.below HB4.out).tab
      have h2 : w5.heap[B]? = w4.heap[B]? := (hg5.block B (by rw [HSZ6.out]; have := HB44.out; omega) (fun e => HSB.out e.symm)).trans ((Below.heap_alloc _ _ B (by have := HB44.out; simp; omega)).trans (Below.heap_alloc w4 _ B HB44.out))
      rw [h1] at h2
      exact frozen_of_row _ _ _ _ _ h2
    have HROW5 := Lib.hid hrow5
    refine hK.out _ _ (HS6.out.grown hg5 HNG.out.1 HNG.out.2) (fun _ => hr5) ?_
    clear hK K
    have HS7 := Lib.hid (HS6.out.grown hg5 HNG.out.1 HNG.out.2)
    have HR7 := Lib.hid hr5
    clear hrow5 hown5 hg5 hat5 hlt5
    try simp only [Act.put, List.setIfInBounds_toArray, List.set_cons_zero, List.set_cons_succ]
    refine wpAnyK_one (i := 12) (by kernel_rfl) rfl (fun K hK => ?_)
    go_simp
    refine hK.out _ _ HS7.out (fun _ => HR7.out) ?_
    clear hK K
    refine wpAnyK_one (i := 13) (by kernel_rfl) rfl (fun K hK => ?_)
    go_simp
    refine hK.out _ _ HS7.out (fun _ => HR7.out) ?_
    clear hK K
    refine wpAnyK_one (i := 14) (by kernel_rfl) rfl (fun K hK => ?_)
    go_simp
    refine hK.out _ _ (HS7.out.set HLE.out.1 HLE.out.2 _ _) (fun h => absurd (show true = false from h) (by decide)) ?_
    clear hK K hr5 hf5
    refine wpAnyK_done (by kernel_rfl) ?_ _
    refine NoPanic.normal ?_
    have hr8 : (w5.setCell ⟨B, 1, none⟩ (.slice (some ⟨g', 0, none⟩) (L.length + 1) cap')).cell? ⟨B, 0, none⟩ = some (.int .i64 (last + 1)) := by
      rw [cell_of_row _ _ _ _ _ _ HROW5.out.1.tab]; rfl
    generalize w5.setCell ⟨B, 1, none⟩ (.slice (some ⟨g', 0, none⟩) (L.length + 1) cap') = w6 at *
    go_wp2
    go_ret2
    refine ⟨rfl, _, _, HROW5.out.1, (HB3.out.trans HROW5.out.2.1), HA3.out.trans HB3.out.size ?_⟩
    have h := HROW5.out.2.2
    rw [HSV.out] at h ⊢
    exact h

theorem add_new (u : World) (bs B : Nat) (last : Int) (L : List Md) (att : List Int) (sv av : Value) (S T : ByteArray) (h : TabAt u bs B last L att sv av) (hS : S.size ≤ 140737488355328) (hT : KeyOf S T)
    (hno : keyL L T = none) (hl : L.length < 32) (l0 : 0 ≤ last) (l1 : last ≤ 1000000000) :
    Calls Try.prog 7 #[.pointer (some ⟨B, 0, none⟩), .string S, .agg peZ] u fun e w' => e = .returned (.tuple #[.int .i64 (last + 1), .int .i64 0]) ∧
      ∃ sv' p, TabAt w' bs B (last + 1) (L ++ [⟨last + 1, T, 0, 0, -1, false, p⟩]) att sv' av ∧ Below bs u w' :=
  (add_newF u bs B last L att sv av S T h hS hT hno hl l0 l1).mono fun e w' ⟨he, sv', p, h1, h2, _⟩ => ⟨he, sv', p, h1, h2⟩
end Go.Proofs.Ytclbbekdkljepaa
