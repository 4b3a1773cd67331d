/- package table: Get, Handle, Find, Count. -/
import Derived.Test.YtclbbekdkljepaaTabC
namespace Go.Proofs.Ytclbbekdkljepaa
open Go.ChangeShapes Go.WideShapes Go.ChangeAt Go.RowKit
set_option linter.unusedVariables false

theorem TabAt.block {u : World} {bs B : Nat} {last : Int} {L : List Md} {att : List Int} {sv av : Value} (h : TabAt u bs B last L att sv av) {id : Int} {m : Md} (hm : ofL L id = some m) :
    u.heap[m.at']? = some (.cells m.cells 72 (0, 0)) := (h.ent m (List.mem_of_find?_eq_some hm)).2.2.2.2

theorem results_cell_tmp2 {P : Program} {fn : Func} {p q : Tmp} {ty : TypeId} (h : fn.results = #[.cell p ty, .tmp q]) (tmps : Array Value) (w : World) (g : Nat) (t : TypeId) (cs : Array Value) (fr : Nat × Nat) (d : TypeDesc) (v : Value)
    (hp : tmps.getD p undef = .pointer (some ⟨g, 0, none⟩)) (hq : tmps.getD q undef = v) (hg : w.heap[g]? = some (.cells cs t fr))
    (hu : P.underlying ty = some d) (hd : (match d with | .struct _ | .array _ _ => true | _ => false) = true) (hi : (P.info? ty).map (·.size) = some cs.size) :
    (results fn tmps).run P w = .ok (.tuple #[.agg cs, v]) w := by
  have hp' : tmps[p]?.getD undef = .pointer (some ⟨g, 0, none⟩) := by simpa using hp
  have hq' : tmps[q]?.getD undef = v := by simpa using hq
  simp [results, h, hp', hq', asAddr, run_loadVar_row w g t ty cs fr d hg hu hd hi]

theorem modC_one (m : Md) : m.modC.all (·.oneCell') = true := by simp [Md.modC, Value.oneCell']

set_option maxRecDepth 100000 in
set_option maxHeartbeats 1000000 in
theorem get_yes (u : World) (bs B : Nat) (last : Int) (L : List Md) (att : List Int) (sv av : Value) (id : Int) (m : Md) (h : TabAt u bs B last L att sv av) (hm : ofL L id = some m) :
    Calls Try.prog 9 #[.pointer (some ⟨B, 0, none⟩), .int .i64 id] u fun e w' => e = .returned (.tuple #[.agg m.modC, .bool true]) ∧ Below u.heap.size u w' := by
  have HOF := Lib.hid (fun W (hb : Below u.heap.size u W) => of_any W bs B last L att sv av id (h.below hb))
  rw [ofV_some hm] at HOF
  have hg := h.block hm
  have HG := Lib.hid hg
  have HLT := Lib.hid (Array.getElem?_eq_some_iff.1 hg).1
  clear h hm hg
  go_enter Try.func9, Try.ntmps9
  go_upto_region 1 with fail
  have hb1 : Below u.heap.size u (u.alloc (.cells #[.int .i64 0, .string ⟨#[]⟩, .int .u64 0, .int .i64 0, .int .i64 0, .bool false] 50)) := (Below.refl _ _).alloc (Nat.le_refl _) _
  have hr := heap_alloc_new u (.cells #[.int .i64 0, .string ⟨#[]⟩, .int .u64 0, .int .i64 0, .int .i64 0, .bool false] 50)
  have hg1 := (hb1.block m.at' HLT.out).trans HG.out
  have HB1 := Lib.hid hb1
  clear hb1
  generalize u.alloc (.cells #[.int .i64 0, .string ⟨#[]⟩, .int .u64 0, .int .i64 0, .int .i64 0, .bool false] 50) = U at *
  have c0 : U.cell? ⟨m.at', 0, none⟩ = some (.int .i64 m.id) := by rw [cell_of_row _ _ _ _ _ _ hg1]; rfl
  have c1 : U.cell? ⟨m.at', 1, none⟩ = some (.string m.key) := by rw [cell_of_row _ _ _ _ _ _ hg1]; rfl
  have c2 : U.cell? ⟨m.at', 2, none⟩ = some (.int .u64 m.base) := by rw [cell_of_row _ _ _ _ _ _ hg1]; rfl
  have c3 : U.cell? ⟨m.at', 3, none⟩ = some (.int .i64 m.handles) := by rw [cell_of_row _ _ _ _ _ _ hg1]; rfl
  have c4 : U.cell? ⟨m.at', 4, none⟩ = some (.int .i64 m.index) := by rw [cell_of_row _ _ _ _ _ _ hg1]; rfl
  have c5 : U.cell? ⟨m.at', 5, none⟩ = some (.bool m.att) := by rw [cell_of_row _ _ _ _ _ _ hg1]; rfl
  have d0 : U.cell? ⟨u.heap.size, 0, none⟩ = some (.int .i64 0) := by rw [cell_of_row _ _ _ _ _ _ hr]; rfl
  have d1 : U.cell? ⟨u.heap.size, 1, none⟩ = some (.string ⟨#[]⟩) := by rw [cell_of_row _ _ _ _ _ _ hr]; rfl
  have d2 : U.cell? ⟨u.heap.size, 2, none⟩ = some (.int .u64 0) := by rw [cell_of_row _ _ _ _ _ _ hr]; rfl
  have d3 : U.cell? ⟨u.heap.size, 3, none⟩ = some (.int .i64 0) := by rw [cell_of_row _ _ _ _ _ _ hr]; rfl
  have d4 : U.cell? ⟨u.heap.size, 4, none⟩ = some (.int .i64 0) := by rw [cell_of_row _ _ _ _ _ _ hr]; rfl
  have d5 : U.cell? ⟨u.heap.size, 5, none⟩ = some (.bool false) := by rw [cell_of_row _ _ _ _ _ _ hr]; rfl
  have z0 := fun k => frozen_of_row U u.heap.size k _ _ hr
  have f0 := z0 0
  have f1 := z0 1
  have f2 := z0 2
  have f3 := z0 3
  have f4 := z0 4
  have f5 := z0 5
  have HR := Lib.hid hr
  clear hg1 z0 hr
  have HNE := Lib.hid (show m.at' ≠ u.heap.size by have := HLT.out; omega)
  go_wp2_with (first
    | (go_fit (HOF.out _ HB1.out); rintro e w1 ⟨rfl, rfl⟩)
    | (refine wpList_store_row rfl 50 _ _ rfl u.heap.size m.modC rfl rfl 50 _ HR.out rfl rfl (modC_one m) ?_))
  exact bodyPost_ret (v := .tuple #[.agg m.modC, .bool true]) (results_cell_tmp2 rfl _ _ u.heap.size 50 m.modC (0, 0) _ _ rfl rfl (setRow_heap _ _ _ _ _ _ HR.out) rfl rfl rfl) rfl ⟨rfl, below_setRow HB1.out (Nat.le_refl _) _⟩

/-- One module's cells turned: the rest of the table stays. -/
theorem TabAt.set {u : World} {bs B : Nat} {last : Int} {L : List Md} {att : List Int} {sv av : Value} (h : TabAt u bs B last L att sv av) (k : Nat) (hk : k < L.length) (m' : Md) (hp : m'.at' = L[k].at') (i : Nat) (v : Value)
    (hc : L[k].cells.setIfInBounds i v = m'.cells) : TabAt (u.setCell ⟨L[k].at', i, none⟩ v) bs B last (L.set k m') att sv av := by
  obtain ⟨e1, e2, e3, e4, e5⟩ := h.ent _ (List.getElem_mem hk)
  have hmap : (L.set k m').map Md.ptr = L.map Md.ptr := by
    apply List.ext_getElem (by simp)
    intro j h1 h2
    simp only [List.getElem_map, List.getElem_set]
    split
    · rename_i e; subst e; unfold Md.ptr; rw [hp]
    · rfl
  have hmap2 : (L.set k m').map Md.at' = L.map Md.at' := by
    apply List.ext_getElem (by simp)
    intro j h1 h2
    simp only [List.getElem_map, List.getElem_set]
    split
    · rename_i e; subst e; exact hp
    · rfl
  have hs : u.heap.size ≤ (u.setCell ⟨L[k].at', i, none⟩ v).heap.size := by simp [World.setCell]
  refine ⟨h.le, (heap_setCell_other u _ B v (fun e => e2 e.symm)).trans h.tab, ?_, ?_, fun m hm => ?_, by rw [hmap2]; exact h.apart, h.sB, h.aB, h.sa, by rw [List.length_set]; exact h.most⟩
  · rw [hmap]; exact h.mods.of_block hs fun b hb => heap_setCell_other u _ b v (fun e => e3 (by rw [hb, e]))
  · exact h.atts.of_block hs fun b hb => heap_setCell_other u _ b v (fun e => e4 (by rw [hb, e]))
  · obtain ⟨j, hj, rfl⟩ := List.getElem_of_mem hm
    rw [List.length_set] at hj
    rw [List.getElem_set]
    split
    · rename_i e
      subst e
      rw [hp]
      refine ⟨e1, e2, e3, e4, ?_⟩
      rw [heap_setCell_same u _ i _ _ v e5, hc]
    · rename_i e
      obtain ⟨f1, f2, f3, f4, f5⟩ := h.ent _ (List.getElem_mem hj)
      refine ⟨f1, f2, f3, f4, ?_⟩
      rw [heap_setCell_other u _ _ v ?_]
      · exact f5
      · intro q
        have hn := (List.getElem_inj (xs := L.map Md.at') (i := j) (j := k) (h₀ := by simpa using hj) (h₁ := by simpa using hk) h.apart).1 (by simpa using q)
        exact e hn.symm

theorem Md.set3 (m : Md) (n : Int) : m.cells.setIfInBounds 3 (.int .i64 n) = ({ m with handles := n } : Md).cells := by kernel_rfl
theorem Md.set5 (m : Md) (b : Bool) : m.cells.setIfInBounds 5 (.bool b) = ({ m with att := b } : Md).cells := by kernel_rfl

set_option maxHeartbeats 1000000 in
theorem handle_yes (u : World) (bs B : Nat) (last : Int) (L : List Md) (att : List Int) (sv av : Value) (id y n : Int) (k : Nat) (hk : k < L.length) (h : TabAt u bs B last L att sv av) (hm : ofL L id = some L[k]) (hn : L[k].handles = n) (n0 : 0 ≤ n) (n1 : n ≤ 1000000000)
    (y0 : -1000000 ≤ y) (y1 : y ≤ 1000000) :
    Calls Try.prog 8 #[.pointer (some ⟨B, 0, none⟩), .int .i64 id, .int .i64 y] u fun e w' => e = .returned (.tuple #[.int .i64 (max (n + y) 0), .bool true]) ∧
      w' = u.setCell ⟨L[k].at', 3, none⟩ (.int .i64 (max (n + y) 0)) := by
  have HOF := Lib.hid (of_any u bs B last L att sv av id h)
  rw [ofV_some hm] at HOF
  have hg := h.block hm
  have c3 : u.cell? ⟨L[k].at', 3, none⟩ = some (.int .i64 n) := by rw [cell_of_row _ _ _ _ _ _ hg, ← hn]; rfl
  have f3 : u.frozen? ⟨L[k].at', 3, none⟩ = false := frozen_of_row _ _ _ _ _ hg
  clear h hm hg hn
  generalize L[k].at' = E at *
  have d1 : ¬ (9223372036854775807 - n < y) := by omega
  have d2 : IntKind.i64.wrap (9223372036854775807 - n) = 9223372036854775807 - n := IntWalk.i64_in _ ⟨by omega, by omega⟩
  by_cases hp : 0 ≤ n + y
  · have HX := Lib.hid (show max (n + y) 0 = n + y by omega)
    go_enter Try.func8, Try.ntmps8
    go_wp2_with (go_fit HOF.out; rintro e w1 ⟨rfl, rfl⟩)
    go_ret2
    refine ⟨?_, ?_⟩
    · rw [HX.out]; rfl
    · rw [HX.out]
  · have HX := Lib.hid (show max (n + y) 0 = 0 by omega)
    go_enter Try.func8, Try.ntmps8
    go_wp2_with (go_fit HOF.out; rintro e w1 ⟨rfl, rfl⟩)
    go_ret2
    refine ⟨?_, ?_⟩
    · rw [HX.out]; rfl
    · rw [HX.out]

theorem handle_no (u : World) (bs B : Nat) (last : Int) (L : List Md) (att : List Int) (sv av : Value) (id y : Int) (h : TabAt u bs B last L att sv av) (hm : ofL L id = none) :
    Calls Try.prog 8 #[.pointer (some ⟨B, 0, none⟩), .int .i64 id, .int .i64 y] u fun e w' => e = .returned (.tuple #[.int .i64 0, .bool false]) ∧ u = w' := by
  have HOF := Lib.hid (of_any u bs B last L att sv av id h)
  rw [ofV_none hm] at HOF
  clear h hm
  go_enter Try.func8, Try.ntmps8
  go_wp2_with (go_fit HOF.out; rintro e w1 ⟨rfl, rfl⟩)
  go_ret2
  exact ⟨rfl, rfl⟩

theorem count_any (u : World) (bs B : Nat) (last : Int) (L : List Md) (att : List Int) (sv av : Value) (h : TabAt u bs B last L att sv av) :
    Calls Try.prog 14 #[.pointer (some ⟨B, 0, none⟩)] u fun e w' => e = .returned (.int .i64 L.length) ∧ u = w' := by
  obtain ⟨A, cap, hsv, hcap, hmax, hown⟩ := h.mods.form
  rw [List.length_map] at hsv
  have c1 : u.cell? ⟨B, 1, none⟩ = some (.slice A L.length cap) := by
    rw [cell_of_row _ _ _ _ _ _ h.tab, hsv]; rfl
  clear h hsv hcap hmax hown
  go_enter Try.func14, Try.ntmps14
  go_wp2
  go_ret
  exact ⟨rfl, rfl⟩

theorem toList_inj' {a b : ByteArray} (h : a.toList = b.toList) : a = b := by
  rw [Lib.toList_data, Lib.toList_data] at h
  exact ByteArray.ext (Array.ext' h)
/-- Find: the first module of that key. -/
def keyL (L : List Md) (T : ByteArray) : Option Md := L.find? (fun m => decide (m.key = T))
theorem keyL_none {L : List Md} {T : ByteArray} (h : ∀ j (hj : j < L.length), L[j].key ≠ T) : keyL L T = none :=
  List.find?_eq_none.2 fun m hm => by obtain ⟨j, hj, rfl⟩ := List.getElem_of_mem hm; simpa using h j hj
theorem keyL_at {L : List Md} {T : ByteArray} (k : Nat) (hk : k < L.length) (hid : L[k].key = T) (h : ∀ j (hj : j < k), (L[j]'(by omega)).key ≠ T) : keyL L T = some L[k] :=
  List.find?_eq_some_iff_getElem.2 ⟨by simpa using hid, k, hk, rfl, fun j hj => by simpa using h j hj⟩
def findV (L : List Md) (T : ByteArray) : Value := match keyL L T with | some m => .tuple #[.int .i64 m.id, .bool true] | none => .tuple #[.int .i64 0, .bool false]
theorem findV_none {L : List Md} {T : ByteArray} (h : keyL L T = none) : findV L T = .tuple #[.int .i64 0, .bool false] := by unfold findV; rw [h]
theorem findV_some {L : List Md} {T : ByteArray} {m : Md} (h : keyL L T = some m) : findV L T = .tuple #[.int .i64 m.id, .bool true] := by unfold findV; rw [h]

set_option maxHeartbeats 1000000 in
theorem find_any' (u : World) (bs B : Nat) (last : Int) (L : List Md) (att : List Int) (sv av : Value) (S T : ByteArray) (h : TabAt u bs B last L att sv av) (hS : S.size ≤ 140737488355328) (hT : KeyOf S T) :
    Calls Try.prog 12 #[.pointer (some ⟨B, 0, none⟩), .string S] u fun e w' => e = .returned (findV L T) ∧ Below u.heap.size u w' := by
  have hm32 := h.most
  have HKEY := Lib.hid (fun W => key_any S T W hS hT)
  have HH := Lib.hid h
  clear h hT
  go_enter Try.func12, Try.ntmps12
  go_upto_region 2 with (go_fit (HKEY.out _); rintro e u1 ⟨rfl, hb⟩)
  have h1 := HH.out.below hb
  have HB := Lib.hid hb
  obtain ⟨A, cap, hsv, hcap, hmax, hown⟩ := h1.mods.form
  rw [List.length_map] at hsv
  have c1 : u1.cell? ⟨B, 1, none⟩ = some (.slice A L.length cap) := by
    rw [cell_of_row _ _ _ _ _ _ h1.tab, hsv]; rfl
  have HK := Lib.hid (fun k hk => h1.at_k hsv k hk)
  clear h1 hsv hcap hmax hown hb HH HKEY
  have hl32 : (L.length : Int) ≤ 32 := by omega
  go_wp2_with fail
  go_loop [16] (fun v16 => ∃ k : Nat, k ≤ L.length ∧ v16 = .int .i64 k ∧ ∀ j (hj : j < k) (hl : j < L.length), L[j].key ≠ T) (fun v16 => L.length - (intOf v16).toNat)
  case atStart => exact ⟨0, by omega, rfl, fun j hj => by omega⟩
  case round =>
    obtain ⟨k, hk, rfl, hne⟩ := hrel
    have HNE := Lib.hid hne
    clear hne
    by_cases hlt : k < L.length
    · obtain ⟨g, rfl, hc, hg⟩ := HK.out k hlt
      have c0 : u1.cell? ⟨L[k].at', 0, none⟩ = some (.int .i64 L[k].id) := by rw [cell_of_row _ _ _ _ _ _ hg]; rfl
      have c9 : u1.cell? ⟨L[k].at', 1, none⟩ = some (.string L[k].key) := by rw [cell_of_row _ _ _ _ _ _ hg]; rfl
      clear hg
      obtain ⟨m, hm⟩ : ∃ m, L[k] = m := ⟨_, rfl⟩
      rw [hm] at hc c0 c9
      have HM := Lib.hid hm
      clear hm
      have hlt' : (k : Int) < (L.length : Int) := by omega
      by_cases hkey : m.key = T
      · have e0 : (m.key.toList == T.toList) = true := by simp [hkey]
        have HE := Lib.hid hkey
        clear hkey
        go_wp2
        go_ret2
        refine ⟨?_, HB.out⟩
        have hf := keyL_at (T := T) k hlt (by rw [HM.out]; exact HE.out) (fun j hj => HNE.out j hj (by omega))
        rw [HM.out] at hf
        rw [findV_some hf]
        rfl
      · have e0 : (m.key.toList == T.toList) = false := by
          rw [beq_eq_false_iff_ne]
          intro e
          exact hkey (toList_inj' e)
        have HE := Lib.hid hkey
        clear hkey
        go_wp2
        go_round
        case rel =>
          refine ⟨k + 1, by omega, by go_num, fun j hj hl => ?_⟩
          by_cases e : j = k
          · subst e; rw [HM.out]; exact HE.out
          · exact HNE.out j (by omega) hl
        case measure => simp [intOf]; omega
    · obtain rfl : k = L.length := by omega
      go_wp2
      go_ret2
      refine ⟨?_, HB.out⟩
      rw [findV_none (keyL_none fun j hj => HNE.out j hj hj)]
      rfl
end Go.Proofs.Ytclbbekdkljepaa
