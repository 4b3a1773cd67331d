/- package table: a module is taken from the list (slices.DeleteFunc at pointers, with Drop's test). -/
import Derived.Test.YtclbbekdkljepaaTabF
import Derived.Deep.QuietTactic
import Derived.BigQuiet
import Derived.Lib.SliceRun
namespace Go.Proofs.Ytclbbekdkljepaa
open Go.ChangeShapes Go.WideShapes Go.ChangeAt Go.RowKit
set_option linter.unusedVariables false

/-- Drop's test. -/
theorem drop1_any (W : World) (E I : Nat) (x id : Int) (h1 : W.cell? ⟨E, 0, none⟩ = some (.int .i64 x)) (h2 : W.cell? ⟨I, 0, none⟩ = some (.int .i64 id)) :
    Calls Try.prog 24 #[.pointer (some ⟨E, 0, none⟩), .pointer (some ⟨I, 0, none⟩)] W fun e w' => e = .returned (.bool (x == id)) ∧ ∃ d, w' = W.drewN d := by
  go_enter Try.func24, Try.ntmps24
  go_wp2_with fail
  go_quiet (fail)
  go_wp2_with fail
  go_ret
  exact ⟨rfl, _, rfl⟩

/-- What a list of pointers to modules reads, and the number asked for. -/
structure ListP (W : World) (g I : Nat) (id : Int) (L : List Md) : Prop where
  ptr : ∀ k (hk : k < L.length), W.cell? ⟨g, k, none⟩ = some (.pointer (some ⟨L[k].at', 0, none⟩))
  ids : ∀ k (hk : k < L.length), W.cell? ⟨L[k].at', 0, none⟩ = some (.int .i64 L[k].id)
  box : W.cell? ⟨I, 0, none⟩ = some (.int .i64 id)
theorem ListP.drewN {W : World} {g I : Nat} {id : Int} {L : List Md} (h : ListP W g I id L) (d : Nat) : ListP (W.drewN d) g I id L := ⟨h.ptr, h.ids, h.box⟩

set_option maxHeartbeats 1000000 in
theorem index_mods (W : World) (g cap I : Nat) (id : Int) (L : List Md) (h : ListP W g I id L) (hl : L.length ≤ 32) (k0 : Nat) (hk0 : k0 < L.length) (hid : L[k0].id = id) (hne : ∀ j (hj : j < k0), (L[j]'(by omega)).id ≠ id) :
    Calls Try.prog 36 #[.slice (some ⟨g, 0, none⟩) L.length cap, .func (.func 24) #[] #[.pointer (some ⟨I, 0, none⟩)]] W fun e w' => e = .returned (.int .i64 k0) ∧ ∃ d, w' = W.drewN d := by
  have eg : ∀ args w, (callFunc 24 args).run Try.prog w = .ok (.enter 24 args) w := enters_of Try.func24 (by kernel_rfl) rfl
  have HH := Lib.hid h
  have HNE := Lib.hid hne
  have HID := Lib.hid hid
  have hl' : (L.length : Int) ≤ 32 := by omega
  clear h hne hid
  go_enter Try.func36, Try.ntmps36
  go_wp2_with fail
  go_loopw [8] (fun v wr => ∃ k : Nat, k ≤ k0 ∧ v = .int .i64 k ∧ ∃ d, wr = W.drewN d) (fun v _ => L.length - (intOf v).toNat)
  case atStart => exact ⟨0, by omega, rfl, 0, rfl⟩
  case round =>
    obtain ⟨k, hk, rfl, hd⟩ := hrel
    have HD := Lib.hid hd
    have hP : ListP wr g I id L := by obtain ⟨d, rfl⟩ := hd; exact HH.out.drewN d
    have hlt : k < L.length := by omega
    have c0 := hP.ptr k hlt
    have HC := Lib.hid (drop1_any wr L[k].at' I L[k].id id (hP.ids k hlt) hP.box)
    have hlt' : (k : Int) < (L.length : Int) := by omega
    clear hd hP
    by_cases e : k = k0
    · subst e
      have e1 : (L[k].id == id) = true := by simp [HID.out]
      rw [e1] at HC
      clear e1
      generalize L[k].at' = E at *
      go_wp2_with (go_at_fn 24; refine HC.out.mono ?_; rintro e w' ⟨rfl, d, rfl⟩)
      go_ret
      refine ⟨rfl, ?_⟩
      obtain ⟨d', rfl⟩ := HD.out
      exact ⟨_, by rw [World.drewN_drewN]⟩
    · have e1 : (L[k].id == id) = false := by simpa using HNE.out k (by omega)
      rw [e1] at HC
      clear e1
      generalize L[k].at' = E at *
      go_wp2_with (go_at_fn 24; refine HC.out.mono ?_; rintro e w' ⟨rfl, d, rfl⟩)
      go_roundw
      case rel => exact ⟨k + 1, by omega, by go_num, by obtain ⟨d', rfl⟩ := HD.out; exact ⟨_, by rw [World.drewN_drewN]⟩⟩
      case measure => simp [intOf]; omega

/-- The list's cells while those behind k0 are shifted, up to j. -/
def shiftV (L : List Md) (k0 j c : Nat) : Value := if k0 ≤ c ∧ c < j then ((L.map Md.ptr)[c + 1]?).getD undef else ((L.map Md.ptr)[c]?).getD undef
theorem shiftV_start (L : List Md) (k0 c : Nat) : shiftV L k0 k0 c = ((L.map Md.ptr)[c]?).getD undef := by
  unfold shiftV; rw [if_neg (by omega)]
theorem shiftV_at (L : List Md) (k0 j c : Nat) (h : j ≤ c) (hc : c < L.length) : shiftV L k0 j c = .pointer (some ⟨L[c].at', 0, none⟩) := by
  unfold shiftV
  rw [if_neg (by omega), List.getElem?_map, List.getElem?_eq_getElem hc]; rfl
theorem shiftV_step (L : List Md) (k0 j c : Nat) (hk : k0 ≤ j) (hj : j + 1 < L.length) : shiftV L k0 (j + 1) c = if c = j then .pointer (some ⟨L[j + 1].at', 0, none⟩) else shiftV L k0 j c := by
  unfold shiftV
  by_cases e : c = j
  · subst e
    rw [if_pos (by omega), if_pos rfl, List.getElem?_map, List.getElem?_eq_getElem hj]; rfl
  · rw [if_neg e]
    by_cases h : k0 ≤ c ∧ c < j
    · rw [if_pos h, if_pos (by omega)]
    · rw [if_neg h, if_neg (by omega)]
theorem shiftV_end (L : List Md) (k0 : Nat) (hk : k0 < L.length) (c : Nat) (hc : c < L.length - 1) : ((L.eraseIdx k0).map Md.ptr)[c]? = some (shiftV L k0 (L.length - 1) c) := by
  unfold shiftV
  rw [List.getElem?_map, List.getElem?_eraseIdx]
  by_cases h : c < k0
  · rw [if_pos h, if_neg (by omega), List.getElem?_map, List.getElem?_eq_getElem (by omega)]; rfl
  · rw [if_neg h, if_pos (by omega), List.getElem?_map, List.getElem?_eq_getElem (by omega)]; rfl

/-- Block g holds those cells. -/
def RowV (W : World) (g cap n : Nat) (f : Nat → Value) : Prop := ∃ cur, W.heap[g]? = some (.cells cur 69 (0, 0)) ∧ cur.size = cap ∧ ∀ c, c < n → cur[c]? = some (f c)
theorem RowV.cell {W : World} {g cap n : Nat} {f : Nat → Value} (h : RowV W g cap n f) {c : Nat} (hc : c < n) : W.cell? ⟨g, c, none⟩ = some (f c) := by
  obtain ⟨cur, h1, _, h3⟩ := h
  rw [cell_of_row _ _ _ _ _ _ h1, h3 c hc]
theorem RowV.frozen {W : World} {g cap n : Nat} {f : Nat → Value} (h : RowV W g cap n f) (c : Nat) : W.frozen? ⟨g, c, none⟩ = false := by
  obtain ⟨cur, h1, _, _⟩ := h
  exact frozen_of_row _ _ _ _ _ h1
theorem RowV.set {W : World} {g cap n : Nat} {f f' : Nat → Value} (h : RowV W g cap n f) (i : Nat) (v : Value) (hi : i < cap) (hf : ∀ c, c < n → f' c = if c = i then v else f c) : RowV (W.setCell ⟨g, i, none⟩ v) g cap n f' := by
  obtain ⟨cur, h1, h2, h3⟩ := h
  refine ⟨cur.setIfInBounds i v, heap_setCell_same W g i _ _ v h1, by simpa using h2, fun c hc => ?_⟩
  rw [hf c hc, Array.getElem?_setIfInBounds]
  by_cases e : c = i
  · subst e; rw [if_pos rfl, if_pos rfl, if_pos (by omega)]
  · rw [if_neg (fun e' => e e'.symm), if_neg e, h3 c hc]

set_option maxHeartbeats 2000000 in
theorem del_mods (W : World) (bs g cap I : Nat) (id : Int) (L : List Md) (hown : OwnL W bs 69 (.slice (some ⟨g, 0, none⟩) L.length cap) (L.map Md.ptr)) (hbg : bs ≤ g)
    (hids : ∀ k (hk : k < L.length), W.cell? ⟨L[k].at', 0, none⟩ = some (.int .i64 L[k].id) ∧ L[k].at' < W.heap.size ∧ L[k].at' ≠ g) (hbox : W.cell? ⟨I, 0, none⟩ = some (.int .i64 id)) (hI : I < W.heap.size ∧ I ≠ g)
    (hl : L.length ≤ 32) (k0 : Nat) (hk0 : k0 < L.length) (hid : L[k0].id = id) (hne : ∀ j (hj : j < L.length), j ≠ k0 → L[j].id ≠ id) :
    Calls Try.prog 23 #[.slice (some ⟨g, 0, none⟩) L.length cap, .func (.func 24) #[] #[.pointer (some ⟨I, 0, none⟩)]] W fun e w' =>
      e = .returned (.slice (some ⟨g, 0, none⟩) (L.length - 1) cap) ∧ OwnL w' bs 69 (.slice (some ⟨g, 0, none⟩) (L.length - 1) cap) ((L.eraseIdx k0).map Md.ptr) ∧ W.grownBy w' (some g) := by
  have eg : ∀ args w, (callFunc 24 args).run Try.prog w = .ok (.enter 24 args) w := enters_of Try.func24 (by kernel_rfl) rfl
  obtain ⟨hcap, hmax, hrow⟩ : L.length ≤ cap ∧ cap ≤ maxLen ∧ RowV W g cap L.length (shiftV L k0 k0) := by
    rcases hown.2 with ⟨h1, _⟩ | ⟨g', cap', cur, h1, _, h3, h4, h5, h6, h7⟩
    · cases h1
    · injection h1 with h1 h1b h1c
      injection h1 with h1
      injection h1 with h1 _ _
      subst h1; subst h1c
      refine ⟨by simpa using h4, h5, cur, h3, by omega, fun c hc => ?_⟩
      rw [shiftV_start]
      have e : cur.toList[c]? = (L.map Md.ptr)[c]? := by rw [← h7, List.getElem?_take, if_pos (by simpa using hc)]
      rw [← Array.getElem?_toList, e, List.getElem?_eq_getElem (by simpa using hc)]; rfl
  have HP0 : ListP W g I id L := ⟨fun k hk => by rw [hrow.cell hk, shiftV_start, List.getElem?_map, List.getElem?_eq_getElem hk]; rfl, fun k hk => (hids k hk).1, hbox⟩
  have HIX := Lib.hid (index_mods W g cap I id L HP0 hl k0 hk0 hid (fun j hj => hne j (by omega) (by omega)))
  have HIDS := Lib.hid hids
  have HNE := Lib.hid hne
  have HROW := Lib.hid hrow
  have HBOX := Lib.hid hbox
  have HI := Lib.hid hI
  have HC := Lib.hid hcap
  have HM := Lib.hid hmax
  have hl' : (L.length : Int) ≤ 32 := by omega
  have hk1 : ((k0 : Int) == -1) = false := beq_eq_false_iff_ne.2 (by omega)
  clear hown hids hbox hI hid hne hrow hcap hmax HP0
  go_enter Try.func23, Try.ntmps23
  go_wp2_with (go_fit HIX.out; rintro e w1 ⟨rfl, d, rfl⟩)
  go_loopw [5, 6] (fun v5 v6 wr => ∃ j : Nat, k0 ≤ j ∧ j + 1 ≤ L.length ∧ v5 = .int .i64 j ∧ v6 = .int .i64 (j + 1) ∧ RowV wr g cap L.length (shiftV L k0 j) ∧ W.grownBy wr (some g)) (fun _ v6 _ => L.length - (intOf v6).toNat)
  case atStart => exact ⟨k0, by omega, by omega, rfl, rfl, HROW.out, ⟨rfl, rfl, rfl, Nat.le_refl _, fun _ _ _ => rfl⟩⟩
  case round =>
    obtain ⟨j, hj, hjl, rfl, rfl, hrow, hgr⟩ := hrel
    have HR := Lib.hid hrow
    have HG := Lib.hid hgr
    clear hrow hgr
    by_cases hlt : j + 1 < L.length
    · have c1 : wr.cell? ⟨g, j + 1, none⟩ = some (.pointer (some ⟨L[j + 1].at', 0, none⟩)) := by rw [HR.out.cell hlt, shiftV_at L k0 j (j + 1) (by omega) hlt]
      have c0 := HR.out.cell (c := j) (by omega)
      have f0 := HR.out.frozen j
      obtain ⟨i1, i2, i3⟩ := HIDS.out (j + 1) hlt
      have HCL := Lib.hid (drop1_any wr L[j + 1].at' I L[j + 1].id id ((HG.out.cell_far ⟨_, 0, none⟩ i2 (fun e => i3 (by injection e))).trans i1) ((HG.out.cell_far ⟨I, 0, none⟩ HI.out.1 (fun e => HI.out.2 (by injection e))).trans HBOX.out))
      have e1 : (L[j + 1].id == id) = false := by simpa using HNE.out (j + 1) hlt (by omega)
      rw [e1] at HCL
      have HST := Lib.hid (HR.out.set j (.pointer (some ⟨L[j + 1].at', 0, none⟩)) (by have := HC.out; omega) (fun c _ => shiftV_step L k0 j c hj hlt))
      have hlt' : (j : Int) + 1 < (L.length : Int) := by omega
      have hjl' : (j : Int) < (L.length : Int) := by omega
      have hw1 : ((j : Int) + 1).toNat = j + 1 := by omega
      have hz0 : (0 : Int) ≤ (j : Int) + 1 := by omega
      clear e1 i1 i2 i3
      generalize L[j + 1].at' = E at *
      generalize shiftV L k0 j j = old at *
      go_wp2_with (go_at_fn 24; refine HCL.out.mono ?_; rintro e w' ⟨rfl, d, rfl⟩)
      go_roundw
      case rel => exact ⟨j + 1, by omega, by omega, by go_num, by go_num, HST.out, only_setCell (a := W) (w := wr.drewN d) (g := g) (p := ⟨g, j, none⟩) ⟨HG.out.os, HG.out.tape, HG.out.output, HG.out.size, HG.out.block⟩ (.inl rfl) _⟩
      case measure => simp [intOf]; omega
    · obtain ⟨n, hn⟩ : ∃ n, L.length = n + 1 := ⟨L.length - 1, by omega⟩
      obtain rfl : j = n := by omega
      have c1 := HR.out.cell (c := j) (by omega)
      have f1 := HR.out.frozen j
      have hclr : ∀ ty, (Builtin.clear_ #[66] ty #[.slice (some ⟨g, j, none⟩) 1 (cap - j)]).run Try.prog wr = .ok (.tuple #[]) (wr.setCell ⟨g, j, none⟩ (.pointer none)) := fun ty =>
        Lib.run_clear_slice wr 66 69 ty (.pointer none) Try.underlying66 Try.zeroValue69 rfl rfl g j 1 (cap - j) (by omega) (fun i hi => by have e : i = 0 := (by omega); subst e; rw [Nat.add_zero, c1]; rfl) (fun i hi => by have e : i = 0 := (by omega); subst e; exact f1)
      have HST := HR.out.set (f' := fun c => if c = j then .pointer none else shiftV L k0 j c) j (.pointer none) (by have := HC.out; omega) (fun c _ => rfl)
      have HFIN : OwnL (wr.setCell ⟨g, j, none⟩ (.pointer none)) bs 69 (.slice (some ⟨g, 0, none⟩) j cap) ((L.eraseIdx k0).map Md.ptr) := by
        obtain ⟨cur, h1, h2, h3⟩ := HST
        have hlen : ((L.eraseIdx k0).map Md.ptr).length = j := by rw [List.length_map, List.length_eraseIdx, if_pos hk0]; omega
        unfold OwnL
        rw [hlen]
        refine ⟨by rw [hlen]; omega, .inr ⟨g, cap, cur, rfl, hbg, h1, by have := HC.out; omega, HM.out, by omega, ?_⟩⟩
        rw [Nat.mul_one]
        apply List.ext_getElem?
        intro c
        by_cases hc : c < j
        · have e1 := h3 c (by omega)
          have e2 := shiftV_end L k0 hk0 c (by omega)
          rw [List.getElem?_take, if_pos (by omega), Array.getElem?_toList, e1, e2]; exact congrArg some (show (if c = j then Value.pointer none else shiftV L k0 j c) = shiftV L k0 (L.length - 1) c by rw [if_neg (by omega), hn]; rfl)
        · rw [List.getElem?_take, if_neg (by omega), List.getElem?_eq_none]
          omega
      have HF := Lib.hid HFIN
      have HGG := Lib.hid (only_setCell (g := g) (p := ⟨g, j, none⟩) HG.out (.inl rfl) (.pointer none))
      have hjc : ¬ (cap : Int) < (j : Int) := by have := HC.out; omega
      have hjc' : ¬ cap = j := by have := HC.out; omega
      have HN := Lib.hid (show L.length - 1 = j by omega)
      have hn' : (L.length : Int) = (j : Int) + 1 := by omega
      rw [hn]
      clear hn
      go_wp2_with fail
      go_ret
      rw [HN.out]
      exact ⟨rfl, HF.out, HGG.out⟩
end Go.Proofs.Ytclbbekdkljepaa
