/- package table: a number is taken from the list of those that are attached (slices.DeleteFunc at numbers). -/
import Derived.Test.YtclbbekdkljepaaTabG
namespace Go.Proofs.Ytclbbekdkljepaa
open Go.ChangeShapes Go.WideShapes Go.ChangeAt Go.RowKit
set_option linter.unusedVariables false

theorem det1_any (W : World) (I : Nat) (x id : Int) (h2 : W.cell? ⟨I, 0, none⟩ = some (.int .i64 id)) :
    Calls Try.prog 35 #[.int .i64 x, .pointer (some ⟨I, 0, none⟩)] W fun e w' => e = .returned (.bool (x == id)) ∧ W = w' := by
  go_enter Try.func35, Try.ntmps35
  go_wp2_with fail
  go_ret
  exact ⟨rfl, rfl⟩

/-- What a list of pointers to modules reads, and the number asked for. -/
structure ListI (W : World) (g I : Nat) (id : Int) (L : List Int) : Prop where
  ptr : ∀ k (hk : k < L.length), W.cell? ⟨g, k, none⟩ = some (.int .i64 L[k])
  box : W.cell? ⟨I, 0, none⟩ = some (.int .i64 id)
theorem ListI.drewN {W : World} {g I : Nat} {id : Int} {L : List Int} (h : ListI W g I id L) (d : Nat) : ListI (W.drewN d) g I id L := ⟨h.ptr, h.box⟩

set_option maxHeartbeats 1000000 in
theorem index_ints (W : World) (g cap I : Nat) (id : Int) (L : List Int) (h : ListI W g I id L) (hl : L.length ≤ 1000) (k0 : Nat) (hk0 : k0 < L.length) (hid : L[k0] = id) (hne : ∀ j (hj : j < k0), (L[j]'(by omega)) ≠ id) :
    Calls Try.prog 40 #[.slice (some ⟨g, 0, none⟩) L.length cap, .func (.func 35) #[] #[.pointer (some ⟨I, 0, none⟩)]] W fun e w' => e = .returned (.int .i64 k0) ∧ ∃ d, w' = W.drewN d := by
  have eg : ∀ args w, (callFunc 35 args).run Try.prog w = .ok (.enter 35 args) w := enters_of Try.func35 (by kernel_rfl) rfl
  have HH := Lib.hid h
  have HNE := Lib.hid hne
  have HID := Lib.hid hid
  have hl' : (L.length : Int) ≤ 1000 := by omega
  clear h hne hid
  go_enter Try.func40, Try.ntmps40
  go_wp2_with fail
  go_loopw [8] (fun v wr => ∃ k : Nat, k ≤ k0 ∧ v = .int .i64 k ∧ ∃ d, wr = W.drewN d) (fun v _ => L.length - (intOf v).toNat)
  case atStart => exact ⟨0, by omega, rfl, 0, rfl⟩
  case round =>
    obtain ⟨k, hk, rfl, hd⟩ := hrel
    have HD := Lib.hid hd
    have hP : ListI wr g I id L := by obtain ⟨d, rfl⟩ := hd; exact HH.out.drewN d
    have hlt : k < L.length := by omega
    have c0 := hP.ptr k hlt
    have HC := Lib.hid (det1_any wr I L[k] id hP.box)
    have hlt' : (k : Int) < (L.length : Int) := by omega
    clear hd hP
    by_cases e : k = k0
    · subst e
      have e1 : (L[k] == id) = true := by simp [HID.out]
      rw [e1] at HC
      clear e1
      generalize L[k] = E at *
      go_wp2_with (go_at_fn 35; refine HC.out.mono ?_; rintro e w' ⟨rfl, rfl⟩)
      go_ret
      exact ⟨rfl, HD.out⟩
    · have e1 : (L[k] == id) = false := by simpa using HNE.out k (by omega)
      rw [e1] at HC
      clear e1
      generalize L[k] = E at *
      go_wp2_with (go_at_fn 35; refine HC.out.mono ?_; rintro e w' ⟨rfl, rfl⟩)
      go_roundw
      case rel => exact ⟨k + 1, by omega, by go_num, HD.out⟩
      case measure => simp [intOf]; omega

/-- The list's cells while those behind k0 are shifted, up to j. -/
def shiftI (L : List Int) (k0 j c : Nat) : Value := if k0 ≤ c ∧ c < j then ((L.map (Value.int .i64))[c + 1]?).getD undef else ((L.map (Value.int .i64))[c]?).getD undef
theorem shiftI_start (L : List Int) (k0 c : Nat) : shiftI L k0 k0 c = ((L.map (Value.int .i64))[c]?).getD undef := by
  unfold shiftI; rw [if_neg (by omega)]
theorem shiftI_at (L : List Int) (k0 j c : Nat) (h : j ≤ c) (hc : c < L.length) : shiftI L k0 j c = .int .i64 L[c] := by
  unfold shiftI
  rw [if_neg (by omega), List.getElem?_map, List.getElem?_eq_getElem hc]; rfl
theorem shiftI_step (L : List Int) (k0 j c : Nat) (hk : k0 ≤ j) (hj : j + 1 < L.length) : shiftI L k0 (j + 1) c = if c = j then .int .i64 L[j + 1] else shiftI L k0 j c := by
  unfold shiftI
  by_cases e : c = j
  · subst e
    rw [if_pos (by omega), if_pos rfl, List.getElem?_map, List.getElem?_eq_getElem hj]; rfl
  · rw [if_neg e]
    by_cases h : k0 ≤ c ∧ c < j
    · rw [if_pos h, if_pos (by omega)]
    · rw [if_neg h, if_neg (by omega)]
theorem shiftI_end (L : List Int) (k0 : Nat) (hk : k0 < L.length) (c : Nat) (hc : c < L.length - 1) : ((L.eraseIdx k0).map (Value.int .i64))[c]? = some (shiftI L k0 (L.length - 1) c) := by
  unfold shiftI
  rw [List.getElem?_map, List.getElem?_eraseIdx]
  by_cases h : c < k0
  · rw [if_pos h, if_neg (by omega), List.getElem?_map, List.getElem?_eq_getElem (by omega)]; rfl
  · rw [if_neg h, if_pos (by omega), List.getElem?_map, List.getElem?_eq_getElem (by omega)]; rfl

/-- Block g holds those cells. -/
def RowVI (W : World) (g cap n : Nat) (f : Nat → Value) : Prop := ∃ cur, W.heap[g]? = some (.cells cur 3 (0, 0)) ∧ cur.size = cap ∧ ∀ c, c < n → cur[c]? = some (f c)
theorem RowVI.cell {W : World} {g cap n : Nat} {f : Nat → Value} (h : RowVI W g cap n f) {c : Nat} (hc : c < n) : W.cell? ⟨g, c, none⟩ = some (f c) := by
  obtain ⟨cur, h1, _, h3⟩ := h
  rw [cell_of_row _ _ _ _ _ _ h1, h3 c hc]
theorem RowVI.frozen {W : World} {g cap n : Nat} {f : Nat → Value} (h : RowVI W g cap n f) (c : Nat) : W.frozen? ⟨g, c, none⟩ = false := by
  obtain ⟨cur, h1, _, _⟩ := h
  exact frozen_of_row _ _ _ _ _ h1
theorem RowVI.set {W : World} {g cap n : Nat} {f f' : Nat → Value} (h : RowVI W g cap n f) (i : Nat) (v : Value) (hi : i < cap) (hf : ∀ c, c < n → f' c = if c = i then v else f c) : RowVI (W.setCell ⟨g, i, none⟩ v) g cap n f' := by
  obtain ⟨cur, h1, h2, h3⟩ := h
  refine ⟨cur.setIfInBounds i v, heap_setCell_same W g i _ _ v h1, by simpa using h2, fun c hc => ?_⟩
  rw [hf c hc, Array.getElem?_setIfInBounds]
  by_cases e : c = i
  · subst e; rw [if_pos rfl, if_pos rfl, if_pos (by omega)]
  · rw [if_neg (fun e' => e e'.symm), if_neg e, h3 c hc]

set_option maxHeartbeats 2000000 in
theorem del_ints (W : World) (bs g cap I : Nat) (id : Int) (L : List Int) (hown : OwnL W bs 3 (.slice (some ⟨g, 0, none⟩) L.length cap) (L.map (Value.int .i64))) (hbg : bs ≤ g)
    (hbox : W.cell? ⟨I, 0, none⟩ = some (.int .i64 id)) (hI : I < W.heap.size ∧ I ≠ g)
    (hl : L.length ≤ 1000) (k0 : Nat) (hk0 : k0 < L.length) (hid : L[k0] = id) (hne : ∀ j (hj : j < L.length), j ≠ k0 → L[j] ≠ id) :
    Calls Try.prog 34 #[.slice (some ⟨g, 0, none⟩) L.length cap, .func (.func 35) #[] #[.pointer (some ⟨I, 0, none⟩)]] W fun e w' =>
      e = .returned (.slice (some ⟨g, 0, none⟩) (L.length - 1) cap) ∧ OwnL w' bs 3 (.slice (some ⟨g, 0, none⟩) (L.length - 1) cap) ((L.eraseIdx k0).map (Value.int .i64)) ∧ W.grownBy w' (some g) := by
  have eg : ∀ args w, (callFunc 35 args).run Try.prog w = .ok (.enter 35 args) w := enters_of Try.func35 (by kernel_rfl) rfl
  obtain ⟨hcap, hmax, hrow⟩ : L.length ≤ cap ∧ cap ≤ maxLen ∧ RowVI W g cap L.length (shiftI L k0 k0) := by
    rcases hown.2 with ⟨h1, _⟩ | ⟨g', cap', cur, h1, _, h3, h4, h5, h6, h7⟩
    · cases h1
    · injection h1 with h1 h1b h1c
      injection h1 with h1
      injection h1 with h1 _ _
      subst h1; subst h1c
      refine ⟨by simpa using h4, h5, cur, h3, by omega, fun c hc => ?_⟩
      rw [shiftI_start]
      have e : cur.toList[c]? = (L.map (Value.int .i64))[c]? := by rw [← h7, List.getElem?_take, if_pos (by simpa using hc)]
      rw [← Array.getElem?_toList, e, List.getElem?_eq_getElem (by simpa using hc)]; rfl
  have HP0 : ListI W g I id L := ⟨fun k hk => by rw [hrow.cell hk, shiftI_start, List.getElem?_map, List.getElem?_eq_getElem hk]; rfl, hbox⟩
  have HIX := Lib.hid (index_ints W g cap I id L HP0 hl k0 hk0 hid (fun j hj => hne j (by omega) (by omega)))
  have HNE := Lib.hid hne
  have HROW := Lib.hid hrow
  have HBOX := Lib.hid hbox
  have HI := Lib.hid hI
  have HC := Lib.hid hcap
  have HM := Lib.hid hmax
  have hl' : (L.length : Int) ≤ 1000 := by omega
  have hk1 : ((k0 : Int) == -1) = false := beq_eq_false_iff_ne.2 (by omega)
  clear hown hbox hI hid hne hrow hcap hmax HP0
  go_enter Try.func34, Try.ntmps34
  go_wp2_with (go_fit HIX.out; rintro e w1 ⟨rfl, d, rfl⟩)
  go_loopw [5, 6] (fun v5 v6 wr => ∃ j : Nat, k0 ≤ j ∧ j + 1 ≤ L.length ∧ v5 = .int .i64 j ∧ v6 = .int .i64 (j + 1) ∧ RowVI wr g cap L.length (shiftI L k0 j) ∧ W.grownBy wr (some g)) (fun _ v6 _ => L.length - (intOf v6).toNat)
  case atStart => exact ⟨k0, by omega, by omega, rfl, rfl, HROW.out, ⟨rfl, rfl, rfl, Nat.le_refl _, fun _ _ _ => rfl⟩⟩
  case round =>
    obtain ⟨j, hj, hjl, rfl, rfl, hrow, hgr⟩ := hrel
    have HR := Lib.hid hrow
    have HG := Lib.hid hgr
    clear hrow hgr
    by_cases hlt : j + 1 < L.length
    · have c1 : wr.cell? ⟨g, j + 1, none⟩ = some (.int .i64 L[j + 1]) := by rw [HR.out.cell hlt, shiftI_at L k0 j (j + 1) (by omega) hlt]
      have c0 := HR.out.cell (c := j) (by omega)
      have f0 := HR.out.frozen j
      have HCL := Lib.hid (det1_any wr I L[j + 1] id ((HG.out.cell_far ⟨I, 0, none⟩ HI.out.1 (fun e => HI.out.2 (by injection e))).trans HBOX.out))
      have e1 : (L[j + 1] == id) = false := by simpa using HNE.out (j + 1) hlt (by omega)
      rw [e1] at HCL
      have HST := Lib.hid (HR.out.set j (.int .i64 L[j + 1]) (by have := HC.out; omega) (fun c _ => shiftI_step L k0 j c hj hlt))
      have hlt' : (j : Int) + 1 < (L.length : Int) := by omega
      have hjl' : (j : Int) < (L.length : Int) := by omega
      have hw1 : ((j : Int) + 1).toNat = j + 1 := by omega
      have hz0 : (0 : Int) ≤ (j : Int) + 1 := by omega
      clear e1
      generalize L[j + 1] = E at *
      generalize shiftI L k0 j j = old at *
      go_wp2_with (go_at_fn 35; refine HCL.out.mono ?_; rintro e w' ⟨rfl, rfl⟩)
      go_roundw
      case rel => exact ⟨j + 1, by omega, by omega, by go_num, by go_num, HST.out, only_setCell (a := W) (w := wr) (g := g) (p := ⟨g, j, none⟩) HG.out (.inl rfl) _⟩
      case measure => simp [intOf]; omega
    · obtain ⟨n, hn⟩ : ∃ n, L.length = n + 1 := ⟨L.length - 1, by omega⟩
      obtain rfl : j = n := by omega
      have c1 := HR.out.cell (c := j) (by omega)
      have f1 := HR.out.frozen j
      have hclr : ∀ ty, (Builtin.clear_ #[22] ty #[.slice (some ⟨g, j, none⟩) 1 (cap - j)]).run Try.prog wr = .ok (.tuple #[]) (wr.setCell ⟨g, j, none⟩ (.int .i64 0)) := fun ty =>
        Lib.run_clear_slice wr 22 3 ty (.int .i64 0) Try.underlying22 Try.zeroValue3 rfl rfl g j 1 (cap - j) (by omega) (fun i hi => by have e : i = 0 := (by omega); subst e; rw [Nat.add_zero, c1]; rfl) (fun i hi => by have e : i = 0 := (by omega); subst e; exact f1)
      have HST := HR.out.set (f' := fun c => if c = j then .int .i64 0 else shiftI L k0 j c) j (.int .i64 0) (by have := HC.out; omega) (fun c _ => rfl)
      have HFIN : OwnL (wr.setCell ⟨g, j, none⟩ (.int .i64 0)) bs 3 (.slice (some ⟨g, 0, none⟩) j cap) ((L.eraseIdx k0).map (Value.int .i64)) := by
        obtain ⟨cur, h1, h2, h3⟩ := HST
        have hlen : ((L.eraseIdx k0).map (Value.int .i64)).length = j := by rw [List.length_map, List.length_eraseIdx, if_pos hk0]; omega
        unfold OwnL
        rw [hlen]
        refine ⟨by rw [hlen]; omega, .inr ⟨g, cap, cur, rfl, hbg, h1, by have := HC.out; omega, HM.out, by omega, ?_⟩⟩
        rw [Nat.mul_one]
        apply List.ext_getElem?
        intro c
        by_cases hc : c < j
        · have e1 := h3 c (by omega)
          have e2 := shiftI_end L k0 hk0 c (by omega)
          rw [List.getElem?_take, if_pos (by omega), Array.getElem?_toList, e1, e2]; exact congrArg some (show (if c = j then Value.int .i64 0 else shiftI L k0 j c) = shiftI L k0 (L.length - 1) c by rw [if_neg (by omega), hn]; rfl)
        · rw [List.getElem?_take, if_neg (by omega), List.getElem?_eq_none]
          omega
      have HF := Lib.hid HFIN
      have HGG := Lib.hid (only_setCell (g := g) (p := ⟨g, j, none⟩) HG.out (.inl rfl) (.int .i64 0))
      have hjc : ¬ (cap : Int) < (j : Int) := by have := HC.out; omega
      have hjc' : ¬ cap = j := by have := HC.out; omega
      have HN := Lib.hid (show L.length - 1 = j by omega)
      have hn' : (L.length : Int) = (j : Int) + 1 := by omega
      rw [hn]
      clear hn
      go_wp2_with fail
      go_ret
      rw [HN.out]
      exact ⟨rfl, HF.out, HGG.out⟩
end Go.Proofs.Ytclbbekdkljepaa
