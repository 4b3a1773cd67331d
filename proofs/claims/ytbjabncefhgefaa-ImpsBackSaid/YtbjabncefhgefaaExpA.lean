/- package exps: the directory itself; one function. -/
import Derived.Test.YtbjabncefhgefaaExpM
import Derived.Test.YtbjabncefhgefaaOwnT
import Derived.Test.YtbjabncefhgefaaRegK
import Derived.Laws.MakeOwn
import Derived.Deep.Cut
namespace Go.Proofs.Ytbjabncefhgefaa
open Go.ChangeShapes Go.WideShapes Go.ChangeAt Go.RowKit
set_option linter.unusedVariables false
set_option linter.unusedSimpArgs false

/-- How many functions and names there are, and where. -/
structure Rw where
  base : Nat
  funcs : Nat
  names : Nat
  atF : Nat
  atN : Nat
  atI : Nat
def Rw.cells (r : Rw) : Array Value := #[.int .i64 r.base, .int .i64 r.funcs, .int .i64 r.names, .int .i64 r.atF, .int .i64 r.atN, .int .i64 r.atI]
def inL (n at' len : Nat) : Bool := decide (len = 0) || decide (at' + len ≤ n)
def rowsL (b : List Nat) (o : Nat) : Rw := ⟨numL (b.drop (o + 16)) 4, numL (b.drop (o + 20)) 4, numL (b.drop (o + 24)) 4, numL (b.drop (o + 28)) 4, numL (b.drop (o + 32)) 4, numL (b.drop (o + 36)) 4⟩
def Rw.ok (r : Rw) (n : Nat) : Bool := decide (r.base < 65536) && decide (r.funcs ≤ 256) && decide (r.names ≤ 256) && decide (r.base + r.funcs ≤ 65536) && inL n r.atF (4 * r.funcs) && inL n r.atN (4 * r.names) && inL n r.atI (2 * r.names)
def findE (b : List Nat) (rva size : Int) : Option Rw :=
  if 40 ≤ size ∧ 0 ≤ rva ∧ rva ≤ b.length - size then
    if (rowsL b rva.toNat).ok b.length then some (rowsL b rva.toNat) else none
  else none

/-- A function: where it is, or the way that it leads. -/
abbrev FnV := Nat × List Nat
def readFn (b : List Nat) (rva size v : Nat) : Option FnV :=
  if v < rva ∨ size ≤ v - rva then (if v < b.length then some (v, []) else none)
  else match textL b v 64 with
    | none => none
    | some t => if splitOk t then some (0, t) else none

theorem u32e_any (A : Option Addr) (cap : Nat) (bs : List Nat) (o : Nat) (w : World) (hl : bs.length ≤ 9223372036854775807) (hb : Lb bs) (h : o + 4 ≤ bs.length) (hs : SlB w A bs.length (lF bs)) :
    Calls Try.prog 45 #[.slice A bs.length cap, .int .i64 o] w fun e w' => e = .returned (.int .i64 (numL (bs.drop o) 4)) ∧ w = w' := by
  have H := Lib.hid (u32_list A cap bs o w hl hb h hs)
  clear hs hb
  go_enter Try.func45, Try.ntmps45
  go_wp2_with fail
  refine H.out.mono ?_
  rintro e w' ⟨rfl, rfl⟩
  go_wp2_with fail
  go_ret
  exact ⟨rfl, rfl⟩

theorem rowInE_any (A : Option Addr) (len cap at' n : Nat) (w : World) (hl : len ≤ 9223372036854775807) (hn : n ≤ 1000000) :
    Calls Try.prog 46 #[.slice A len cap, .int .i64 at', .int .i64 n] w fun e w' => e = .returned (.bool (inL len at' n)) ∧ w = w' := by
  have H := Lib.hid (rowIn_any A len cap at' n (decide (at' + n ≤ len)) w hl (by omega) (by omega) (by rw [decide_eq_true_iff]; omega))
  by_cases c : n = 0
  · subst c
    have : inL len at' 0 = true := by simp [inL]
    rw [this]
    clear H this
    go_enter Try.func46, Try.ntmps46
    go_wp2_with fail
    go_ret
    exact ⟨rfl, rfl⟩
  · have : inL len at' n = decide (at' + n ≤ len) := by simp [inL, c]
    rw [this]
    have d : ((n : Int) == 0) = false := beq_eq_false_iff_ne.mpr (by omega)
    generalize decide (at' + n ≤ len) = B at *
    clear this c
    go_enter Try.func46, Try.ntmps46
    go_wp2_with fail
    refine H.out.mono ?_
    rintro e w' ⟨rfl, rfl⟩
    go_wp2_with fail
    go_ret
    exact ⟨rfl, rfl⟩

/-- What readFunc tells. -/
def ReadF (r : Option FnV) (e : Ending) : Prop := ∃ (x : Nat) (S : ByteArray) (ok : Bool), e = .returned (.tuple #[.agg #[.int .i64 x, .string S], .bool ok]) ∧ (r = none → ok = false) ∧ (∀ f, r = some f → ok = true ∧ x = f.1 ∧ S = txt f.2)

theorem textL_lb' {b : List Nat} (h : Lb b) {o most : Nat} {t : List Nat} (ht : textL b o most = some t) : Lb t ∧ t.length ≤ most := by
  obtain ⟨_, h2, _, _, h5⟩ := textL_some ht
  exact ⟨by rw [h5]; exact (h.drop o).take _, h2⟩

set_option maxHeartbeats 1000000 in
theorem readFn_any (A : Option Addr) (cap : Nat) (bs : List Nat) (rva size v : Nat) (w : World) (hb : Lb bs) (hl : bs.length ≤ cap) (hc : cap ≤ 9223372036854775807) (hs : SlB w A bs.length (lF bs)) (hr : rva ≤ 9223372036854775807) (hz : size ≤ 9223372036854775807) (hv : v < 4294967296) :
    Calls Try.prog 47 #[.slice A bs.length cap, .agg #[.int .i64 rva, .int .i64 size], .int .i64 v] w fun e w' => ReadF (readFn bs rva size v) e ∧ Below w.heap.size w w' := by
  have HS := Lib.hid (fun W (hW : Below w.heap.size w W) => SlB.below hs hW)
  have HTX := Lib.hid (fun W (hW : Below w.heap.size w W) => text_list A cap bs v 64 W hc hl (HS.out W hW))
  have HSP := Lib.hid (fun t (ht : textL bs v 64 = some t) W => split_any t W (textL_lb' hb ht).1 (by have := (textL_lb' hb ht).2; omega))
  have hbl : bs.length ≤ 9223372036854775807 := by omega
  obtain ⟨R, hR⟩ : ∃ R, readFn bs rva size v = R := ⟨_, rfl⟩
  rw [hR]
  unfold readFn at hR
  have hvI : (v : Int) < 4294967296 := by omega
  by_cases hout : v < rva ∨ size ≤ v - rva
  · rw [if_pos hout] at hR
    have hlen : decide ((v : Int) < (bs.length : Int)) = decide (v < bs.length) := by rw [decide_eq_decide]; omega
    have hR' : (R = none → decide (v < bs.length) = false) ∧ (∀ f, R = some f → decide (v < bs.length) = true ∧ v = f.1 ∧ ByteArray.empty = txt f.2) := by
      by_cases c : v < bs.length
      · rw [if_pos c] at hR; subst hR
        exact ⟨fun h => absurd h (by simp), fun f hf => by injection hf with hf; subst hf; exact ⟨decide_eq_true c, rfl, rfl⟩⟩
      · rw [if_neg c] at hR; subst hR
        exact ⟨fun _ => decide_eq_false c, fun f hf => absurd hf (by simp)⟩
    have HRR := Lib.hid hR'
    clear hR hR' HTX HSP HS hs
    rcases hout with h1 | h1
    · have d1 : (v : Int) < (rva : Int) := by omega
      go_enter Try.func47, Try.ntmps47
      go_wp2_with fail
      refine bodyPost_ret (v := .tuple #[.agg #[.int .i64 v, .string ByteArray.empty], .bool (decide (v < bs.length))]) (by simp [results, Try.results47, go_sem]; rfl) rfl ⟨⟨_, _, _, rfl, HRR.out.1, HRR.out.2⟩, by go_grown⟩
    · by_cases h2 : v < rva
      · have d1 : (v : Int) < (rva : Int) := by omega
        go_enter Try.func47, Try.ntmps47
        go_wp2_with fail
        refine bodyPost_ret (v := .tuple #[.agg #[.int .i64 v, .string ByteArray.empty], .bool (decide (v < bs.length))]) (by simp [results, Try.results47, go_sem]; rfl) rfl ⟨⟨_, _, _, rfl, HRR.out.1, HRR.out.2⟩, by go_grown⟩
      · have d1 : ¬ (v : Int) < (rva : Int) := by omega
        have d2 : (size : Int) ≤ (v : Int) - (rva : Int) := by omega
        go_enter Try.func47, Try.ntmps47
        go_wp2_with fail
        refine bodyPost_ret (v := .tuple #[.agg #[.int .i64 v, .string ByteArray.empty], .bool (decide (v < bs.length))]) (by simp [results, Try.results47, go_sem]; rfl) rfl ⟨⟨_, _, _, rfl, HRR.out.1, HRR.out.2⟩, by go_grown⟩
  · rw [if_neg hout] at hR
    have d1 : ¬ (v : Int) < (rva : Int) := by omega
    have d2 : ¬ (size : Int) ≤ (v : Int) - (rva : Int) := by omega
    clear hout HS hs
    rcases ht : textL bs v 64 with _ | t
    · rw [ht] at HTX hR
      simp only at HTX hR
      subst hR
      clear HSP
      go_enter Try.func47, Try.ntmps47
      go_wp2_with (first | (refine (HTX.out _ (by go_grown)).mono ?_; rintro e w' ⟨rfl, rfl⟩) | fail)
      refine bodyPost_ret (v := .tuple #[.agg #[.int .i64 0, .string ByteArray.empty], .bool false]) (by simp [results, Try.results47, go_sem]; rfl) rfl ⟨⟨0, _, _, rfl, fun _ => rfl, fun f hf => absurd hf (by simp)⟩, by go_grown⟩
    · rw [ht] at HTX hR
      simp only at HTX hR
      have HP := Lib.hid (HSP.out t ht)
      have HR := Lib.hid hR
      clear HSP hR ht
      go_enter Try.func47, Try.ntmps47
      go_wp2_with fail
      refine (HTX.out _ (by go_grown)).mono ?_
      rintro e w' ⟨rfl, rfl⟩
      go_wp2_with fail
      refine (HP.out _).mono ?_
      rintro e w2 ⟨⟨D, S, O, B, rfl⟩, hw2⟩
      have HW2 := Lib.hid ((((Below.refl w.heap.size w).alloc (Nat.le_refl _) (.cells #[.int .i64 rva, .int .i64 size] 26)).alloc (by simp) (.cells #[.int .i64 0, .string ByteArray.empty] 37)).trans (hw2.mono (by simp; omega)))
      have hrow : w2.heap[w.heap.size + 1]? = some (.cells #[.int .i64 0, .string ByteArray.empty] 37 (0, 0)) := (hw2.block (w.heap.size + 1) (by simp)).trans (by
        have h := heap_alloc_new (w.alloc (.cells #[.int .i64 rva, .int .i64 size] 26)) (.cells #[.int .i64 0, .string ByteArray.empty] 37)
        rwa [show (w.alloc (.cells #[.int .i64 rva, .int .i64 size] 26)).heap.size = w.heap.size + 1 by simp] at h)
      have hc0 : w2.cell? ⟨w.heap.size + 1, 0, none⟩ = some (.int .i64 0) := by rw [cell_of_row _ _ _ _ _ _ hrow]; rfl
      have hc1 : w2.cell? ⟨w.heap.size + 1, 1, none⟩ = some (.string ByteArray.empty) := by rw [cell_of_row _ _ _ _ _ _ hrow]; rfl
      have hf0 : w2.frozen? ⟨w.heap.size + 1, 0, none⟩ = false := frozen_of_row _ _ _ _ _ hrow
      have hf1 : w2.frozen? ⟨w.heap.size + 1, 1, none⟩ = false := frozen_of_row _ _ _ _ _ hrow
      clear hw2 hrow
      go_wp2_with fail
      have k1 := World.cell?_setCell_same (w2.setCell ⟨w.heap.size + 1, 0, none⟩ (.int .i64 0)) _ (.string (txt t)) ((World.cell?_setCell_other w2 _ _ (.int .i64 0) (by intro q; injection q with _ q; cases q)).trans hc1)
      have k0 := (World.cell?_setCell_other (w2.setCell ⟨w.heap.size + 1, 0, none⟩ (.int .i64 0)) ⟨w.heap.size + 1, 1, none⟩ ⟨w.heap.size + 1, 0, none⟩ (.string (txt t)) (by intro q; injection q with _ q; cases q)).trans (World.cell?_setCell_same w2 _ (.int .i64 0) hc0)
      have HW3 := Lib.hid ((HW2.out.setCell (p := ⟨w.heap.size + 1, 0, none⟩) (Nat.le_succ _) (.int .i64 0)).setCell (p := ⟨w.heap.size + 1, 1, none⟩) (Nat.le_succ _) (.string (txt t)))
      clear hc0 hc1 hf0 hf1
      generalize (w2.setCell ⟨w.heap.size + 1, 0, none⟩ (.int .i64 0)).setCell ⟨w.heap.size + 1, 1, none⟩ (.string (txt t)) = w3 at *
      refine bodyPost_ret (v := .tuple #[.agg #[.int .i64 0, .string (txt t)], .bool (splitOk t)]) (by simp [results, Try.results47, go_sem, k0, k1]) rfl ⟨⟨0, _, _, rfl, fun h => ?_, fun f hf => ?_⟩, HW3.out⟩
      · have h1 := HR.out
        rw [h] at h1
        by_cases c : splitOk t = true
        · rw [if_pos c] at h1; exact absurd h1 (by simp)
        · simpa using c
      · have h1 := HR.out
        rw [hf] at h1
        by_cases c : splitOk t = true
        · rw [if_pos c] at h1; injection h1 with h1; subst h1; exact ⟨c, rfl, rfl⟩
        · rw [if_neg c] at h1; exact absurd h1 (by simp)
end Go.Proofs.Ytbjabncefhgefaa
