/- package sect: Of, Offset, ProtAt. -/
import Derived.Test.YtlgdaljbajebhaaSectA
namespace Go.Proofs.Ytlgdaljbajebhaa
open Go.ChangeShapes Go.WideShapes Go.ChangeAt Go.RowKit
set_option linter.unusedVariables false

/-- The first section of l, counted from i on, that has a place. -/
def ofS (r : Int) : List SectN → Nat → Option Nat
  | [], _ => none
  | s :: l, i => if (behindS s r).isSome then some i else ofS r l (i + 1)

theorem ofS_drop (r : Int) (l : List SectN) (i : Nat) (h : i < l.length) : ofS r (l.drop i) i = if (behindS l[i] r).isSome then some i else ofS r (l.drop (i + 1)) (i + 1) := by
  rw [List.drop_eq_getElem_cons h]
  rfl

/-- A head, and its sections, as they are handed to a function. -/
structure HeadL (w : World) (cs : Array Value) (h : HeadN) (g c : Nat) (l : List SectN) : Prop where
  hv : HeadV cs h (.slice (some ⟨g, 0, none⟩) l.length c)
  sl : SlT SectN.cells 6 w (some ⟨g, 0, none⟩) l
  lt : g < w.heap.size
  bd : ∀ s ∈ l, SectBd s
  len : l.length ≤ 16
  hd0 : 0 ≤ h.headers
  hd1 : h.headers < 4294967296

theorem HeadL.below {w w' : World} {cs : Array Value} {h : HeadN} {g c : Nat} {l : List SectN} (x : HeadL w cs h g c l) (hb : Below w.heap.size w w') : HeadL w' cs h g c l :=
  ⟨x.hv, x.sl.below hb, Nat.lt_of_lt_of_le x.lt hb.size, x.bd, x.len, x.hd0, x.hd1⟩

set_option maxRecDepth 100000 in
set_option maxHeartbeats 2000000 in
theorem of_any (cs : Array Value) (h : HeadN) (g c : Nat) (l : List SectN) (r : Int) (w : World) (hh : HeadL w cs h g c l) (r0 : -9223372036854775808 ≤ r) (r1 : r ≤ 9223372036854775807) :
    Calls Try.prog 36 #[.agg cs, .int .i64 r] w fun e u => e = .returned (.tuple #[.int .i64 (((ofS r l 0).getD 0 : Nat) : Int), .bool (ofS r l 0).isSome]) ∧ Below w.heap.size w u := by
  have HH := Lib.hid hh
  have HB0 := Lib.hid ((Below.refl w.heap.size w).alloc (Nat.le_refl _) (.cells cs 32))
  have c38 := hh.hv.c38
  have hlen := hh.len
  clear hh
  obtain ⟨O, hO⟩ : ∃ O, ofS r l 0 = O := ⟨_, rfl⟩
  rw [hO]
  have HOO := Lib.hid hO
  clear hO
  go_enter Try.func36, Try.ntmps36
  go_wp2_with fail
  clear c38
  generalize w.alloc (.cells cs 32) = w1 at HB0 ⊢
  go_loopw [6, 7, 8, 9, 13] (fun _ _ _ _ o13 wr => ∃ i : Nat, i ≤ l.length ∧ o13 = .int .i64 i ∧ ofS r (l.drop i) i = O ∧ Below w.heap.size w wr) (fun _ _ _ _ o13 _ => l.length - (intOf o13).toNat)
  case atStart => exact ⟨0, by omega, rfl, HOO.out, HB0.out⟩
  case round =>
    obtain ⟨i, hi, rfl, hof, hb⟩ := hrel
    have HF := Lib.hid hof
    have HB := Lib.hid hb
    clear hof hb HB0
    by_cases hlt : i < l.length
    · have hlt' : (i : Int) < l.length := by omega
      obtain ⟨d0, d1, d2, d3, d4, d5⟩ := (HH.out.sl.below HB.out).at6 i hlt
      have hs := Lib.hid (HH.out.bd l[i] (List.getElem_mem hlt))
      have hd := HF.out
      rw [ofS_drop r l i hlt] at hd
      have HD := Lib.hid hd
      clear hd
      generalize l[i] = s at *
      have HBH := Lib.hid (fun W => behind_any s r W hs.out r0 r1)
      obtain ⟨nm, v, rva, raw, spot, ch⟩ := s
      simp only at d0 d1 d2 d3 d4 d5
      go_wp2_with fail
      refine (HBH.out _).mono ?_
      rintro e u ⟨rfl, hb⟩
      have hs1 : wr.heap.size ≤ (wr.alloc (.cells (SectN.arr ⟨nm, v, rva, raw, spot, ch⟩) 37)).heap.size := by simp
      have HBU : Hid (Below w.heap.size w u) := Lib.hid ((HB.out.alloc HB.out.size _).trans (hb.mono (Nat.le_trans HB.out.size hs1)))
      clear hb hs1
      cases hq : (behindS ⟨nm, v, rva, raw, spot, ch⟩ r).isSome with
      | true =>
        have hO : O = some i := by have := HD.out; rw [hq, if_pos rfl] at this; exact this.symm
        subst hO
        go_wp2_with fail
        go_ret2
        exact ⟨rfl, HBU.out⟩
      | false =>
        have hO : ofS r (l.drop (i + 1)) (i + 1) = O := by have := HD.out; rw [hq, if_neg (by simp)] at this; exact this
        have HO2 := Lib.hid hO
        clear hO
        go_wp2_with fail
        go_roundw
        case rel => exact ⟨i + 1, by omega, by go_num, HO2.out, HBU.out⟩
        case measure => simp [intOf]; omega
    · obtain rfl : i = l.length := by omega
      have hO : O = none := by have := HF.out; rw [List.drop_length] at this; exact this.symm
      subst hO
      go_wp2_with fail
      go_ret2
      exact ⟨rfl, HB.out⟩
end Go.Proofs.Ytlgdaljbajebhaa
