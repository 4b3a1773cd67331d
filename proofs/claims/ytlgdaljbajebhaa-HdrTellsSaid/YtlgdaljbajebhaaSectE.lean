/- package sect: Lay. -/
import Derived.Test.YtlgdaljbajebhaaSectD
import Derived.Test.YtlgdaljbajebhaaMade
namespace Go.Proofs.Ytlgdaljbajebhaa
open Go.ChangeShapes Go.WideShapes Go.ChangeAt Go.RowKit
set_option linter.unusedVariables false

def laysF (N : Nat) (F : Nat → Int) (nb : Nat) : List SectN → (Nat → Int) → (Nat → Int)
  | [], f => f
  | s :: l, f => laysF N F nb l (layF N F nb f s.rva.toNat s.spot.toNat s.raw.toNat)

/-- What lies in memory. -/
def imgF (N : Nat) (F : Nat → Int) (nb : Nat) (hd : Nat) (l : List SectN) : Nat → Int := laysF N F nb l (layF N F nb (fun _ => 0) 0 0 hd)

set_option maxRecDepth 100000 in
set_option maxHeartbeats 2000000 in
theorem lays_any (cs : Array Value) (h : HeadN) (g c : Nat) (l : List SectN) (b off nb cap : Nat) (F : Nat → Int) (N hd : Nat) (w : World) (hh : HeadL w cs h g c l) (hr : RowB w b off nb cap F) (hN : h.size = N) (hN2 : N ≤ 262144) (hhd : h.headers = hd) :
    Calls Try.prog 21 #[.agg cs, .slice (some ⟨b, off, none⟩) nb cap] w fun e u => ∃ gi, e = .returned (.slice (some ⟨gi, 0, none⟩) N N) ∧ OwnC u w.heap.size gi N N (imgF N F nb hd l) ∧ Below w.heap.size w u := by
  have HH := Lib.hid hh
  have HR := Lib.hid hr
  have HB0 := Lib.hid ((Below.refl w.heap.size w).alloc (Nat.le_refl _) (.cells cs 32))
  have HG := Lib.hid (heap_alloc_new w (.cells cs 32))
  have c4 := hh.hv.c4
  have c5 := hh.hv.c5
  have c38 := hh.hv.c38
  have hlen := hh.len
  have hd1 := hh.hd1
  rw [hN] at c4
  rw [hhd] at c5 hd1
  obtain ⟨IM, hIM⟩ : ∃ IM, imgF N F nb hd l = IM := ⟨_, rfl⟩
  have HIM := Lib.hid hIM
  rw [hIM]
  have HS1 : Hid ((w.alloc (.cells cs 32)).heap.size = w.heap.size + 1) := Lib.hid (by simp)
  have n0 : decide ((N : Int) < 0) = false := decide_eq_false (by omega)
  have n1 : decide ((262144 : Int) < (N : Int)) = false := decide_eq_false (by omega)
  have HN2 := Lib.hid hN2
  clear hh hr hIM hN hhd hN2
  go_enter Try.func21, Try.ntmps21
  go_wp2_with (at_make; have k5 := (cell_of_row _ _ 5 _ _ _ HG.out).trans c5; have k38 := (cell_of_row _ _ 38 _ _ _ HG.out).trans c38; generalize w.alloc (.cells cs 32) = w1 at *; refine wpList_makeC rfl _ _ rfl w1.heap.size .i64 .i64 N rfl rfl (by have := HN2.out; omega) (Nat.le_refl _) ?_; intro w2 ho hb hs; have HO2 := Lib.hid ho; have HB12 := Lib.hid hb; have k5 := (hb.cell (p := ⟨w.heap.size, 5, none⟩) (by have := HS1.out; show w.heap.size < w1.heap.size; omega)).trans k5; clear ho hb hs)
  have HB2 := Lib.hid (HB0.out.trans (HB12.out.mono HB0.out.size))
  have hb01 : b < w1.heap.size := by have := HR.out.lt; have := HS1.out; omega
  refine (lay_any w1.heap.size N (fun _ => 0) b off nb cap F 0 0 hd w1.heap.size w2 HO2.out (HR.out.below HB2.out) hb01 (by have := HN2.out; omega) (by omega) (by omega) (by omega)).mono ?_
  rintro e w3 ⟨rfl, ho, hb⟩
  have HO3 := Lib.hid ho
  have HB13 := Lib.hid (HB12.out.trans hb)
  have k38' := (HB13.out.cell (p := ⟨w.heap.size, 38, none⟩) (by have := HS1.out; show w.heap.size < w1.heap.size; omega)).trans ((cell_of_row _ _ 38 _ _ _ HG.out).trans c38)
  clear ho hb k5 HO2 HB12 HB2
  go_wp2_with fail
  clear k38' c38 c4 c5 n0 n1
  go_loopw [7, 27] (fun _ o27 wr => ∃ (i : Nat) (f : Nat → Int), i ≤ l.length ∧ o27 = .int .i64 i ∧ OwnC wr w1.heap.size w1.heap.size N N f ∧ laysF N F nb (l.drop i) f = IM ∧ Below w1.heap.size w1 wr) (fun _ o27 _ => l.length - (intOf o27).toNat)
  case atStart => exact ⟨0, _, by omega, rfl, HO3.out, HIM.out, HB13.out⟩
  case round =>
    obtain ⟨i, f, hi, rfl, ho, hf, hb⟩ := hrel
    have HO := Lib.hid ho
    have HF := Lib.hid hf
    have HB := Lib.hid hb
    have HBW : Hid (Below w.heap.size w wr) := Lib.hid (HB0.out.trans (hb.mono HB0.out.size))
    clear ho hf hb HO3 HB13
    by_cases hlt : i < l.length
    · have hlt' : (i : Int) < l.length := by omega
      obtain ⟨d0, d1, d2, d3, d4, d5⟩ := (HH.out.sl.below HBW.out).at6 i hlt
      have hs := HH.out.bd l[i] (List.getElem_mem hlt)
      have hd := HF.out
      rw [List.drop_eq_getElem_cons hlt] at hd
      have HD := Lib.hid hd
      clear hd
      generalize l[i] = s at *
      obtain ⟨nm, v, rva, raw, spot, ch⟩ := s
      obtain ⟨v0, v1, p0, p1, a0, a1, s0, s1, x0, x1⟩ := hs
      simp only at d0 d1 d2 d3 d4 d5 v0 v1 p0 p1 a0 a1 s0 s1 x0 x1
      obtain ⟨rv, rfl⟩ : ∃ n : Nat, rva = n := ⟨rva.toNat, by omega⟩
      obtain ⟨rw', rfl⟩ : ∃ n : Nat, raw = n := ⟨raw.toNat, by omega⟩
      obtain ⟨sp, rfl⟩ : ∃ n : Nat, spot = n := ⟨spot.toNat, by omega⟩
      go_wp2_with fail
      have hba := (Below.refl wr.heap.size wr).alloc (Nat.le_refl _) (.cells #[.string nm, .int .i64 v, .int .i64 (rv : Int), .int .i64 (rw' : Int), .int .i64 (sp : Int), .int .i64 ch] 37)
      refine (lay_any w1.heap.size N f b off nb cap F rv sp rw' w1.heap.size _ (HO.out.below hba) (HR.out.below (HBW.out.trans (hba.mono HBW.out.size))) hb01 (by have := HN2.out; omega) (by omega) (by omega) (by omega)).mono ?_
      rintro e u ⟨rfl, ho, hb⟩
      have HOU := Lib.hid ho
      have HBU := Lib.hid ((HB.out.trans (hba.mono HB.out.size)).trans hb)
      clear ho hb hba
      go_wp2_with fail
      go_roundw
      case rel => exact ⟨i + 1, _, by omega, by go_num, HOU.out, by have := HD.out; simp only [laysF, Int.toNat_natCast] at this; exact this, HBU.out⟩
      case measure => simp [intOf]; omega
    · obtain rfl : i = l.length := by omega
      have hf := HF.out
      rw [List.drop_length] at hf
      have hf' : f = IM := hf
      subst hf'
      go_wp2_with fail
      go_ret
      exact ⟨_, rfl, HO.out.weaken (by have := HS1.out; omega), HBW.out⟩
end Go.Proofs.Ytlgdaljbajebhaa
