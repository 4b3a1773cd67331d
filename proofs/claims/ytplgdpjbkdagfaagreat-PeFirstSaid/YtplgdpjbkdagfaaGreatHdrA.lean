/- package hdr: reading; where the head begins. -/
import Derived.Test.YtplgdpjbkdagfaaGreatHdrRound
import Derived.Test.YtplgdpjbkdagfaaGreatShelf
import Derived.Deep.DeepFit
namespace Go.Proofs.YtplgdpjbkdagfaaGreat
set_option maxRecDepth 100000
open Go.ChangeShapes Go.WideShapes Go.ChangeAt Go.RowKit
set_option linter.unusedVariables false
set_option linter.unusedSimpArgs false

/-- A row of n bytes f that is read: where it lies. -/
structure RowB (w : World) (b off n cap : Nat) (f : Nat → Int) : Prop where
  row : Row w b off n f
  by255 : Bytes255 f
  lt : b < w.heap.size
  len : n ≤ cap
  most : cap ≤ 9223372036854775807

theorem RowB.below {w w' : World} {b off n cap : Nat} {f : Nat → Int} (h : RowB w b off n cap f) (hb : Below w.heap.size w w') : RowB w' b off n cap f := ⟨h.row.below hb h.lt, h.by255, Nat.lt_of_lt_of_le h.lt hb.size, h.len, h.most⟩

theorem hu16 (b off n cap : Nat) (f : Nat → Int) (o : Nat) (w : World) (h : RowB w b off n cap f) (ho : o + 2 ≤ n) :
    Calls Tryz.prog 65 #[.slice (some ⟨b, off, none⟩) n cap, .int .i64 o] w fun e w' => e = .returned (.int .i64 (rdF f o 2)) ∧ w = w' := by
  have hu := Lib.hid (u16_yes b off n cap f o w (by have := h.len; have := h.most; omega) ho h.by255 h.row)
  clear h
  go_enter Tryz.func65, Tryz.ntmps65
  go_wp2_with fail
  go_fit hu.out
  rintro e w' ⟨rfl, rfl⟩
  go_wp2_with fail
  go_ret
  exact ⟨rfl, rfl⟩

theorem hu32 (b off n cap : Nat) (f : Nat → Int) (o : Nat) (w : World) (h : RowB w b off n cap f) (ho : o + 4 ≤ n) :
    Calls Tryz.prog 101 #[.slice (some ⟨b, off, none⟩) n cap, .int .i64 o] w fun e w' => e = .returned (.int .i64 (rdF f o 4)) ∧ w = w' := by
  have hu := Lib.hid (u32_yes b off n cap f o w (by have := h.len; have := h.most; omega) ho h.by255 h.row)
  clear h
  go_enter Tryz.func101, Tryz.ntmps101
  go_wp2_with fail
  go_fit hu.out
  rintro e w' ⟨rfl, rfl⟩
  go_wp2_with fail
  go_ret
  exact ⟨rfl, rfl⟩

/-- Where the head begins, or why it doesn't. -/
def beginS (n : Nat) (f : Nat → Int) : Int × Int :=
  if n < 64 then (0, 2) else
  if f 0 ≠ 77 ∨ f 1 ≠ 90 then (0, 3) else
  if rdF f 60 4 < 64 ∨ rdF f 60 4 % 4 ≠ 0 ∨ (n : Int) < rdF f 60 4 + 264 then (0, 2) else
  if f (rdF f 60 4).toNat ≠ 80 ∨ f ((rdF f 60 4).toNat + 1) ≠ 69 ∨ f ((rdF f 60 4).toNat + 2) ≠ 0 ∨ f ((rdF f 60 4).toNat + 3) ≠ 0 then (0, 3) else
  (rdF f 60 4, 0)

/-- What the optional head says, if the head begins at p. -/
def optS (f : Nat → Int) (p : Nat) : Int :=
  if rdF f (p + 4) 2 ≠ 34404 then 4 else
  if rdF f (p + 20) 2 ≠ 240 ∨ rdF f (p + 24) 2 ≠ 523 ∨ rdF f (p + 132) 4 ≠ 16 then 5 else 0

theorem opt_any (b off n cap : Nat) (f : Nat → Int) (p : Nat) (w : World) (h : RowB w b off n cap f) (hp : p + 264 ≤ n) (hp2 : p ≤ 4294967296) :
    Calls Tryz.prog 62 #[.slice (some ⟨b, off, none⟩) n cap, .int .i64 p] w fun e w' => e = .returned (.int .i64 (optS f p)) ∧ w = w' := by
  have h1 := hu16 b off n cap f (p + 4) w h (by omega)
  have h2 := hu16 b off n cap f (p + 20) w h (by omega)
  have h3 := hu16 b off n cap f (p + 24) w h (by omega)
  have h4 := hu32 b off n cap f (p + 132) w h (by omega)
  rw [show ((p + 4 : Nat) : Int) = (p : Int) + 4 by omega] at h1
  rw [show ((p + 20 : Nat) : Int) = (p : Int) + 20 by omega] at h2
  rw [show ((p + 24 : Nat) : Int) = (p : Int) + 24 by omega] at h3
  rw [show ((p + 132 : Nat) : Int) = (p : Int) + 132 by omega] at h4
  unfold optS
  clear h
  generalize rdF f (p + 4) 2 = x1 at *
  generalize rdF f (p + 20) 2 = x2 at *
  generalize rdF f (p + 24) 2 = x3 at *
  generalize rdF f (p + 132) 4 = x4 at *
  have H1 := Lib.hid h1
  have H2 := Lib.hid h2
  have H3 := Lib.hid h3
  have H4 := Lib.hid h4
  clear h1 h2 h3 h4
  by_cases c1 : x1 = 34404
  · subst c1
    rw [if_neg (by omega)]
    by_cases c2 : x2 = 240
    · subst c2
      by_cases c3 : x3 = 523
      · subst c3
        by_cases c4 : x4 = 16
        · subst c4
          rw [if_neg (by omega)]
          go_enter Tryz.func62, Tryz.ntmps62
          go_wp2_with (first | (go_fit H1.out; rintro e w' ⟨rfl, rfl⟩) | (go_fit H2.out; rintro e w' ⟨rfl, rfl⟩) | (go_fit H3.out; rintro e w' ⟨rfl, rfl⟩) | (go_fit H4.out; rintro e w' ⟨rfl, rfl⟩))
          go_ret
          exact ⟨rfl, rfl⟩
        · have e4 : (x4 != 16) = true := by simpa using c4
          rw [if_pos (by omega)]
          go_enter Tryz.func62, Tryz.ntmps62
          go_wp2_with (first | (go_fit H1.out; rintro e w' ⟨rfl, rfl⟩) | (go_fit H2.out; rintro e w' ⟨rfl, rfl⟩) | (go_fit H3.out; rintro e w' ⟨rfl, rfl⟩) | (go_fit H4.out; rintro e w' ⟨rfl, rfl⟩))
          go_ret
          exact ⟨rfl, rfl⟩
      · have e3 : (x3 != 523) = true := by simpa using c3
        rw [if_pos (by omega)]
        go_enter Tryz.func62, Tryz.ntmps62
        go_wp2_with (first | (go_fit H1.out; rintro e w' ⟨rfl, rfl⟩) | (go_fit H2.out; rintro e w' ⟨rfl, rfl⟩) | (go_fit H3.out; rintro e w' ⟨rfl, rfl⟩))
        go_ret
        exact ⟨rfl, rfl⟩
    · have e2 : (x2 != 240) = true := by simpa using c2
      rw [if_pos (by omega)]
      go_enter Tryz.func62, Tryz.ntmps62
      go_wp2_with (first | (go_fit H1.out; rintro e w' ⟨rfl, rfl⟩) | (go_fit H2.out; rintro e w' ⟨rfl, rfl⟩))
      go_ret
      exact ⟨rfl, rfl⟩
  · have e1 : (x1 != 34404) = true := by simpa using c1
    rw [if_pos (by omega)]
    go_enter Tryz.func62, Tryz.ntmps62
    go_wp2_with (go_fit H1.out; rintro e w' ⟨rfl, rfl⟩)
    go_ret
    exact ⟨rfl, rfl⟩
end Go.Proofs.YtplgdpjbkdagfaaGreat
