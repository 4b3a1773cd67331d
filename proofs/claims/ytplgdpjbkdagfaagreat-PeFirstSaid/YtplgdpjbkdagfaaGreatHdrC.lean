/- package hdr: a head by value; alignOk, headersOk. -/
import Derived.Test.YtplgdpjbkdagfaaGreatHdrB
namespace Go.Proofs.YtplgdpjbkdagfaaGreat
set_option maxRecDepth 100000
open Go.ChangeShapes Go.WideShapes Go.ChangeAt Go.RowKit
set_option linter.unusedVariables false
set_option linter.unusedSimpArgs false

/-- A head's numbers. -/
structure HeadN where
  base : Int
  stamp : Int
  chars : Int
  entry : Int
  size : Int
  headers : Int
  dirs : Nat → Int × Int

/-- The 39 cells of a head, the last of which is the slice of its sections. -/
structure HeadV (cs : Array Value) (h : HeadN) (sv : Value) : Prop where
  size : cs.size = 39
  c0 : cs[0]? = some (.int .u64 h.base)
  c1 : cs[1]? = some (.int .i64 h.stamp)
  c2 : cs[2]? = some (.int .i64 h.chars)
  c3 : cs[3]? = some (.int .i64 h.entry)
  c4 : cs[4]? = some (.int .i64 h.size)
  c5 : cs[5]? = some (.int .i64 h.headers)
  dir0 : ∀ i, i < 16 → cs[6 + 2 * i]? = some (.int .i64 (h.dirs i).1)
  dir1 : ∀ i, i < 16 → cs[6 + 2 * i + 1]? = some (.int .i64 (h.dirs i).2)
  c38 : cs[38]? = some sv

def alignS (f : Nat → Int) (p : Nat) (base size : Int) : Prop :=
  rdF f (p + 56) 4 = 4096 ∧ rdF f (p + 60) 4 = 512 ∧ base % 65536 = 0 ∧ 65536 ≤ base ∧ base ≤ 35184372088832 ∧ size % 4096 = 0 ∧ 4096 ≤ size ∧ size ≤ 262144

set_option maxRecDepth 100000 in
theorem align_any (b off n cap : Nat) (f : Nat → Int) (p : Nat) (cs : Array Value) (h : HeadN) (sv : Value) (bb : Bool) (w : World) (hr : RowB w b off n cap f) (hp : p + 264 ≤ n) (hp2 : p ≤ 4294967296) (hv : HeadV cs h sv) (hal : bb = true ↔ alignS f p h.base h.size) :
    Calls Tryz.prog 64 #[.slice (some ⟨b, off, none⟩) n cap, .int .i64 p, .agg cs] w fun e w' => e = .returned (.bool bb) ∧ Below w.heap.size w w' := by
  have hb0 : Below w.heap.size w (w.alloc (.cells cs 41)) := (Below.refl _ _).alloc (Nat.le_refl _) _
  have h1 := hu32 b off n cap f (p + 56) (w.alloc (.cells cs 41)) (hr.below hb0) (by omega)
  have h2 := hu32 b off n cap f (p + 60) (w.alloc (.cells cs 41)) (hr.below hb0) (by omega)
  rw [show ((p + 56 : Nat) : Int) = (p : Int) + 56 by omega] at h1
  rw [show ((p + 60 : Nat) : Int) = (p : Int) + 60 by omega] at h2
  have c0 := hv.c0
  have c4 := hv.c4
  unfold alignS at hal
  generalize rdF f (p + 56) 4 = x1 at *
  generalize rdF f (p + 60) 4 = x2 at *
  generalize h.base = y1 at *
  generalize h.size = y2 at *
  have H1 := Lib.hid h1
  have H2 := Lib.hid h2
  have HB := Lib.hid hb0
  have hf : ∀ P : Prop, (P → False) → (bb = true ↔ P) → bb = false := fun P h1 h2 => by cases bb with
    | false => rfl
    | true => exact (h1 (h2.1 rfl)).elim
  have ht : y2.tmod 4096 = 0 ↔ y2 % 4096 = 0 := by rw [← Int.dvd_iff_tmod_eq_zero, ← Int.dvd_iff_emod_eq_zero]
  have hcs : ((x1 != 4096) = true ∧ bb = false) ∨ ((x1 != 4096) = false ∧ (x2 != 512) = true ∧ bb = false) ∨ ((x1 != 4096) = false ∧ (x2 != 512) = false ∧ (bb = true ↔ y1 % 65536 = 0 ∧ 65536 ≤ y1 ∧ y1 ≤ 35184372088832 ∧ y2.tmod 4096 = 0 ∧ 4096 ≤ y2 ∧ y2 ≤ 262144)) := by
    by_cases d1 : x1 = 4096
    · by_cases d2 : x2 = 512
      · exact .inr (.inr ⟨by simp [d1], by simp [d2], by rw [hal, ht]; simp only [d1, d2, true_and]⟩)
      · exact .inr (.inl ⟨by simp [d1], by simp [d2], hf _ (by omega) hal⟩)
    · exact .inl ⟨by simp [d1], hf _ (by omega) hal⟩
  have HT1 := Lib.hid (show y1.tmod 65536 = 0 ↔ y1 % 65536 = 0 by rw [← Int.dvd_iff_tmod_eq_zero, ← Int.dvd_iff_emod_eq_zero])
  have HT2 := Lib.hid ht
  clear h1 h2 hb0 hr hv hal hf ht
  rcases hcs with ⟨e1, rfl⟩ | ⟨e1, e2, rfl⟩ | ⟨e1, e2, e3⟩
  all_goals
    go_enter Tryz.func64, Tryz.ntmps64
    go_wp2_with (first | (go_fit H1.out; rintro e w' ⟨rfl, rfl⟩) | (go_fit H2.out; rintro e w' ⟨rfl, rfl⟩))
    all_goals
      go_ret
      first
      | exact ⟨rfl, HB.out⟩
      | (refine ⟨congrArg (fun b => Ending.returned (.bool b)) ?_, HB.out⟩
         rw [Bool.eq_iff_iff, e3]
         simp_all <;> (have t1 := HT1.out; have t2 := HT2.out; omega))

def headersP (n p : Nat) (hd k : Int) : Prop := 1 ≤ k ∧ k ≤ 16 ∧ (p : Int) + 264 + 40 * k ≤ hd ∧ hd ≤ 4096 ∧ hd ≤ n

set_option maxRecDepth 100000 in
theorem headers_any (A : Option Addr) (n cap p : Nat) (hd k : Int) (bb : Bool) (w : World) (hn : n ≤ 9223372036854775807) (hp2 : p ≤ 4294967296) (h0 : 0 ≤ hd) (h1 : hd ≤ 4294967296) (k0 : 0 ≤ k) (k1 : k ≤ 65536) (hb : bb = true ↔ headersP n p hd k) :
    Calls Tryz.prog 66 #[.slice A n cap, .int .i64 p, .int .i64 hd, .int .i64 k] w fun e w' => e = .returned (.bool bb) ∧ w = w' := by
  unfold headersP at hb
  have hf : ∀ P : Prop, (P → False) → (bb = true ↔ P) → bb = false := fun P h1 h2 => by cases bb with
    | false => rfl
    | true => exact (h1 (h2.1 rfl)).elim
  have hcs : (k < 1 ∧ bb = false) ∨ (1 ≤ k ∧ 16 < k ∧ bb = false) ∨ (1 ≤ k ∧ k ≤ 16 ∧ hd < (p : Int) + 264 + 40 * k ∧ bb = false) ∨ (1 ≤ k ∧ k ≤ 16 ∧ (p : Int) + 264 + 40 * k ≤ hd ∧ 4096 < hd ∧ bb = false) ∨ (1 ≤ k ∧ k ≤ 16 ∧ (p : Int) + 264 + 40 * k ≤ hd ∧ hd ≤ 4096 ∧ decide (hd ≤ (n : Int)) = bb) := by
    by_cases d1 : k < 1
    · exact .inl ⟨d1, hf _ (by omega) hb⟩
    · by_cases d2 : 16 < k
      · exact .inr (.inl ⟨by omega, d2, hf _ (by omega) hb⟩)
      · by_cases d3 : hd < (p : Int) + 264 + 40 * k
        · exact .inr (.inr (.inl ⟨by omega, by omega, d3, hf _ (by omega) hb⟩))
        · by_cases d4 : 4096 < hd
          · exact .inr (.inr (.inr (.inl ⟨by omega, by omega, by omega, d4, hf _ (by omega) hb⟩)))
          · refine .inr (.inr (.inr (.inr ⟨by omega, by omega, by omega, by omega, ?_⟩)))
            rw [Bool.eq_iff_iff, decide_eq_true_eq, hb]
            omega
  clear hf hb
  rcases hcs with ⟨e1, rfl⟩ | ⟨e1, e2, rfl⟩ | ⟨e1, e2, e3, rfl⟩ | ⟨e1, e2, e3, e4, rfl⟩ | ⟨e1, e2, e3, e4, rfl⟩
  all_goals
    go_enter Tryz.func66, Tryz.ntmps66
    go_wp2
    go_ret
    exact ⟨rfl, rfl⟩
end Go.Proofs.YtplgdpjbkdagfaaGreat
