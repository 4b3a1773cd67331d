/- Memory of pages: bytes, put. -/
import Derived.Test.YtlifaldbdjcgjaaVhas
namespace Go.Proofs.Ytlifaldbdjcgjaa
open Go.ChangeShapes Go.WideShapes Go.ChangeAt Go.RowKit
open Go.Maps (Keyed)
set_option linter.unusedVariables false
set_option linter.unusedSimpArgs false

/-- The byte at address x. -/
def byteAt (mp : Int → Option Pg) (x : Int) : Int :=
  match mp (x - x % 4096) with
  | some g => g.dat (x % 4096).toNat
  | none => 0

theorem MemIn.drew {w : World} {M bm m : Nat} {most : Int} {f : Int → Option Nat} {mp : Int → Option Pg} (h : MemIn w M bm m most f mp) : MemIn w.drew M bm m most f mp := h.drewN 1
theorem Own.drewN {w : World} {g n : Nat} {f : Nat → Value} (h : Own w g n f) (k : Nat) : Own (w.drewN k) g n f := h
/-- A page's bytes, as they stand in its block. -/
theorem page_cells {w : World} {M bm m : Nat} {most : Int} {f : Int → Option Nat} {mp : Int → Option Pg} (S : MemIn w M bm m most f mp) {x : Int} {B : Nat} {g : Pg} (h0 : 0 ≤ x) (hg : mp (x - x % 4096) = some g) (hf : f (x - x % 4096) = some B) (j : Nat) (hj : (x % 4096).toNat + j < 4096) :
    w.cell? ⟨B, 1 + (x % 4096).toNat + j, none⟩ = some (.int .u8 (byteAt mp (x + j))) := by
  have ho := S.page _ B g hf hg
  rw [ho.cell (by omega)]
  unfold byteAt
  rw [show x + j - (x + j) % 4096 = x - x % 4096 by omega, hg]
  unfold pgF
  rw [if_neg (by omega), show ((x + (j : Int)) % 4096).toNat = 1 + (x % 4096).toNat + j - 1 by omega]

theorem below_row {B g : Nat} {w wr w4 : World} (hb : Below B w wr) (hg : wr.grownBy w4 (some g)) (h : B ≤ g) (hs : B ≤ wr.heap.size) : Below B w w4 :=
  hb.trans ⟨hg.os, hg.tape, hg.output, hg.size, fun k hk => hg.block k (by omega) (fun e => by injection e with e; omega)⟩
theorem below_drewN {B : Nat} {w wr : World} (h : Below B w wr) (n : Nat) : Below B w (wr.drewN n) := ⟨h.os, h.tape, h.output, h.size, h.block⟩
theorem Own.lt {w : World} {g n : Nat} {f : Nat → Value} (h : Own w g n f) : g < w.heap.size := h.1

set_option maxRecDepth 100000 in
theorem bytes_any (R : Nat → Prop) (w : World) (M m : Nat) (most : Int) (mp : Int → Option Pg) (a : Int) (n : Nat) (h0 : 0 ≤ a) (h1 : a + n ≤ 9223372036854775807) (hn : n ≤ 65536) (hin : InM mp a n) (H : MemAt R w M m most mp) :
    Calls Try.prog 45 #[.pointer (some ⟨M, 0, none⟩), .int .u64 a, .int .i64 n] w fun e w' =>
      e = .returned (.slice (some ⟨w.heap.size, 0, none⟩) n n) ∧ Below w.heap.size w w' ∧ Own w' w.heap.size n (fun q => .int .u8 (byteAt mp (a + q))) := by
  have HM := Lib.hid H
  have HIN := Lib.hid hin
  clear H hin
  go_enter Try.func45, Try.ntmps45
  go_wp2_with (at_make; refine wpList_make_bytes _ rfl (.tmp 9) (.tmp 9) 43 rfl 5 (.int .u8 0) 1 (by kernel_rfl) (by kernel_rfl) rfl .i64 .i64 n (by simp [Act.eval, Act.put]) (by simp [Act.eval, Act.put]) (by omega) (by omega) ?_; intro w1 hw1 ho1)
  have HB1 := Lib.hid hw1
  have HO1 := Lib.hid ho1
  clear hw1 ho1
  go_loopw [8] (fun o wr => ∃ i : Nat, i ≤ n ∧ o = .int .i64 i ∧ Below w.heap.size w wr ∧ Own wr w.heap.size n (fun q => .int .u8 (if q < i then byteAt mp (a + q) else 0))) (fun o _ => n - (intOf o).toNat)
  case atStart => exact ⟨0, Nat.zero_le _, rfl, HB1.out, HO1.out.congr fun q _ => by simp⟩
  case round =>
    obtain ⟨i, hi, rfl, hb, ho⟩ := hrel
    have HB := Lib.hid hb
    have HO := Lib.hid ho
    clear hb ho HO1 HB1
    by_cases hlt : i < n
    · obtain ⟨bm, f, S, hRs⟩ := HM.out.below HB.out
      have HRs := Lib.hid hRs
      obtain ⟨g, hg⟩ := Option.ne_none_iff_exists'.1 (HIN.out i (by omega) (by omega))
      obtain ⟨B, hf⟩ := f_some S hg
      have HS := Lib.hid S
      have HG := Lib.hid hg
      have HF := Lib.hid hf
      have e1 : 0 ≤ a + i := by omega
      have e2 : a + i < 18446744073709551616 := by omega
      have wr1 : IntKind.u64.wrap (i : Int) = i := by rw [IntKind.wrap_u64]; omega
      have wr2 : IntKind.u64.wrap (a + i) = a + i := by rw [IntKind.wrap_u64]; omega
      have hne : ¬ n = i := by omega
      obtain ⟨r, hr⟩ : ∃ r, r = ((a + i) % 4096).toNat := ⟨_, rfl⟩
      have hr2 : r < 4096 := by omega
      obtain ⟨k, hk⟩ : ∃ k, k = Nat.min (4096 - r) (n - i) := ⟨_, rfl⟩
      have hk1 : 0 < k ∧ i + k ≤ n ∧ r + k ≤ 4096 := by have := Nat.min_def (n := 4096 - r) (m := n - i); simp only [Nat.min_def] at hk; split at hk <;> omega
      have HSRC : Hid (∀ j, j < k → wr.cell? ⟨B, 1 + r + j, none⟩ = some (.int .u8 (byteAt mp (a + i + j)))) := fun j hj => by rw [hr]; exact page_cells S e1 hg hf j (by omega)
      have HK := Lib.hid hk
      have HK1 := Lib.hid hk1
      have HRE := Lib.hid (show ((a + i) % 4096).toNat = r from hr.symm)
      have wr3 : IntKind.i64.wrap ((i : Int) + (k : Int)) = i + k := by rw [IntKind.wrap_i64]; omega
      clear hg hf hRs S hk hk1 hr
      go_wp2_with fail
      go_region_law (first | (go_simp; go_at_call 49; refine (rest_any wr.drew M bm m most f mp (a + i) B g e1 e2 HS.out.drew HG.out HF.out).mono ?_; rw [HRE.out]; rintro e w3 ⟨rfl, n3, rfl⟩) | (refine step_copy_own rfl (.tmp 17) (.tmp 23) 43 43 rfl 5 (by kernel_rfl) (by kernel_rfl) w.heap.size i (n - i) (n - i) B (1 + r) (4096 - r) (4096 - r) (by simp [Act.eval, Act.put, hne]) (by simp [Act.eval, Act.put]) k n (fun q => .int .u8 (if q < i then byteAt mp (a + q) else 0)) (fun j => .int .u8 (byteAt mp (a + i + j))) HK.out (HO.out.drew.drewN n3) HK1.out.2.1 HSRC.out (fun _ => rfl) ?_; intro w4 hg4 ho4))
      have HB2 := Lib.hid (below_row (below_drewN HB.out (1 + n3)) hg4 (Nat.le_refl _) HB.out.size)
      have HO2 := Lib.hid ho4
      clear hg4 ho4
      simp only [Act.put, List.getElem_toArray, List.getElem_cons_succ, List.getElem_cons_zero, List.setIfInBounds_toArray, List.set_cons_succ, List.set_cons_zero]
      go_wp2
      go_roundw
      case rel => exact ⟨i + k, HK1.out.2.1, by go_num, HB2.out, HO2.out.congr fun q hq => by
        by_cases c1 : i ≤ q ∧ q < i + k
        · rw [if_pos c1, if_pos c1.2, show a + (i : Int) + ((q - i : Nat) : Int) = a + q by omega]
        · rw [if_neg c1]
          by_cases c2 : q < i
          · rw [if_pos c2, if_pos (by omega)]
          · rw [if_neg c2, if_neg (by omega)]⟩
      case measure => have := HK1.out; simp [intOf]; omega
    · obtain rfl : i = n := by omega
      go_wp2
      go_ret
      exact ⟨rfl, HB.out, HO.out.congr fun q hq => by simp [hq]⟩
end Go.Proofs.Ytlifaldbdjcgjaa
