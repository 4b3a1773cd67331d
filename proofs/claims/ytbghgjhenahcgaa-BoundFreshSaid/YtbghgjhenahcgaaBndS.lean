/- The document's SameBounds at rows that are the same; numbers' digits; how many rows may be. -/
import Derived.Test.YtbghgjhenahcgaaAwake9
import Derived.Test.YtbghgjhenahcgaaDigits
namespace Go.Proofs.Ytbghgjhenahcgaa
open Go.ChangeShapes Go.WideShapes Go.ChangeAt Go.RowKit
set_option linter.unusedVariables false

set_option maxHeartbeats 1000000 in
theorem sameB_yes (l : List BRow) (A A' : Option Addr) (cap cap' : Nat) (w : World) (h1 : SlT bC 2 w A l) (h2 : SlT bC 2 w A' l) (hl : l.length ≤ 1000000) :
    Calls Try.prog 8 #[.slice A l.length cap, .slice A' l.length cap'] w fun e w' => e = .returned (.bool true) ∧ Below w.heap.size w w' := by
  have HA := Lib.hid (fun W (hW : Below w.heap.size w W) => h1.below hW)
  have HB := Lib.hid (fun W (hW : Below w.heap.size w W) => h2.below hW)
  clear h1 h2
  go_enter Try.func8, Try.ntmps8
  go_wp2_with fail
  go_loopw [5] (fun v5 wr => ∃ i : Nat, i ≤ l.length ∧ v5 = .int .i64 i ∧ Below w.heap.size w wr) (fun v5 _ => l.length - (intOf v5).toNat)
  case atStart => exact ⟨0, Nat.zero_le _, rfl, Below.refl _ _⟩
  case round =>
    obtain ⟨i, hi, rfl, hbel⟩ := hrel
    have HBW := Lib.hid hbel
    clear hbel
    by_cases hlt : i < l.length
    · obtain ⟨b1, o1, rfl, hb1, q0, q1⟩ := (HA.out wr HBW.out).row hlt
      obtain ⟨b2, o2, rfl, hb2, r0, r1⟩ := (HB.out wr HBW.out).row hlt
      obtain ⟨y, hye⟩ : ∃ y, l[i] = y := ⟨_, rfl⟩
      rw [hye] at q0 q1 r0 r1
      clear hye
      go_wp2_with fail
      go_region
      go_wp2_with fail
      go_roundw
      case rel => exact ⟨i + 1, by omega, by go_num, HBW.out.drew⟩
      case measure => simp [intOf]; omega
    · go_wp2_with fail
      go_ret
      exact ⟨rfl, HBW.out⟩

def digN (i : Nat) : List Nat := if i < 10 then [48 + i] else [48 + i / 10, 48 + i % 10]
theorem dig_txt : ∀ i < 36, (⟨#[109]⟩ ++ dB i : ByteArray) = txt (109 :: digN i) := by decide +kernel
def rowN (i : Nat) : BRow := (109 :: digN i, i + 1)
def rowsN (n : Nat) : List BRow := (List.range n).map rowN
theorem rowsN_len (n : Nat) : (rowsN n).length = n := by simp [rowsN]
theorem rowsN_succ (n : Nat) : rowsN (n + 1) = rowsN n ++ [rowN n] := by simp [rowsN, List.range_succ]
theorem rowN_ok {i : Nat} (h : i < 36) : RowOkB (rowN i) := by
  refine ⟨fun v hv => ?_, ?_, ?_⟩
  · simp only [rowN, digN, List.mem_cons] at hv
    rcases hv with rfl | hv
    · omega
    · split at hv
      · simp at hv; omega
      · simp at hv; omega
  · simp only [rowN, digN]; split <;> simp
  · simp only [rowN]; omega
theorem rowsN_ok {n : Nat} (h : n ≤ 36) : ∀ x ∈ rowsN n, RowOkB x := by
  intro x hx
  obtain ⟨i, hi, rfl⟩ := List.mem_map.mp hx
  exact rowN_ok (by have := List.mem_range.mp hi; omega)
def imgN (n : Nat) (ms : List Nat) : List Nat := atL ms ((rowsN n).take 34) 0 (List.replicate (24 + 8 * min n 34) 0)
def six (k r : Nat) : List Nat := (List.replicate 6 0).set k r
theorem many_all : ((List.range 8).all fun d => parseL (imgN (d + 28) []) 16 33 16 0 [] == if d ≤ 4 then some (rowsN (d + 28)) else none) = true := by decide +kernel
theorem six_all : ((List.range 6).all fun k => (List.range 4).all fun r => parseL (imgN 6 (six k r)) 16 33 16 0 [] == if k + r < 6 then some (rowsN 6) else none) = true := by decide +kernel
theorem many_of (d : Nat) (h : d < 8) : parseL (imgN (d + 28) []) 16 33 16 0 [] = if d ≤ 4 then some (rowsN (d + 28)) else none := by
  have := List.all_eq_true.mp many_all d (List.mem_range.mpr h)
  simpa using this
theorem six_of (k r : Nat) (hk : k < 6) (hr : r < 4) : parseL (imgN 6 (six k r)) 16 33 16 0 [] = if k + r < 6 then some (rowsN 6) else none := by
  have := List.all_eq_true.mp (List.all_eq_true.mp six_all k (List.mem_range.mpr hk)) r (List.mem_range.mpr hr)
  simpa using this
end Go.Proofs.Ytbghgjhenahcgaa
