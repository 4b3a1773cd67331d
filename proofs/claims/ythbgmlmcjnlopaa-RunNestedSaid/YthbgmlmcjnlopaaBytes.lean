/- The contracts of package le's Bytes, Put and Text. -/
import Derived.Test.YthbgmlmcjnlopaaNum
import Derived.Test.YthbgmlmcjnlopaaMgA
namespace Go.Proofs.Ythbgmlmcjnlopaa
open Go.ChangeShapes Go.WideShapes Go.ChangeAt Go.RowKit
open Go.ChangeMaps (open_string shut_string)
set_option linter.unusedVariables false
set_option linter.unusedSimpArgs false

/-- Byte number i of v. -/
def byteOf (v : Int) (i : Nat) : Int := v / 2 ^ (8 * i) % 256

def leF (v : Int) (k : Nat) (j : Nat) : Value := .int .u8 (if j < k then byteOf v j else 0)

theorem leF_zero (v : Int) (j : Nat) : leF v 0 j = .int .u8 0 := by simp [leF]
theorem leF_succ (v : Int) (k j : Nat) : (if j = k then .int .u8 (byteOf v k) else leF v k j) = leF v (k + 1) j := by
  unfold leF
  by_cases h : j = k
  · subst h; simp
  · rw [if_neg h]
    by_cases h3 : j < k
    · rw [if_pos h3, if_pos (by omega)]
    · rw [if_neg h3, if_neg (by omega)]

/-- What a store of n bytes of v from place o on makes of f, when k of them are written. -/
def putF (f : Nat → Value) (o : Nat) (v : Int) (k : Nat) (j : Nat) : Value := if o ≤ j ∧ j < o + k then .int .u8 (byteOf v (j - o)) else f j
theorem putF_zero (f : Nat → Value) (o : Nat) (v : Int) (j : Nat) : putF f o v 0 j = f j := by unfold putF; rw [if_neg (by omega)]
theorem putF_succ (f : Nat → Value) (o : Nat) (v : Int) (k j : Nat) : (if j = o + k then .int .u8 (byteOf v k) else putF f o v k j) = putF f o v (k + 1) j := by
  unfold putF
  by_cases h : j = o + k
  · subst h; rw [if_pos rfl, if_pos (by omega)]; congr 2; omega
  · rw [if_neg h]
    by_cases h3 : o ≤ j ∧ j < o + k
    · rw [if_pos h3, if_pos (by omega)]
    · rw [if_neg h3, if_neg (by omega)]

theorem infoU8 : (Try.prog.info? 5).map (fun i => (i.zero, i.size, i.bytes)) = some (some (.int .u8 0), 1, 1) := by kernel_rfl

theorem bytes_in (v : Int) (m : Nat) (w : World) (h0 : 0 ≤ v) (h1 : v ≤ 18446744073709551615) (hm : m ≤ 8) :
    Calls Try.prog 55 #[.int .u64 v, .int .i64 m] w fun e w' => e = .returned (.slice (some ⟨w.heap.size, 0, none⟩) m m) ∧ Own w' w.heap.size m (leF v m) ∧ Below w.heap.size w w' := by
  have hmk := run_make_row' (P := Try.prog) 24 5 (.int .u8 0) 1 Try.underlying24 infoU8 rfl .i64 .i64 m (by omega) (by omega)
  go_enter Try.func55, Try.ntmps55
  go_wp2
  go_loopw [6, 13] (fun _ i wr => ∃ k : Nat, k ≤ m ∧ i = .int .i64 k ∧ Own wr w.heap.size m (leF v k) ∧ Below w.heap.size w wr) (fun _ i _ => m - (intOf i).toNat)
  case atStart => exact ⟨0, by omega, rfl, (Own.of_row (World.rowIs_made _ _ _ _)).congr fun j _ => (leF_zero v j).symm, (Below.refl _ _).alloc (Nat.le_refl _) _⟩
  case round =>
    obtain ⟨k, hk, rfl, hown, hbel⟩ := hrel
    by_cases hlt : k < m
    · have hc := hown.cell hlt
      have hz := hown.frozen hlt
      go_wp2
      go_roundw
      case rel => exact ⟨k + 1, by omega, by go_num, (hown.set hlt _).congr fun j _ => leF_succ v k j, hbel.setCell (Nat.le_refl _) _⟩
      case measure => simp [intOf]; omega
    · obtain rfl : k = m := by omega
      go_wp2
      go_ret
      exact ⟨rfl, hown, hbel⟩

/-- The text of n bytes of f from place o on. -/
def strF (f : Nat → Int) (o n : Nat) : ByteArray := strOfNums ((List.range n).map fun i => f (o + i))

theorem strF_size (f : Nat → Int) (o n : Nat) : (strF f o n).size = n := by simp [strF, strOfNums_size]

theorem run_str {w : World} {b off n cap : Nat} {f : Nat → Int} (h : Row w b off n f) :
    (convert 24 9 (.slice (some ⟨b, off, none⟩) n cap)).run Try.prog w = .ok (.string (strF f 0 n)) w := by
  rw [run_convert_bytes_arg (P := Try.prog) w 24 5 Try.underlying24 Try.underlying5 b off n cap ((List.range n).map f) (by simp) (fun i hi => by rw [h i hi]; simp [hi]) 9 Try.underlying9]
  simp [strF]

theorem run_str_at {w : World} {b off len n o cap : Nat} {f : Nat → Int} (h : Row w b off len f) (hn : o + n ≤ len) :
    (convert 24 9 (.slice (some ⟨b, off + o, none⟩) n cap)).run Try.prog w = .ok (.string (strF f o n)) w := by
  rw [run_convert_bytes_arg (P := Try.prog) w 24 5 Try.underlying24 Try.underlying5 b (off + o) n cap ((List.range n).map fun i => f (o + i)) (by simp) (fun i hi => by rw [Nat.add_assoc, h (o + i) (by omega)]; simp [hi]) 9 Try.underlying9]
  rfl

end Go.Proofs.Ythbgmlmcjnlopaa
