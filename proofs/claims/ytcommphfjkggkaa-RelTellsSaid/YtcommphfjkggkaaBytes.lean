/- The contracts of package le's Bytes, Put and Text. -/
import Derived.Test.YtcommphfjkggkaaNum
import Derived.Test.YtcommphfjkggkaaMem
namespace Go.Proofs.Ytcommphfjkggkaa
open Go.ChangeShapes Go.WideShapes Go.ChangeAt Go.RowKit
open Go.ChangeMaps (open_string shut_string)
set_option linter.unusedVariables false

/-- Byte number i of v. -/
def byteOf (v : Int) (i : Nat) : Int := v / 2 ^ (8 * i) % 256

def leF (v : Int) (k : Nat) (j : Nat) : Value := .int .u8 (if j < k then byteOf v j else 0)

theorem leF_zero (v : Int) (j : Nat) : leF v 0 j = .int .u8 0 := by simp [leF]
theorem leF_succ (v : Int) (k j : Nat) : (if j = k then .int .u8 (byteOf v k) else leF v k j) = leF v (k + 1) j := by
  unfold leF
  by_cases h : j = k
  · subst h; simp
  · rw [if_neg h]
    by_cases h3 : j < k
    · rw [if_pos h3, if_pos (by omega)]
    · rw [if_neg h3, if_neg (by omega)]

/-- What a store of n bytes of v from place o on makes of f, when k of them are written. -/
def putF (f : Nat → Value) (o : Nat) (v : Int) (k : Nat) (j : Nat) : Value := if o ≤ j ∧ j < o + k then .int .u8 (byteOf v (j - o)) else f j
theorem putF_zero (f : Nat → Value) (o : Nat) (v : Int) (j : Nat) : putF f o v 0 j = f j := by unfold putF; rw [if_neg (by omega)]
theorem putF_succ (f : Nat → Value) (o : Nat) (v : Int) (k j : Nat) : (if j = o + k then .int .u8 (byteOf v k) else putF f o v k j) = putF f o v (k + 1) j := by
  unfold putF
  by_cases h : j = o + k
  · subst h; rw [if_pos rfl, if_pos (by omega)]; congr 2; omega
  · rw [if_neg h]
    by_cases h3 : o ≤ j ∧ j < o + k
    · rw [if_pos h3, if_pos (by omega)]
    · rw [if_neg h3, if_neg (by omega)]

theorem infoU8 : (Try.prog.info? 5).map (fun i => (i.zero, i.size, i.bytes)) = some (some (.int .u8 0), 1, 1) := by kernel_rfl

theorem put_no (a : Option Addr) (len cap : Nat) (at' n v : Int) (w : World) (h0 : len ≤ 9223372036854775807) (h : ¬ (1 ≤ n ∧ n ≤ 8 ∧ 0 ≤ at' ∧ at' ≤ len - n)) :
    Calls Try.prog 43 #[.slice a len cap, .int .i64 at', .int .i64 n, .int .u64 v] w fun e w' => e = .returned (.bool false) ∧ w = w' := by
  by_cases h1 : n < 1
  · go_enter Try.func43, Try.ntmps43
    go_wp2
    go_ret
    exact ⟨rfl, rfl⟩
  · by_cases h2 : 8 < n
    · go_enter Try.func43, Try.ntmps43
      go_wp2
      go_ret
      exact ⟨rfl, rfl⟩
    · go_enter Try.func43, Try.ntmps43
      go_wp2_with (go_at_call 44; refine (lies_no _ _ _ _ _ _ h0 (by omega) (by omega) (by omega)).mono ?_; rintro e w' ⟨rfl, rfl⟩)
      go_ret
      exact ⟨rfl, rfl⟩

theorem put_yes (g len cap : Nat) (f : Nat → Value) (o n : Nat) (v : Int) (w : World) (h0 : len ≤ 9223372036854775807) (h1 : 1 ≤ n) (h2 : n ≤ 8) (h : o + n ≤ len) (hown : Own w g len f)
    (v0 : 0 ≤ v) (v1 : v ≤ 18446744073709551615) :
    Calls Try.prog 43 #[.slice (some ⟨g, 0, none⟩) len cap, .int .i64 o, .int .i64 n, .int .u64 v] w fun e w' => e = .returned (.bool true) ∧ Own w' g len (putF f o v n) ∧ w.grownBy w' (some g) := by
  go_enter Try.func43, Try.ntmps43
  go_wp2_with (go_at_call 44; refine (lies_yes _ _ _ _ _ _ h0 (by omega) (by omega) (by omega) (by omega)).mono ?_; rintro e w' ⟨rfl, rfl⟩)
  go_loopw [9, 24] (fun _ i wr => ∃ k : Nat, k ≤ n ∧ i = .int .i64 k ∧ Own wr g len (putF f o v k) ∧ w.grownBy wr (some g)) (fun _ i _ => n - (intOf i).toNat)
  case atStart => exact ⟨0, by omega, rfl, hown.congr fun j _ => (putF_zero f o v j).symm, World.grownBy.refl _ _⟩
  case round =>
    obtain ⟨k, hk, rfl, hown, hbel⟩ := hrel
    by_cases hlt : k < n
    · have hc := hown.cell (i := o + k) (by omega)
      have hz := hown.frozen (i := o + k) (by omega)
      go_wp2
      go_roundw
      case rel => exact ⟨k + 1, by omega, by go_num, (hown.set (by omega) _).congr fun j _ => putF_succ f o v k j, only_setCell hbel (.inl rfl) _⟩
      case measure => simp [intOf]; omega
    · obtain rfl : k = n := by omega
      go_wp2
      go_ret
      exact ⟨rfl, hown, hbel⟩

/-- The text of n bytes of f from place o on. -/
def strF (f : Nat → Int) (o n : Nat) : ByteArray := strOfNums ((List.range n).map fun i => f (o + i))

theorem strF_size (f : Nat → Int) (o n : Nat) : (strF f o n).size = n := by simp [strF, strOfNums_size]

theorem run_str {w : World} {b off n cap : Nat} {f : Nat → Int} (h : Row w b off n f) :
    (convert 22 9 (.slice (some ⟨b, off, none⟩) n cap)).run Try.prog w = .ok (.string (strF f 0 n)) w := by
  rw [run_convert_bytes_arg (P := Try.prog) w 22 5 Try.underlying22 Try.underlying5 b off n cap ((List.range n).map f) (by simp) (fun i hi => by rw [h i hi]; simp [hi]) 9 Try.underlying9]
  simp [strF]

theorem run_str_at {w : World} {b off len n o cap : Nat} {f : Nat → Int} (h : Row w b off len f) (hn : o + n ≤ len) :
    (convert 22 9 (.slice (some ⟨b, off + o, none⟩) n cap)).run Try.prog w = .ok (.string (strF f o n)) w := by
  rw [run_convert_bytes_arg (P := Try.prog) w 22 5 Try.underlying22 Try.underlying5 b (off + o) n cap ((List.range n).map fun i => f (o + i)) (by simp) (fun i hi => by rw [Nat.add_assoc, h (o + i) (by omega)]; simp [hi]) 9 Try.underlying9]
  rfl

end Go.Proofs.Ytcommphfjkggkaa
