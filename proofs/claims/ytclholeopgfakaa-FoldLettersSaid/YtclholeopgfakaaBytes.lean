/- The contracts of package le's Bytes, Put and Text. -/
import Derived.Test.YtclholeopgfakaaNum
import Derived.Test.YtclholeopgfakaaMem
namespace Go.Proofs.Ytclholeopgfakaa
open Go.ChangeShapes Go.WideShapes Go.ChangeAt Go.RowKit
open Go.ChangeMaps (open_string shut_string)
set_option linter.unusedVariables false

/-- Byte number i of v. -/
def byteOf (v : Int) (i : Nat) : Int := v / 2 ^ (8 * i) % 256

def leF (v : Int) (k : Nat) (j : Nat) : Value := .int .u8 (if j < k then byteOf v j else 0)

theorem leF_zero (v : Int) (j : Nat) : leF v 0 j = .int .u8 0 := by simp [leF]
theorem leF_succ (v : Int) (k j : Nat) : (if j = k then .int .u8 (byteOf v k) else leF v k j) = leF v (k + 1) j := by
  unfold leF
  by_cases h : j = k
  · subst h; simp
  · rw [if_neg h]
    by_cases h3 : j < k
    · rw [if_pos h3, if_pos (by omega)]
    · rw [if_neg h3, if_neg (by omega)]

/-- What a store of n bytes of v from place o on makes of f, when k of them are written. -/
def putF (f : Nat → Value) (o : Nat) (v : Int) (k : Nat) (j : Nat) : Value := if o ≤ j ∧ j < o + k then .int .u8 (byteOf v (j - o)) else f j
theorem putF_zero (f : Nat → Value) (o : Nat) (v : Int) (j : Nat) : putF f o v 0 j = f j := by unfold putF; rw [if_neg (by omega)]
theorem putF_succ (f : Nat → Value) (o : Nat) (v : Int) (k j : Nat) : (if j = o + k then .int .u8 (byteOf v k) else putF f o v k j) = putF f o v (k + 1) j := by
  unfold putF
  by_cases h : j = o + k
  · subst h; rw [if_pos rfl, if_pos (by omega)]; congr 2; omega
  · rw [if_neg h]
    by_cases h3 : o ≤ j ∧ j < o + k
    · rw [if_pos h3, if_pos (by omega)]
    · rw [if_neg h3, if_neg (by omega)]

theorem infoU8 : (Try.prog.info? 5).map (fun i => (i.zero, i.size, i.bytes)) = some (some (.int .u8 0), 1, 1) := by kernel_rfl

theorem bytes_in (v : Int) (m : Nat) (w : World) (h0 : 0 ≤ v) (h1 : v ≤ 18446744073709551615) (hm : m ≤ 8) :
    Calls Try.prog 20 #[.int .u64 v, .int .i64 m] w fun e w' => e = .returned (.slice (some ⟨w.heap.size, 0, none⟩) m m) ∧ Own w' w.heap.size m (leF v m) ∧ Below w.heap.size w w' := by
  have hmk := run_make_row' (P := Try.prog) 22 5 (.int .u8 0) 1 Try.underlying22 infoU8 rfl .i64 .i64 m (by omega) (by omega)
  go_enter Try.func20, Try.ntmps20
  go_wp2
  go_loopw [6, 13] (fun _ i wr => ∃ k : Nat, k ≤ m ∧ i = .int .i64 k ∧ Own wr w.heap.size m (leF v k) ∧ Below w.heap.size w wr) (fun _ i _ => m - (intOf i).toNat)
  case atStart => exact ⟨0, by omega, rfl, (Own.of_row (World.rowIs_made _ _ _ _)).congr fun j _ => (leF_zero v j).symm, (Below.refl _ _).alloc (Nat.le_refl _) _⟩
  case round =>
    obtain ⟨k, hk, rfl, hown, hbel⟩ := hrel
    by_cases hlt : k < m
    · have hc := hown.cell hlt
      have hz := hown.frozen hlt
      go_wp2
      go_roundw
      case rel => exact ⟨k + 1, by omega, by go_num, (hown.set hlt _).congr fun j _ => leF_succ v k j, hbel.setCell (Nat.le_refl _) _⟩
      case measure => simp [intOf]; omega
    · obtain rfl : k = m := by omega
      go_wp2
      go_ret
      exact ⟨rfl, hown, hbel⟩

theorem put_no (a : Option Addr) (len cap : Nat) (at' n v : Int) (w : World) (h0 : len ≤ 9223372036854775807) (h : ¬ (1 ≤ n ∧ n ≤ 8 ∧ 0 ≤ at' ∧ at' ≤ len - n)) :
    Calls Try.prog 15 #[.slice a len cap, .int .i64 at', .int .i64 n, .int .u64 v] w fun e w' => e = .returned (.bool false) ∧ w = w' := by
  by_cases h1 : n < 1
  · go_enter Try.func15, Try.ntmps15
    go_wp2
    go_ret
    exact ⟨rfl, rfl⟩
  · by_cases h2 : 8 < n
    · go_enter Try.func15, Try.ntmps15
      go_wp2
      go_ret
      exact ⟨rfl, rfl⟩
    · go_enter Try.func15, Try.ntmps15
      go_wp2_with (go_at_call 29; refine (lies_no _ _ _ _ _ _ h0 (by omega) (by omega) (by omega)).mono ?_; rintro e w' ⟨rfl, rfl⟩)
      go_ret
      exact ⟨rfl, rfl⟩

theorem put_yes (g len cap : Nat) (f : Nat → Value) (o n : Nat) (v : Int) (w : World) (h0 : len ≤ 9223372036854775807) (h1 : 1 ≤ n) (h2 : n ≤ 8) (h : o + n ≤ len) (hown : Own w g len f)
    (v0 : 0 ≤ v) (v1 : v ≤ 18446744073709551615) :
    Calls Try.prog 15 #[.slice (some ⟨g, 0, none⟩) len cap, .int .i64 o, .int .i64 n, .int .u64 v] w fun e w' => e = .returned (.bool true) ∧ Own w' g len (putF f o v n) ∧ w.grownBy w' (some g) := by
  go_enter Try.func15, Try.ntmps15
  go_wp2_with (go_at_call 29; refine (lies_yes _ _ _ _ _ _ h0 (by omega) (by omega) (by omega) (by omega)).mono ?_; rintro e w' ⟨rfl, rfl⟩)
  go_loopw [9, 24] (fun _ i wr => ∃ k : Nat, k ≤ n ∧ i = .int .i64 k ∧ Own wr g len (putF f o v k) ∧ w.grownBy wr (some g)) (fun _ i _ => n - (intOf i).toNat)
  case atStart => exact ⟨0, by omega, rfl, hown.congr fun j _ => (putF_zero f o v j).symm, World.grownBy.refl _ _⟩
  case round =>
    obtain ⟨k, hk, rfl, hown, hbel⟩ := hrel
    by_cases hlt : k < n
    · have hc := hown.cell (i := o + k) (by omega)
      have hz := hown.frozen (i := o + k) (by omega)
      go_wp2
      go_roundw
      case rel => exact ⟨k + 1, by omega, by go_num, (hown.set (by omega) _).congr fun j _ => putF_succ f o v k j, only_setCell hbel (.inl rfl) _⟩
      case measure => simp [intOf]; omega
    · obtain rfl : k = n := by omega
      go_wp2
      go_ret
      exact ⟨rfl, hown, hbel⟩

/-- The text of n bytes of f from place o on. -/
def strF (f : Nat → Int) (o n : Nat) : ByteArray := strOfNums ((List.range n).map fun i => f (o + i))

theorem strF_size (f : Nat → Int) (o n : Nat) : (strF f o n).size = n := by simp [strF, strOfNums_size]

theorem run_str {w : World} {b off n cap : Nat} {f : Nat → Int} (h : Row w b off n f) :
    (convert 22 9 (.slice (some ⟨b, off, none⟩) n cap)).run Try.prog w = .ok (.string (strF f 0 n)) w := by
  rw [run_convert_bytes_arg (P := Try.prog) w 22 5 Try.underlying22 Try.underlying5 b off n cap ((List.range n).map f) (by simp) (fun i hi => by rw [h i hi]; simp [hi]) 9 Try.underlying9]
  simp [strF]

theorem run_str_at {w : World} {b off len n o cap : Nat} {f : Nat → Int} (h : Row w b off len f) (hn : o + n ≤ len) :
    (convert 22 9 (.slice (some ⟨b, off + o, none⟩) n cap)).run Try.prog w = .ok (.string (strF f o n)) w := by
  rw [run_convert_bytes_arg (P := Try.prog) w 22 5 Try.underlying22 Try.underlying5 b (off + o) n cap ((List.range n).map fun i => f (o + i)) (by simp) (fun i hi => by rw [Nat.add_assoc, h (o + i) (by omega)]; simp [hi]) 9 Try.underlying9]
  rfl

theorem text_out (a : Option Addr) (len cap : Nat) (at' most : Int) (w : World) (h0 : len ≤ 9223372036854775807) (h : at' < 0 ∨ len ≤ at') :
    Calls Try.prog 16 #[.slice a len cap, .int .i64 at', .int .i64 most] w fun e w' => e = .returned (.tuple #[.string ByteArray.empty, .bool false]) ∧ w = w' := by
  by_cases h1 : at' < 0
  · go_enter Try.func16, Try.ntmps16
    go_wp2
    go_ret2
    exact ⟨rfl, rfl⟩
  · have h2 : (len : Int) ≤ at' := by omega
    go_enter Try.func16, Try.ntmps16
    go_wp2
    go_ret2
    exact ⟨rfl, rfl⟩

theorem text_yes (b off len cap : Nat) (f : Nat → Int) (o n : Nat) (most : Int) (w : World) (h0 : cap ≤ 9223372036854775807) (h1 : len ≤ cap) (h : o + n < len) (hm : n = 0 ∨ n ≤ most) (hz : f (o + n) = 0)
    (hnz : ∀ i, i < n → f (o + i) ≠ 0) (hc : Row w b off len f) :
    Calls Try.prog 16 #[.slice (some ⟨b, off, none⟩) len cap, .int .i64 o, .int .i64 most] w fun e w' => e = .returned (.tuple #[.string (strF f o n), .bool true]) ∧ w = w' := by
  have hs := fun (c : Nat) => run_str_at (n := n) (o := o) (cap := c) hc (by omega)
  have HZ := Lib.hid hz
  clear hz
  go_enter Try.func16, Try.ntmps16
  go_wp2
  go_loop [8, 9, 22] (fun _ _ i => ∃ k : Nat, k ≤ n ∧ i = .int .i64 k) (fun _ _ i => n - (intOf i).toNat)
  case atStart => exact ⟨0, by omega, rfl⟩
  case round =>
    obtain ⟨k, hk, rfl⟩ := hrel
    by_cases hlt : k < n
    · have hcell := hc (o + k) (by omega)
      have hf : (f (o + k) == 0) = false := by simpa using hnz k hlt
      rw [← Nat.add_assoc] at hcell
      have hmk : (k : Int) < most := by omega
      go_wp2
      go_round
      case rel => exact ⟨k + 1, by omega, by go_num⟩
      case measure => simp [intOf]; omega
    · obtain rfl : k = n := by omega
      have hcell := hc (o + k) (by omega)
      rw [← Nat.add_assoc] at hcell
      have hf : (f (o + k) == 0) = true := by simpa using HZ.out
      go_wp2
      go_ret2
      exact ⟨rfl, rfl⟩

theorem text_no (b off len cap : Nat) (f : Nat → Int) (o : Nat) (most : Int) (w : World) (h0 : cap ≤ 9223372036854775807) (h1 : len ≤ cap) (h : o < len) (hno : ∀ i : Nat, o + i < len → (i = 0 ∨ i ≤ most) → f (o + i) ≠ 0) (hc : Row w b off len f) :
    Calls Try.prog 16 #[.slice (some ⟨b, off, none⟩) len cap, .int .i64 o, .int .i64 most] w fun e w' => e = .returned (.tuple #[.string ByteArray.empty, .bool false]) ∧ w = w' := by
  go_enter Try.func16, Try.ntmps16
  go_wp2
  go_loop [8, 9, 22] (fun _ _ i => ∃ k : Nat, k ≤ len - o ∧ i = .int .i64 k ∧ (k = 0 ∨ k ≤ most)) (fun _ _ i => len - (intOf i).toNat)
  case atStart => exact ⟨0, by omega, rfl, .inl rfl⟩
  case round =>
    obtain ⟨k, hk, rfl, hkm⟩ := hrel
    by_cases hlt : k < len - o
    · have hcell := hc (o + k) (by omega)
      have hf : (f (o + k) == 0) = false := by simpa using hno k (by omega) hkm
      rw [← Nat.add_assoc] at hcell
      by_cases hmk : (k : Int) < most
      · go_wp2
        go_round
        case rel => exact ⟨k + 1, by omega, by go_num, .inr (by omega)⟩
        case measure => simp [intOf]; omega
      · go_wp2
        go_ret2
        exact ⟨rfl, rfl⟩
    · obtain rfl : k = len - o := by omega
      go_wp2
      go_ret2
      exact ⟨rfl, rfl⟩
end Go.Proofs.Ytclholeopgfakaa
