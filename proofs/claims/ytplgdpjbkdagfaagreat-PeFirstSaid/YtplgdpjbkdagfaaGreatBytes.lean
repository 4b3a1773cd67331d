/- The contracts of package le's Bytes, Put and Text. -/
import Derived.Test.YtplgdpjbkdagfaaGreatNum
import Derived.Test.YtplgdpjbkdagfaaGreatMem
namespace Go.Proofs.YtplgdpjbkdagfaaGreat
set_option maxRecDepth 100000
open Go.ChangeShapes Go.WideShapes Go.ChangeAt Go.RowKit
open Go.ChangeMaps (open_string shut_string)
set_option linter.unusedVariables false
set_option linter.unusedSimpArgs false

/-- Byte number i of v. -/
def byteOf (v : Int) (i : Nat) : Int := v / 2 ^ (8 * i) % 256

def leF (v : Int) (k : Nat) (j : Nat) : Value := .int .u8 (if j < k then byteOf v j else 0)

theorem leF_zero (v : Int) (j : Nat) : leF v 0 j = .int .u8 0 := by simp [leF]
theorem leF_succ (v : Int) (k j : Nat) : (if j = k then .int .u8 (byteOf v k) else leF v k j) = leF v (k + 1) j := by
  unfold leF
  by_cases h : j = k
  · subst h; simp
  · rw [if_neg h]
    by_cases h3 : j < k
    · rw [if_pos h3, if_pos (by omega)]
    · rw [if_neg h3, if_neg (by omega)]

/-- What a store of n bytes of v from place o on makes of f, when k of them are written. -/
def putF (f : Nat → Value) (o : Nat) (v : Int) (k : Nat) (j : Nat) : Value := if o ≤ j ∧ j < o + k then .int .u8 (byteOf v (j - o)) else f j
theorem putF_zero (f : Nat → Value) (o : Nat) (v : Int) (j : Nat) : putF f o v 0 j = f j := by unfold putF; rw [if_neg (by omega)]
theorem putF_succ (f : Nat → Value) (o : Nat) (v : Int) (k j : Nat) : (if j = o + k then .int .u8 (byteOf v k) else putF f o v k j) = putF f o v (k + 1) j := by
  unfold putF
  by_cases h : j = o + k
  · subst h; rw [if_pos rfl, if_pos (by omega)]; congr 2; omega
  · rw [if_neg h]
    by_cases h3 : o ≤ j ∧ j < o + k
    · rw [if_pos h3, if_pos (by omega)]
    · rw [if_neg h3, if_neg (by omega)]

theorem infoU8 : (Tryz.prog.info? 5).map (fun i => (i.zero, i.size, i.bytes)) = some (some (.int .u8 0), 1, 1) := by kernel_rfl

/-- The text of n bytes of f from place o on. -/
def strF (f : Nat → Int) (o n : Nat) : ByteArray := strOfNums ((List.range n).map fun i => f (o + i))

theorem strF_size (f : Nat → Int) (o n : Nat) : (strF f o n).size = n := by simp [strF, strOfNums_size]

theorem run_str {w : World} {b off n cap : Nat} {f : Nat → Int} (h : Row w b off n f) :
    (convert 25 9 (.slice (some ⟨b, off, none⟩) n cap)).run Tryz.prog w = .ok (.string (strF f 0 n)) w := by
  rw [run_convert_bytes_arg (P := Tryz.prog) w 25 5 Tryz.underlying25 Tryz.underlying5 b off n cap ((List.range n).map f) (by simp) (fun i hi => by rw [h i hi]; simp [hi]) 9 Tryz.underlying9]
  simp [strF]

theorem run_str_at {w : World} {b off len n o cap : Nat} {f : Nat → Int} (h : Row w b off len f) (hn : o + n ≤ len) :
    (convert 25 9 (.slice (some ⟨b, off + o, none⟩) n cap)).run Tryz.prog w = .ok (.string (strF f o n)) w := by
  rw [run_convert_bytes_arg (P := Tryz.prog) w 25 5 Tryz.underlying25 Tryz.underlying5 b (off + o) n cap ((List.range n).map fun i => f (o + i)) (by simp) (fun i hi => by rw [Nat.add_assoc, h (o + i) (by omega)]; simp [hi]) 9 Tryz.underlying9]
  rfl

theorem text_out (a : Option Addr) (len cap : Nat) (at' most : Int) (w : World) (h0 : len ≤ 9223372036854775807) (h : at' < 0 ∨ len ≤ at') :
    Calls Tryz.prog 135 #[.slice a len cap, .int .i64 at', .int .i64 most] w fun e w' => e = .returned (.tuple #[.string ByteArray.empty, .bool false]) ∧ w = w' := by
  by_cases h1 : at' < 0
  · go_enter Tryz.func135, Tryz.ntmps135
    go_wp2
    go_ret2
    exact ⟨rfl, rfl⟩
  · have h2 : (len : Int) ≤ at' := by omega
    go_enter Tryz.func135, Tryz.ntmps135
    go_wp2
    go_ret2
    exact ⟨rfl, rfl⟩

theorem text_yes (b off len cap : Nat) (f : Nat → Int) (o n : Nat) (most : Int) (w : World) (h0 : cap ≤ 9223372036854775807) (h1 : len ≤ cap) (h : o + n < len) (hm : n = 0 ∨ n ≤ most) (hz : f (o + n) = 0)
    (hnz : ∀ i, i < n → f (o + i) ≠ 0) (hc : Row w b off len f) :
    Calls Tryz.prog 135 #[.slice (some ⟨b, off, none⟩) len cap, .int .i64 o, .int .i64 most] w fun e w' => e = .returned (.tuple #[.string (strF f o n), .bool true]) ∧ w = w' := by
  have hs := fun (c : Nat) => run_str_at (n := n) (o := o) (cap := c) hc (by omega)
  have HZ := Lib.hid hz
  clear hz
  go_enter Tryz.func135, Tryz.ntmps135
  go_wp2
  go_loop [8, 9, 22] (fun _ _ i => ∃ k : Nat, k ≤ n ∧ i = .int .i64 k) (fun _ _ i => n - (intOf i).toNat)
  case atStart => exact ⟨0, by omega, rfl⟩
  case round =>
    obtain ⟨k, hk, rfl⟩ := hrel
    by_cases hlt : k < n
    · have hcell := hc (o + k) (by omega)
      have hf : (f (o + k) == 0) = false := by simpa using hnz k hlt
      rw [← Nat.add_assoc] at hcell
      have hmk : (k : Int) < most := by omega
      go_wp2
      go_round
      case rel => exact ⟨k + 1, by omega, by go_num⟩
      case measure => simp [intOf]; omega
    · obtain rfl : k = n := by omega
      have hcell := hc (o + k) (by omega)
      rw [← Nat.add_assoc] at hcell
      have hf : (f (o + k) == 0) = true := by simpa using HZ.out
      go_wp2
      go_ret2
      exact ⟨rfl, rfl⟩

theorem text_no (b off len cap : Nat) (f : Nat → Int) (o : Nat) (most : Int) (w : World) (h0 : cap ≤ 9223372036854775807) (h1 : len ≤ cap) (h : o < len) (hno : ∀ i : Nat, o + i < len → (i = 0 ∨ i ≤ most) → f (o + i) ≠ 0) (hc : Row w b off len f) :
    Calls Tryz.prog 135 #[.slice (some ⟨b, off, none⟩) len cap, .int .i64 o, .int .i64 most] w fun e w' => e = .returned (.tuple #[.string ByteArray.empty, .bool false]) ∧ w = w' := by
  go_enter Tryz.func135, Tryz.ntmps135
  go_wp2
  go_loop [8, 9, 22] (fun _ _ i => ∃ k : Nat, k ≤ len - o ∧ i = .int .i64 k ∧ (k = 0 ∨ k ≤ most)) (fun _ _ i => len - (intOf i).toNat)
  case atStart => exact ⟨0, by omega, rfl, .inl rfl⟩
  case round =>
    obtain ⟨k, hk, rfl, hkm⟩ := hrel
    by_cases hlt : k < len - o
    · have hcell := hc (o + k) (by omega)
      have hf : (f (o + k) == 0) = false := by simpa using hno k (by omega) hkm
      rw [← Nat.add_assoc] at hcell
      by_cases hmk : (k : Int) < most
      · go_wp2
        go_round
        case rel => exact ⟨k + 1, by omega, by go_num, .inr (by omega)⟩
        case measure => simp [intOf]; omega
      · go_wp2
        go_ret2
        exact ⟨rfl, rfl⟩
    · obtain rfl : k = len - o := by omega
      go_wp2
      go_ret2
      exact ⟨rfl, rfl⟩
end Go.Proofs.YtplgdpjbkdagfaaGreat
