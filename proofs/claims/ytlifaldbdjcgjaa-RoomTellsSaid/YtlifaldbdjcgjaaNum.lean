/- Plain lemmas on rows of bytes and the numbers in them; the contracts of package le's readers of numbers. -/
import Derived.Test.YtlifaldbdjcgjaaRows
import Derived.WalkKit
import Derived.ProofKit
import Derived.OpenShut
import Derived.ShutString
import Derived.ChangeOld
import Derived.Below
import Derived.Lib.Hide
import Derived.Outline
import Derived.IntWalk
import Derived.Laws.BitsAllLaws
namespace Go.Proofs.Ytlifaldbdjcgjaa
open Go.ChangeShapes Go.WideShapes Go.ChangeAt Go.RowKit
open Go.ChangeMaps (open_string shut_string)
set_option linter.unusedVariables false
set_option linter.unusedSimpArgs false

theorem ret_bool {a b : Bool} (h : a = b) : Ending.returned (.bool a) = .returned (.bool b) := by rw [h]

theorem ret_num {k k' : IntKind} {a b a' b' : Int} {x y : Bool} (h : a = b) (h2 : x = y) (_ : k = k') (_ : a' = b') :
    Ending.returned (.tuple #[.int k a, .bool x]) = .returned (.tuple #[.int k b, .bool y]) := by rw [h, h2]

/-- The number that n bytes of f from place o on make, the lowest first. -/
def rdF (f : Nat → Int) (o : Nat) : Nat → Int
  | 0 => 0
  | n + 1 => f o + 256 * rdF f (o + 1) n

/-- Every element is a byte. -/
def Bytes255 (f : Nat → Int) : Prop := ∀ i, 0 ≤ f i ∧ f i ≤ 255

theorem rdF_bd (f : Nat → Int) (h : Bytes255 f) (n : Nat) : ∀ o, 0 ≤ rdF f o n ∧ rdF f o n < 256 ^ n := by
  induction n with
  | zero => intro o; simp [rdF]
  | succ n ih =>
    intro o
    have h1 := h o
    have h2 := ih (o + 1)
    simp only [rdF]
    rw [Int.pow_succ]
    omega

/-- The row of len bytes f that lies in block b from off on. -/
def Row (w : World) (b off len : Nat) (f : Nat → Int) : Prop := ∀ i, i < len → w.cell? ⟨b, off + i, none⟩ = some (.int .u8 (f i))

theorem rdF_add (f : Nat → Int) (m n : Nat) : ∀ o, rdF f o (m + n) = rdF f o m + 256 ^ m * rdF f (o + m) n := by
  induction m with
  | zero => intro o; simp [rdF]
  | succ m ih =>
    intro o
    rw [show m + 1 + n = (m + n) + 1 from by omega]
    simp only [rdF]
    rw [ih, show o + 1 + m = o + (m + 1) from by omega, Int.pow_succ]
    rw [show (256 : Int) ^ m * 256 = 256 * 256 ^ m from Int.mul_comm _ _, Int.mul_add, Int.mul_assoc, Int.add_assoc]

theorem pow256_le {k n : Nat} (h : k ≤ n) : (256 : Int) ^ k ≤ 256 ^ n := by
  obtain ⟨d, rfl⟩ := Nat.exists_eq_add_of_le h
  have h1 : (1 : Int) ≤ 256 ^ d := by
    have := Int.pow_pos (n := 256) (m := d) (by omega); omega
  have h2 : (0 : Int) ≤ 256 ^ k := by have := Int.pow_pos (n := 256) (m := k) (by omega); omega
  rw [Int.pow_add]
  have := Int.mul_le_mul_of_nonneg_left h1 h2
  simpa using this

/-- 'v << 8 | c'. -/
theorem shl8_or {v c : Int} (h0 : 0 ≤ v) (h1 : v < 72057594037927936) (c0 : 0 ≤ c) (c1 : c ≤ 255) :
    bits BinOp.or IntKind.u64 (v * 256) c = c + 256 * v := by
  rw [u64_or _ _ (by omega) (by omega) (by omega) (by omega)]
  obtain ⟨x, rfl⟩ := Int.eq_ofNat_of_zero_le h0
  obtain ⟨y, rfl⟩ := Int.eq_ofNat_of_zero_le c0
  have e1 : ((x : Int) * 256).toNat = 2 ^ 8 * x := by omega
  have e2 : ((y : Int)).toNat = y := by omega
  rw [e1, e2]
  rw [← Nat.two_pow_add_eq_or_of_lt (show y < 2 ^ 8 by omega)]
  omega

end Go.Proofs.Ytlifaldbdjcgjaa
