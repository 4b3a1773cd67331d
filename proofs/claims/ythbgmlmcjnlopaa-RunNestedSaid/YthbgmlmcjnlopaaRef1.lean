/- The contracts of the document's answer on numbers in bytes. -/
import Derived.Test.YthbgmlmcjnlopaaMgC
namespace Go.Proofs.Ythbgmlmcjnlopaa
open Go.ChangeShapes Go.WideShapes Go.ChangeAt Go.RowKit
set_option linter.unusedVariables false
set_option linter.unusedSimpArgs false

theorem or_disj {v c : Int} (k : Nat) (hk : k ≤ 56) (v0 : 0 ≤ v) (v1 : v < 2 ^ k) (c0 : 0 ≤ c) (c1 : c ≤ 255) :
    bits BinOp.or IntKind.u64 v (c * 2 ^ k) = v + 2 ^ k * c := by
  obtain ⟨x, rfl⟩ := Int.eq_ofNat_of_zero_le v0
  obtain ⟨y, rfl⟩ := Int.eq_ofNat_of_zero_le c0
  have hx : x < 2 ^ k := by
    have : ((x : Nat) : Int) < ((2 ^ k : Nat) : Int) := by rw [Int.natCast_pow]; exact v1
    omega
  have hp : 2 ^ k ≤ 2 ^ 56 := Nat.pow_le_pow_right (by omega) hk
  have hy : y * 2 ^ k ≤ 255 * 2 ^ 56 := Nat.mul_le_mul (by omega) hp
  have e1 : ((y : Int) * 2 ^ k) = ((y * 2 ^ k : Nat) : Int) := by rw [Int.natCast_mul, Int.natCast_pow]; rfl
  rw [e1, u64_or _ _ (by omega) (by omega) (by omega) (by omega)]
  have e2 : ((x : Int)).toNat = x := by omega
  have e3 : (((y * 2 ^ k : Nat) : Int)).toNat = y * 2 ^ k := by omega
  rw [e2, e3, Nat.or_comm, Nat.mul_comm, ← Nat.two_pow_add_eq_or_of_lt hx]
  rw [Int.natCast_add, Int.natCast_mul, Int.natCast_pow]
  exact Int.add_comm _ _

end Go.Proofs.Ythbgmlmcjnlopaa
