/- SectRights. -/
import Derived.Test.YtlgdaljbajebhaaAwake6
import Derived.Test.YtlgdaljbajebhaaMask
namespace Go.Proofs.Ytlgdaljbajebhaa
open Go.ChangeShapes Go.WideShapes Go.ChangeAt Go.RowKit
set_option linter.unusedVariables false

theorem ofInt64 (a : Nat) (ha : a < 9223372036854775808) : (BitVec.ofInt 64 (a : Int)).toNat = a := by
  rw [BitVec.ofInt_natCast, BitVec.toNat_ofNat]; exact Nat.mod_eq_of_lt (by omega)
theorem wrap64 (a : Nat) (ha : a < 9223372036854775808) : IntKind.i64.wrap (a : Int) = a := by rw [IntKind.wrap_i64]; omega

theorem i64_and_nat (a b : Nat) (ha : a < 4294967296) (hb : b < 4294967296) : bits .and .i64 (a : Int) (b : Int) = ((a &&& b : Nat) : Int) := by
  have hx : a &&& b < 2 ^ 32 := Nat.and_lt_two_pow _ (by omega)
  show IntKind.i64.wrap ((BitVec.ofInt 64 (a : Int) &&& BitVec.ofInt 64 (b : Int)).toNat : Int) = _
  rw [BitVec.toNat_and, ofInt64 a (by omega), ofInt64 b (by omega), wrap64 _ (by omega)]
theorem i64_or_nat (a b : Nat) (ha : a < 4294967296) (hb : b < 4294967296) : bits .or .i64 (a : Int) (b : Int) = ((a ||| b : Nat) : Int) := by
  have hx : a ||| b < 2 ^ 32 := Nat.or_lt_two_pow (by omega) (by omega)
  show IntKind.i64.wrap ((BitVec.ofInt 64 (a : Int) ||| BitVec.ofInt 64 (b : Int)).toNat : Int) = _
  rw [BitVec.toNat_or, ofInt64 a (by omega), ofInt64 b (by omega), wrap64 _ (by omega)]
theorem i64_andNot_nat (a b : Nat) (ha : a < 4294967296) (hb : b < 4294967296) : bits .andNot .i64 (a : Int) (b : Int) = ((a &&& (2 ^ 64 - 1 - b) : Nat) : Int) := by
  have hx : a &&& (2 ^ 64 - 1 - b) ≤ a := Nat.and_le_left
  show IntKind.i64.wrap ((BitVec.ofInt 64 (a : Int) &&& ~~~BitVec.ofInt 64 (b : Int)).toNat : Int) = _
  rw [BitVec.toNat_and, BitVec.toNat_not, ofInt64 a (by omega), ofInt64 b (by omega), wrap64 _ (by omega)]

theorem and_bit (y k : Nat) (hk : k < 32) (hy : y < 4294967296) : (bits .and .i64 (y : Int) ((2 ^ k : Nat) : Int) != 0) = y.testBit k := by
  have hk2 : 2 ^ k < 2 ^ 32 := Nat.pow_lt_pow_right (by omega) hk
  rw [i64_and_nat y (2 ^ k) hy (by omega)]
  cases h : y.testBit k with
  | true =>
    rw [bne_iff_ne]
    intro e
    have e' : y &&& 2 ^ k = 0 := by omega
    have h2 := congrArg (fun z => Nat.testBit z k) e'
    simp [Nat.testBit_and, h] at h2
  | false =>
    have e' : y &&& 2 ^ k = 0 := by
      apply Nat.eq_of_testBit_eq
      intro j
      rw [Nat.testBit_and, Nat.testBit_two_pow, Nat.zero_testBit]
      by_cases hj : k = j
      · subst hj; simp [h]
      · simp [hj]
    rw [e']
    rfl

theorem prot_nat (y : Nat) (hy : y < 4294967296) (r w' x : Bool) (h0 : y.testBit 30 = r) (h1 : y.testBit 31 = w') (h2 : y.testBit 29 = x) (w : World) :
    Calls Try.prog 19 #[.int .i64 (y : Int)] w fun e u => e = .returned (.int .i64 (protV r w' x)) ∧ w = u :=
  prot_any (y : Int) r w' x w (by rw [← h0]; exact and_bit y 30 (by omega) hy) (by rw [← h1]; exact and_bit y 31 (by omega) hy) (by rw [← h2]; exact and_bit y 29 (by omega) hy)

set_option maxRecDepth 100000 in
set_option maxHeartbeats 4000000 in
theorem rights_walk (chars : Int) (w : World) : Calls Try.prog 9 #[.int .i64 chars] w fun e w' => e = .returned (.bool true) ∧ Below w.heap.size w w' := by
  have m := i64_mask chars 32 (by omega)
  simp only [show ((2 ^ 32 - 1 : Nat) : Int) = 4294967295 by rfl, show ((2 ^ 32 : Nat) : Int) = 4294967296 by rfl] at m
  obtain ⟨x, hx⟩ : ∃ x : Nat, chars % 4294967296 = x := ⟨(chars % 4294967296).toNat, by omega⟩
  rw [hx] at m
  have hx32 : x < 4294967296 := by omega
  clear hx
  have eA : bits .and .i64 (x : Int) 3758096384 = ((x &&& 3758096384 : Nat) : Int) := i64_and_nat x 3758096384 hx32 (by omega)
  have eB : bits .or .i64 (x : Int) 1073741824 = ((x ||| 1073741824 : Nat) : Int) := i64_or_nat x 1073741824 hx32 (by omega)
  have eC : bits .or .i64 (x : Int) 2147483648 = ((x ||| 2147483648 : Nat) : Int) := i64_or_nat x 2147483648 hx32 (by omega)
  have eD : bits .or .i64 (x : Int) 536870912 = ((x ||| 536870912 : Nat) : Int) := i64_or_nat x 536870912 hx32 (by omega)
  have eE : bits .andNot .i64 (x : Int) 3758096384 = ((x &&& (2 ^ 64 - 1 - 3758096384) : Nat) : Int) := i64_andNot_nat x 3758096384 hx32 (by omega)
  have lA : x &&& 3758096384 < 2 ^ 32 := Nat.and_lt_two_pow _ (by omega)
  have lB : x ||| 1073741824 < 2 ^ 32 := Nat.or_lt_two_pow (by omega) (by omega)
  have lC : x ||| 2147483648 < 2 ^ 32 := Nat.or_lt_two_pow (by omega) (by omega)
  have lD : x ||| 536870912 < 2 ^ 32 := Nat.or_lt_two_pow (by omega) (by omega)
  have lE : x &&& (2 ^ 64 - 1 - 3758096384) ≤ x := Nat.and_le_left
  have b30 : Nat.testBit 3758096384 30 = true := by decide
  have b31 : Nat.testBit 3758096384 31 = true := by decide
  have b29 : Nat.testBit 3758096384 29 = true := by decide
  have n30 : Nat.testBit (2 ^ 64 - 1 - 3758096384) 30 = false := by decide
  have n31 : Nat.testBit (2 ^ 64 - 1 - 3758096384) 31 = false := by decide
  have n29 : Nat.testBit (2 ^ 64 - 1 - 3758096384) 29 = false := by decide
  obtain ⟨r, hr⟩ : ∃ r, x.testBit 30 = r := ⟨_, rfl⟩
  obtain ⟨u, hu⟩ : ∃ u, x.testBit 31 = u := ⟨_, rfl⟩
  obtain ⟨v, hv⟩ : ∃ v, x.testBit 29 = v := ⟨_, rfl⟩
  have HP := Lib.hid (prot_nat x hx32 r u v hr hu hv)
  have HA := Lib.hid (prot_nat (x &&& 3758096384) (by omega) r u v (by rw [Nat.testBit_and, b30, hr, Bool.and_true]) (by rw [Nat.testBit_and, b31, hu, Bool.and_true]) (by rw [Nat.testBit_and, b29, hv, Bool.and_true]))
  have HBB := Lib.hid (prot_nat (x ||| 1073741824) (by omega) true u v (by rw [Nat.testBit_or, show Nat.testBit 1073741824 30 = true by decide, Bool.or_true]) (by rw [Nat.testBit_or, show Nat.testBit 1073741824 31 = false by decide, hu, Bool.or_false]) (by rw [Nat.testBit_or, show Nat.testBit 1073741824 29 = false by decide, hv, Bool.or_false]))
  have HC := Lib.hid (prot_nat (x ||| 2147483648) (by omega) r true v (by rw [Nat.testBit_or, show Nat.testBit 2147483648 30 = false by decide, hr, Bool.or_false]) (by rw [Nat.testBit_or, show Nat.testBit 2147483648 31 = true by decide, Bool.or_true]) (by rw [Nat.testBit_or, show Nat.testBit 2147483648 29 = false by decide, hv, Bool.or_false]))
  have HD := Lib.hid (prot_nat (x ||| 536870912) (by omega) r u true (by rw [Nat.testBit_or, show Nat.testBit 536870912 30 = false by decide, hr, Bool.or_false]) (by rw [Nat.testBit_or, show Nat.testBit 536870912 31 = false by decide, hu, Bool.or_false]) (by rw [Nat.testBit_or, show Nat.testBit 536870912 29 = true by decide, Bool.or_true]))
  have HE := Lib.hid (prot_nat (x &&& (2 ^ 64 - 1 - 3758096384)) (by omega) false false false (by rw [Nat.testBit_and, n30, Bool.and_false]) (by rw [Nat.testBit_and, n31, Bool.and_false]) (by rw [Nat.testBit_and, n29, Bool.and_false]))
  have HW := Lib.hid awake6_any
  have o1 : ∀ a : Int, a = 0 ∨ a = 1 ∨ a = 2 ∨ a = 3 ∨ a = 4 ∨ a = 5 ∨ a = 6 ∨ a = 7 → True := fun _ _ => trivial
  clear hr hu hv b30 b31 b29 n30 n31 n29 o1 lA lB lC lD lE hx32
  generalize x &&& 3758096384 = yA at *
  generalize x ||| 1073741824 = yB at *
  generalize x ||| 2147483648 = yC at *
  generalize x ||| 536870912 = yD at *
  generalize x &&& (2 ^ 64 - 1 - 3758096384) = yE at *
  have p1 : bits BinOp.or IntKind.i64 (protV r u v) 1 = protV true u v := by cases r <;> cases u <;> cases v <;> decide
  have p2 : bits BinOp.or IntKind.i64 (protV r u v) 2 = protV r true v := by cases r <;> cases u <;> cases v <;> decide
  have p4 : bits BinOp.or IntKind.i64 (protV r u v) 4 = protV r u true := by cases r <;> cases u <;> cases v <;> decide
  have q0 : (0 : Int) ≤ protV r u v := by cases r <;> cases u <;> cases v <;> decide
  have q7 : protV r u v ≤ 7 := by cases r <;> cases u <;> cases v <;> decide
  have q00 : protV false false false = 0 := rfl
  rw [q00] at HE
  generalize protV r u v = P at *
  generalize protV true u v = PB at *
  generalize protV r true v = PC at *
  generalize protV r u true = PD at *
  go_enter Try.func9, Try.ntmps9
  go_wp2_with (first | (go_fit (HP.out _); rintro e w' ⟨rfl, rfl⟩) | (go_fit (HA.out _); rintro e w' ⟨rfl, rfl⟩) | (go_fit (HBB.out _); rintro e w' ⟨rfl, rfl⟩) | (go_fit (HC.out _); rintro e w' ⟨rfl, rfl⟩) | (go_fit (HD.out _); rintro e w' ⟨rfl, rfl⟩) | (go_fit (HE.out _); rintro e w' ⟨rfl, rfl⟩) | (go_fit (HW.out _); rintro e w' ⟨rfl, hb⟩))
  go_ret
  exact ⟨rfl, hb⟩
end Go.Proofs.Ytlgdaljbajebhaa
