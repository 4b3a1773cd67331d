/- Decimal numerals: as texts, and back. -/
import Derived.Test.YtbjabncefhgefaaFold
import Derived.Test.YtbjabncefhgefaaFoldBounds
import Derived.Lib.ItoaNum
namespace Go.Proofs.Ytbjabncefhgefaa
open Go.ChangeShapes Go.WideShapes Go.ChangeAt Go.RowKit
set_option linter.unusedVariables false
set_option linter.unusedSimpArgs false

/-- The number that the first so many digits tell. -/
def numV (f : Nat → Int) : Nat → Int
  | 0 => 0
  | i + 1 => numV f i * 10 + (f i - 48)

theorem numV_congr {f g : Nat → Int} : ∀ (k : Nat), (∀ i, i < k → f i = g i) → numV f k = numV g k
  | 0, _ => rfl
  | k + 1, h => by unfold numV; rw [numV_congr k (fun i hi => h i (by omega)), h k (by omega)]

theorem numV_bd {f : Nat → Int} {k : Nat} (h : ∀ i, i < k → 48 ≤ f i ∧ f i ≤ 57) (hk : k ≤ 5) : 0 ≤ numV f k ∧ numV f k < 100000 := by
  have h' := fun i (hi : i < k) => h i hi
  have a0 := fun hi => h' 0 hi
  have a1 := fun hi => h' 1 hi
  have a2 := fun hi => h' 2 hi
  have a3 := fun hi => h' 3 hi
  have a4 := fun hi => h' 4 hi
  rcases (by omega : k = 0 ∨ k = 1 ∨ k = 2 ∨ k = 3 ∨ k = 4 ∨ k = 5) with rfl | rfl | rfl | rfl | rfl | rfl <;> simp only [numV] <;> omega

def decT (n : Nat) : ByteArray := ⟨(Lib.decDigits n).toArray⟩
def digT (k : Nat) : ByteArray := ⟨#[UInt8.ofNat (48 + k)]⟩

theorem digT_bt {k : Nat} (h : k < 10) : PlainAid.bt (digT k) 0 = 48 + k := by
  have : ∀ k : Fin 10, PlainAid.bt (digT k.val) 0 = 48 + k.val := by decide
  exact this ⟨k, h⟩
theorem digT_size (k : Nat) : (digT k).size = 1 := rfl
theorem digT_cut {k : Nat} (h : k < 10) : (⟨#[48, 49, 50, 51, 52, 53, 54, 55, 56, 57]⟩ : ByteArray).extract k (k + 1) = digT k := by
  have : ∀ k : Fin 10, (⟨#[48, 49, 50, 51, 52, 53, 54, 55, 56, 57]⟩ : ByteArray).extract k.val (k.val + 1) = digT k.val := by decide
  exact this ⟨k, h⟩

theorem decT_small {n : Nat} (h : n < 10) : decT n = digT n := by unfold decT digT; rw [Lib.decDigits_one h]
theorem decT_big {n : Nat} (h : ¬ n < 10) : decT n = decT (n / 10) ++ digT (n % 10) := by
  unfold decT digT
  conv => lhs; rw [Lib.decDigits, dif_neg h]
  apply ByteArray.ext
  rw [cat_data]
  simp

theorem decT_size (n : Nat) : (decT n).size = Lib.nDigits n := by
  show (Lib.decDigits n).toArray.size = _
  rw [List.size_toArray, Lib.decDigits_length]
theorem decT_pos (n : Nat) : 1 ≤ (decT n).size := by rw [decT_size]; exact Lib.nDigits_pos n

theorem decT_dig (n : Nat) : ∀ i, i < (decT n).size → 48 ≤ PlainAid.bt (decT n) i ∧ PlainAid.bt (decT n) i ≤ 57 := by
  induction n using Nat.strongRecOn with
  | _ n ih =>
    intro i hi
    by_cases h : n < 10
    · rw [decT_small h] at hi ⊢
      rw [digT_size] at hi
      obtain rfl : i = 0 := by omega
      rw [digT_bt h]; omega
    · rw [decT_big h] at hi ⊢
      rw [bt_cat]
      rw [ByteArray.size_append, digT_size] at hi
      by_cases c : i < (decT (n / 10)).size
      · rw [if_pos c]; exact ih (n / 10) (by omega) i c
      · rw [if_neg c, show i - (decT (n / 10)).size = 0 by omega, digT_bt (by omega)]; omega

theorem decT_num (n : Nat) : numV (PlainAid.bt (decT n)) (decT n).size = n := by
  induction n using Nat.strongRecOn with
  | _ n ih =>
    by_cases h : n < 10
    · rw [decT_small h, digT_size]
      show 0 * 10 + (PlainAid.bt (digT n) 0 - 48) = _
      rw [digT_bt h]; omega
    · rw [decT_big h, ByteArray.size_append, digT_size]
      show numV _ (decT (n / 10)).size * 10 + _ = _
      rw [numV_congr (g := PlainAid.bt (decT (n / 10))) _ (fun i hi => by rw [bt_cat, if_pos hi]), ih (n / 10) (by omega), bt_cat, if_neg (by omega), Nat.sub_self, digT_bt (by omega)]
      omega

theorem decT_lead {n : Nat} (h : 1 ≤ n) : PlainAid.bt (decT n) 0 ≠ 48 := by
  induction n using Nat.strongRecOn with
  | _ n ih =>
    by_cases c : n < 10
    · rw [decT_small c, digT_bt c]; omega
    · rw [decT_big c, bt_cat, if_pos (show 0 < (decT (n / 10)).size from decT_pos _)]
      exact ih (n / 10) (by omega) (by omega)

theorem decT_five {n : Nat} (h : n < 100000) : (decT n).size ≤ 5 := by
  rw [decT_size]
  rcases (by omega : n < 10 ∨ (10 ≤ n ∧ n < 100) ∨ (100 ≤ n ∧ n < 1000) ∨ (1000 ≤ n ∧ n < 10000) ∨ (10000 ≤ n ∧ n < 100000)) with h | ⟨a, b⟩ | ⟨a, b⟩ | ⟨a, b⟩ | ⟨a, b⟩
  · rw [Lib.nDigits_small h]; omega
  · rw [Lib.nDigits_unique 1 n (by omega) (by omega)]; omega
  · rw [Lib.nDigits_unique 2 n (by omega) (by omega)]; omega
  · rw [Lib.nDigits_unique 3 n (by omega) (by omega)]; omega
  · rw [Lib.nDigits_unique 4 n (by omega) (by omega)]; omega
theorem decT_six {n : Nat} (h : 100000 ≤ n) (h2 : n < 1000000) : (decT n).size = 6 := by
  rw [decT_size, Lib.nDigits_unique 5 n (by omega) (by omega)]

theorem decT_le6 {n : Nat} (h : n < 1000000) : (decT n).size ≤ 6 := by
  by_cases c : n < 100000
  · have := decT_five c; omega
  · rw [decT_six (by omega) h]; omega

/-- Digits: a number's numeral. -/
theorem digits_any (n : Nat) (w : World) (hn : n < 1000000) :
    Calls Try.prog 59 #[.int .i64 n] w fun e w' => e = .returned (.string (decT n)) ∧ Below w.heap.size w w' := by
  go_enter Try.func59, Try.ntmps59
  go_wp2_with fail
  go_loopw [0, 3] (fun v0 v3 wr => ∃ (m : Nat) (T : ByteArray), v0 = .int .i64 m ∧ v3 = .string T ∧ m ≤ n ∧ decT n = decT m ++ T ∧ T.size ≤ 6 ∧ Below w.heap.size w wr) (fun v0 _ _ => (intOf v0).toNat)
  case atStart => exact ⟨n, ByteArray.empty, rfl, rfl, Nat.le_refl _, by apply ByteArray.ext; simp [cat_data], by simp, Below.refl _ _⟩
  case round =>
    obtain ⟨m, T, rfl, rfl, hm, hT, hz, hb⟩ := hrel
    have HT := Lib.hid hT
    have HB := Lib.hid hb
    clear hT hb
    have hr : (m : Int).tmod 10 = ((m % 10 : Nat) : Int) := by rw [Int.tmod_eq_emod_of_nonneg (by omega)]; omega
    have hd : (m : Int).tdiv 10 = ((m / 10 : Nat) : Int) := by rw [Int.tdiv_eq_ediv_of_nonneg (by omega)]; omega
    have HN := Lib.hid (fun (c : ¬ m < 10) => decT_big c)
    have HS := Lib.hid (fun (c : m < 10) => decT_small c)
    have hdm : m / 10 ≤ m := by omega
    obtain ⟨k, hk⟩ : ∃ k, m % 10 = k := ⟨_, rfl⟩
    have hk9 : k < 10 := by omega
    have HKM := Lib.hid (fun (c : m < 10) => show m = k by omega)
    rw [hk] at hr HN
    have HC := Lib.hid (digT_cut hk9)
    have k0 : (0 : Int) ≤ (k : Int) := by omega
    have k1 : (k : Int) ≤ (k : Int) + 1 := by omega
    have k2 : (k : Int) + 1 ≤ 10 := by omega
    have k3 : IntKind.i64.wrap ((k : Int) + 1) = (k : Int) + 1 := IntWalk.i64_in _ ⟨by omega, by omega⟩
    have k4 : (k : Int).toNat = k := by omega
    have k5 : ((k : Int) + 1).toNat = k + 1 := by omega
    have hsz : (ByteArray.mk #[48, 49, 50, 51, 52, 53, 54, 55, 56, 57]).size = 10 := rfl
    clear hk
    have HW := Lib.hid hm
    have hm6 : (m : Int) < 1000000 := by omega
    clear hm
    by_cases h : 9 < (m : Int)
    · go_wp2_with fail
      go_roundw
      case rel =>
        have e := HN.out (by omega)
        refine ⟨m / 10, digT k ++ T, by go_num, by rw [HC.out], Nat.le_trans hdm HW.out, ?_, ?_, HB.out⟩
        · rw [HT.out, e, ByteArray.append_assoc]
        · have h1 : (decT n).size ≤ 6 := decT_le6 hn
          rw [HT.out, e, ByteArray.size_append, ByteArray.size_append] at h1
          rw [ByteArray.size_append]; omega
      case measure => simp [intOf]; omega
    · go_wp2_with fail
      go_ret
      refine ⟨?_, HB.out⟩
      have c : m < 10 := by omega
      show Ending.returned (.string (ByteArray.extract ⟨#[48, 49, 50, 51, 52, 53, 54, 55, 56, 57]⟩ k (k + 1) ++ T)) = _
      rw [HC.out, HT.out, HS.out c, HKM.out c]
end Go.Proofs.Ytbjabncefhgefaa
