/- law 7: as many functions may be as the bound says: what is reckoned. -/
import Derived.Test.YtbjabncefhgefaaExpK
namespace Go.Proofs.Ytbjabncefhgefaa
open Go.ChangeShapes Go.WideShapes Go.ChangeAt Go.RowKit
set_option linter.unusedVariables false

def imgE (n : Nat) : List Nat := putL (putL (List.replicate (104 + 4 * n) 0) 84 4 n) 92 4 104
theorem imgE_all : ((List.range 16).all fun d => decide (parseE (imgE (d + 250)) 64 40 = if d ≤ 6 then some (0, List.replicate (d + 250) (0, []), []) else none)) = true := by decide +kernel
theorem imgE_parse (d : Nat) (hd : d < 16) : parseE (imgE (d + 250)) 64 40 = if d + 250 ≤ 256 then some (0, List.replicate (d + 250) (0, []), []) else none := by
  have h := of_decide_eq_true (List.all_eq_true.mp imgE_all d (List.mem_range.mpr hd))
  rw [h]
  by_cases c : d ≤ 6
  · rw [if_pos c, if_pos (by omega)]
  · rw [if_neg c, if_neg (by omega)]
def fsA : List (List Nat) := [[102], [103]]
def fsB : List (List Nat) := [[102], [120, 46]]
def nsA : List (List Nat) := [[97], [98]]
def nsB : List (List Nat) := [[98], [97]]
def nsC : List (List Nat) := [[97], [97]]
def imgA0 : List Nat := atE 256 fsA nsA 1
def imgA1 : List Nat := atE 256 fsA nsB 1
def imgA2 : List Nat := atE 256 fsA nsC 1
def imgA3 : List Nat := putL imgA0 312 2 2
def imgA4 : List Nat := atE 256 fsB nsA 1
theorem lenA : (atB 256 fsA 2 1).length = 316 := by decide +kernel
theorem lenB : (atB 256 fsB 2 1).length = 319 := by decide +kernel
theorem lenI0 : imgA0.length = 320 := by decide +kernel
theorem lenI1 : imgA1.length = 320 := by decide +kernel
theorem lenI2 : imgA2.length = 320 := by decide +kernel
theorem lenI3 : imgA3.length = 320 := by decide +kernel
theorem lenI4 : imgA4.length = 323 := by decide +kernel
theorem bad1 : parseE imgA1 256 60 = none := by decide +kernel
theorem bad2 : parseE imgA2 256 60 = none := by decide +kernel
theorem bad3 : parseE imgA3 256 60 = none := by decide +kernel
theorem bad4 : parseE imgA4 256 63 = none := by decide +kernel
theorem txt_g : txt [103] = ⟨#[103]⟩ := by decide +kernel
theorem txt_b : txt [98] = ⟨#[98]⟩ := by decide +kernel
theorem txt_xp : txt [120, 46] = ⟨#[120, 46]⟩ := by decide +kernel

end Go.Proofs.Ytbjabncefhgefaa
