/- The document's Put at texts of bytes, as lists. -/
import Derived.Test.YtbjabncefhgefaaOwnD
import Derived.Test.YtbjabncefhgefaaRefPut
namespace Go.Proofs.Ytbjabncefhgefaa
open Go.ChangeShapes Go.WideShapes Go.ChangeAt Go.RowKit
set_option linter.unusedVariables false
set_option linter.unusedSimpArgs false

def bytN (v n : Nat) : List Nat := (List.range n).map fun i => v / 2 ^ (8 * i) % 256
theorem bytN_len (v n : Nat) : (bytN v n).length = n := by simp [bytN]
theorem bytN_get (v n j : Nat) (h : j < n) : lF (bytN v n) j = byteOf (v : Int) j := by
  have e : (bytN v n)[j]? = some (v / 2 ^ (8 * j) % 256) := by unfold bytN; rw [List.getElem?_map, List.getElem?_range h]; rfl
  unfold lF byteOf
  rw [List.getD, e, Option.getD_some, Int.natCast_emod, Int.natCast_ediv, Int.natCast_pow]
  rfl
/-- A number put into a row. -/
def putL (b : List Nat) (o n v : Nat) : List Nat := b.take o ++ (bytN v n ++ b.drop (o + n))
theorem putL_len {b : List Nat} {o n : Nat} (h : o + n ≤ b.length) (v : Nat) : (putL b o n v).length = b.length := by
  simp only [putL, List.length_append, List.length_take, List.length_drop, bytN_len]; omega
theorem putL_lb {b : List Nat} (hb : Lb b) (o n v : Nat) : Lb (putL b o n v) := by
  refine (hb.take o).append (Lb.append (fun x hx => ?_) (hb.drop _))
  obtain ⟨i, _, rfl⟩ := List.mem_map.mp hx
  omega
theorem putL_get {b : List Nat} {o n : Nat} (h : o + n ≤ b.length) (v i : Nat) (hi : i < b.length) : lF (putL b o n v) i = putI (lF b) o (v : Int) n i := by
  have hl : (b.take o).length = o := by rw [List.length_take]; omega
  unfold putL putI
  rw [lF_cat, hl]
  unfold catF
  by_cases h1 : i < o
  · rw [if_pos h1, if_neg (by omega), lF_take _ _ _ h1]
  · rw [if_neg h1, lF_cat, bytN_len]
    unfold catF
    by_cases h2 : i < o + n
    · rw [if_pos (by omega), if_pos (by omega)]
      exact bytN_get v n (i - o) (by omega)
    · rw [if_neg (by omega), if_neg (by omega), lF_drop]
      congr 1
      omega

theorem put_list (bs : List Nat) (o n v : Nat) (w : World) (hb : Lb bs) (hl : bs.length ≤ 1000000) (h1 : 1 ≤ n) (h8 : n ≤ 8) (h : o + n ≤ bs.length) (hv : v ≤ 18446744073709551615) :
    Calls Try.prog 15 #[.string (txt bs), .int .i64 o, .int .i64 n, .int .u64 v] w fun e w' => e = .returned (.tuple #[.string (txt (putL bs o n v)), .bool true]) ∧ Below w.heap.size w w' := by
  refine (rput_yes (txt bs) o n v w (by rw [txt_size]; exact hl) h1 h8 (by rw [txt_size]; exact h) (by omega) (by omega)).mono ?_
  rintro e w' ⟨rfl, hw⟩
  refine ⟨?_, hw⟩
  have : strF (putI (PlainAid.bt (txt bs)) o v n) 0 (txt bs).size = txt (putL bs o n v) := by
    unfold txt at *
    rw [strF_size, putL_len h]
    refine strF_congr fun i hi => ?_
    rw [Nat.zero_add, putL_get h v i hi]
    unfold putI
    split
    · rfl
    · exact txt_bt hb hi
  rw [this]
end Go.Proofs.Ytbjabncefhgefaa
