/- slipwayref14.Encode: what it is made of. -/
import Derived.Test.YthbgmlmcjnlopaaMchS
import Derived.Test.YthbgmlmcjnlopaaMgC
namespace Go.Proofs.Ythbgmlmcjnlopaa
open Go.ChangeShapes Go.WideShapes Go.ChangeAt Go.RowKit
set_option linter.unusedVariables false
set_option linter.unusedSimpArgs false
set_option maxRecDepth 100000

/-- A text of bytes. -/
def txN (bs : List Nat) : ByteArray := strOfNums (nL bs)
theorem txN_size (bs : List Nat) : (txN bs).size = bs.length := by unfold txN; rw [strOfNums_size, nL_len]
theorem txN_cat (a b : List Nat) : txN a ++ txN b = txN (a ++ b) := by
  apply ByteArray.ext
  apply Array.toList_inj.1
  have h : (txN a ++ txN b).data = (txN a).data ++ (txN b).data := by simp
  rw [h, Array.toList_append]
  unfold txN
  rw [strOfNums_data, strOfNums_data, strOfNums_data, nL_app, List.map_append]
theorem txN_le (v : Nat) (n : Nat) : txN (leBytes v n) = strF (byteOf v) 0 n := by
  unfold txN strF nL leBytes
  rw [List.map_map]
  congr 1
  apply List.map_congr_left
  intro i _
  rw [Nat.zero_add]
  simp [byteOf]
theorem run_str1 {w : World} {g : Nat} {x : Int} (hg : g = w.heap.size) : (convert 24 9 (.slice (some ⟨g, 0, none⟩) 1 1)).run Try.prog (w.alloc (.cells #[.int .u8 x] 5)) = .ok (.string (strF (fun _ => x) 0 1)) (w.alloc (.cells #[.int .u8 x] 5)) := by
  have h := run_str (cap := 1) (row_lit (t := 5) (fr := (0, 0)) [x] hg)
  rw [strF_congr (f' := fun _ => x) (o' := 0) (fun i hi => by
    have hi' : i < 1 := hi
    obtain rfl : i = 0 := by omega
    rfl)] at h
  exact h
theorem strF_one (f : Nat → Int) (k : Nat) (x : Int) (h : f k = x) : strF f 0 k ++ strF (fun _ => x) 0 1 = strF f 0 (k + 1) := by
  rw [← strF_cat f 0 k 1]
  congr 1
  exact strF_congr fun i hi => by
    obtain rfl : i = 0 := by omega
    simp [h]
theorem txN_one (x : Int) (h : 0 ≤ x) : strF (fun _ => x) 0 1 = txN [x.toNat] := by
  unfold txN strF nL
  congr 1
  simp only [List.range_succ, List.range_zero, List.nil_append, List.map_cons, List.map_nil, Int.toNat_of_nonneg h]
theorem one_any (n : Int) (w : World) : Calls Try.prog 39 #[.int .i64 n] w fun e w' => e = .returned (.string (txN [(n % 256).toNat])) ∧ Below w.heap.size w w' := by
  have hs1 := fun (W : World) (x : Int) (g : Nat) (hg : g = W.heap.size) => run_str1 (w := W) (x := x) hg
  rw [← txN_one (n % 256) (by omega)]
  go_enter Try.func39, Try.ntmps39
  go_wp2
  go_ret
  exact ⟨rfl, by go_grown⟩
theorem high_any (n b : Int) (w : World) : Calls Try.prog 40 #[.int .i64 n, .int .i64 b] w fun e w' => e = .returned (.int .i64 (if 7 < n then b else 0)) ∧ w' = w := by
  by_cases h : 7 < n
  · rw [if_pos h]
    go_enter Try.func40, Try.ntmps40
    go_wp2
    go_ret
    exact ⟨rfl, rfl⟩
  · rw [if_neg h]
    go_enter Try.func40, Try.ntmps40
    go_wp2
    go_ret
    exact ⟨rfl, rfl⟩
theorem bytesR_any (v n : Nat) (w : World) (h1 : v < 18446744073709551616) (hn : n ≤ 8) :
    Calls Try.prog 41 #[.int .u64 v, .int .i64 n] w fun e w' => e = .returned (.string (txN (leBytes v n))) ∧ Below w.heap.size w w' := by
  have hs1 := fun (W : World) (x : Int) (g : Nat) (hg : g = W.heap.size) => run_str1 (w := W) (x := x) hg
  rw [txN_le]
  have h0 : (0 : Int) ≤ v := by omega
  have h2 : (v : Int) ≤ 18446744073709551615 := by omega
  generalize (v : Int) = V at *
  go_enter Try.func41, Try.ntmps41
  go_wp2
  go_loopw [5, 6] (fun s i wr => ∃ k : Nat, k ≤ n ∧ i = .int .i64 k ∧ s = .string (strF (byteOf V) 0 k) ∧ Below w.heap.size w wr) (fun _ i _ => n - (intOf i).toNat)
  case atStart => exact ⟨0, by omega, rfl, rfl, Below.refl _ _⟩
  case round =>
    obtain ⟨k, hk, rfl, rfl, hbel⟩ := hrel
    by_cases hlt : k < n
    · have hs2 : (strF (byteOf V) 0 k).size ≤ 8 := by rw [strF_size]; omega
      have hs3 : (strF (fun _ => V / 2 ^ (8 * k) % 256) 0 1).size ≤ 1 := by rw [strF_size]; omega
      go_wp2
      go_roundw
      case rel => exact ⟨k + 1, by omega, by go_num, congrArg Value.string (strF_one (byteOf V) k _ rfl), hbel.alloc hbel.size _⟩
      case measure => simp [intOf]; omega
    · obtain rfl : k = n := by omega
      go_wp2
      go_ret
      exact ⟨rfl, hbel⟩
end Go.Proofs.Ythbgmlmcjnlopaa
