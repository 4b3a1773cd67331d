/- fold: a way's text. -/
import Derived.Test.YtciglnfdpcgffaaDoorFoldOrd2
import Derived.Deep.RegionHeld3
import Derived.Deep.RegionWith
import Derived.Lib.AppendIntMem
namespace Go.Proofs.YtciglnfdpcgffaaDoor
open Go.ChangeShapes Go.WideShapes Go.ChangeAt Go.RowKit
set_option linter.unusedVariables false

theorem itoa_small (n : Nat) (w : World) (h : n < 100) :
    Calls Tryd.prog 13 #[.int .i64 n] w fun e w' => e = .returned (.string (decT n)) ∧ Below w.heap.size w w' :=
  (Tryd.strconv_Itoa_small n h w).mono fun _ _ ⟨a, b⟩ => ⟨a, by rw [b]; exact Below.refl _ _⟩
theorem itoa_tab (n : Nat) (w : World) (h : n < 1000000) (htab : Lib.TabIs Tryd.prog w "internal/strconv.uint64pow10" .u64 Lib.pow10Tab) :
    Calls Tryd.prog 13 #[.int .i64 n] w fun e w' => e = .returned (.string (decT n)) ∧ Below w.heap.size w w' :=
  (Tryd.strconv_Itoa n (by omega) (by omega) w htab).mono fun _ _ ⟨a, k, os, b⟩ => ⟨by rw [a, Lib.itoa_nonneg]; rfl, by rw [b]; exact Lib.below_grow _ _ (Nat.le_refl _) _ _⟩

set_option maxHeartbeats 4000000 in
theorem text_name (D S : ByteArray) (o : Int) (w : World) (h1 : D.size ≤ 1000) (h2 : S.size ≤ 1000) :
    Calls Tryd.prog 7 #[.string D, .agg #[.string S, .int .i64 o, .bool false]] w fun e w' => e = .returned (.string ((D ++ ⟨#[46]⟩) ++ S)) ∧ Below w.heap.size w w' := by
  have ha1 := fun (W : World) => run_string_add_sum (P := Tryd.prog) W D ⟨#[46]⟩ (by have : (⟨#[46]⟩ : ByteArray).size = 1 := rfl; omega)
  have ha2 := fun (W : World) => run_string_add_sum (P := Tryd.prog) W (D ++ ⟨#[46]⟩) S (by rw [ByteArray.size_append]; have : (⟨#[46]⟩ : ByteArray).size = 1 := rfl; omega)
  go_enter Tryd.func7, Tryd.ntmps7
  go_wp2
  go_ret
  exact ⟨rfl, by go_grown⟩

set_option maxHeartbeats 4000000 in
theorem text_ord (D S : ByteArray) (n : Nat) (w : World) (h1 : D.size ≤ 1000) (hn : n < 1000000)
    (hi : ∀ W, Below w.heap.size w W → Calls Tryd.prog 13 #[.int .i64 n] W fun e w' => e = .returned (.string (decT n)) ∧ Below W.heap.size W w') :
    Calls Tryd.prog 7 #[.string D, .agg #[.string S, .int .i64 n, .bool true]] w fun e w' => e = .returned (.string ((D ++ ⟨#[46, 35]⟩) ++ decT n)) ∧ Below w.heap.size w w' := by
  have hz := decT_le6 hn
  clear hn
  have ha1 := fun (W : World) => run_string_add_sum (P := Tryd.prog) W D ⟨#[46, 35]⟩ (by have : (⟨#[46, 35]⟩ : ByteArray).size = 2 := rfl; omega)
  have ha2 := fun (W : World) => run_string_add_sum (P := Tryd.prog) W (D ++ ⟨#[46, 35]⟩) (decT n) (by rw [ByteArray.size_append]; have : (⟨#[46, 35]⟩ : ByteArray).size = 2 := rfl; omega)
  have HI := Lib.hid hi
  clear hi
  generalize decT n = T at *
  go_enter Tryd.func7, Tryd.ntmps7
  go_wp2_with (go_at_call 13; refine (HI.out _ (by go_grown)).mono ?_; rintro e w3 ⟨rfl, hb3⟩)
  go_ret
  exact ⟨rfl, ((Below.refl w.heap.size w).alloc (Nat.le_refl _) _).trans (hb3.mono (by simp))⟩
end Go.Proofs.YtciglnfdpcgffaaDoor
