import Derived.Test.YtplgdpjbkdagfaaGreatZPeD
import Derived.Test.YtplgdpjbkdagfaaGreatZAwake1
import Derived.BigQuiet
namespace Go.Proofs.YtplgdpjbkdagfaaGreat
set_option maxRecDepth 100000
open Go.ChangeShapes Go.WideShapes Go.ChangeAt Go.RowKit
set_option linter.unusedVariables false
set_option linter.unusedSimpArgs false
theorem place_yes (A : Option Addr) (n cap : Nat) (v k : Int) (w : World) (hn : n ≤ 140737488355328) (v0 : 0 ≤ v) (k0 : 0 ≤ k) (k1 : k ≤ 1000) (h : v + k ≤ n) :
    Calls Tryz.prog 116 #[.slice A n cap, .int .u64 v, .int .i64 k] w fun e w' => e = .returned (.tuple #[.int .i64 v, .bool true]) ∧ w = w' := by
  have HIN := Lib.hid (fun W : World => rowIn_any A n cap v k true W (by omega) (by omega) (by omega) ⟨fun _ => ⟨v0, k0, by omega⟩, fun _ => rfl⟩)
  have h1 : ¬ (n : Int) < v := by omega
  have w1 : IntKind.u64.wrap (n : Int) = n := by rw [IntKind.wrap_u64]; omega
  have w2 : IntKind.i64.wrap v = v := by rw [IntKind.wrap_i64]; omega
  go_enter Tryz.func116, Tryz.ntmps116
  go_wp2_with (go_fit (HIN.out _); rintro e u ⟨rfl, rfl⟩)
  go_ret2
  exact ⟨rfl, rfl⟩
theorem place_no (A : Option Addr) (n cap : Nat) (v k : Int) (w : World) (hn : n ≤ 140737488355328) (v0 : 0 ≤ v) (v1 : v ≤ 18446744073709551615) (k0 : 0 ≤ k) (k1 : k ≤ 1000) (h : (n : Int) < v + k) :
    Calls Tryz.prog 116 #[.slice A n cap, .int .u64 v, .int .i64 k] w fun e w' => e = .returned (.tuple #[.int .i64 0, .bool false]) ∧ w = w' := by
  have w1 : IntKind.u64.wrap (n : Int) = n := by rw [IntKind.wrap_u64]; omega
  by_cases c : (n : Int) < v
  · go_enter Tryz.func116, Tryz.ntmps116
    go_wp2
    go_ret2
    exact ⟨rfl, rfl⟩
  · have HIN := Lib.hid (fun W : World => rowIn_any A n cap v k false W (by omega) (by omega) (by omega) ⟨(fun h => by cases h), fun h => by omega⟩)
    have w2 : IntKind.i64.wrap v = v := by rw [IntKind.wrap_i64]; omega
    go_enter Tryz.func116, Tryz.ntmps116
    go_wp2_with (go_fit (HIN.out _); rintro e u ⟨rfl, rfl⟩)
    go_ret2
    exact ⟨rfl, rfl⟩
def lenOf : Value → Nat
  | .slice _ k _ => k
  | _ => 0
def intC (x : Int) : List Value := [.int .i64 x]
theorem intC_len (x : Int) : (intC x).length = 1 := rfl
theorem intC_one (x : Int) : ∀ u ∈ intC x, u.oneCell' = true := by
  intro u hu
  simp [intC] at hu
  subst hu; rfl
theorem infoInt : (Tryz.prog.info? 3).map (fun i => (i.zero, i.size, i.bytes)) = some (some (.int .i64 0), 1, 8) := by kernel_rfl
end Go.Proofs.YtplgdpjbkdagfaaGreat
