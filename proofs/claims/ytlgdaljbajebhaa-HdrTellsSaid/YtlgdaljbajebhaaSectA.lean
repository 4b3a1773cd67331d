/- package sect: Prot, behind, Of. -/
import Derived.Test.YtlgdaljbajebhaaHdrNumbers
namespace Go.Proofs.Ytlgdaljbajebhaa
open Go.ChangeShapes Go.WideShapes Go.ChangeAt Go.RowKit
set_option linter.unusedVariables false

def protV (a b c : Bool) : Int := (if a then 1 else 0) + (if b then 2 else 0) + (if c then 4 else 0)

theorem prot_any (c : Int) (r w' x : Bool) (w : World) (h0 : (bits .and .i64 c 1073741824 != 0) = r) (h1 : (bits .and .i64 c 2147483648 != 0) = w') (h2 : (bits .and .i64 c 536870912 != 0) = x) :
    Calls Try.prog 19 #[.int .i64 c] w fun e u => e = .returned (.int .i64 (protV r w' x)) ∧ w = u := by
  have o1 : bits BinOp.or IntKind.i64 0 1 = 1 := by decide
  have o2 : bits BinOp.or IntKind.i64 0 2 = 2 := by decide
  have o3 : bits BinOp.or IntKind.i64 1 2 = 3 := by decide
  have o4 : bits BinOp.or IntKind.i64 0 4 = 4 := by decide
  have o5 : bits BinOp.or IntKind.i64 1 4 = 5 := by decide
  have o6 : bits BinOp.or IntKind.i64 2 4 = 6 := by decide
  have o7 : bits BinOp.or IntKind.i64 3 4 = 7 := by decide
  cases r <;> cases w' <;> cases x <;>
    (go_enter Try.func19, Try.ntmps19
     go_wp2_with fail
     go_ret
     exact ⟨rfl, rfl⟩)

/-- How far a place is behind a section's beginning, if it has it. -/
def behindS (s : SectN) (r : Int) : Option Int := if r < s.rva then none else if roundS s.vsize 4096 ≤ r - s.rva then none else some (r - s.rva)

theorem behind_any (s : SectN) (r : Int) (w : World) (hb : SectBd s) (r0 : -9223372036854775808 ≤ r) (r1 : r ≤ 9223372036854775807) :
    Calls Try.prog 39 #[.agg s.arr, .int .i64 r] w fun e u => e = .returned (.tuple #[.int .i64 ((behindS s r).getD 0), .bool (behindS s r).isSome]) ∧ Below w.heap.size w u := by
  obtain ⟨nm, v, rva, raw, spot, ch⟩ := s
  obtain ⟨v0, v1, p0, p1, _, _, _, _, _, _⟩ := hb
  simp only at v0 v1 p0 p1
  have hrb := roundS_bd4 v v1
  have HR := Lib.hid (fun W => round_any v 4096 W (by omega) (by omega) (by omega) (by omega))
  unfold behindS SectN.arr
  simp only
  generalize roundS v 4096 = R at *
  have HB := Lib.hid ((Below.refl w.heap.size w).alloc (Nat.le_refl _) (.cells #[.string nm, .int .i64 v, .int .i64 rva, .int .i64 raw, .int .i64 spot, .int .i64 ch] 37))
  by_cases c0 : r < rva
  · rw [if_pos c0]
    go_enter Try.func39, Try.ntmps39
    go_wp2_with fail
    go_ret2
    exact ⟨rfl, HB.out⟩
  · rw [if_neg c0]
    have c0' : rva ≤ r := by omega
    have u1 : IntKind.u64.wrap r = r := by rw [IntKind.wrap_u64]; omega
    have u2 : IntKind.u64.wrap rva = rva := by rw [IntKind.wrap_u64]; omega
    have u3 : IntKind.u64.wrap (r - rva) = r - rva := by rw [IntKind.wrap_u64]; omega
    have u4 : IntKind.u64.wrap R = R := by rw [IntKind.wrap_u64]; omega
    have u5 : IntKind.i64.wrap (r - rva) = r - rva := by rw [IntKind.wrap_i64]; omega
    by_cases c1 : R ≤ r - rva
    · rw [if_pos c1]
      go_enter Try.func39, Try.ntmps39
      go_wp2_with (go_fit (HR.out _); rintro e u ⟨rfl, rfl⟩)
      go_ret2
      exact ⟨rfl, HB.out⟩
    · rw [if_neg c1]
      have c1' : r - rva < R := by omega
      go_enter Try.func39, Try.ntmps39
      go_wp2_with (go_fit (HR.out _); rintro e u ⟨rfl, rfl⟩)
      go_ret2
      exact ⟨rfl, HB.out⟩
end Go.Proofs.Ytlgdaljbajebhaa
