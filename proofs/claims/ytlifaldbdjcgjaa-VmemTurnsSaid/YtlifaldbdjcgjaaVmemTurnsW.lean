/- law 3: VmemTurns, whole. -/
import Derived.Test.YtlifaldbdjcgjaaVmemTurns
import Derived.Test.YtlifaldbdjcgjaaVspansS
namespace Go.Proofs.Ytlifaldbdjcgjaa
open Go.ChangeShapes Go.WideShapes Go.ChangeAt Go.RowKit
set_option linter.unusedVariables false

set_option maxRecDepth 100000 in
set_option maxHeartbeats 2000000 in
theorem turns_small (w : World) (at' n' : Int) (A : Option Addr) (l cap : Nat) (hl2 : 4000 < l) :
    Calls Try.prog 10 #[.int .u64 at', .int .i64 n', .slice A l cap] w fun e w' => e = .returned (.bool true) ∧ Below w.heap.size w w' := by
  have HNM := Lib.hid (newMem_any (· < w.heap.size) w 16 (fun _ h => h) (by omega) (by omega))
  have e2 : decide ((4000 : Int) < (l : Int)) = true := decide_eq_true (by omega)
  clear hl2
  go_enter Try.func10, Try.ntmps10
  go_wp2_with fail
  refine HNM.out.mono ?_
  rintro e w3 ⟨M, rfl, h3, k3⟩
  have HB3 := Lib.hid (k3.below (fun k hk => hk))
  clear h3 k3 HNM
  go_wp2_with (go_at_call 24; refine (awake3_any _).mono ?_; rintro e w17 ⟨rfl, hb17⟩; have HB17 := Lib.hid hb17; clear hb17)
  go_ret
  exact ⟨rfl, HB3.out.trans (HB17.out.mono HB3.out.size)⟩

theorem turns_walk (w : World) (at' n' : Int) (A : Option Addr) (l cap : Nat) (h : Nat → Int) (hl : l ≤ cap) (hc : cap ≤ 9223372036854775807) (hs : SlB w A l h) :
    Calls Try.prog 10 #[.int .u64 at', .int .i64 n', .slice A l cap] w fun e w' => e = .returned (.bool true) ∧ Below w.heap.size w w' := by
  by_cases c : l ≤ 4000
  · refine turns_core w at' n' A l cap h hl hc ?_ c
    rcases hs with e | ⟨g, off, hA, hg, hr⟩
    · exact .inl e
    · exact .inr ⟨g, off, hA, hg, hr⟩
  · exact turns_small w at' n' A l cap (by omega)
end Go.Proofs.Ytlifaldbdjcgjaa
