/- law 3: VmemRights where there are no bytes, or too many. -/
import Derived.Test.YtlifaldbdjcgjaaVright
import Derived.RegionTactic
namespace Go.Proofs.Ytlifaldbdjcgjaa
open Go.ChangeShapes Go.WideShapes Go.ChangeAt Go.RowKit
open Go.Maps (Keyed)
set_option linter.unusedVariables false

set_option maxRecDepth 100000 in
set_option maxHeartbeats 4000000 in
theorem rights_small (w : World) (a' b' at' : Int) (A : Option Addr) (n cap : Nat) (h0 : n = 0 ∨ 200 < n) :
    Calls Try.prog 8 #[.int .i64 a', .int .i64 b', .int .i64 at', .slice A n cap] w fun e w' => e = .returned (.bool true) ∧ Below w.heap.size w w' := by
  obtain ⟨a, ha⟩ : ∃ a, a' % 8 = a := ⟨_, rfl⟩
  obtain ⟨b, hb⟩ : ∃ b, b' % 8 = b := ⟨_, rfl⟩
  have hka := (and_7 a').trans ha
  have hkb := (and_7 b').trans hb
  clear ha hb
  go_enter Try.func8, Try.ntmps8
  go_upto_region 1 with fail
  go_region
  have HB2 := Lib.hid ((((Below.refl w.heap.size w).alloc (Nat.le_refl _) (.cells #[.int .i64 a] 3)).alloc (by simp) (.cells #[.int .i64 b] 3)).drew)
  generalize ((w.alloc (.cells #[.int .i64 a] 3)).alloc (.cells #[.int .i64 b] 3)).drew = w2 at *
  have HNM := Lib.hid (newMem_any (· < w2.heap.size) w2 2 (fun _ h => h) (by omega) (by omega))
  clear hka hkb
  go_wp2_with fail
  refine HNM.out.mono ?_
  rintro e w3 ⟨M, rfl, h3, k3⟩
  have HB3 := Lib.hid (HB2.out.trans ((k3.below (fun k hk => hk)).mono HB2.out.size))
  clear h3 k3 HNM HB2
  rcases h0 with rfl | h0
  · go_wp2_with (go_at_call 24; refine (awake3_any _).mono ?_; rintro e w17 ⟨rfl, hb17⟩; have HB17 := Lib.hid hb17; clear hb17)
    go_ret
    exact ⟨rfl, HB3.out.trans (HB17.out.mono HB3.out.size)⟩
  · have e1 : ((n : Int) == 0) = false := by rw [beq_eq_false_iff_ne]; omega
    have e2 : decide ((200 : Int) < (n : Int)) = true := decide_eq_true (by omega)
    clear h0
    go_wp2_with (go_at_call 24; refine (awake3_any _).mono ?_; rintro e w17 ⟨rfl, hb17⟩; have HB17 := Lib.hid hb17; clear hb17)
    go_ret
    exact ⟨rfl, HB3.out.trans (HB17.out.mono HB3.out.size)⟩
end Go.Proofs.Ytlifaldbdjcgjaa
