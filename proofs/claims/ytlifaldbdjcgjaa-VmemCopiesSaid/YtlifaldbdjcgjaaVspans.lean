/- VmemSpans: the law. -/
import Derived.Test.YtlifaldbdjcgjaaVspansB
import Derived.Test.YtlifaldbdjcgjaaVspansC
import Derived.Test.YtlifaldbdjcgjaaVspansD
import Derived.Test.YtlifaldbdjcgjaaVspansE
import Derived.Test.YtlifaldbdjcgjaaVspansF
import Derived.Test.YtlifaldbdjcgjaaVspansG
namespace Go.Proofs.Ytlifaldbdjcgjaa
open Go.ChangeShapes Go.WideShapes Go.ChangeAt Go.RowKit
open Go.Maps (Keyed)
set_option linter.unusedVariables false
set_option linter.unusedSimpArgs false
set_option maxRecDepth 100000 in
theorem spans_core (w : World) (at' : Int) (A : Option Addr) (len cap : Nat) (h : Nat → Int) (gap : Bool) (hl : len ≤ cap) (hc : cap ≤ 9223372036854775807) (hs : SlB w A len h) :
    Calls Try.prog 9 #[.int .i64 at', .slice A len cap, .bool gap] w fun e w' => e = .returned (.bool true) ∧ Below w.heap.size w w' := by
  have hR : ∀ k, k < w.heap.size → k < w.heap.size := fun _ h => h
  by_cases h9 : 9000 < len
  · have HS := Lib.hid hs
    clear hs
    go_enter Try.func9, Try.ntmps9
    go_wp2_with fail
    refine (newMem_any (· < w.heap.size) w 3 hR (by omega) (by omega)).mono ?_
    rintro e w1 ⟨M, rfl, h1, k1⟩
    have K1 := Lib.hid k1
    clear h1 k1
    go_wp2_with fail
    refine (awake3_any w1).mono ?_
    rintro e w2 ⟨rfl, hb⟩
    have hb2 := (K1.out.below (fun k hk => hk)).trans (hb.mono K1.out.size)
    clear hb
    go_wp2
    go_ret
    exact ⟨rfl, by go_grown⟩
  · by_cases hl0 : len = 0
    · subst hl0
      cases gap with
      | false => exact spans_B w at' A cap h hc hs
      | true => exact spans_C w at' A cap h hc hs
    · cases gap with
      | false => exact spans_D w at' A len cap h hl hc hs h9 hl0
      | true =>
        obtain ⟨K, hK⟩ : ∃ K : Nat, at' % 65536 = K := ⟨(at' % 65536).toNat, by omega⟩
        obtain ⟨T, hT⟩ : ∃ T : Nat, K % (12289 - len) = T := ⟨_, rfl⟩
        have hu : ∀ K' T' : Nat, at' % 65536 = K' → K' % (12289 - len) = T' → T' = T := fun K' T' h1 h2 => by
          have : K' = K := by omega
          subst this
          exact h2.symm.trans hT
        by_cases c1 : T + len ≤ 4096
        · exact spans_E w at' A len cap h hl hc hs h9 hl0 (fun K' T' h1 h2 => by rw [hu K' T' h1 h2]; exact c1)
        · by_cases c2 : 8192 ≤ T
          · exact spans_F w at' A len cap h hl hc hs h9 hl0 (fun K' T' h1 h2 => by rw [hu K' T' h1 h2]; exact ⟨by omega, c2⟩)
          · exact spans_G w at' A len cap h hl hc hs h9 hl0 (fun K' T' h1 h2 => by rw [hu K' T' h1 h2]; exact ⟨by omega, by omega⟩)
end Go.Proofs.Ytlifaldbdjcgjaa
