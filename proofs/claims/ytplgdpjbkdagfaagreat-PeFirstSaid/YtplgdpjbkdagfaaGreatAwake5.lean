/- law 5: awake. -/
import Derived.Test.YtplgdpjbkdagfaaGreatMade0
import Derived.Test.YtplgdpjbkdagfaaGreatMadeH
import Derived.Test.YtplgdpjbkdagfaaGreatHdrN
namespace Go.Proofs.YtplgdpjbkdagfaaGreat
set_option maxRecDepth 100000
open Go.ChangeShapes Go.WideShapes Go.ChangeAt Go.RowKit
set_option linter.unusedVariables false
set_option linter.unusedSimpArgs false

theorem HeadR.ok {w : World} {N : Nat} {f : Nat → Int} {v : Value} (h : HeadR w N f v) {L : Nat → Trip} {n : Nat} (x : MadeP L n f) (hN : atS L n ≤ N) (h1 : 1 ≤ n) (h6 : n ≤ 6) :
    ∃ cs g, v = .tuple #[.agg cs, .int .i64 0] ∧ HeadV cs (readS f 64) (.slice (some ⟨g, 0, none⟩) n n) ∧ SlT SectN.cells 6 w (some ⟨g, 0, none⟩) (sectsS f 328 n) ∧ g < w.heap.size := by
  have ha := atS_bd L n
  have h0 := x.ok N hN h1 h6
  obtain ⟨cs, hv, h | ⟨_, g, h2, h3, h4⟩⟩ := h
  · exact (h.1 h0).elim
  · rw [h0] at hv
    rw [x.headP N (by omega), x.headK N (by omega)] at h2 h3
    exact ⟨cs, g, hv, h2, h3, h4⟩

end Go.Proofs.YtplgdpjbkdagfaaGreat
