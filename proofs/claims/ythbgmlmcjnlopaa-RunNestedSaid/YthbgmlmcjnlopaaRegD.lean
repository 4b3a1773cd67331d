/- Regions that draw their order: what number k waits for itself. -/
import Derived.Test.YthbgmlmcjnlopaaRegK
namespace Go.Proofs.Ythbgmlmcjnlopaa
open Go
section
variable {P : Program} {md : Region.Mode} {ops : Array Oper} {Q : Exit → Act → World → Prop} {S R : World → Prop} {k : Nat}
/-- One whose value hangs on what k turns: number k waits for it. -/
theorem wpAnyK_direct {i : Nat} {oi : Oper} {v : Value} {fuel : Nat} {listed : Array Bool} {a : Act} {w : World} (hi : ops[i]? = some oi)
    (hs : Region.noSelect ops = true) (hf : Region.free md ops listed i = true) (hr : (Region.ready md ops listed).contains i = true)
    (hQ : ∀ c a w, Q (.panic c) (a.put oi.dst v) w → Q (.panic c) a w) (hik : i ≠ k) (hk : waits md ops k i = true) (hlk : listed.getD k true = false)
    (hy : YieldsIf P ops (fun W => S W ∧ R W) oi v a) (hS : S w) (hR : R w)
    (h : wpAnyK P md ops Q S R k fuel (listed.setIfInBounds i true) (a.put oi.dst v) w) : wpAnyK P md ops Q S R k (fuel + 1) listed a w := by
  refine wpAnyK_first (T := fun W => S W ∧ R W) (I := fun l => l.getD k true = false) hi (Region.noSelect_spec hs) hQ hik (fun l w hl hS hR => ⟨hS, hR hl⟩) (fun l j hl hri hrj hne => ?_) fuel listed a w hlk (Region.free_spec hi hf) (by simpa using hr) hy hS (fun _ => hR) h
  have hjk : j ≠ k := fun e => by
    subst e
    have h1 := waits_not hk hrj
    have h2 := not_listed (mem_ready.1 hri).1
    rw [h1] at h2; cases h2
  show (_ : Array Bool).getD k true = false
  rw [getD_set_ne true hjk]
  exact hl
end
end Go.Proofs.Ythbgmlmcjnlopaa
