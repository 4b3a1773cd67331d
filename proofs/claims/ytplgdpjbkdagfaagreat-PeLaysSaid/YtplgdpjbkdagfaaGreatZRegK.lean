import Derived.Test.YtplgdpjbkdagfaaGreatZMem
import Derived.Test.YtplgdpjbkdagfaaGreatZHdrD
import Derived.Laws.Tables
import Derived.Deep.RegionHeld3
import Derived.Laws.CopyOwn
import Derived.Test.YtplgdpjbkdagfaaGreatZPMap
import Derived.Deep.MidRow
namespace Go.Proofs.YtplgdpjbkdagfaaGreat
set_option maxRecDepth 100000
set_option linter.unusedVariables false
set_option linter.unusedSimpArgs false
section
variable {P : Program} {ops : Array Oper} {Q : Exit → Act → World → Prop} {md : Region.Mode} {S R : World → Prop} {k : Nat}
def wpAnyK (P : Program) (md : Region.Mode) (ops : Array Oper) (Q : Exit → Act → World → Prop) (S R : World → Prop) (k : Nat) : Nat → Array Bool → Act → World → Prop
  | 0, listed, a, w => Region.ready md ops listed = [] ∧ Q .normal a w
  | fuel + 1, listed, a, w =>
    (Region.ready md ops listed = [] → Q .normal a w) ∧
    ∀ i ∈ Region.ready md ops listed, wpOp P ops Q i (fun a' w' => (S w' ∧ ((listed.setIfInBounds i true).getD k true = false → R w')) ∧ wpAnyK P md ops Q S R k fuel (listed.setIfInBounds i true) a' w') a w
theorem wpAny_of_K : ∀ (fuel : Nat) (listed : Array Bool) (a : Act) (w : World), wpAnyK P md ops Q S R k fuel listed a w → wpAny P md ops Q fuel listed a w
  | 0, _, _, _, h => h
  | fuel + 1, _, _, _, h => ⟨h.1, fun i hi => wpOp_mono (fun a' w' h' => wpAny_of_K fuel _ a' w' h'.2) (h.2 i hi)⟩
theorem wpAnyK_first {T : World → Prop} {I : Array Bool → Prop} {i : Nat} {oi : Oper} {v : Value} (hi : ops[i]? = some oi) (hsel : ∀ (j : Nat) (o : Oper) cs b, ops[j]? = some o → o.op ≠ .select cs b)
    (hQ : ∀ c a w, Q (.panic c) (a.put oi.dst v) w → Q (.panic c) a w) (hik : i ≠ k)
    (hT : ∀ l w, I l → S w → (l.getD k true = false → R w) → T w)
    (hI : ∀ l j, I l → i ∈ Region.ready md ops l → j ∈ Region.ready md ops l → j ≠ i → I (l.setIfInBounds j true)) :
    ∀ (fuel : Nat) (listed : Array Bool) (a : Act) (w : World), I listed →
      (∀ j oj, ops[j]? = some oj → j ≠ i → listed.getD j true = false → (∀ e ∈ oj.after, Region.binds md e = true → e.on ≠ i) → oi.apart ops oj = true) →
      i ∈ Region.ready md ops listed → YieldsIf P ops T oi v a → S w → (listed.getD k true = false → R w) →
      wpAnyK P md ops Q S R k fuel (listed.setIfInBounds i true) (a.put oi.dst v) w → wpAnyK P md ops Q S R k (fuel + 1) listed a w := by
  have hset : ∀ l : Array Bool, (l.setIfInBounds i true).getD k true = l.getD k true := fun l => getD_set_ne true hik
  intro fuel
  induction fuel with
  | zero =>
    intro listed a w hIl _ hr hy hS hR H
    refine ⟨fun h => (by rw [h] at hr; cases hr), fun j hj => ?_⟩
    by_cases hji : j = i
    · subst hji; exact hy.wpOp hi (hT listed w hIl hS hR) ⟨⟨hS, by rw [hset]; exact hR⟩, H⟩
    · have := ready_mono hj hji
      rw [H.1] at this
      cases this
  | succ fuel ih =>
    intro listed a w hIl hfree hr hy hS hR H
    refine ⟨fun h => (by rw [h] at hr; cases hr), fun j hj => ?_⟩
    by_cases hji : j = i
    · subst hji; exact hy.wpOp hi (hT listed w hIl hS hR) ⟨⟨hS, by rw [hset]; exact hR⟩, H⟩
    · have h1 := H.2 j (ready_mono hj hji)
      obtain ⟨hjun, oj, hoj, hall⟩ := mem_ready.1 hj
      have hnot : ∀ e ∈ oj.after, Region.binds md e = true → e.on ≠ i := fun e he hb heq => by
        have h1 := hall e he hb
        have h0 := (mem_ready.1 hr).1
        rw [heq] at h1
        rcases Nat.lt_or_ge i listed.size with h' | h'
        · simp [h'] at h0 h1; rw [h0] at h1; cases h1
        · simp [Array.getElem?_eq_none h'] at h1
      have h2 := wpOp_putIf hoj (hfree j oj hoj hji hjun hnot) (fun cs b => hsel i oi cs b hi) (fun cs b => hsel j oj cs b hoj) hQ hy h1
      have hfree' : ∀ k ok, ops[k]? = some ok → k ≠ i → (listed.setIfInBounds j true).getD k true = false →
          (∀ e ∈ ok.after, Region.binds md e = true → e.on ≠ i) → oi.apart ops ok = true := fun k ok hk hki hun hno => by
        refine hfree k ok hk hki ?_ hno
        by_cases hjk : j = k
        · subst hjk; exact hjun
        · rw [getD_set_ne true hjk] at hun; exact hun
      refine wpOp_mono (fun a' w' h3 => ?_) h2
      have hsw : (listed.setIfInBounds i true).setIfInBounds j true = (listed.setIfInBounds j true).setIfInBounds i true := Array.setIfInBounds_comm _ _ (Ne.symm hji)
      have hR' : (listed.setIfInBounds j true).getD k true = false → R w' := fun e => h3.2.1.2 (by rw [hsw, hset]; exact e)
      refine ⟨⟨h3.2.1.1, hR'⟩, ih (listed.setIfInBounds j true) a' w' (hI _ _ hIl hr hj hji) hfree' (ready_mono hr (Ne.symm hji)) h3.1 h3.2.1.1 hR' ?_⟩
      rw [← hsw]
      exact h3.2.2
theorem wpAnyK_take {i : Nat} {oi : Oper} {v : Value} {fuel : Nat} {listed : Array Bool} {a : Act} {w : World} (hi : ops[i]? = some oi)
    (hs : Region.noSelect ops = true) (hf : Region.free md ops listed i = true) (hr : (Region.ready md ops listed).contains i = true)
    (hQ : ∀ c a w, Q (.panic c) (a.put oi.dst v) w → Q (.panic c) a w) (hik : i ≠ k) (hy : YieldsIf P ops S oi v a) (hS : S w) (hR : listed.getD k true = false → R w)
    (h : wpAnyK P md ops Q S R k fuel (listed.setIfInBounds i true) (a.put oi.dst v) w) : wpAnyK P md ops Q S R k (fuel + 1) listed a w :=
  wpAnyK_first (T := S) (I := fun _ => True) hi (Region.noSelect_spec hs) hQ hik (fun _ _ _ h _ => h) (fun _ _ _ _ _ _ => trivial) fuel listed a w trivial (Region.free_spec hi hf) (by simpa using hr) hy hS hR h
theorem wpAnyK_one {i : Nat} {o : Oper} {fuel : Nat} {listed : Array Bool} {a : Act} {w : World} (hr : Region.ready md ops listed = [i]) (ho : ops[i]? = some o)
    (h : ∀ K' : Act → World → Prop, Shut (∀ a w, S w → ((listed.setIfInBounds i true).getD k true = false → R w) → wpAnyK P md ops Q S R k fuel (listed.setIfInBounds i true) a w → K' a w) → if Region.wanted o (yielded ops a.tmps) = true then Oper.wp P o a w K' Q else K' (a.put o.dst undef) w) :
    wpAnyK P md ops Q S R k (fuel + 1) listed a w :=
  ⟨fun h0 => absurd (hr ▸ h0) (by simp), fun j hj => by
    rw [hr, List.mem_singleton] at hj
    subst hj
    exact wpOp_step ho (fun K' hK => h K' (fun a w hS hR hW => hK a w ⟨⟨hS, hR⟩, hW⟩))⟩
theorem wpAnyK_done {listed : Array Bool} {a : Act} {w : World} (hr : Region.ready md ops listed = []) (h : Q .normal a w) :
    ∀ fuel, wpAnyK P md ops Q S R k fuel listed a w
  | 0 => ⟨hr, h⟩
  | _ + 1 => ⟨fun _ => h, by rw [hr]; simp⟩
theorem wp_region_K (S R : World → Prop) (k : Nat) {id : Nat} {a : Act} {w : World} (hm : P.follows .mixedOrders = true)
    (h : wpAnyK P .any ops Q S R k ops.size (Array.replicate ops.size false) a w.drew) : (Code.region id ops true).wp P Q a w :=
  wp_region_any hm (wpAny_of_K _ _ _ _ h)
theorem yieldsIf_load_row {T : World → Prop} {o : Oper} {a : Act} (ty : TypeId) (x : Operand) (g : Nat) (t : TypeId) (cs : Array Value) (fr : Nat × Nat) (hgd : o.guard = none) (ho : o.op = .load ty x)
    (hx : a.eval x = .pointer (some ⟨g, 0, none⟩)) (hg : ∀ W, T W → W.heap[g]? = some (.cells cs t fr))
    (hu : (match P.underlying ty with | some (.struct _) => true | some (.array _ _) => true | _ => false) = true) (hi : (P.info? ty).map (·.size) = some cs.size) :
    YieldsIf P ops T o (.agg cs) a := by
  refine Or.inl ⟨by simp [Region.wanted, hgd], fun w hw => ?_⟩
  obtain ⟨d, hd, hd'⟩ : ∃ d, P.underlying ty = some d ∧ (match d with | .struct _ | .array _ _ => true | _ => false) = true := by
    cases h : P.underlying ty with
    | none => rw [h] at hu; cases hu
    | some d => exact ⟨d, rfl, by rw [h] at hu; cases d <;> first | rfl | exact hu⟩
  unfold execOp
  simp only [ho, hx, Instr.loadAt, Instr.sureAddr, Sem.run_bind, Sem.run_pure, Result.andThen_ok, run_loadVar_row w g t ty cs fr d (hg w hw) hd (by cases d <;> first | rfl | exact hd') hi]
theorem yieldsIf_load_row_g {T : World → Prop} {o : Oper} {a : Act} (ty : TypeId) (x : Operand) (g : Nat) (t : TypeId) (cs : Array Value) (fr : Nat × Nat) (hw : Region.wanted o (yielded ops a.tmps) = true) (ho : o.op = .load ty x)
    (hx : a.eval x = .pointer (some ⟨g, 0, none⟩)) (hg : ∀ W, T W → W.heap[g]? = some (.cells cs t fr))
    (hu : (match P.underlying ty with | some (.struct _) => true | some (.array _ _) => true | _ => false) = true) (hi : (P.info? ty).map (·.size) = some cs.size) :
    YieldsIf P ops T o (.agg cs) a := by
  refine Or.inl ⟨hw, fun w hw' => ?_⟩
  obtain ⟨d, hd, hd'⟩ : ∃ d, P.underlying ty = some d ∧ (match d with | .struct _ | .array _ _ => true | _ => false) = true := by
    cases h : P.underlying ty with
    | none => rw [h] at hu; cases hu
    | some d => exact ⟨d, rfl, by rw [h] at hu; cases d <;> first | rfl | exact hu⟩
  unfold execOp
  simp only [ho, hx, Instr.loadAt, Instr.sureAddr, Sem.run_bind, Sem.run_pure, Result.andThen_ok, run_loadVar_row w g t ty cs fr d (hg w hw') hd (by cases d <;> first | rfl | exact hd') hi]
/-! ### A quiet call taken first -/
theorem wpOp_inv {Y : Act → Prop} {j : Nat} {oj : Oper} {K : Act → World → Prop} {a : Act} {w : World} (hj : ops[j]? = some oj) (h1 : ∀ u, Y (a.put oj.dst u)) (h2 : ∀ d u, Y (({ a with defers := d :: a.defers } : Act).put oj.dst u))
    (h : wpOp P ops Q j K a w) : wpOp P ops Q j (fun a' w' => Y a' ∧ K a' w') a w := by
  unfold wpOp at *
  simp only [hj] at *
  by_cases hw : Region.wanted oj (yielded ops a.tmps) = true
  · rw [if_pos hw] at h ⊢
    rcases h with h | h
    · left
      unfold Oper.wp at *
      revert h
      generalize (execOp a.eval oj).run P w = r
      intro h
      cases r with
      | ok n w' =>
        cases n with
        | value u => exact ⟨h1 u, h⟩
        | skip => exact ⟨h1 _, h⟩
        | defer d => exact ⟨h2 d _, h⟩
        | enter f args =>
          refine Calls.mono h fun e w'' he => ?_
          cases e with
          | returned u => exact ⟨h1 u, he⟩
          | panicked c => exact he
          | outgrown => exact he
        | row row args => exact Rows.mono h fun u w'' he => ⟨h1 u, he⟩
        | _ => exact h
      | halt x w' => cases x <;> exact h
    · exact .inr h
  · rw [if_neg hw] at h ⊢
    exact ⟨h1 _, h⟩
def YieldsQ (P : Program) (ops : Array Oper) (S : World → Prop) (o : Oper) (v : Value) (a : Act) : Prop :=
  Region.wanted o (yielded ops a.tmps) = true ∧ ∀ w, S w → ∃ f args, (execOp a.eval o).run P w = .ok (.enter f args) w ∧ Calls P f args w fun e w' => e = .returned v ∧ w = w'
theorem YieldsQ.of_same {o : Oper} {v : Value} {a a' : Act} {S : World → Prop} (hy : YieldsQ P ops S o v a) (he : execOp a'.eval o = execOp a.eval o)
    (hw : Region.wanted o (yielded ops a'.tmps) = Region.wanted o (yielded ops a.tmps)) : YieldsQ P ops S o v a' := by
  unfold YieldsQ at *
  rw [he, hw]
  exact hy
theorem YieldsQ.wpOp {i : Nat} {o : Oper} {v : Value} {a : Act} (hi : ops[i]? = some o) (hy : YieldsQ P ops S o v a) {K : Act → World → Prop} {w : World} (hS : S w) (h : K (a.put o.dst v) w) : wpOp P ops Q i K a w := by
  unfold Go.wpOp
  obtain ⟨hw, hv⟩ := hy
  obtain ⟨f, args, hr, hc⟩ := hv w hS
  simp only [hi, hw, if_true]
  left
  unfold Oper.wp
  rw [hr]
  refine Calls.mono hc ?_
  rintro e w' ⟨rfl, rfl⟩
  exact h
theorem wpOp_putQ {j : Nat} {oi oj : Oper} {v : Value} (hj : ops[j]? = some oj) (hap : oi.apart ops oj = true)
    (hsi : ∀ cs b, oi.op ≠ .select cs b) (hsj : ∀ cs b, oj.op ≠ .select cs b) (hQ : ∀ c a w, Q (.panic c) (a.put oi.dst v) w → Q (.panic c) a w) {K : Act → World → Prop} {a : Act} {w : World}
    (hy : YieldsQ P ops S oi v a) (h : wpOp P ops Q j K (a.put oi.dst v) w) : wpOp P ops Q j (fun a' w' => YieldsQ P ops S oi v a' ∧ K (a'.put oi.dst v) w') a w := by
  obtain ⟨_, _, h3⟩ := Oper.apart_spec hap
  have hF : YieldsIf P ops (fun _ => False) oi v a := .inl ⟨hy.1, fun _ h => h.elim⟩
  have h' := wpOp_putIf hj hap hsi hsj hQ hF h
  have h'' := wpOp_inv (Y := YieldsQ P ops S oi v) hj
    (fun u => hy.of_same (execOp_put oi hsi a oj.dst u h3) (wanted_put oi a oj.dst u h3))
    (fun d u => (show YieldsQ P ops S oi v ({ a with defers := d :: a.defers } : Act) from hy.of_same rfl rfl).of_same (execOp_put oi hsi _ oj.dst u h3) (wanted_put oi _ oj.dst u h3)) h'
  exact wpOp_mono (fun a' w' q => ⟨q.1, q.2.2⟩) h''
theorem wpAnyK_firstQ {T : World → Prop} {I : Array Bool → Prop} {i : Nat} {oi : Oper} {v : Value} (hi : ops[i]? = some oi) (hsel : ∀ (j : Nat) (o : Oper) cs b, ops[j]? = some o → o.op ≠ .select cs b)
    (hQ : ∀ c a w, Q (.panic c) (a.put oi.dst v) w → Q (.panic c) a w) (hik : i ≠ k)
    (hT : ∀ l w, I l → S w → (l.getD k true = false → R w) → T w)
    (hI : ∀ l j, I l → i ∈ Region.ready md ops l → j ∈ Region.ready md ops l → j ≠ i → I (l.setIfInBounds j true)) :
    ∀ (fuel : Nat) (listed : Array Bool) (a : Act) (w : World), I listed →
      (∀ j oj, ops[j]? = some oj → j ≠ i → listed.getD j true = false → (∀ e ∈ oj.after, Region.binds md e = true → e.on ≠ i) → oi.apart ops oj = true) →
      i ∈ Region.ready md ops listed → YieldsQ P ops T oi v a → S w → (listed.getD k true = false → R w) →
      wpAnyK P md ops Q S R k fuel (listed.setIfInBounds i true) (a.put oi.dst v) w → wpAnyK P md ops Q S R k (fuel + 1) listed a w := by
  have hset : ∀ l : Array Bool, (l.setIfInBounds i true).getD k true = l.getD k true := fun l => getD_set_ne true hik
  intro fuel
  induction fuel with
  | zero =>
    intro listed a w hIl _ hr hy hS hR H
    refine ⟨fun h => (by rw [h] at hr; cases hr), fun j hj => ?_⟩
    by_cases hji : j = i
    · subst hji; exact hy.wpOp hi (hT listed w hIl hS hR) ⟨⟨hS, by rw [hset]; exact hR⟩, H⟩
    · have := ready_mono hj hji
      rw [H.1] at this
      cases this
  | succ fuel ih =>
    intro listed a w hIl hfree hr hy hS hR H
    refine ⟨fun h => (by rw [h] at hr; cases hr), fun j hj => ?_⟩
    by_cases hji : j = i
    · subst hji; exact hy.wpOp hi (hT listed w hIl hS hR) ⟨⟨hS, by rw [hset]; exact hR⟩, H⟩
    · have h1 := H.2 j (ready_mono hj hji)
      obtain ⟨hjun, oj, hoj, hall⟩ := mem_ready.1 hj
      have hnot : ∀ e ∈ oj.after, Region.binds md e = true → e.on ≠ i := fun e he hb heq => by
        have h1 := hall e he hb
        have h0 := (mem_ready.1 hr).1
        rw [heq] at h1
        rcases Nat.lt_or_ge i listed.size with h' | h'
        · simp [h'] at h0 h1; rw [h0] at h1; cases h1
        · simp [Array.getElem?_eq_none h'] at h1
      have h2 := wpOp_putQ hoj (hfree j oj hoj hji hjun hnot) (fun cs b => hsel i oi cs b hi) (fun cs b => hsel j oj cs b hoj) hQ hy h1
      have hfree' : ∀ k ok, ops[k]? = some ok → k ≠ i → (listed.setIfInBounds j true).getD k true = false →
          (∀ e ∈ ok.after, Region.binds md e = true → e.on ≠ i) → oi.apart ops ok = true := fun k ok hk hki hun hno => by
        refine hfree k ok hk hki ?_ hno
        by_cases hjk : j = k
        · subst hjk; exact hjun
        · rw [getD_set_ne true hjk] at hun; exact hun
      refine wpOp_mono (fun a' w' h3 => ?_) h2
      have hsw : (listed.setIfInBounds i true).setIfInBounds j true = (listed.setIfInBounds j true).setIfInBounds i true := Array.setIfInBounds_comm _ _ (Ne.symm hji)
      have hR' : (listed.setIfInBounds j true).getD k true = false → R w' := fun e => h3.2.1.2 (by rw [hsw, hset]; exact e)
      refine ⟨⟨h3.2.1.1, hR'⟩, ih (listed.setIfInBounds j true) a' w' (hI _ _ hIl hr hj hji) hfree' (ready_mono hr (Ne.symm hji)) h3.1 h3.2.1.1 hR' ?_⟩
      rw [← hsw]
      exact h3.2.2
theorem wpAnyK_takeQ {i : Nat} {oi : Oper} {v : Value} {fuel : Nat} {listed : Array Bool} {a : Act} {w : World} (hi : ops[i]? = some oi)
    (hs : Region.noSelect ops = true) (hf : Region.free md ops listed i = true) (hr : (Region.ready md ops listed).contains i = true)
    (hQ : ∀ c a w, Q (.panic c) (a.put oi.dst v) w → Q (.panic c) a w) (hik : i ≠ k) (hy : YieldsQ P ops S oi v a) (hS : S w) (hR : listed.getD k true = false → R w)
    (h : wpAnyK P md ops Q S R k fuel (listed.setIfInBounds i true) (a.put oi.dst v) w) : wpAnyK P md ops Q S R k (fuel + 1) listed a w :=
  wpAnyK_firstQ (T := S) (I := fun _ => True) hi (Region.noSelect_spec hs) hQ hik (fun _ _ _ h _ => h) (fun _ _ _ _ _ _ => trivial) fuel listed a w trivial (Region.free_spec hi hf) (by simpa using hr) hy hS hR h
theorem wpAnyK_two {i j : Nat} {o o2 : Oper} {fuel : Nat} {listed : Array Bool} {a : Act} {w : World} (hr : Region.ready md ops listed = [i, j]) (ho : ops[i]? = some o) (ho2 : ops[j]? = some o2)
    (h : ∀ K' : Act → World → Prop, Shut (∀ a w, S w → ((listed.setIfInBounds i true).getD k true = false → R w) → wpAnyK P md ops Q S R k fuel (listed.setIfInBounds i true) a w → K' a w) → if Region.wanted o (yielded ops a.tmps) = true then Oper.wp P o a w K' Q else K' (a.put o.dst undef) w)
    (h2 : ∀ K' : Act → World → Prop, Shut (∀ a w, S w → ((listed.setIfInBounds j true).getD k true = false → R w) → wpAnyK P md ops Q S R k fuel (listed.setIfInBounds j true) a w → K' a w) → if Region.wanted o2 (yielded ops a.tmps) = true then Oper.wp P o2 a w K' Q else K' (a.put o2.dst undef) w) :
    wpAnyK P md ops Q S R k (fuel + 1) listed a w :=
  ⟨fun h0 => absurd (hr ▸ h0) (by simp), fun q hq => by
    rw [hr] at hq
    rcases List.mem_cons.1 hq with e | hq
    · subst e; exact wpOp_step ho (fun K' hK => h K' (fun a w hS hR hW => hK a w ⟨⟨hS, hR⟩, hW⟩))
    · rw [List.mem_singleton] at hq
      subst hq; exact wpOp_step ho2 (fun K' hK => h2 K' (fun a w hS hR hW => hK a w ⟨⟨hS, hR⟩, hW⟩))⟩
end
end Go.Proofs.YtplgdpjbkdagfaaGreat
namespace Go.Proofs.YtplgdpjbkdagfaaGreat
set_option maxRecDepth 100000
open Go.ChangeShapes Go.WideShapes Go.ChangeAt Go.RowKit
set_option linter.unusedVariables false
theorem lt_of_row' {w : World} {b : Nat} {c : Obj} (h : w.heap[b]? = some c) : b < w.heap.size := by
  rcases Nat.lt_or_ge b w.heap.size with h' | h'
  · exact h'
  · rw [Array.getElem?_eq_none h'] at h; cases h
theorem step_store_row' {P : Program} {ops : Array Oper} {o : Oper} {a : Act} {w : World} {K : Act → World → Prop} {Q : Exit → Act → World → Prop} {E : Prop} (hgd : o.guard = none) (ty : TypeId) (x y : Operand) (ho : o.op = .store ty x y)
    (g : Nat) (cells : Array Value) (hx : a.eval x = .pointer (some ⟨g, 0, none⟩)) (hy : a.eval y = .agg cells)
    (t : TypeId) (old : Array Value) (hg : w.heap[g]? = some (.cells old t (0, 0))) (hi : (P.info? ty).map (·.size) = some cells.size)
    (hold : old.size = cells.size) (h1 : cells.all (·.oneCell') = true)
    (h : K (a.put o.dst undef) (w.setRow g cells)) : if Region.wanted o (yielded ops a.tmps) = true then Oper.wp P o a w K Q else E := by
  rw [if_pos (by simp [Region.wanted, hgd])]
  exact wp_store_row ty x y ho g cells hx hy t old hg hi hold h1 h
theorem cell_of_row' {w : World} {g j : Nat} {cells : Array Value} {t : TypeId} {fr : Nat × Nat} (h : w.heap[g]? = some (.cells cells t fr)) : w.cell? ⟨g, j, none⟩ = cells[j]? := by
  simp [World.cell?, h]
end Go.Proofs.YtplgdpjbkdagfaaGreat
namespace Go.Proofs.YtplgdpjbkdagfaaGreat
open Go.ChangeShapes Go.WideShapes Go.ChangeAt Go.RowKit
set_option linter.unusedVariables false
set_option linter.unusedSimpArgs false
set_option maxRecDepth 100000
structure PeV where
  hd : Nat → Value
  img : Value
  e0 : Value
  e1 : Value
  e2 : Value
  im : Value
  de : Value
  bo : Value
  re : Value
  t0 : Value
  t1 : Value
  t2 : Value
def peF (x : PeV) (j : Nat) : Value :=
  if j < 39 then x.hd j else if j = 39 then x.img else if j = 40 then x.e0 else if j = 41 then x.e1 else if j = 42 then x.e2 else if j = 43 then x.im else if j = 44 then x.de else if j = 45 then x.bo else if j = 46 then x.re else if j = 47 then x.t0 else if j = 48 then x.t1 else x.t2
def PeAt (w : World) (P : Nat) (x : PeV) : Prop := Own w P 50 (peF x)
theorem peF_hd (x : PeV) {j : Nat} (h : j < 39) : peF x j = x.hd j := if_pos h
section
variable {w : World} {P : Nat} {x : PeV}
theorem peF_put (x y : PeV) (k : Nat) (v : Value) (hv : peF y k = v) (ho : ∀ j, j < 50 → j ≠ k → peF y j = peF x j) : ∀ j, j < 50 → (if j = k then v else peF x j) = peF y j := fun j hj => by
  by_cases e : j = k
  · rw [if_pos e, e, hv]
  · rw [if_neg e, ho j hj e]
theorem PeAt.put (h : PeAt w P x) (k : Nat) (hk : k < 50) (v : Value) (y : PeV) (hv : peF y k = v) (ho : ∀ j, j < 50 → j ≠ k → peF y j = peF x j) : PeAt (w.setCell ⟨P, k, none⟩ v) P y :=
  (Own.set h (i := k) hk v).congr (peF_put x y k v hv ho)
theorem PeAt.im (h : PeAt w P x) (v : Value) : PeAt (w.setCell ⟨P, 43, none⟩ v) P { x with im := v } := h.put 43 (by omega) v _ rfl (fun j hj hn => by
  unfold peF; simp only [if_neg hn])
theorem PeAt.de (h : PeAt w P x) (v : Value) : PeAt (w.setCell ⟨P, 44, none⟩ v) P { x with de := v } := h.put 44 (by omega) v _ rfl (fun j hj hn => by
  unfold peF; simp only [if_neg hn])
theorem PeAt.bo (h : PeAt w P x) (v : Value) : PeAt (w.setCell ⟨P, 45, none⟩ v) P { x with bo := v } := h.put 45 (by omega) v _ rfl (fun j hj hn => by
  unfold peF; simp only [if_neg hn])
theorem PeAt.re (h : PeAt w P x) (v : Value) : PeAt (w.setCell ⟨P, 46, none⟩ v) P { x with re := v } := h.put 46 (by omega) v _ rfl (fun j hj hn => by
  unfold peF; simp only [if_neg hn])
theorem PeAt.ex (h : PeAt w P x) (a b c : Value) : PeAt (w.setCells P 40 [a, b, c]) P { x with e0 := a, e1 := b, e2 := c } := by
  have h1 := h.put 40 (by omega) a { x with e0 := a } rfl (fun j hj hn => by unfold peF; simp only [if_neg hn])
  have h2 := h1.put 41 (by omega) b { x with e0 := a, e1 := b } rfl (fun j hj hn => by unfold peF; simp only [if_neg hn])
  exact h2.put 42 (by omega) c { x with e0 := a, e1 := b, e2 := c } rfl (fun j hj hn => by unfold peF; simp only [if_neg hn])
theorem PeAt.tl (h : PeAt w P x) (a b c : Value) : PeAt (w.setCells P 47 [a, b, c]) P { x with t0 := a, t1 := b, t2 := c } := by
  have h1 := h.put 47 (by omega) a { x with t0 := a } rfl (fun j hj hn => by unfold peF; simp only [if_neg hn])
  have h2 := h1.put 48 (by omega) b { x with t0 := a, t1 := b } rfl (fun j hj hn => by unfold peF; simp only [if_neg hn])
  refine h2.put 49 (by omega) c { x with t0 := a, t1 := b, t2 := c } rfl (fun j hj hn => ?_)
  unfold peF
  rcases (by omega : j < 39 ∨ j = 39 ∨ j = 40 ∨ j = 41 ∨ j = 42 ∨ j = 43 ∨ j = 44 ∨ j = 45 ∨ j = 46 ∨ j = 47 ∨ j = 48) with h | rfl | rfl | rfl | rfl | rfl | rfl | rfl | rfl | rfl | rfl <;> simp [*]
theorem PeAt.there (h : PeAt w P x) (o n : Nat) (hn : o + n ≤ 50) : w.there P o n := fun j hj => by
  rw [Own.cell h (i := o + j) (by omega)]
  exact ⟨rfl, Own.frozen h (by omega)⟩
end
def Lasts (base : Nat) (S : World → Prop) (W : World) : Prop := ∀ W2, (∀ k, base ≤ k → k < W.heap.size → W2.heap[k]? = W.heap[k]?) → W.heap.size ≤ W2.heap.size → S W2
theorem Lasts.now {base : Nat} {S : World → Prop} {W : World} (h : Lasts base S W) : S W := h W (fun _ _ _ => rfl) (Nat.le_refl _)
theorem Lasts.on {base : Nat} {S : World → Prop} {W W2 : World} (h : Lasts base S W) (hk : ∀ k, base ≤ k → k < W.heap.size → W2.heap[k]? = W.heap[k]?) (hs : W.heap.size ≤ W2.heap.size) : Lasts base S W2 :=
  fun W3 h3 s3 => h W3 (fun k a b => (h3 k a (by omega)).trans (hk k a b)) (by omega)
theorem Lasts.less {base base' : Nat} {S : World → Prop} {W : World} (h : Lasts base S W) (hb : base' ≤ base) : Lasts base' S W := fun W2 hk hs => h W2 (fun k a b => hk k (by omega) b) hs
theorem Lasts.const {base : Nat} {S : World → Prop} {W : World} (h : ∀ W, S W) : Lasts base S W := fun W2 _ _ => h W2
abbrev KeptBut (P : Nat) (w W : World) : Prop := Kept (fun k => k < w.heap.size ∧ k ≠ P) w W
end Go.Proofs.YtplgdpjbkdagfaaGreat
