/- append of a slice's elements, of several cells each, to one of the call's own. -/
import Derived.Test.YtlifaldbdjcgjaaOwnT
import Derived.Test.YtlifaldbdjcgjaaAppB
import Derived.Deep.AppendSrc
namespace Go.Proofs.Ytlifaldbdjcgjaa
open Go.ChangeShapes Go.WideShapes Go.ChangeAt Go.RowKit
set_option linter.unusedVariables false
set_option linter.unusedSimpArgs false
section
variable {α : Type} {C : α → List Value} {sz : Nat}

theorem src_slT {P : Program} {w : World} {A : Option Addr} {l : List α} {tx e : TypeId} (hk : P.underlying tx = some (.slice e)) (c : Nat) (hC : ∀ x, (C x).length = sz) (hC1 : ∀ x, ∀ u ∈ C x, u.oneCell' = true) (h : SlT C sz w A l) :
    Src P sz tx (.slice A l.length c) l.length (l.flatMap C) w := by
  have h1 : ∀ u ∈ l.flatMap C, u.oneCell' = true := fun u hu => by
    obtain ⟨x, _, hx⟩ := List.mem_flatMap.mp hu
    exact hC1 x u hx
  rcases h with rfl | ⟨b, off, rfl, hlt, hc⟩
  · rcases A with _ | ad
    · exact Src.ofNil w hk c
    · exact Src.ofSlice w hk ad 0 c [] (by simp) (fun j u hu => by simp at hu) (fun u hu => by simp at hu)
  · refine Src.ofSlice w hk ⟨b, off, none⟩ l.length c (l.flatMap C) (flatC_len hC l) (fun j u hu => ?_) h1
    have hsz : 0 < sz ∨ sz = 0 := by omega
    have hj : j < (l.flatMap C).length := by
      rcases Nat.lt_or_ge j (l.flatMap C).length with h | h
      · exact h
      · rw [List.getElem?_eq_none h] at hu; cases hu
    rw [flatC_len hC] at hj
    have hs0 : 0 < sz := by rcases hsz with h | h; exact h; subst h; omega
    have hi : j / sz < l.length := Nat.div_lt_of_lt_mul (by rwa [Nat.mul_comm])
    have hm : j % sz < sz := Nat.mod_lt _ hs0
    have e1 : j / sz * sz + j % sz = j := by rw [Nat.mul_comm]; exact Nat.div_add_mod j sz
    have hg := flatC_get hC l (j / sz) (j % sz) hi hm
    rw [e1, hu] at hg
    have := hc (j / sz) hi (j % sz) u hg.symm
    rw [e1] at this
    have hadd : (⟨b, off, none⟩ : Addr).add j = ⟨b, off + j, none⟩ := by unfold Addr.add; split <;> simp_all
    rw [hadd]
    exact this

theorem grown_self (w : World) (g : Nat) : w.grownBy w (some g) := ⟨rfl, rfl, rfl, Nat.le_refl _, fun _ _ _ => rfl⟩

theorem wpList_appTs {P : Program} {w : World} {ops : Array Oper} {rest : List Oper} {o : Oper} {a : Act} {Q : Exit → Act → World → Prop} (hgd : o.guard = none) (s x : Operand) (t : TypeId)
    (ho : o.op = .call { callee := .builtin .append, args := #[s, x], argTypes := #[t, t] })
    (base : Nat) (e : TypeId) (z : Value) (bytes : Nat) (ht : P.underlying t = some (.slice e)) (hinfo : (P.info? e).map (fun i => (i.zero, i.size, i.bytes)) = some (some z, sz, bytes)) (hzs : z.cells.size = sz) (hsz : 0 < sz) (hC : ∀ x, (C x).length = sz) (hC1 : ∀ x, ∀ u ∈ C x, u.oneCell' = true)
    (g cap : Nat) (l : List α) (hv : a.eval s = .slice (some ⟨g, 0, none⟩) l.length cap) (hown : OwnT C sz w base e (.slice (some ⟨g, 0, none⟩) l.length cap) l) (A : Option Addr) (m c : Nat) (xs : List α) (hm : m = xs.length) (hX : a.eval x = .slice A m c) (hs : SlT C sz w A xs)
    (h63 : l.length + xs.length ≤ maxLen) (hbytes : (l.length + xs.length) * bytes ≤ 140737488355328) (hbase : base ≤ w.heap.size)
    (hK : ∀ g' cap' w', OwnT C sz w' base e (.slice (some ⟨g', 0, none⟩) (l.length + xs.length) cap') (l ++ xs) → w.grownBy w' (some g) → wpList P ops Q rest (a.put o.dst (.slice (some ⟨g', 0, none⟩) (l.length + xs.length) cap')) w') :
    wpList P ops Q (o :: rest) a w := by
  obtain ⟨i0, hi, hz0, hz1, hz2⟩ := info_parts hinfo
  subst hm
  rcases Nat.eq_zero_or_pos xs.length with h0 | h0
  · obtain rfl := List.eq_nil_of_length_eq_zero h0
    have hsr := src_slT (P := P) (c := c) ht hC hC1 hs
    obtain ⟨A', cap', hvv, hlc, _, _⟩ := hown.form
    injection hvv with _ _ hvv
    subst hvv
    have hr := run_append_room_src (P := P) w t t o.type e i0 ht hi g 0 l.length cap (.slice A [].length c) 0 [] (by rw [hz1]; exact hsr) (by omega) (fun j hj => by simp at hj) (fun j hj => by simp at hj)
    refine wpList_plain hgd fun K hK' => ?_
    unfold Oper.wp execOp
    simp only [ho, resolve, invoke, builtin, Sem.run_bind, Sem.run_pure, Result.andThen_ok, List.map_toArray, List.map_cons, List.map_nil, hv, hX, hr]
    exact hK' _ _ (hK g cap _ (by rw [List.append_nil]; exact hown) (grown_self w g))
  · rcases hs with h | ⟨b, off, rfl, hlt, hc⟩
    · rw [h] at h0; simp at h0
    · refine wpList_append_lies w hgd s x t ho base e i0 z sz bytes ht hi hz0 hz1 hz2 hzs hsz _ l.length (l.flatMap C) hv hown ⟨b, off, none⟩ xs.length c (xs.flatMap C) hX (flatC_len hC xs) (fun j u hu => ?_) (fun u hu => by
        obtain ⟨y, _, hy⟩ := List.mem_flatMap.mp hu
        exact hC1 y u hy) h0 h63 hbytes hbase _ rfl ?_
      · have hj : j < (xs.flatMap C).length := by
          rcases Nat.lt_or_ge j (xs.flatMap C).length with h | h
          · exact h
          · rw [List.getElem?_eq_none h] at hu; cases hu
        rw [flatC_len hC] at hj
        have hi' : j / sz < xs.length := Nat.div_lt_of_lt_mul (by rwa [Nat.mul_comm])
        have hm' : j % sz < sz := Nat.mod_lt _ hsz
        have e1 : j / sz * sz + j % sz = j := by rw [Nat.mul_comm]; exact Nat.div_add_mod j sz
        have hg := flatC_get hC xs (j / sz) (j % sz) hi' hm'
        rw [e1, hu] at hg
        have := hc (j / sz) hi' (j % sz) u hg.symm
        rw [e1] at this
        have hadd : (⟨b, off, none⟩ : Addr).add j = ⟨b, off + j, none⟩ := by unfold Addr.add; split <;> simp_all
        rw [hadd]
        exact this
      · intro g' cap' w' hown' hg hat _
        refine hK g' cap' w' ?_ hg
        unfold OwnT
        rw [List.length_append, List.flatMap_append]
        exact hown'
end
end Go.Proofs.Ytlifaldbdjcgjaa
