/- append of a slice's elements, none too, as a step of a region that draws its order; pieces of slices; a number turned. -/
import Derived.Test.YtlifaldbdjcgjaaAppTs
import Derived.Test.YtlifaldbdjcgjaaMask
namespace Go.Proofs.Ytlifaldbdjcgjaa
open Go.ChangeShapes Go.WideShapes Go.ChangeAt Go.RowKit
set_option linter.unusedVariables false
set_option linter.unusedSimpArgs false
section
variable {α : Type} {C : α → List Value} {sz : Nat}

theorem step_appTsE {P : Program} {w : World} {ops : Array Oper} {o : Oper} {a : Act} {K : Act → World → Prop} {Q : Exit → Act → World → Prop} {E : Prop} (hgd : o.guard = none) (s x : Operand) (t : TypeId)
    (ho : o.op = .call { callee := .builtin .append, args := #[s, x], argTypes := #[t, t] })
    (base : Nat) (e : TypeId) (z : Value) (bytes : Nat) (ht : P.underlying t = some (.slice e)) (hinfo : (P.info? e).map (fun i => (i.zero, i.size, i.bytes)) = some (some z, sz, bytes)) (hzs : z.cells.size = sz) (hsz : 0 < sz) (hC : ∀ x, (C x).length = sz) (hC1 : ∀ x, ∀ u ∈ C x, u.oneCell' = true)
    (g cap : Nat) (l : List α) (hv : a.eval s = .slice (some ⟨g, 0, none⟩) l.length cap) (hown : OwnT C sz w base e (.slice (some ⟨g, 0, none⟩) l.length cap) l) (A : Option Addr) (m c : Nat) (xs : List α) (hm : m = xs.length) (hX : a.eval x = .slice A m c) (hs : SlT C sz w A xs)
    (h63 : l.length + xs.length ≤ maxLen) (hbytes : (l.length + xs.length) * bytes ≤ 140737488355328) (hbase : base ≤ w.heap.size)
    (hK : ∀ g' cap' w', OwnT C sz w' base e (.slice (some ⟨g', 0, none⟩) (l.length + xs.length) cap') (l ++ xs) → w.grownBy w' (some g) → (g' = g ∨ g' = w.heap.size) → K (a.put o.dst (.slice (some ⟨g', 0, none⟩) (l.length + xs.length) cap')) w') :
    if Region.wanted o (yielded ops a.tmps) = true then Oper.wp P o a w K Q else E := by
  obtain ⟨i0, hi, hz0, hz1, hz2⟩ := info_parts hinfo
  subst hm
  rcases Nat.eq_zero_or_pos xs.length with h0 | h0
  · obtain rfl := List.eq_nil_of_length_eq_zero h0
    have hsr := src_slT (P := P) (c := c) ht hC hC1 hs
    obtain ⟨A', cap', hvv, hlc, _, _⟩ := hown.form
    injection hvv with _ _ hvv
    subst hvv
    have hr := run_append_room_src (P := P) w t t o.type e i0 ht hi g 0 l.length cap (.slice A [].length c) 0 [] (by rw [hz1]; exact hsr) (by omega) (fun j hj => by simp at hj) (fun j hj => by simp at hj)
    have hw : Region.wanted o (yielded ops a.tmps) = true := by simp [Region.wanted, hgd]
    rw [if_pos hw]
    unfold Oper.wp execOp
    simp only [ho, resolve, invoke, builtin, Sem.run_bind, Sem.run_pure, Result.andThen_ok, List.map_toArray, List.map_cons, List.map_nil, hv, hX, hr]
    exact hK g cap _ (by rw [List.append_nil]; exact hown) (grown_self w g) (.inl rfl)
  · rcases hs with h | ⟨b, off, rfl, hlt, hc⟩
    · rw [h] at h0; simp at h0
    · refine step_append_lies w hgd s x t ho base e i0 z sz bytes ht hi hz0 hz1 hz2 hzs hsz _ l.length (l.flatMap C) hv hown ⟨b, off, none⟩ xs.length c (xs.flatMap C) hX (flatC_len hC xs) (fun j u hu => ?_) (fun u hu => by
        obtain ⟨y, _, hy⟩ := List.mem_flatMap.mp hu
        exact hC1 y u hy) h0 h63 hbytes hbase _ rfl ?_
      · have hj : j < (xs.flatMap C).length := by
          rcases Nat.lt_or_ge j (xs.flatMap C).length with h | h
          · exact h
          · rw [List.getElem?_eq_none h] at hu; cases hu
        rw [flatC_len hC] at hj
        have hi' : j / sz < xs.length := Nat.div_lt_of_lt_mul (by rwa [Nat.mul_comm])
        have hm' : j % sz < sz := Nat.mod_lt _ hsz
        have e1 : j / sz * sz + j % sz = j := by rw [Nat.mul_comm]; exact Nat.div_add_mod j sz
        have hg := flatC_get hC xs (j / sz) (j % sz) hi' hm'
        rw [e1, hu] at hg
        have := hc (j / sz) hi' (j % sz) u hg.symm
        rw [e1] at this
        have hadd : (⟨b, off, none⟩ : Addr).add j = ⟨b, off + j, none⟩ := by unfold Addr.add; split <;> simp_all
        rw [hadd]
        exact this
      · intro g' cap' w' hown' hg hat _
        refine hK g' cap' w' ?_ hg (hat.imp_left fun h => by injection h with h; exact h.symm)
        unfold OwnT
        rw [List.length_append, List.flatMap_append]
        exact hown'

theorem SlT.takeT {w : World} {A : Option Addr} {l : List α} (h : SlT C sz w A l) (k : Nat) : SlT C sz w A (l.take k) := by
  rcases h with h | ⟨b, off, rfl, hlt, hc⟩
  · exact .inl (by rw [h]; simp)
  · refine .inr ⟨b, off, rfl, hlt, fun i hi j v hv => ?_⟩
    rw [List.length_take] at hi
    rw [List.getElem_take] at hv
    exact hc i (by omega) j v hv
theorem SlT.dropT {w : World} {b off : Nat} {l : List α} (h : SlT C sz w (some ⟨b, off, none⟩) l) (k : Nat) : SlT C sz w (some ⟨b, off + k * sz, none⟩) (l.drop k) := by
  rcases h with h | ⟨b', off', e, hlt, hc⟩
  · exact .inl (by rw [h]; simp)
  · injection e with e
    injection e with e1 e2
    subst e1 e2
    refine .inr ⟨b, _, rfl, hlt, fun i hi j v hv => ?_⟩
    rw [List.length_drop] at hi
    rw [List.getElem_drop] at hv
    have := hc (k + i) (by omega) j v hv
    rw [← this, Nat.add_mul]
    congr 2
    omega
/-- append of one element out of a block that is known, as a step. -/
theorem step_appT1 {P : Program} {w : World} {ops : Array Oper} {o : Oper} {a : Act} {K : Act → World → Prop} {Q : Exit → Act → World → Prop} {E : Prop} (hgd : o.guard = none) (s x : Operand) (t : TypeId)
    (ho : o.op = .call { callee := .builtin .append, args := #[s, x], argTypes := #[t, t] })
    (base : Nat) (e : TypeId) (z : Value) (bytes : Nat) (ht : P.underlying t = some (.slice e)) (hinfo : (P.info? e).map (fun i => (i.zero, i.size, i.bytes)) = some (some z, sz, bytes)) (hzs : z.cells.size = sz) (hsz : 0 < sz) (hC : ∀ x, (C x).length = sz) (hC1 : ∀ x, ∀ u ∈ C x, u.oneCell' = true)
    (v : Value) (l : List α) (hv : a.eval s = v) (hown : OwnT C sz w base e v l) (g : Nat) (c : Nat) (hX : a.eval x = .slice (some ⟨g, 0, none⟩) 1 c) (y : α) (hy : ∀ j u, (C y)[j]? = some u → w.cell? ⟨g, j, none⟩ = some u)
    (h63 : l.length + 1 ≤ maxLen) (hbytes : (l.length + 1) * bytes ≤ 140737488355328) (hbase : base ≤ w.heap.size)
    (hK : ∀ g' cap w', OwnT C sz w' base e (.slice (some ⟨g', 0, none⟩) (l.length + 1) cap) (l ++ [y]) → w.grownBy w' v.ownBlock → (v.ownBlock = some g' ∨ g' = w.heap.size) → K (a.put o.dst (.slice (some ⟨g', 0, none⟩) (l.length + 1) cap)) w') :
    if Region.wanted o (yielded ops a.tmps) = true then Oper.wp P o a w K Q else E := by
  obtain ⟨i0, hi, hz0, hz1, hz2⟩ := info_parts hinfo
  refine step_append_lies w hgd s x t ho base e i0 z sz bytes ht hi hz0 hz1 hz2 hzs hsz v l.length (l.flatMap C) hv hown ⟨g, 0, none⟩ 1 c (C y) hX (by rw [hC, Nat.one_mul]) (fun j u hu => ?_) (hC1 y) (by omega) h63 hbytes hbase _ rfl ?_
  · have hadd : (⟨g, 0, none⟩ : Addr).add j = ⟨g, j, none⟩ := by unfold Addr.add; split <;> simp_all
    rw [hadd]
    exact hy j u hu
  · intro g' cap w' hown' hg hat _
    refine hK g' cap w' ?_ hg hat
    unfold OwnT
    rw [List.length_append, List.flatMap_append]
    simpa using hown'

theorem OwnT.blk {w : World} {base : Nat} {e : TypeId} {l : List α} {g cap : Nat} (h : OwnT C sz w base e (.slice (some ⟨g, 0, none⟩) l.length cap) l) : ∃ cur, w.heap[g]? = some (.cells cur e (0, 0)) := by
  rcases h.2 with ⟨h1, h2⟩ | ⟨g', cap', cur, h1, hb, hh, h2, h3, h4, h5⟩
  · injection h1 with h1; exact absurd h1 (by simp)
  · injection h1 with h1 _ _
    injection h1 with h1
    injection h1 with h1
    subst h1
    exact ⟨cur, hh⟩
end
/-- One of a row's elements is turned. -/
theorem SlT.setT {α : Type} {C : α → List Value} {sz : Nat} {w : World} {g : Nat} {l : List α} (h : SlT C sz w (some ⟨g, 0, none⟩) l) (k j0 : Nat) (hk : k < l.length) (hj : j0 < sz) (v : Value) (y : α) (hC : ∀ x, (C x).length = sz)
    (hy0 : (C y)[j0]? = some v) (hy : ∀ j, j ≠ j0 → (C y)[j]? = (C l[k])[j]?) : SlT C sz (w.setCell ⟨g, k * sz + j0, none⟩ v) (some ⟨g, 0, none⟩) (l.set k y) := by
  rcases h with h | ⟨b, off, e, hlt, hc⟩
  · rw [h] at hk; simp at hk
  · injection e with e
    injection e with e1 e2
    subst e1 e2
    refine .inr ⟨g, 0, rfl, by rw [World.size_setCell]; exact hlt, fun i hi j u hu => ?_⟩
    rw [List.length_set] at hi
    rw [List.getElem_set] at hu
    have hsome := hc k hk j0 _ (List.getElem?_eq_getElem (by rw [hC]; exact hj))
    rw [Nat.zero_add] at hsome ⊢
    by_cases e : i = k
    · subst e
      rw [if_pos rfl] at hu
      by_cases e : j = j0
      · subst e
        rw [hy0] at hu
        injection hu with hu
        subst hu
        exact World.cell?_setCell_same w _ v hsome
      · rw [World.cell?_setCell_other w _ _ v (by intro q; injection q with _ q; omega)]
        rw [hy j e] at hu
        have := hc i hk j u hu
        rwa [Nat.zero_add] at this
    · rw [if_neg (Ne.symm e)] at hu
      have hjl : j < sz := by rw [← hC (l[i])]; exact (List.getElem?_eq_some_iff.1 hu).1
      rw [World.cell?_setCell_other w _ _ v (by
        intro q
        injection q with _ q
        rcases Nat.lt_or_ge i k with q1 | q1
        · have : (i + 1) * sz ≤ k * sz := Nat.mul_le_mul_right _ q1
          rw [Nat.add_mul] at this; omega
        · have : (k + 1) * sz ≤ i * sz := Nat.mul_le_mul_right _ (by omega)
          rw [Nat.add_mul] at this; omega)]
      have := hc i hi j u hu
      rwa [Nat.zero_add] at this

/-- Turned by an odd number, a number is another one. -/
theorem xor_odd (a b : Int) : bits .xor .i64 a (bits .or .i64 b 1) ≠ a := by
  intro h
  have h1 : BitVec.ofInt 64 (IntKind.i64.wrap ((BitVec.ofInt 64 a ^^^ BitVec.ofInt 64 (bits .or .i64 b 1)).toNat : Int)) = BitVec.ofInt 64 a := congrArg (BitVec.ofInt 64) h
  have hw : ∀ z : Int, BitVec.ofInt 64 (IntKind.i64.wrap z) = BitVec.ofInt 64 z := by
    intro z
    apply BitVec.eq_of_toNat_eq
    rw [BitVec.toNat_ofInt, BitVec.toNat_ofInt, IntKind.wrap_i64]
    congr 1
    omega
  have h2 : BitVec.ofInt 64 (bits .or .i64 b 1) = BitVec.ofInt 64 b ||| BitVec.ofInt 64 1 := by
    show BitVec.ofInt 64 (IntKind.i64.wrap ((BitVec.ofInt 64 b ||| BitVec.ofInt 64 1).toNat : Int)) = _
    rw [hw, BitVec.ofInt_natCast, BitVec.ofNat_toNat, BitVec.setWidth_eq]
  rw [hw, BitVec.ofInt_natCast, BitVec.ofNat_toNat, BitVec.setWidth_eq, h2] at h1
  have h3 := congrArg (fun v => v.getLsbD 0) h1
  have h4 : (BitVec.ofInt 64 1).getLsbD 0 = true := by decide
  simp only [BitVec.getLsbD_xor, BitVec.getLsbD_or, h4, Bool.or_true, Bool.xor_true] at h3
  cases hq : (BitVec.ofInt 64 a).getLsbD 0 <;> rw [hq] at h3 <;> exact absurd h3 (by decide)
end Go.Proofs.Ytlifaldbdjcgjaa
