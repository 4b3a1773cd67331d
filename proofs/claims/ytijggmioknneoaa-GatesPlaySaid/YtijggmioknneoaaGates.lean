/- GatesApart: what the document fixes; the threads. -/
import Derived.Test.YtijggmioknneoaaSlots2
import Derived.Test.YtijggmioknneoaaOwnL
import Derived.Test.YtijggmioknneoaaMask
import Derived.Deep.LoopGhost
namespace Go.Proofs.Ytijggmioknneoaa
open Go.ChangeShapes Go.WideShapes Go.ChangeAt Go.RowKit
open Go.Maps (Keyed)
set_option linter.unusedVariables false
set_option linter.unusedSimpArgs false

theorem and_31 (n : Int) : bits .and .i64 n 31 = n % 32 := i64_mask n 5 (by omega)

theorem awake23_any (w : World) : Calls Try.prog 6 #[] w fun e w' => e = .returned (.bool true) ∧ Below w.heap.size w w' := by
  have hR : ∀ k, k < w.heap.size → k < w.heap.size := fun _ h => h
  go_enter Try.func6, Try.ntmps6
  go_wp2_with fail
  refine (newSlots_any (· < w.heap.size) w hR).mono ?_
  rintro e w1 ⟨s, rfl, h1, k1⟩
  have H1 := Lib.hid h1
  clear h1
  go_wp2_with fail
  refine (set_yes (· < w.heap.size) w1 s 0 _ 1 9 31 (by decide) (by omega) (by omega) (by unfold maxLen; omega) H1.out).mono ?_
  rintro e w2 ⟨rfl, h2, k2⟩
  have H2 := Lib.hid h2
  clear h2 H1
  go_wp2_with fail
  refine (set_no w2 s 1 32 9 (by omega)).mono ?_
  rintro e w' ⟨rfl, rfl⟩
  go_wp2_with fail
  refine (set_no w2 s 0 1 9 (by omega)).mono ?_
  rintro e w' ⟨rfl, rfl⟩
  go_wp2_with fail
  refine (get_any (· < w.heap.size) w2 s _ _ 1 31 (by decide) H2.out).mono ?_
  rintro e w' ⟨rfl, rfl⟩
  rw [show getV (putV (fun _ _ => 0) 1 31 9) 1 31 = 9 from rfl]
  go_wp2_with fail
  refine (get_any (· < w.heap.size) w2 s _ _ 2 31 (by decide) H2.out).mono ?_
  rintro e w' ⟨rfl, rfl⟩
  rw [show getV (putV (fun _ _ => 0) 1 31 9) 2 31 = 0 from rfl]
  go_wp2
  go_ret
  exact ⟨rfl, (k1.trans k2).below fun _ h => h⟩

/-- n integers f from a place on. -/
def RowI (w : World) (b off n : Nat) (f : Nat → Int) : Prop := ∀ i, i < n → w.cell? ⟨b, off + i, none⟩ = some (.int .i64 (f i))
/-- A slice of n integers f that came in. -/
def SlI (w : World) (A : Option Addr) (n : Nat) (f : Nat → Int) : Prop := n = 0 ∨ ∃ b off, A = some ⟨b, off, none⟩ ∧ b < w.heap.size ∧ RowI w b off n f

theorem SlI.below {w w' : World} {A : Option Addr} {n : Nat} {f : Nat → Int} (h : SlI w A n f) (hb : Below w.heap.size w w') : SlI w' A n f := by
  rcases h with h | ⟨b, off, hA, hlt, hr⟩
  · exact .inl h
  · exact .inr ⟨b, off, hA, Nat.lt_of_lt_of_le hlt hb.size, fun i hi => (hb.cell (p := ⟨b, off + i, none⟩) hlt).trans (hr i hi)⟩
theorem SlI.keptR {R : Nat → Prop} {w0 w w' : World} {A : Option Addr} {n : Nat} {f : Nat → Int} (h : SlI w0 A n f) (hk : Kept R w0 w) (hR : ∀ k, k < w0.heap.size → R k) : SlI w A n f := by
  rcases h with h | ⟨b, off, hA, hlt, hr⟩
  · exact .inl h
  · exact .inr ⟨b, off, hA, Nat.lt_of_lt_of_le hlt hk.size, fun i hi => (hk.cell (p := ⟨b, off + i, none⟩) (hR b hlt)).trans (hr i hi)⟩

/-- Number j of a list. -/
def nthI (L : List Int) (j : Nat) : Int := L.getD j 0
/-- Is x among the first j of L? -/
def hasI (L : List Int) (j : Nat) (x : Int) : Bool := (L.take j).contains x
theorem hasI_zero (L : List Int) (x : Int) : hasI L 0 x = false := by simp [hasI]
theorem hasI_succ (L : List Int) (j : Nat) (x : Int) (h : j < L.length) : hasI L (j + 1) x = (hasI L j x || nthI L j == x) := by
  have e : L.take (j + 1) = L.take j ++ [L.getD j 0] := by
    rw [List.take_add_one, List.getElem?_eq_getElem h]
    simp only [List.getD, List.getElem?_eq_getElem h, Option.getD_some, Option.toList_some]
  unfold hasI nthI
  rw [e, Bool.eq_iff_iff, Bool.or_eq_true, List.contains_iff_mem, List.mem_append, List.contains_iff_mem, List.mem_singleton, beq_iff_eq]
  exact ⟨fun h => h.imp id Eq.symm, fun h => h.imp id Eq.symm⟩
theorem hasI_mem {L : List Int} {x : Int} : hasI L L.length x = true ↔ x ∈ L := by unfold hasI; rw [List.take_length]; simp


theorem listI {w : World} {base : Nat} {v : Value} {L : List Int} (h : OwnL w base 3 v (L.map (Value.int .i64))) :
    ∃ A cap, v = .slice A L.length cap ∧ L.length ≤ cap ∧ cap ≤ maxLen ∧ (L = [] ∨ ∃ g, A = some ⟨g, 0, none⟩ ∧ base ≤ g ∧ g < w.heap.size ∧ RowI w g 0 L.length (nthI L)) := by
  obtain ⟨A, cap, h1, h2, h3, h4⟩ := h.form
  simp only [List.length_map] at h1 h2 h4
  refine ⟨A, cap, h1, h2, h3, ?_⟩
  rcases h4 with h4 | ⟨g, h4, h5, h6⟩
  · exact .inl (List.map_eq_nil_iff.1 h4)
  · refine .inr ⟨g, h4, h5, h6.1, fun i hi => ?_⟩
    rw [Nat.zero_add, h6.cell hi]
    simp [nthI, List.getD, List.getElem?_eq_getElem hi]


/-- More blocks that slots have nothing of. -/
theorem SlotsAt.reserve {R : Nat → Prop} {w w2 : World} {s n : Nat} {v : Int → Nat → Int} (H : SlotsAt R w s n v) (hb : Below w.heap.size w w2) : SlotsAt (fun k => R k ∨ (w.heap.size ≤ k ∧ k < w2.heap.size)) w2 s n v := by
  obtain ⟨bm, m, f, S, hm, hRs, hRb, hRB, hR⟩ := H
  have h1 := S.slt
  have h2 := S.map.lt
  refine ⟨bm, m, f, S.of_blocks (fun k hk => hb.block k ?_) hb.size, hm, ?_, ?_, fun t B hf => ?_, fun k hk => ?_⟩
  · rcases hk with rfl | rfl | ⟨t, ht⟩
    · exact h1
    · exact h2
    · exact (S.row t k ht).1
  · rintro (h | h)
    · exact hRs h
    · omega
  · rintro (h | h)
    · exact hRb h
    · omega
  · have := (S.row t B hf).1
    rintro (h | h)
    · exact hRB t B hf h
    · omega
  · have := hb.size
    rcases hk with h | h
    · have := hR k h; omega
    · exact h.2

/-- What is set for the first q threads. -/
def valsU (L : List Int) (I : Nat) (v : Int) : Nat → Int → Nat → Int
  | 0 => fun _ _ => 0
  | q + 1 => putV (valsU L I v q) (nthI L q) I (IntKind.u64.wrap (v + q))

theorem nthI_inj {L : List Int} (h : L.Nodup) {i j : Nat} (hi : i < L.length) (hj : j < L.length) (e : nthI L i = nthI L j) : i = j := by
  unfold nthI at e
  simp only [List.getD, List.getElem?_eq_getElem hi, List.getElem?_eq_getElem hj, Option.getD_some] at e
  exact (List.getElem_inj h).1 e

theorem valsU_at {L : List Int} (h : L.Nodup) (I : Nat) (v : Int) : ∀ q, q ≤ L.length → ∀ j, j < q → valsU L I v q (nthI L j) I = IntKind.u64.wrap (v + j)
  | 0, _, j, hj => by omega
  | q + 1, hq, j, hj => by
    show putV (valsU L I v q) (nthI L q) I _ (nthI L j) I = _
    unfold putV
    by_cases e : j = q
    · subst e; rw [if_pos ⟨rfl, rfl⟩]
    · rw [if_neg (fun hh => e (nthI_inj h (by omega) (by omega) hh.1))]
      exact valsU_at h I v q (by omega) j (by omega)

theorem valsU_off (L : List Int) {I K : Nat} (v : Int) (hne : K ≠ I) (t : Int) : ∀ q, valsU L I v q t K = 0
  | 0 => rfl
  | q + 1 => by
    show putV (valsU L I v q) (nthI L q) I _ t K = _
    unfold putV
    rw [if_neg (fun hh => hne hh.2)]
    exact valsU_off L v hne t q

theorem clear_first {L : List Int} (h : L.Nodup) (I : Nat) (v : Int) (h0 : 0 < L.length) : clearV (valsU L I v L.length) (nthI L 0) (nthI L 0) I = 0 := by
  unfold clearV; rw [if_pos rfl]
theorem clear_rest {L : List Int} (h : L.Nodup) (I : Nat) (v : Int) {q : Nat} (h0 : 0 < q) (hq : q < L.length) : clearV (valsU L I v L.length) (nthI L 0) (nthI L q) I = IntKind.u64.wrap (v + q) := by
  unfold clearV
  rw [if_neg (fun e => by have := nthI_inj h hq (by omega) e; omega)]
  exact valsU_at h I v _ (Nat.le_refl _) q hq

theorem getV_nat (v : Int → Nat → Int) (t : Int) (i : Nat) (ht : 0 < t) (hi : i < 32) : getV v t i = v t i := by
  unfold getV
  rw [if_pos ⟨ht, by omega, by omega⟩, Int.toNat_natCast]

theorem nthI_pos {L : List Int} (h : ∀ x ∈ L, 1 ≤ x ∧ x ≤ 65536) {j : Nat} (hj : j < L.length) : 1 ≤ nthI L j ∧ nthI L j ≤ 65536 := by
  unfold nthI
  simp only [List.getD, List.getElem?_eq_getElem hj, Option.getD_some]
  exact h _ (List.getElem_mem hj)

theorem wf_small {t : Int} (h0 : 1 ≤ t) (h1 : t ≤ 65536) : (Lit.int .i64 t).wf = true := by
  simp [Lit.wf, IntKind.min, IntKind.max, IntKind.bits, IntKind.signed]
  omega

theorem infoI64 : (Try.prog.info? 3).map (fun i => (i.zero, i.size, i.bytes)) = some (some (.int .i64 0), 1, 8) := by kernel_rfl

end Go.Proofs.Ytijggmioknneoaa
namespace Go.Proofs.Ytijggmioknneoaa
open Go.ChangeShapes Go.WideShapes Go.ChangeAt Go.RowKit

theorem cell_lt {w : World} {b o : Nat} {v : Value} (h : w.cell? ⟨b, o, none⟩ = some v) : b < w.heap.size := by
  rcases Nat.lt_or_ge b w.heap.size with hlt | hge
  · exact hlt
  · simp [World.cell?, Array.getElem?_eq_none hge] at h

theorem slI_of {w : World} {a : Option Addr} {len cap : Nat} {zs : List Int} (h : (a = none ∧ len = 0 ∧ cap = 0 ∧ zs = []) ∨
    ∃ x, a = some x ∧ len ≤ cap ∧ cap ≤ maxLen ∧ zs.length = cap ∧ (∀ i, i < zs.length → w.cell? (x.add i) = some (.int .i64 (zs.getD i 0))) ∧ ∀ n ∈ zs, (Lit.int .i64 n).wf = true) :
    len ≤ 9223372036854775807 ∧ SlI w a len (fun i => zs.getD i 0) := by
  rcases h with ⟨rfl, rfl, rfl, rfl⟩ | ⟨x, rfl, hl, hm, hz, hcell, hwz⟩
  · exact ⟨by omega, .inl rfl⟩
  · refine ⟨by unfold maxLen at hm; omega, ?_⟩
    rcases Nat.eq_zero_or_pos len with h0 | h0
    · exact .inl h0
    · obtain ⟨b, off, spot⟩ := x
      have hc := hcell 0 (by omega)
      have hspot : spot = none := by simpa [Addr.add] using World.cell?_spot hc
      subst hspot
      have hadd : ∀ i, (⟨b, off, none⟩ : Addr).add i = ⟨b, off + i, none⟩ := fun i => by unfold Addr.add; split <;> simp_all
      refine .inr ⟨b, off, rfl, ?_, fun i hi => ?_⟩
      · rw [hadd] at hc; exact cell_lt hc
      · have := hcell i (by omega)
        rw [hadd] at this
        exact this
end Go.Proofs.Ytijggmioknneoaa
