/- GatesApart: what the document fixes; the threads. -/
import Derived.Test.YtmchgcfgfaekaaaSlots2
import Derived.Test.YtmchgcfgfaekaaaOwnL
import Derived.Test.YtmchgcfgfaekaaaMask
import Derived.Deep.LoopGhost
namespace Go.Proofs.Ytmchgcfgfaekaaa
open Go.ChangeShapes Go.WideShapes Go.ChangeAt Go.RowKit
open Go.Maps (Keyed)
set_option linter.unusedVariables false

theorem and_31 (n : Int) : bits .and .i64 n 31 = n % 32 := i64_mask n 5 (by omega)

theorem awake23_any (w : World) : Calls Try.prog 16 #[] w fun e w' => e = .returned (.bool true) ∧ Below w.heap.size w w' := by
  have hR : ∀ k, k < w.heap.size → k < w.heap.size := fun _ h => h
  go_enter Try.func16, Try.ntmps16
  go_wp2_with fail
  refine (newSlots_any (· < w.heap.size) w hR).mono ?_
  rintro e w1 ⟨s, rfl, h1, k1⟩
  have H1 := Lib.hid h1
  clear h1
  go_wp2_with fail
  refine (set_yes (· < w.heap.size) w1 s 0 _ 1 9 31 (by decide) (by omega) (by omega) (by unfold maxLen; omega) H1.out).mono ?_
  rintro e w2 ⟨rfl, h2, k2⟩
  have H2 := Lib.hid h2
  clear h2 H1
  go_wp2_with fail
  refine (set_no w2 s 1 32 9 (by omega)).mono ?_
  rintro e w' ⟨rfl, rfl⟩
  go_wp2_with fail
  refine (set_no w2 s 0 1 9 (by omega)).mono ?_
  rintro e w' ⟨rfl, rfl⟩
  go_wp2_with fail
  refine (get_any (· < w.heap.size) w2 s _ _ 1 31 (by decide) H2.out).mono ?_
  rintro e w' ⟨rfl, rfl⟩
  rw [show getV (putV (fun _ _ => 0) 1 31 9) 1 31 = 9 from rfl]
  go_wp2_with fail
  refine (get_any (· < w.heap.size) w2 s _ _ 2 31 (by decide) H2.out).mono ?_
  rintro e w' ⟨rfl, rfl⟩
  rw [show getV (putV (fun _ _ => 0) 1 31 9) 2 31 = 0 from rfl]
  go_wp2
  go_ret
  exact ⟨rfl, (k1.trans k2).below fun _ h => h⟩

/-- n integers f from a place on. -/
def RowI (w : World) (b off n : Nat) (f : Nat → Int) : Prop := ∀ i, i < n → w.cell? ⟨b, off + i, none⟩ = some (.int .i64 (f i))
/-- A slice of n integers f that came in. -/
def SlI (w : World) (A : Option Addr) (n : Nat) (f : Nat → Int) : Prop := n = 0 ∨ ∃ b off, A = some ⟨b, off, none⟩ ∧ b < w.heap.size ∧ RowI w b off n f

theorem SlI.below {w w' : World} {A : Option Addr} {n : Nat} {f : Nat → Int} (h : SlI w A n f) (hb : Below w.heap.size w w') : SlI w' A n f := by
  rcases h with h | ⟨b, off, hA, hlt, hr⟩
  · exact .inl h
  · exact .inr ⟨b, off, hA, Nat.lt_of_lt_of_le hlt hb.size, fun i hi => (hb.cell (p := ⟨b, off + i, none⟩) hlt).trans (hr i hi)⟩
theorem SlI.keptR {R : Nat → Prop} {w0 w w' : World} {A : Option Addr} {n : Nat} {f : Nat → Int} (h : SlI w0 A n f) (hk : Kept R w0 w) (hR : ∀ k, k < w0.heap.size → R k) : SlI w A n f := by
  rcases h with h | ⟨b, off, hA, hlt, hr⟩
  · exact .inl h
  · exact .inr ⟨b, off, hA, Nat.lt_of_lt_of_le hlt hk.size, fun i hi => (hk.cell (p := ⟨b, off + i, none⟩) (hR b hlt)).trans (hr i hi)⟩

/-- Number j of a list. -/
def nthI (L : List Int) (j : Nat) : Int := L.getD j 0
/-- Is x among the first j of L? -/
def hasI (L : List Int) (j : Nat) (x : Int) : Bool := (L.take j).contains x
theorem hasI_zero (L : List Int) (x : Int) : hasI L 0 x = false := by simp [hasI]
theorem hasI_succ (L : List Int) (j : Nat) (x : Int) (h : j < L.length) : hasI L (j + 1) x = (hasI L j x || nthI L j == x) := by
  have e : L.take (j + 1) = L.take j ++ [L.getD j 0] := by
    rw [List.take_add_one, List.getElem?_eq_getElem h]
    simp only [List.getD, List.getElem?_eq_getElem h, Option.getD_some, Option.toList_some]
  unfold hasI nthI
  rw [e, Bool.eq_iff_iff, Bool.or_eq_true, List.contains_iff_mem, List.mem_append, List.contains_iff_mem, List.mem_singleton, beq_iff_eq]
  exact ⟨fun h => h.imp id Eq.symm, fun h => h.imp id Eq.symm⟩
theorem hasI_mem {L : List Int} {x : Int} : hasI L L.length x = true ↔ x ∈ L := by unfold hasI; rw [List.take_length]; simp


theorem listI {w : World} {base : Nat} {v : Value} {L : List Int} (h : OwnL w base 3 v (L.map (Value.int .i64))) :
    ∃ A cap, v = .slice A L.length cap ∧ L.length ≤ cap ∧ cap ≤ maxLen ∧ (L = [] ∨ ∃ g, A = some ⟨g, 0, none⟩ ∧ base ≤ g ∧ g < w.heap.size ∧ RowI w g 0 L.length (nthI L)) := by
  obtain ⟨A, cap, h1, h2, h3, h4⟩ := h.form
  simp only [List.length_map] at h1 h2 h4
  refine ⟨A, cap, h1, h2, h3, ?_⟩
  rcases h4 with h4 | ⟨g, h4, h5, h6⟩
  · exact .inl (List.map_eq_nil_iff.1 h4)
  · refine .inr ⟨g, h4, h5, h6.1, fun i hi => ?_⟩
    rw [Nat.zero_add, h6.cell hi]
    simp [nthI, List.getD, List.getElem?_eq_getElem hi]


/-- More blocks that slots have nothing of. -/
theorem SlotsAt.reserve {R : Nat → Prop} {w w2 : World} {s n : Nat} {v : Int → Nat → Int} (H : SlotsAt R w s n v) (hb : Below w.heap.size w w2) : SlotsAt (fun k => R k ∨ (w.heap.size ≤ k ∧ k < w2.heap.size)) w2 s n v := by
  obtain ⟨bm, m, f, S, hm, hRs, hRb, hRB, hR⟩ := H
  have h1 := S.slt
  have h2 := S.map.lt
  refine ⟨bm, m, f, S.of_blocks (fun k hk => hb.block k ?_) hb.size, hm, ?_, ?_, fun t B hf => ?_, fun k hk => ?_⟩
  · rcases hk with rfl | rfl | ⟨t, ht⟩
    · exact h1
    · exact h2
    · exact (S.row t k ht).1
  · rintro (h | h)
    · exact hRs h
    · omega
  · rintro (h | h)
    · exact hRb h
    · omega
  · have := (S.row t B hf).1
    rintro (h | h)
    · exact hRB t B hf h
    · omega
  · have := hb.size
    rcases hk with h | h
    · have := hR k h; omega
    · exact h.2

/-- What is set for the first q threads. -/
def valsU (L : List Int) (I : Nat) (v : Int) : Nat → Int → Nat → Int
  | 0 => fun _ _ => 0
  | q + 1 => putV (valsU L I v q) (nthI L q) I (IntKind.u64.wrap (v + q))

theorem nthI_inj {L : List Int} (h : L.Nodup) {i j : Nat} (hi : i < L.length) (hj : j < L.length) (e : nthI L i = nthI L j) : i = j := by
  unfold nthI at e
  simp only [List.getD, List.getElem?_eq_getElem hi, List.getElem?_eq_getElem hj, Option.getD_some] at e
  exact (List.getElem_inj h).1 e

theorem valsU_at {L : List Int} (h : L.Nodup) (I : Nat) (v : Int) : ∀ q, q ≤ L.length → ∀ j, j < q → valsU L I v q (nthI L j) I = IntKind.u64.wrap (v + j)
  | 0, _, j, hj => by omega
  | q + 1, hq, j, hj => by
    show putV (valsU L I v q) (nthI L q) I _ (nthI L j) I = _
    unfold putV
    by_cases e : j = q
    · subst e; rw [if_pos ⟨rfl, rfl⟩]
    · rw [if_neg (fun hh => e (nthI_inj h (by omega) (by omega) hh.1))]
      exact valsU_at h I v q (by omega) j (by omega)

theorem valsU_off (L : List Int) {I K : Nat} (v : Int) (hne : K ≠ I) (t : Int) : ∀ q, valsU L I v q t K = 0
  | 0 => rfl
  | q + 1 => by
    show putV (valsU L I v q) (nthI L q) I _ t K = _
    unfold putV
    rw [if_neg (fun hh => hne hh.2)]
    exact valsU_off L v hne t q

theorem clear_first {L : List Int} (h : L.Nodup) (I : Nat) (v : Int) (h0 : 0 < L.length) : clearV (valsU L I v L.length) (nthI L 0) (nthI L 0) I = 0 := by
  unfold clearV; rw [if_pos rfl]
theorem clear_rest {L : List Int} (h : L.Nodup) (I : Nat) (v : Int) {q : Nat} (h0 : 0 < q) (hq : q < L.length) : clearV (valsU L I v L.length) (nthI L 0) (nthI L q) I = IntKind.u64.wrap (v + q) := by
  unfold clearV
  rw [if_neg (fun e => by have := nthI_inj h hq (by omega) e; omega)]
  exact valsU_at h I v _ (Nat.le_refl _) q hq

theorem getV_nat (v : Int → Nat → Int) (t : Int) (i : Nat) (ht : 0 < t) (hi : i < 32) : getV v t i = v t i := by
  unfold getV
  rw [if_pos ⟨ht, by omega, by omega⟩, Int.toNat_natCast]

theorem nthI_pos {L : List Int} (h : ∀ x ∈ L, 1 ≤ x ∧ x ≤ 65536) {j : Nat} (hj : j < L.length) : 1 ≤ nthI L j ∧ nthI L j ≤ 65536 := by
  unfold nthI
  simp only [List.getD, List.getElem?_eq_getElem hj, Option.getD_some]
  exact h _ (List.getElem_mem hj)

theorem wf_small {t : Int} (h0 : 1 ≤ t) (h1 : t ≤ 65536) : (Lit.int .i64 t).wf = true := by
  simp [Lit.wf, IntKind.min, IntKind.max, IntKind.bits, IntKind.signed]
  omega

theorem infoI64 : (Try.prog.info? 3).map (fun i => (i.zero, i.size, i.bytes)) = some (some (.int .i64 0), 1, 8) := by kernel_rfl

set_option maxRecDepth 100000 in
set_option maxHeartbeats 4000000 in
theorem apart_core (w : World) (A : Option Addr) (n cap : Nat) (f : Nat → Int) (i k v : Int) (hn : n ≤ 9223372036854775807) (hs : SlI w A n f) :
    Calls Try.prog 6 #[.slice A n cap, .int .i64 i, .int .i64 k, .int .u64 v] w fun e w' => e = .returned (.bool true) ∧ Below w.heap.size w w' := by
  have hR : ∀ k, k < w.heap.size → k < w.heap.size := fun _ h => h
  obtain ⟨I, hI⟩ : ∃ I : Nat, i % 32 = I := ⟨(i % 32).toNat, by omega⟩
  obtain ⟨K, hK⟩ : ∃ K : Nat, k % 32 = K := ⟨(k % 32).toNat, by omega⟩
  have hIb := (and_31 i).trans hI
  have hKb := (and_31 k).trans hK
  have hI32 : I < 32 := by omega
  have hK32 : K < 32 := by omega
  clear hI hK
  go_enter Try.func6, Try.ntmps6
  go_wp2_with fail
  refine (newSlots_any (· < w.heap.size) w hR).mono ?_
  rintro e w1 ⟨s, rfl, h1, k1⟩
  have H1 := Lib.hid h1
  have HK1 := Lib.hid k1
  have HS := Lib.hid (hs.keptR (w' := w1) k1 (fun _ h => h))
  clear h1 k1 hs
  go_wp2_with fail
  go_loopw [10, 11] (fun p o wr => ∃ (q : Nat) (L : List Int), q ≤ n ∧ q ≤ 10 ∧ L.length ≤ q ∧ L.Nodup ∧ (∀ x ∈ L, 1 ≤ x ∧ x ≤ 65536) ∧ o = .int .i64 q ∧ OwnL wr w1.heap.size 3 p (L.map (Value.int .i64)) ∧ Below w1.heap.size w1 wr) (fun _ o _ => n - (intOf o).toNat)
  case atStart => exact ⟨0, [], by omega, by omega, by simp, List.nodup_nil, by simp, rfl, OwnL.nil _ _ _, Below.refl _ _⟩
  case round =>
    obtain ⟨q, L, hq, hq10, hL, hnd, hL1, rfl, hown, hb⟩ := hrel
    have HO := Lib.hid hown
    obtain ⟨A1, cap1, rfl, hc1, hc2, hrow⟩ := listI hown
    clear hown
    have HB := Lib.hid hb
    have HL1 := Lib.hid hL1
    have HND := Lib.hid hnd
    have HROW := Lib.hid hrow
    clear hb hL1 hnd hrow
    unfold maxLen at hc2
    have hL10 : L.length ≤ 10 := by omega
    by_cases hlt : q < n ∧ q < 10
    · obtain ⟨hlt, hlt10⟩ := hlt
      obtain ⟨b, off, rfl, hbl, hr⟩ : ∃ b off, A = some ⟨b, off, none⟩ ∧ b < w1.heap.size ∧ RowI w1 b off n f := by
        rcases HS.out with h | h
        · omega
        · exact h
      have hcq := (HB.out.cell (p := ⟨b, off + q, none⟩) hbl).trans (hr q hlt)
      clear hr
      obtain ⟨y, hy⟩ : ∃ y, f q % 65536 = y := ⟨_, rfl⟩
      have hyb := (and_ffff (f q)).trans hy
      have hy0 : 0 ≤ y := by omega
      have hy1 : y ≤ 65535 := by omega
      clear hy
      go_wp2_with fail
      obtain ⟨wo, rfl⟩ : ∃ wo : World, wo = wr := ⟨_, rfl⟩
      go_loop [13, 14] (fun p o => ∃ j : Nat, j ≤ L.length ∧ p = .bool (hasI L j (y + 1)) ∧ o = .int .i64 j) (fun _ o => L.length - (intOf o).toNat)
      case atStart => exact ⟨0, by omega, by rw [hasI_zero], rfl⟩
      case round =>
        obtain ⟨j, hj, rfl, rfl⟩ := hrel
        by_cases hjl : j < L.length
        · obtain ⟨g, rfl, hg0, hg1, hri⟩ : ∃ g, A1 = some ⟨g, 0, none⟩ ∧ w1.heap.size ≤ g ∧ g < wo.heap.size ∧ RowI wo g 0 L.length (nthI L) := by
            rcases HROW.out with h | h
            · subst h; simp at hjl
            · exact h
          have hcj := hri j hjl
          simp only [Nat.zero_add] at hcj
          have hcon := Lib.hid (hasI_succ L j (y + 1) hjl)
          clear hri
          cases hb : hasI L j (y + 1)
          · go_wp2
            go_round
            case rel => exact ⟨j + 1, by omega, by rw [hcon.out, hb]; rfl, by go_num⟩
            case measure => simp [intOf]; omega
          · go_wp2
            go_round
            case rel => exact ⟨j + 1, by omega, by rw [hcon.out, hb]; rfl, by go_num⟩
            case measure => simp [intOf]; omega
        · obtain rfl : j = L.length := by omega
          clear hjl hj
          cases hb : hasI L L.length (y + 1)
          · have HM := Lib.hid hb
            go_wp2_with (at_builtin; refine wpList_appL rfl _ _ 35 35 rfl w1.heap.size 3 (.int .i64 0) 8 Try.underlying35 infoI64 rfl _ (L.map (Value.int .i64)) rfl (HO.out.alloc _) _ rfl [.int .i64 (y + 1)] (src_one Try.underlying35 rfl (by simp [go_sem]) _) (by simp [maxLen]; omega) (by simp; omega) (by have := HB.out.size; simp; omega) ?_; intro A2 cap2 w2 hown2 hg2 hat2)
            go_roundw
            case rel =>
              have hnm : y + 1 ∉ L := fun h => by have := hasI_mem.2 h; rw [HM.out] at this; cases this
              refine ⟨q + 1, L ++ [y + 1], by omega, by omega, by simp; omega, List.nodup_append.2 ⟨HND.out, List.nodup_cons.2 ⟨by simp, List.nodup_nil⟩, fun a ha b hb' => by simp at hb'; subst hb'; exact fun e => hnm (e ▸ ha)⟩, fun x hx => ?_, by go_num, ?_, ?_⟩
              · rcases List.mem_append.1 hx with h | h
                · exact HL1.out x h
                · simp at h; subst h; omega
              · rw [List.map_append]
                simp only [List.length_map] at hown2
                exact hown2
              · exact (HO.out.alloc _).grew (HB.out.alloc HB.out.size _) (Nat.le_refl _) hg2
            case measure => simp [intOf]; omega
          · go_wp2
            go_roundw
            case rel => exact ⟨q + 1, L, by omega, by omega, by omega, HND.out, HL1.out, by go_num, HO.out, HB.out⟩
            case measure => simp [intOf]; omega
    · have H2 := Lib.hid (H1.out.reserve HB.out)
      clear H1
      have hor : n ≤ q ∨ (q < n ∧ 10 ≤ q) := by omega
      clear hlt
      generalize hRR : (fun k => k < w.heap.size ∨ (w1.heap.size ≤ k ∧ k < wr.heap.size)) = R at *
      have hRw : ∀ k, k < w.heap.size → R k := fun k h => by rw [← hRR]; exact .inl h
      have hRg : ∀ g, w1.heap.size ≤ g → g < wr.heap.size → R g := fun g h1 h2 => by rw [← hRR]; exact .inr ⟨h1, h2⟩
      have HRW := Lib.hid hRw
      have HRG := Lib.hid hRg
      clear hRR hRw hRg
      have hW : Below w.heap.size w wr := (HK1.out.below (fun _ h => h)).trans (HB.out.mono HK1.out.size)
      have HW := Lib.hid hW
      clear hW HK1 HB HS HO
      have hLm : (L.length : Int) ≤ 10 := by omega
      rcases hor with hx | ⟨hx, hx'⟩
      all_goals
        go_wp2_with fail
        obtain ⟨wo, rfl⟩ : ∃ wo : World, wo = wr := ⟨_, rfl⟩
        go_loopw [15] (fun o wr => ∃ q : Nat, q ≤ L.length ∧ o = .int .i64 q ∧ SlotsAt R wr s q (valsU L I v q) ∧ Kept R wo wr) (fun o _ => L.length - (intOf o).toNat)
        case atStart => exact ⟨0, Nat.zero_le _, rfl, H2.out, Kept.refl _ _⟩
        case round =>
          obtain ⟨q', hq', rfl, hS, hkk⟩ := hrel
          have HSS := Lib.hid hS
          have HKK := Lib.hid hkk
          clear hS hkk
          by_cases hlt : q' < L.length
          · obtain ⟨g, rfl, hg0, hg1, hri⟩ : ∃ g, A1 = some ⟨g, 0, none⟩ ∧ w1.heap.size ≤ g ∧ g < wo.heap.size ∧ RowI wo g 0 L.length (nthI L) := by
              rcases HROW.out with h | h
              · subst h; simp at hlt
              · exact h
            have hcj := hri q' hlt
            simp only [Nat.zero_add] at hcj
            have hcr := (HKK.out.cell (p := ⟨g, q', none⟩) (HRG.out g hg0 hg1)).trans hcj
            obtain ⟨t1, t2⟩ := nthI_pos HL1.out hlt
            clear hri hcj
            go_wp2_with fail
            refine (set_yes R wr s q' _ (nthI L q') _ I (wf_small t1 t2) (by omega) hI32 (by unfold maxLen; omega) HSS.out).mono ?_
            rintro e w3 ⟨rfl, hS3, hk3⟩
            have HS3 := Lib.hid hS3
            have HK3 := Lib.hid (HKK.out.trans hk3)
            clear hS3 hk3 HSS HKK
            go_wp2
            go_roundw
            case rel => exact ⟨q' + 1, by omega, by go_num, HS3.out, HK3.out⟩
            case measure => simp [intOf]; omega
          · obtain rfl : q' = L.length := by omega
            clear hlt hq'
            go_wp2_with fail
            obtain ⟨wp, rfl⟩ : ∃ wp : World, wp = wr := ⟨_, rfl⟩
            go_loop [16] (fun o => ∃ q : Nat, q ≤ L.length ∧ o = .int .i64 q) (fun o => L.length - (intOf o).toNat)
            case atStart => exact ⟨0, Nat.zero_le _, rfl⟩
            case round =>
              obtain ⟨q', hq', rfl⟩ := hrel
              by_cases hlt : q' < L.length
              · obtain ⟨g, rfl, hg0, hg1, hri⟩ : ∃ g, A1 = some ⟨g, 0, none⟩ ∧ w1.heap.size ≤ g ∧ g < wo.heap.size ∧ RowI wo g 0 L.length (nthI L) := by
                  rcases HROW.out with h | h
                  · subst h; simp at hlt
                  · exact h
                have hcj := hri q' hlt
                simp only [Nat.zero_add] at hcj
                have hcr := (HKK.out.cell (p := ⟨g, q', none⟩) (HRG.out g hg0 hg1)).trans hcj
                obtain ⟨t1, t2⟩ := nthI_pos HL1.out hlt
                clear hri hcj
                have e1 := (getV_nat (valsU L I v L.length) (nthI L q') I (by omega) hI32).trans (valsU_at HND.out I v L.length (Nat.le_refl _) q' hlt)
                have E1 := Lib.hid e1
                clear e1
                go_wp2_with fail
                refine (get_any R wp s _ _ (nthI L q') I (wf_small t1 t2) HSS.out).mono ?_
                rintro e w' ⟨rfl, rfl⟩
                rw [E1.out]
                by_cases hIK : K = I
                · subst hIK
                  go_wp2
                  go_round
                  case rel => exact ⟨q' + 1, by omega, by go_num⟩
                  case measure => simp [intOf]; omega
                · have hne : ((I : Int) != (K : Int)) = true := by rw [bne_iff_ne]; omega
                  have E2 := Lib.hid ((getV_nat (valsU L I v L.length) (nthI L q') K (by omega) hK32).trans (valsU_off L v hIK _ _))
                  go_wp2_with fail
                  refine (get_any R wp s _ _ (nthI L q') K (wf_small t1 t2) HSS.out).mono ?_
                  rintro e w' ⟨rfl, rfl⟩
                  rw [E2.out]
                  go_wp2
                  go_round
                  case rel => exact ⟨q' + 1, by omega, by go_num⟩
                  case measure => simp [intOf]; omega
              · obtain rfl : q' = L.length := by omega
                clear hlt hq'
                by_cases hL0 : L.length = 0
                · have hz : ((L.length : Int) == 0) = true := by rw [beq_iff_eq]; omega
                  go_wp2_with fail
                  refine (awake23_any _).mono ?_
                  rintro e w5 ⟨rfl, hb5⟩
                  have hb6 := (HW.out.trans (HKK.out.below (HRW.out))).trans (hb5.mono (HW.out.trans (HKK.out.below (HRW.out))).size)
                  clear hb5
                  go_wp2
                  go_ret
                  exact ⟨rfl, by go_grown⟩
                · have hz : ((L.length : Int) == 0) = false := by rw [beq_eq_false_iff_ne]; omega
                  have hlt : 0 < L.length := by omega
                  obtain ⟨g, rfl, hg0, hg1, hri⟩ : ∃ g, A1 = some ⟨g, 0, none⟩ ∧ w1.heap.size ≤ g ∧ g < wo.heap.size ∧ RowI wo g 0 L.length (nthI L) := by
                    rcases HROW.out with h | h
                    · subst h; simp at hlt
                    · exact h
                  have HRI := Lib.hid hri
                  clear hri HROW hL0
                  have hcr := (HKK.out.cell (p := ⟨g, 0, none⟩) (HRG.out g hg0 hg1)).trans (HRI.out 0 hlt)
                  obtain ⟨t1, t2⟩ := nthI_pos HL1.out hlt
                  go_wp2_with fail
                  refine (clear_any R wp s _ _ (nthI L 0) (wf_small t1 t2) HSS.out).mono ?_
                  rintro e w3 ⟨rfl, hS3, hk3⟩
                  have HS3 := Lib.hid hS3
                  have HK3 := Lib.hid (HKK.out.trans hk3)
                  clear hS3 hk3 HSS HKK hcr
                  go_wp2_with fail
                  obtain ⟨wq, rfl⟩ : ∃ wq : World, wq = w3 := ⟨_, rfl⟩
                  go_loop [17] (fun o => ∃ q : Nat, q ≤ L.length ∧ o = .int .i64 q) (fun o => L.length - (intOf o).toNat)
                  case atStart => exact ⟨0, Nat.zero_le _, rfl⟩
                  case round =>
                    obtain ⟨q', hq', rfl⟩ := hrel
                    by_cases hlq : q' < L.length
                    · have hcr := (HK3.out.cell (p := ⟨g, 0 + q', none⟩) (HRG.out g hg0 hg1)).trans (HRI.out q' hlq)
                      simp only [Nat.zero_add] at hcr
                      obtain ⟨u1, u2⟩ := nthI_pos HL1.out hlq
                      by_cases hq0 : q' = 0
                      · subst hq0
                        have E1 := Lib.hid ((getV_nat (clearV (valsU L I v L.length) (nthI L 0)) (nthI L 0) I (by omega) hI32).trans (clear_first HND.out I v hlt))
                        go_wp2_with fail
                        refine (get_any R wq s _ _ (nthI L 0) I (wf_small t1 t2) HS3.out).mono ?_
                        rintro e w' ⟨rfl, rfl⟩
                        rw [E1.out]
                        go_wp2
                        go_round
                        case rel => exact ⟨1, by omega, by first | rfl | go_num⟩
                        case measure => simp [intOf]; omega
                      · have E1 := Lib.hid ((getV_nat (clearV (valsU L I v L.length) (nthI L 0)) (nthI L q') I (by omega) hI32).trans (clear_rest HND.out I v (by omega) hlq))
                        have hz0 : ((q' : Int) == 0) = false := by rw [beq_eq_false_iff_ne]; omega
                        go_wp2_with fail
                        refine (get_any R wq s _ _ (nthI L q') I (wf_small u1 u2) HS3.out).mono ?_
                        rintro e w' ⟨rfl, rfl⟩
                        rw [E1.out]
                        go_wp2
                        go_round
                        case rel => exact ⟨q' + 1, by omega, by go_num⟩
                        case measure => simp [intOf]; omega
                    · obtain rfl : q' = L.length := by omega
                      clear hlq hq'
                      have hcr := (HK3.out.cell (p := ⟨g, 0, none⟩) (HRG.out g hg0 hg1)).trans (HRI.out 0 hlt)
                      go_wp2_with fail
                      refine (set_yes R wq s _ _ (nthI L 0) _ K (wf_small t1 t2) (by omega) hK32 (by unfold maxLen; omega) HS3.out).mono ?_
                      rintro e w4 ⟨rfl, hS4, hk4⟩
                      have HS4 := Lib.hid hS4
                      have HK4 := Lib.hid (HK3.out.trans hk4)
                      clear hS4 hk4 HS3 HK3 hcr
                      go_wp2_with fail
                      refine (free_yes R w4 s _ I _ hI32 HS4.out).mono ?_
                      rintro e w5 ⟨rfl, hS5, hk5⟩
                      have HS5 := Lib.hid hS5
                      have HK5 := Lib.hid (HK4.out.trans hk5)
                      clear hS5 hk5 HS4 HK4
                      go_wp2_with fail
                      obtain ⟨wr5, rfl⟩ : ∃ wr5 : World, wr5 = w5 := ⟨_, rfl⟩
                      go_loop [19] (fun o => ∃ q : Nat, q ≤ L.length ∧ o = .int .i64 q) (fun o => L.length - (intOf o).toNat)
                      case atStart => exact ⟨0, Nat.zero_le _, rfl⟩
                      case round =>
                        obtain ⟨q', hq', rfl⟩ := hrel
                        by_cases hlq : q' < L.length
                        · have hcr := (HK5.out.cell (p := ⟨g, 0 + q', none⟩) (HRG.out g hg0 hg1)).trans (HRI.out q' hlq)
                          simp only [Nat.zero_add] at hcr
                          obtain ⟨u1, u2⟩ := nthI_pos HL1.out hlq
                          have E1 := Lib.hid ((getV_nat (freeV (putV (clearV (valsU L I v L.length) (nthI L 0)) (nthI L 0) K 9) I) (nthI L q') I (by omega) hI32).trans (by unfold freeV; rw [if_pos rfl]))
                          go_wp2_with fail
                          refine (get_any R wr5 s _ _ (nthI L q') I (wf_small u1 u2) HS5.out).mono ?_
                          rintro e w' ⟨rfl, rfl⟩
                          rw [E1.out]
                          go_wp2
                          go_round
                          case rel => exact ⟨q' + 1, by omega, by go_num⟩
                          case measure => simp [intOf]; omega
                        · obtain rfl : q' = L.length := by omega
                          clear hlq hq'
                          have hcr := (HK5.out.cell (p := ⟨g, 0, none⟩) (HRG.out g hg0 hg1)).trans (HRI.out 0 hlt)
                          have hb6 := HW.out.trans (HK5.out.below HRW.out)
                          have HB6 := Lib.hid hb6
                          clear hb6
                          by_cases hIK : K = I
                          · subst hIK
                            go_wp2_with fail
                            refine (awake23_any _).mono ?_
                            rintro e w7 ⟨rfl, hb7⟩
                            have hb8 := HB6.out.trans (hb7.mono HB6.out.size)
                            clear hb7
                            go_wp2
                            go_ret
                            exact ⟨rfl, by go_grown⟩
                          · have hne : ((I : Int) == (K : Int)) = false := by rw [beq_eq_false_iff_ne]; omega
                            have E2 := Lib.hid ((getV_nat (freeV (putV (clearV (valsU L I v L.length) (nthI L 0)) (nthI L 0) K 9) I) (nthI L 0) K (by omega) hK32).trans (by unfold freeV putV; rw [if_neg hIK, if_pos ⟨rfl, rfl⟩]))
                            go_wp2_with fail
                            refine (get_any R wr5 s _ _ (nthI L 0) K (wf_small t1 t2) HS5.out).mono ?_
                            rintro e w' ⟨rfl, rfl⟩
                            rw [E2.out]
                            go_wp2_with fail
                            refine (awake23_any _).mono ?_
                            rintro e w7 ⟨rfl, hb7⟩
                            have hb8 := HB6.out.trans (hb7.mono HB6.out.size)
                            clear hb7
                            go_wp2
                            go_ret
                            exact ⟨rfl, by go_grown⟩
end Go.Proofs.Ytmchgcfgfaekaaa
namespace Go.Proofs.Ytmchgcfgfaekaaa
open Go.ChangeShapes Go.WideShapes Go.ChangeAt Go.RowKit

theorem cell_lt {w : World} {b o : Nat} {v : Value} (h : w.cell? ⟨b, o, none⟩ = some v) : b < w.heap.size := by
  rcases Nat.lt_or_ge b w.heap.size with hlt | hge
  · exact hlt
  · simp [World.cell?, Array.getElem?_eq_none hge] at h

theorem slI_of {w : World} {a : Option Addr} {len cap : Nat} {zs : List Int} (h : (a = none ∧ len = 0 ∧ cap = 0 ∧ zs = []) ∨
    ∃ x, a = some x ∧ len ≤ cap ∧ cap ≤ maxLen ∧ zs.length = cap ∧ (∀ i, i < zs.length → w.cell? (x.add i) = some (.int .i64 (zs.getD i 0))) ∧ ∀ n ∈ zs, (Lit.int .i64 n).wf = true) :
    len ≤ 9223372036854775807 ∧ SlI w a len (fun i => zs.getD i 0) := by
  rcases h with ⟨rfl, rfl, rfl, rfl⟩ | ⟨x, rfl, hl, hm, hz, hcell, hwz⟩
  · exact ⟨by omega, .inl rfl⟩
  · refine ⟨by unfold maxLen at hm; omega, ?_⟩
    rcases Nat.eq_zero_or_pos len with h0 | h0
    · exact .inl h0
    · obtain ⟨b, off, spot⟩ := x
      have hc := hcell 0 (by omega)
      have hspot : spot = none := by simpa [Addr.add] using World.cell?_spot hc
      subst hspot
      have hadd : ∀ i, (⟨b, off, none⟩ : Addr).add i = ⟨b, off + i, none⟩ := fun i => by unfold Addr.add; split <;> simp_all
      refine .inr ⟨b, off, rfl, ?_, fun i hi => ?_⟩
      · rw [hadd] at hc; exact cell_lt hc
      · have := hcell i (by omega)
        rw [hadd] at this
        exact this
end Go.Proofs.Ytmchgcfgfaekaaa
