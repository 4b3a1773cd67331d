/- package rel: Apply, Sites. -/
import Derived.Test.YtcommphfjkggkaaRelApply
namespace Go.Proofs.Ytcommphfjkggkaa
open Go.ChangeShapes Go.WideShapes Go.ChangeAt Go.RowKit
set_option linter.unusedVariables false

/-- A slice of n bytes f, new since w0. -/
def ResB (w0 w : World) (A : Option Addr) (n cap : Nat) (f : Nat → Int) : Prop :=
  n ≤ cap ∧ cap ≤ maxLen ∧ (n = 0 ∨ ∃ g, A = some ⟨g, 0, none⟩ ∧ w0.heap.size ≤ g ∧ Own w g n (fun i => .int .u8 (f i)))

theorem ResB.sl {w0 w : World} {A : Option Addr} {n cap : Nat} {f : Nat → Int} (h : ResB w0 w A n cap f) : SlB w A n f := by
  rcases h.2.2 with h | ⟨g, rfl, _, ho⟩
  · exact .inl h
  · exact .inr ⟨g, 0, rfl, ho.1, own_row ho (fun i _ => rfl)⟩

def applyI (n : Nat) (d : Int) (f : Nat → Int) (l : List Site) : Nat → Int := l.foldl (addI n d) f
theorem applyI255 {n : Nat} {d : Int} : ∀ (l : List Site) {f : Nat → Int}, Bytes255 f → Bytes255 (applyI n d f l)
  | [], _, hf => hf
  | x :: l, f, hf => applyI255 l (f := addI n d f x) (addI255 hf x)

def ApplyR (w w' : World) (n : Nat) (f : Nat → Int) (e : Ending) : Prop := ∃ A cap, e = .returned (.slice A n cap) ∧ ResB w w' A n cap f ∧ Below w.heap.size w w'

theorem addI_zero (d : Int) (f : Nat → Int) (x : Site) (h : relLen x.1 ≠ 0 → ¬ (0 ≤ x.2 ∧ x.2 + relLen x.1 ≤ 0)) : addI 0 d f x = f := by
  unfold addI
  exact if_neg (fun ⟨h1, h2, h3⟩ => h h1 ⟨h2, h3⟩)

set_option maxRecDepth 100000 in
theorem add_zero (A : Option Addr) (cap : Nat) (k r d : Int) (w : World) (r0 : -9223372036854775808 ≤ r) (r1 : r ≤ 9223372036854775807) :
    Calls Try.prog 30 #[.slice A 0 cap, .agg #[.int .i64 k, .int .i64 r], .int .u64 d] w fun e w' => e = .returned (.tuple #[]) ∧ Below w.heap.size w w' := by
  have HB0 := Lib.hid (show Below w.heap.size w (w.alloc (.cells #[.int .i64 k, .int .i64 r] 30)) from (Below.refl w.heap.size w).alloc (Nat.le_refl _) _)
  have HT0 := Lib.hid (own_two w (.int .i64 k) (.int .i64 r) 30)
  have hlb := relLen_bd k
  go_enter Try.func30, Try.ntmps30
  go_wp2_with fail
  go_fit (length_any k r (w.alloc (.cells #[.int .i64 k, .int .i64 r] 30)))
  rintro e w1 ⟨rfl, hb1⟩
  have HB1 := Lib.hid (HB0.out.trans (hb1.mono (by simp)))
  have HT1 := Lib.hid (HT0.out.below hb1 (by simp))
  clear hb1 HT0 HB0
  have c0 := HT1.out.cell (i := 0) (by omega)
  have c1 := HT1.out.cell (i := 1) (by omega)
  simp only [if_pos, if_neg, Nat.one_ne_zero] at c0 c1
  obtain ⟨L, hL⟩ : ∃ L, relLen k = L := ⟨_, rfl⟩
  rw [hL] at hlb
  try simp only [hL]
  clear hL
  obtain ⟨l0, l1⟩ := hlb
  by_cases e0 : L = 0
  · subst e0
    go_wp2
    exact bodyPost_ret (v := .tuple #[]) (by simp [results, Try.results30, go_sem]) rfl ⟨rfl, HB1.out⟩
  · have e1 : (L == 0) = false := by simpa using e0
    have hin := rowIn_any A 0 cap r L false w1 (by omega) (by omega) (by omega) ⟨(fun h => by cases h), fun h => by omega⟩
    have HIN := Lib.hid hin
    clear hin
    go_wp2_with fail
    go_fit HIN.out
    rintro e w' ⟨rfl, rfl⟩
    go_wp2_with fail
    exact bodyPost_ret (v := .tuple #[]) (by simp [results, Try.results30, go_sem]) rfl ⟨rfl, HB1.out⟩

/-- A site out of a slice, at the walk's addresses. -/
theorem SlT.site {w : World} {L : Option Addr} {l : List Site} (h : SlT relC 2 w L l) {i : Nat} (hi : i < l.length) : ∃ b off, L = some ⟨b, off, none⟩ ∧ b < w.heap.size ∧ w.cell? ⟨b, off + i * 2, none⟩ = some (.int .i64 l[i].1) ∧ w.cell? ⟨b, off + i * 2 + 1, none⟩ = some (.int .i64 l[i].2) := by
  rcases h with h | ⟨b, off, rfl, hlt, hc⟩
  · rw [h] at hi; simp at hi
  · exact ⟨b, off, rfl, hlt, by have := hc i hi 0 _ (by simp [relC]; rfl); simpa using this, by have := hc i hi 1 _ (by simp [relC]; rfl); rwa [← Nat.add_assoc] at this⟩

theorem applyI_snoc (n : Nat) (d : Int) (f : Nat → Int) (l : List Site) {i : Nat} (hi : i < l.length) : applyI n d f (l.take (i + 1)) = addI n d (applyI n d f (l.take i)) l[i] := by
  unfold applyI
  rw [List.take_succ_eq_append_getElem hi, List.foldl_append]
  rfl

set_option maxRecDepth 100000 in
theorem apply_any (A : Option Addr) (n cap : Nat) (f : Nat → Int) (L : Option Addr) (l : List Site) (lc : Nat) (d : Int) (w : World) (hl : n ≤ cap) (hc : n ≤ 140737488355328) (hb : Bytes255 f) (hs : SlB w A n f)
    (hL : SlT relC 2 w L l) (hll : l.length ≤ 9223372036854775807) (hk : ∀ x ∈ l, -9223372036854775808 ≤ x.2 ∧ x.2 ≤ 9223372036854775807) (d0 : 0 ≤ d) (d1 : d ≤ 18446744073709551615) :
    Calls Try.prog 13 #[.slice A n cap, .slice L l.length lc, .int .u64 d] w fun e w' => ApplyR w w' n (applyI n d f l) e := by
  have HS := Lib.hid hs
  have HLS := Lib.hid hL
  have HB := Lib.hid hb
  have HK := Lib.hid hk
  clear hs hL hb hk
  cases A with
  | none =>
    obtain rfl : n = 0 := by
      rcases HS.out with h | ⟨b, off, ha, _⟩
      · exact h
      · cases ha
    have hcl := Try.bytes_Clone_nil 0 cap w
    have HCL := Lib.hid hcl
    clear hcl
    go_enter Try.func13, Try.ntmps13
    go_wp2_with fail
    go_fit HCL.out
    rintro e w1 ⟨rfl, rfl⟩
    go_wp2_with fail
    go_loopw [14] (fun o wr => ∃ i : Nat, i ≤ l.length ∧ o = .int .i64 i ∧ Below w1.heap.size w1 wr) (fun o _ => l.length - (intOf o).toNat)
    case atStart => exact ⟨0, by omega, rfl, Below.refl _ _⟩
    case round =>
      obtain ⟨i, hi, rfl, hbw⟩ := hrel
      have HBW := Lib.hid hbw
      clear hbw
      by_cases hlt : i < l.length
      · obtain ⟨b, off, rfl, hbl, q0, q1⟩ := (HLS.out.below HBW.out).site hlt
        obtain ⟨kx, hkx⟩ := HK.out l[i] (List.getElem_mem hlt)
        have HX := Lib.hid (And.intro kx hkx)
        clear kx hkx
        generalize l[i] = x at *
        obtain ⟨k, r⟩ := x
        simp only at q0 q1
        obtain ⟨x0, x1⟩ := HX.out
        have HBN := Lib.hid (HBW.out.alloc (by have := HBW.out.size; omega) (.cells #[.int .i64 k, .int .i64 r] 30))
        go_wp2_with fail
        go_fit (add_zero none 0 k r d _ x0 x1)
        rintro e w2 ⟨rfl, hb2⟩
        have HB2 := Lib.hid (HBN.out.trans (hb2.mono HBN.out.size))
        clear hb2
        go_wp2_with fail
        go_roundw
        case rel => exact ⟨i + 1, by omega, by go_num, HB2.out⟩
        case measure => simp [intOf]; omega
      · obtain rfl : i = l.length := by omega
        go_wp2_with fail
        go_ret
        exact ⟨none, 0, rfl, ⟨Nat.le_refl _, by omega, .inl rfl⟩, HBW.out⟩
  | some a =>
    obtain ⟨xs, hxl, hxc, hxf⟩ : ∃ xs : List Int, xs.length = n ∧ (∀ i, i < n → w.cell? (a.add i) = some (.int .u8 (xs.getD i 0))) ∧ ∀ i, i < n → xs.getD i 0 = f i := by
      refine ⟨(List.range n).map f, by simp, fun i hi => ?_, fun i hi => by simp [hi]⟩
      rcases HS.out with h | ⟨b, off, ha, hbl, hr⟩
      · omega
      · injection ha with ha
        subst ha
        have hadd : (⟨b, off, none⟩ : Addr).add i = ⟨b, off + i, none⟩ := by unfold Addr.add; split <;> simp_all
        rw [hadd, hr i hi]
        simp [hi]
    have hcl := Try.bytes_Clone_at a n cap xs w hxl (by omega) hxc
    have HCL := Lib.hid hcl
    have HXF := Lib.hid hxf
    have HXL := Lib.hid hxl
    clear hcl hxf hxl hxc
    go_enter Try.func13, Try.ntmps13
    go_wp2_with fail
    go_fit HCL.out
    rintro e w1 ⟨v', rfl, hown, hnn, hb1⟩
    obtain ⟨A', cap', rfl, hres⟩ : ∃ A' cap', v' = .slice A' n cap' ∧ ResB w w1 A' n cap' f := by
      rcases hown.2 with ⟨h1, h2⟩ | ⟨g, cap2, cur, h1, hbg, hh, h2, h3, h4, h5⟩
      · exact absurd h1 hnn
      · refine ⟨_, cap2, h1, h2, h3, ?_⟩
        by_cases hn : n = 0
        · exact .inl hn
        · refine .inr ⟨g, rfl, hbg, ?_⟩
          subst h1
          obtain ⟨g', hA, _, ho⟩ := Own.of_own (f := fun i => .int .u8 (f i)) hown (by omega) (fun i hi => by
            rw [List.getElem?_map, List.getElem?_eq_getElem (by rw [HXL.out]; exact hi)]
            have := HXF.out i hi
            rw [List.getD_eq_getElem?_getD, List.getElem?_eq_getElem (by rw [HXL.out]; exact hi)] at this
            simpa using this)
          injection hA with hA
          injection hA with hA
          subst hA
          exact ho
    have HR := Lib.hid hres
    have HB1 := Lib.hid hb1
    clear hres hb1 hown hnn
    go_wp2_with fail
    have hN := HR.out.2.1
    go_loopw [14] (fun o wr => ∃ i : Nat, i ≤ l.length ∧ o = .int .i64 i ∧ ResB w wr A' n cap' (applyI n d f (l.take i)) ∧ Below w.heap.size w wr) (fun o _ => l.length - (intOf o).toNat)
    case atStart => exact ⟨0, by omega, rfl, by simpa [applyI] using HR.out, HB1.out⟩
    case round =>
      obtain ⟨i, hi, rfl, hr, hbw⟩ := hrel
      have HRR := Lib.hid hr
      have HBW := Lib.hid hbw
      clear hr hbw HR HB1
      by_cases hlt : i < l.length
      · obtain ⟨b, off, rfl, hbl, q0, q1⟩ := (HLS.out.below HBW.out).site hlt
        have hsn := applyI_snoc n d f l hlt
        obtain ⟨kx, hkx⟩ := HK.out l[i] (List.getElem_mem hlt)
        have HX := Lib.hid (And.intro kx hkx)
        clear kx hkx
        generalize l[i] = x at *
        obtain ⟨k, r⟩ := x
        simp only at q0 q1
        have HSN := Lib.hid hsn
        clear hsn
        obtain ⟨x0, x1⟩ := HX.out
        have HBN := Lib.hid (HBW.out.alloc (by have := HBW.out.size; omega) (.cells #[.int .i64 k, .int .i64 r] 30))
        go_wp2_with fail
        by_cases hn0 : n = 0
        · subst hn0
          go_fit (add_zero A' cap' k r d _ x0 x1)
          rintro e w2 ⟨rfl, hb2⟩
          have HB2 := Lib.hid (HBN.out.trans (hb2.mono HBN.out.size))
          clear hb2
          go_wp2_with fail
          go_roundw
          case rel => exact ⟨i + 1, by omega, by go_num, ⟨HRR.out.1, HRR.out.2.1, .inl rfl⟩, HB2.out⟩
          case measure => simp [intOf]; omega
        · obtain ⟨g, rfl, hg0, hog⟩ : ∃ g, A' = some ⟨g, 0, none⟩ ∧ w.heap.size ≤ g ∧ Own wr g n (fun q => .int .u8 (applyI n d f (l.take i) q)) := by
            rcases HRR.out.2.2 with h | h
            · exact absurd h hn0
            · exact h
          have HOG := Lib.hid (hog.alloc (.cells #[.int .i64 k, .int .i64 r] 30))
          clear hog
          go_fit (add_any g n cap' (applyI n d f (l.take i)) k r d _ (by have := HRR.out.1; have := HRR.out.2.1; unfold maxLen at this; omega) (applyI255 _ HB.out) HOG.out x0 x1 d0 d1)
          rintro e w2 ⟨rfl, ho2, hg2⟩
          have HO2 := Lib.hid ho2
          have HB2 := Lib.hid (HBN.out.trans ⟨hg2.os, hg2.tape, hg2.output, hg2.size, fun k hk => hg2.block k (by have := HBN.out.size; omega) (fun h => by injection h with h; omega)⟩)
          clear ho2 hg2
          go_wp2_with fail
          go_roundw
          case rel => exact ⟨i + 1, by omega, by go_num, ⟨HRR.out.1, HRR.out.2.1, .inr ⟨g, rfl, hg0, by rw [HSN.out]; exact HO2.out⟩⟩, HB2.out⟩
          case measure => simp [intOf]; omega
      · obtain rfl : i = l.length := by omega
        rw [List.take_length] at HRR
        go_wp2_with fail
        go_ret
        exact ⟨A', cap', rfl, HRR.out, HBW.out⟩

def spanC (x : Site) : List Value := [.int .i64 x.1, .int .i64 x.2]
theorem spanC_len (x : Site) : (spanC x).length = 2 := rfl
theorem spanC_one (x : Site) : ∀ u ∈ spanC x, u.oneCell' = true := relC_one x
theorem infoSpan : (Try.prog.info? 53).map (fun i => (i.zero, i.size, i.bytes)) = some (some (.agg #[.int .i64 0, .int .i64 0]), 2, 16) := by kernel_rfl

/-- Which bytes sites have. -/
def spansI (l : List Site) : List Site := l.flatMap fun x => if 0 < relLen x.1 then [(x.2, relLen x.1)] else []

def SitesR (w w' : World) (l : List Site) (e : Ending) : Prop := ∃ A cap, e = .returned (.slice A (spansI l).length cap) ∧ OwnT spanC 2 w' w.heap.size 53 (.slice A (spansI l).length cap) (spansI l) ∧ Below w.heap.size w w'

theorem spansI_le : ∀ (l : List Site), (spansI l).length ≤ l.length
  | [] => by simp [spansI]
  | x :: l => by
    have := spansI_le l
    unfold spansI at this ⊢
    rw [List.flatMap_cons, List.length_append]
    have h2 : (if 0 < relLen x.1 then [(x.2, relLen x.1)] else ([] : List Site)).length ≤ 1 := by split <;> simp
    rw [List.length_cons]
    omega
theorem spansI_snoc (l : List Site) {i : Nat} (hi : i < l.length) : spansI (l.take (i + 1)) = spansI (l.take i) ++ (if 0 < relLen l[i].1 then [(l[i].2, relLen l[i].1)] else []) := by
  unfold spansI
  rw [List.take_succ_eq_append_getElem hi, List.flatMap_append]
  simp

set_option maxRecDepth 100000 in
theorem sites_any (L : Option Addr) (l : List Site) (lc : Nat) (w : World) (hL : SlT relC 2 w L l) (hll : l.length ≤ 1000000) :
    Calls Try.prog 11 #[.slice L l.length lc] w fun e w' => SitesR w w' l e := by
  have HLS := Lib.hid hL
  clear hL
  have HB1 := Lib.hid (show Below w.heap.size w (w.alloc (.cells #[] 53)) from (Below.refl w.heap.size w).alloc (Nat.le_refl _) _)
  have HO1 := Lib.hid (OwnT.made (C := spanC) (sz := 2) w w.heap.size (Nat.le_refl _) 53)
  go_enter Try.func11, Try.ntmps11
  go_wp2_with fail
  go_loopw [3, 10] (fun v3 o wr => ∃ (i : Nat) (A : Option Addr) (cap : Nat), i ≤ l.length ∧ o = .int .i64 i ∧ v3 = .slice A (spansI (l.take i)).length cap ∧ OwnT spanC 2 wr w.heap.size 53 (.slice A (spansI (l.take i)).length cap) (spansI (l.take i)) ∧ Below w.heap.size w wr) (fun _ o _ => l.length - (intOf o).toNat)
  case atStart => exact ⟨0, _, 0, by omega, rfl, rfl, HO1.out, HB1.out⟩
  case round =>
    obtain ⟨i, A, cap, hi, rfl, rfl, hr, hbw⟩ := hrel
    have HRR := Lib.hid hr
    have HBW := Lib.hid hbw
    clear hr hbw HO1 HB1
    by_cases hlt : i < l.length
    · obtain ⟨b, off, rfl, hbl, q0, q1⟩ := (HLS.out.below HBW.out).site hlt
      have HSN := Lib.hid (spansI_snoc l hlt)
      have HLE := Lib.hid (spansI_le (l.take i))
      have HLE2 := Lib.hid (show (l.take i).length ≤ i from by simp; omega)
      have hlen : (spansI (l.take i)).length ≤ i := Nat.le_trans HLE.out HLE2.out
      generalize l[i] = x at *
      obtain ⟨k, r⟩ := x
      simp only at q0 q1
      have HSN2 := Lib.hid (show _ = _ ++ (if 0 < relLen k then [(r, relLen k)] else []) from HSN.out)
      have HBN := Lib.hid (HBW.out.alloc (by have := HBW.out.size; omega) (.cells #[.int .i64 k, .int .i64 r] 30))
      have HT0 := Lib.hid (own_two wr (.int .i64 k) (.int .i64 r) 30)
      have hlb := relLen_bd k
      clear HSN
      go_wp2_with fail
      go_fit (length_any k r (wr.alloc (.cells #[.int .i64 k, .int .i64 r] 30)))
      rintro e w2 ⟨rfl, hb2⟩
      have HB2 := Lib.hid (HBN.out.trans (hb2.mono HBN.out.size))
      have HT2 := Lib.hid (HT0.out.below hb2 (by simp))
      have HR2 := Lib.hid ((HRR.out.alloc (.cells #[.int .i64 k, .int .i64 r] 30)).below hb2)
      have c0 := HT2.out.cell (i := 0) (by omega)
      have c1 := HT2.out.cell (i := 1) (by omega)
      simp only [if_pos, if_neg, Nat.one_ne_zero] at c0 c1
      obtain ⟨N, hN⟩ : ∃ N, relLen k = N := ⟨_, rfl⟩
      rw [hN] at hlb HSN2
      try simp only [hN]
      clear hb2 hN HRR
      generalize spansI (l.take i) = sp at *
      by_cases hp : 0 < N
      · rw [if_pos hp] at HSN2
        have HO3 := Lib.hid (own_two w2 (.int .i64 r) (.int .i64 N) 53)
        have HR3 := Lib.hid (HR2.out.alloc (.cells #[.int .i64 r, .int .i64 N] 53))
        have hbase := Lib.hid HB2.out.size
        go_wp2_with (at_builtin; refine wpList_appT rfl (.tmp 18) (.tmp 23) 34 rfl w.heap.size 53 (.agg #[.int .i64 0, .int .i64 0]) 16 (by kernel_rfl) infoSpan rfl (by omega) spanC_len spanC_one _ sp rfl HR3.out w2.heap.size 1 rfl (r, N) ?ca (by unfold maxLen; omega) (by omega) (by have := hbase.out; simp; omega) ?_; rotate_left; intro g' cap2 w3 hown3 hg3 hat3)
        case ca =>
          intro j u hu
          have h := HO3.out.cell (i := j) (by have := (List.getElem?_eq_some_iff.1 hu).1; simpa [spanC] using this)
          rw [h]
          rcases j with _ | _ | j
          · simpa [spanC] using hu
          · simpa [spanC] using hu
          · simp [spanC] at hu
        have HO4 := Lib.hid hown3
        have HB4 := Lib.hid (HR3.out.grew (HB2.out.alloc (by have := HB2.out.size; omega) (.cells #[.int .i64 r, .int .i64 N] 53)) (Nat.le_refl _) (by have := HB2.out.size; simp; omega) hg3)
        clear hown3 hg3 hat3
        go_roundw
        case rel => exact ⟨i + 1, some ⟨g', 0, none⟩, cap2, by omega, by go_num, by rw [HSN2.out]; simp, by rw [HSN2.out, List.length_append]; exact HO4.out, HB4.out⟩
        case measure => simp [intOf]; omega
      · rw [if_neg hp, List.append_nil] at HSN2
        go_wp2_with fail
        go_roundw
        case rel => exact ⟨i + 1, A, cap, by omega, by go_num, by rw [HSN2.out], by rw [HSN2.out]; exact HR2.out, HB2.out⟩
        case measure => simp [intOf]; omega
    · obtain rfl : i = l.length := by omega
      rw [List.take_length] at HRR
      rw [List.take_length]
      go_wp2_with fail
      go_ret
      exact ⟨A, cap, rfl, HRR.out, HBW.out⟩
end Go.Proofs.Ytcommphfjkggkaa
