/- HdrTells: rows of bytes and their texts; heads that are the same. · HdrTells: the walk. · HdrTells. -/
import Derived.Test.YtlgdaljbajebhaaMgA
import Derived.Test.YtlgdaljbajebhaaHdrN
import Derived.Test.YtlgdaljbajebhaaHdrCuts
import Derived.Test.YtlgdaljbajebhaaMadeU
import Derived.Test.YtlgdaljbajebhaaMadeU0
import Derived.Deep.Cut
import Derived.Deep.CutRange
import Derived.Deep.RegionHeld3
import Derived.Deep.DrawnRows
import Derived.Deep.DeepFit
import Derived.Test.YtlgdaljbajebhaaMgB
namespace Go.Proofs.Ytlgdaljbajebhaa
open Go.ChangeShapes Go.WideShapes Go.ChangeAt Go.RowKit
set_option linter.unusedVariables false

/-- The slice A of n bytes holds the text S. -/
def RowS (w : World) (A : Option Addr) (n cap : Nat) (S : ByteArray) : Prop := S.size = n ∧ (n = 0 ∨ ∃ b off, A = some ⟨b, off, none⟩ ∧ RowB w b off n cap (PlainAid.bt S))

theorem RowS.below {w w' : World} {A : Option Addr} {n cap : Nat} {S : ByteArray} (h : RowS w A n cap S) (hb : Below w.heap.size w w') : RowS w' A n cap S := by
  refine ⟨h.1, ?_⟩
  rcases h.2 with h | ⟨b, off, h1, h2⟩
  · exact .inl h
  · exact .inr ⟨b, off, h1, h2.below hb⟩

theorem RowS.of_row {w : World} {b off n cap : Nat} {f : Nat → Int} (h : RowB w b off n cap f) : RowS w (some ⟨b, off, none⟩) n cap (strF f 0 n) :=
  ⟨strF_size _ _ _, .inr ⟨b, off, rfl, fun i hi => by rw [bt_strF h.by255 hi, Nat.zero_add]; exact h.row i hi, bt255 _, h.lt, h.len, h.most⟩⟩

theorem RowS.of_sl {w : World} {A : Option Addr} {n cap : Nat} {f : Nat → Int} (h : SlB w A n f) (hb : Bytes255 f) (h1 : n ≤ cap) (h2 : cap ≤ 9223372036854775807) : RowS w A n cap (strF f 0 n) := by
  rcases h with h | ⟨b, off, rfl, hlt, hr⟩
  · exact ⟨strF_size _ _ _, .inl h⟩
  · exact RowS.of_row ⟨hr, hb, hlt, h1, h2⟩

theorem RowS.str {w : World} {A : Option Addr} {n cap : Nat} {S : ByteArray} (h : RowS w A n cap S) : (convert 23 9 (.slice A n cap)).run Try.prog w = .ok (.string S) w := by
  obtain ⟨h1, h | ⟨b, off, rfl, h2⟩⟩ := h
  · subst h
    rw [run_str0]
    congr 2
    exact (ByteArray.ext (Array.eq_empty_of_size_eq_zero h1)).symm
  · rw [run_str h2.row, ← h1, strF_bt]

theorem begin_zero (A : Option Addr) (cap : Nat) (w : World) : Calls Try.prog 23 #[.slice A 0 cap] w fun e w' => e = .returned (.tuple #[.int .i64 0, .int .i64 2]) ∧ w = w' := by
  go_enter Try.func23, Try.ntmps23
  go_wp2_with fail
  go_ret2
  exact ⟨rfl, rfl⟩

set_option maxRecDepth 100000 in
theorem hparse_zero (A : Option Addr) (cap : Nat) (w : World) :
    Calls Try.prog 13 #[.slice A 0 cap] w fun e w' => (∃ cs, e = .returned (.tuple #[.agg cs, .int .i64 2]) ∧ HeadV cs noHead (.slice none 0 0)) ∧ Below w.heap.size w w' := by
  have hZ := heap_alloc_new w (.cells (headC 0 0 0 0 0 0) 32)
  have HB0 := Lib.hid ((Below.refl w.heap.size w).alloc (Nat.le_refl _) (.cells (headC 0 0 0 0 0 0) 32))
  go_enter Try.func13, Try.ntmps13
  go_wp2_with fail
  rw [zero_head]
  generalize w.alloc (.cells (headC 0 0 0 0 0 0) 32) = w1 at hZ HB0 ⊢
  refine (begin_zero A cap w1).mono ?_
  rintro e w' ⟨rfl, rfl⟩
  go_wp2_with (refine wpList_store_row rfl 32 _ _ rfl w.heap.size (headC 0 0 0 0 0 0) rfl rfl 32 _ hZ rfl rfl (headC_one _ _ _ _ _ _) ?_)
  refine bodyPost_ret (v := .tuple #[.agg (headC 0 0 0 0 0 0), .int .i64 2]) (results_cell_tmp rfl _ _ w.heap.size 32 _ (0, 0) _ _ rfl rfl (setRow_heap _ _ _ _ _ _ hZ) rfl rfl rfl) rfl ⟨⟨_, rfl, headV_none⟩, below_setRow HB0.out (Nat.le_refl _) _⟩

theorem headE_zero (f : Nat → Int) : headE 0 f = 2 := by
  have hb : beginS 0 f = (0, 2) := by unfold beginS; rw [if_pos (by omega)]
  unfold headE; rw [if_pos (by rw [hb]; simp), hb]

/-- A head that is one has sixteen sections at most. -/
theorem headK_le {n : Nat} {f : Nat → Int} (h : headE n f = 0) : headK n f ≤ 16 := by
  unfold headE at h
  by_cases h1 : (beginS n f).2 ≠ 0
  · rw [if_pos h1] at h; exact absurd h h1
  · rw [if_neg h1] at h
    by_cases h2 : optS f (beginS n f).1.toNat ≠ 0
    · rw [if_pos h2] at h; exact absurd h h2
    · rw [if_neg h2] at h
      by_cases h3 : ¬ alignS f (beginS n f).1.toNat (readS f (beginS n f).1.toNat).base (readS f (beginS n f).1.toNat).size
      · rw [if_pos h3] at h; cases h
      · rw [if_neg h3] at h
        by_cases h4 : ¬ headersP n (beginS n f).1.toNat (readS f (beginS n f).1.toNat).headers (rdF f ((beginS n f).1.toNat + 6) 2)
        · rw [if_pos h4] at h; cases h
        · have h5 := Classical.not_not.1 h4
          have := h5.2.1
          unfold headK headP
          omega

theorem HeadR.q {w : World} {n : Nat} {f : Nat → Int} {v : Value} (h : HeadR w n f v) : HeadQ w n f v := by
  obtain ⟨cs, hv, h | ⟨h0, g, hh, hs, hl⟩⟩ := h
  · exact ⟨cs, hv, .inl h⟩
  · have hlen : (sectsS f (headP n f + 264) (headK n f)).length = headK n f := by simp [sectsS]
    exact ⟨cs, hv, .inr ⟨h0, _, hh, some ⟨g, 0, none⟩, headK n f, by rw [hlen], hs, by rw [hlen]; exact headK_le h0⟩⟩

/-- Parse of a row that holds a text. -/
theorem parse_text (A : Option Addr) (n cap : Nat) (S : ByteArray) (w : World) (h : RowS w A n cap S) :
    Calls Try.prog 13 #[.slice A n cap] w fun e w' => (∃ v, e = .returned v ∧ HeadQ w' S.size (PlainAid.bt S) v) ∧ Below w.heap.size w w' := by
  obtain ⟨h1, h | ⟨b, off, rfl, h2⟩⟩ := h
  · subst h
    refine (hparse_zero A cap w).mono ?_
    rintro e w' ⟨⟨cs, rfl, hv⟩, hb⟩
    rw [h1]
    exact ⟨⟨_, rfl, cs, by rw [headE_zero], .inl ⟨by rw [headE_zero]; omega, hv⟩⟩, hb⟩
  · refine (hparse_any b off n cap _ w h2).mono ?_
    rintro e w' ⟨⟨v, rfl, hr⟩, hb⟩
    rw [h1]
    exact ⟨⟨v, rfl, hr.q⟩, hb⟩

theorem HeadQ.below {w w' : World} {n : Nat} {f : Nat → Int} {v : Value} (h : HeadQ w n f v) (hb : Below w.heap.size w w') : HeadQ w' n f v := by
  obtain ⟨cs, hv, h | ⟨h0, sv, hh, A, c, h1, h2, h3⟩⟩ := h
  · exact ⟨cs, hv, .inl h⟩
  · exact ⟨cs, hv, .inr ⟨h0, sv, hh, A, c, h1, h2.below hb, h3⟩⟩

/-- Two that are told of one row. -/
theorem HeadQ.two {w : World} {n : Nat} {f : Nat → Int} {v v' : Value} (hf : Bytes255 f) (h : HeadQ w n f v) (h' : HeadQ w n f v') :
    ∃ cs cs' hd sv sv' l, v = .tuple #[.agg cs, .int .i64 (headE n f)] ∧ v' = .tuple #[.agg cs', .int .i64 (headE n f)] ∧ HeadV cs hd sv ∧ HeadV cs' hd sv' ∧ SectSl w sv l ∧ SectSl w sv' l ∧ DirBd hd := by
  have hn : SectSl w (.slice none 0 0) [] := ⟨none, 0, rfl, .inl rfl, by simp⟩
  obtain ⟨cs, hv, ⟨h0, h1⟩ | ⟨h0, sv, h1, h2⟩⟩ := h
  · obtain ⟨cs', hv', ⟨_, h1'⟩ | ⟨h0', _⟩⟩ := h'
    · exact ⟨cs, cs', noHead, _, _, [], hv, hv', h1, h1', hn, hn, fun i hi => by simp [noHead]⟩
    · exact absurd h0' h0
  · obtain ⟨cs', hv', ⟨h0', _⟩ | ⟨_, sv', h1', h2'⟩⟩ := h'
    · exact absurd h0 h0'
    · exact ⟨cs, cs', _, sv, sv', _, hv, hv', h1, h1', h2, h2', fun i hi => ⟨(rdF_bd f hf 4 _).1, (rdF_bd f hf 4 _).2, (rdF_bd f hf 4 _).1, (rdF_bd f hf 4 _).2⟩⟩

/-- Made, whatever is asked for and turned. -/
theorem made_ext (AS : Option Addr) (l : List Trip) (cs : Nat) (AT : Option Addr) (tl : List Trip) (ct : Nat) (w : World) (hS : SlT tripC 3 w AS l) (hT : SlT turnC 3 w AT tl) (hTv : ∀ t ∈ tl, 0 ≤ t.2.2 ∧ t.2.2 ≤ 18446744073709551615) (htl : tl.length ≤ 9223372036854775807) :
    Calls Try.prog 12 #[.slice AS l.length cs, .slice AT tl.length ct] w fun e w' =>
      ∃ N g c F, e = .returned (.slice (some ⟨g, 0, none⟩) N c) ∧ N ≤ 1000000 ∧ OwnC w' w.heap.size g N c F ∧ Below w.heap.size w w' := by
  rcases l with _ | ⟨t, r⟩
  · exact made_noturns AS cs AT tl ct (fun _ => (16, 512, 3)) (fun _ => rfl) w hT hTv htl
  · refine made_turns AS (t :: r) cs AT tl ct (fun i => (t :: r).getD i t) (fun i => ?_) w (by simp) hS hT hTv htl
    rcases Nat.lt_or_ge i (t :: r).length with h | h
    · left
      rw [List.getD_eq_getElem?_getD, List.getElem?_eq_getElem h]; rfl
    · exact .inr h
end Go.Proofs.Ytlgdaljbajebhaa
namespace Go.Proofs.Ytlgdaljbajebhaa
open Go.ChangeShapes Go.WideShapes Go.ChangeAt Go.RowKit
set_option linter.unusedVariables false

theorem HeadQ.any {w : World} {N : Nat} {f : Nat → Int} {v : Value} (h : HeadQ w N f v) : ∃ cs, v = .tuple #[.agg cs, .int .i64 (headE N f)] ∧ cs.size = 39 ∧ cs.all (·.oneCell') = true := by
  obtain ⟨cs, hv, ⟨_, h⟩ | ⟨_, sv, h, A, c, rfl, _⟩⟩ := h
  · exact ⟨cs, hv, h.size, h.one rfl⟩
  · exact ⟨cs, hv, h.size, h.one rfl⟩

set_option maxRecDepth 100000 in
set_option maxHeartbeats 4000000 in
theorem tells_walk (hrh : ∀ (S : ByteArray) (w : World), S.size ≤ 1000000 → Calls Try.prog 15 #[.string S] w fun e w' => (∃ v, e = .returned v ∧ HeadQ w' S.size (PlainAid.bt S) v) ∧ Below w.heap.size w w')
    (AR : Option Addr) (m mc : Nat) (R : Nat → Int) (AS : Option Addr) (l : List Trip) (cs : Nat) (AT : Option Addr) (tl : List Trip) (ct : Nat) (cut : Int) (w : World)
    (hR : SlB w AR m R) (hR255 : Bytes255 R) (hm : m ≤ mc) (hmc : mc ≤ 9223372036854775807) (hS : SlT tripC 3 w AS l) (hT : SlT turnC 3 w AT tl) (hTv : ∀ t ∈ tl, 0 ≤ t.2.2 ∧ t.2.2 ≤ 18446744073709551615) (htl : tl.length ≤ 9223372036854775807) :
    Calls Try.prog 5 #[.slice AR m mc, .slice AS l.length cs, .slice AT tl.length ct, .int .i64 cut] w fun e w' => e = .returned (.bool true) ∧ Below w.heap.size w w' := by
  by_cases hm6 : 600 < m
  · have h3 : (600 : Int) < m := by omega
    have HA := Lib.hid (awake5_any w)
    go_enter Try.func5, Try.ntmps5
    go_wp2_with (go_fit HA.out; rintro e w' ⟨rfl, hb⟩)
    go_ret
    exact ⟨rfl, hb⟩
  have h3 : decide (600 < (m : Int)) = false := decide_eq_false (by omega)
  have HM6 := Lib.hid (show m ≤ 600 by omega)
  have HRR := Lib.hid (RowS.of_sl hR hR255 hm hmc)
  have HRH := Lib.hid hrh
  have hM1 := made_ext AS l cs none [] 0 w hS (.inl rfl) (fun t ht => by simp at ht) (by simp)
  have HM2 := Lib.hid (fun (W : World) (hW : Below w.heap.size w W) => made_ext AS l cs AT tl ct W (hS.below hW) (hT.below hW) hTv htl)
  have HM1 := Lib.hid hM1
  clear hm6 hR hR255 hS hT hTv hrh hM1 htl
  go_enter Try.func5, Try.ntmps5
  go_wp2_with fail
  refine HM1.out.mono ?_
  rintro e w3 ⟨N1, g1, c1, F1, rfl, hn1, ho1, hb1⟩
  have HM2' := Lib.hid (HM2.out w3 hb1)
  have HB3 := Lib.hid hb1
  have HO1 := Lib.hid ho1
  clear ho1 hb1 HM1 HM2
  go_wp2_with fail
  refine HM2'.out.mono ?_
  rintro e w4 ⟨N2, g2, c2, F2, rfl, hn2, ho2, hb2⟩
  have HB4 := Lib.hid (HB3.out.trans (hb2.mono HB3.out.size))
  have hr1 := (HO1.out.below hb2).rowB
  have hr2 := ho2.rowB
  have HRB1 := Lib.hid hr1
  have hlc1 := hr1.len
  have HR1 := Lib.hid (RowS.of_row hr1)
  have HR2 := Lib.hid (RowS.of_row hr2)
  have HRR4 := Lib.hid (HRR.out.below HB4.out)
  clear ho2 hb2 hr1 hr2 HM2' HO1 HB3 HRR
  go_wp2_with fail
  go_loopw [11] (fun o wr => ∃ i : Nat, i ≤ 4 ∧ o = .int .i64 i ∧ Below w4.heap.size w4 wr) (fun o _ => 4 - (intOf o).toNat)
  case atStart => exact ⟨0, by omega, rfl, Below.refl _ _⟩
  case round =>
    obtain ⟨i, hi, rfl, hbr⟩ := hrel
    have HBR := Lib.hid hbr
    clear hbr
    by_cases hlt : i < 4
    · have hlt' : (i : Int) < 4 := by omega
      have mk := and_ffff cut
      obtain ⟨K, hK⟩ : ∃ K : Nat, cut % 65536 % ((N1 : Int) + 1) = K := ⟨(cut % 65536 % ((N1 : Int) + 1)).toNat, by have := Int.emod_nonneg (cut % 65536) (show (N1 : Int) + 1 ≠ 0 by omega); omega⟩
      have hKN : K ≤ N1 := by have := Int.emod_lt_of_pos (cut % 65536) (show (0 : Int) < (N1 : Int) + 1 by omega); omega
      have hKc : K ≤ c1 := by omega
      have hKt : (cut % 65536).tmod ((N1 : Int) + 1) = K := by rw [Int.tmod_eq_emod_of_nonneg (by omega)]; exact hK
      have hq : (N1 : Int) + 1 ≠ 0 := by omega
      have HKN := Lib.hid hKN
      go_upto_region 8 with fail
      go_cut [12] from 26 to 64 (fun v wx => ∃ A n cap S, v = .slice A n cap ∧ n ≤ 1000000 ∧ RowS wx A n cap S ∧ Below w4.heap.size w4 wx)
      case first =>
        rcases (by omega : i = 0 ∨ i = 1 ∨ i = 2 ∨ i = 3) with rfl | rfl | rfl | rfl
        · go_wp2_with fail
          go_meet
          case rel =>
            have hb := HBR.out.alloc HBR.out.size (.cells #[.slice AR m mc, .slice (some ⟨g1, 0, none⟩) N1 c1, .slice (some ⟨g2, 0, none⟩) N2 c2, .slice (some ⟨g1, 0, none⟩) K c1] 23)
            exact ⟨_, _, _, _, rfl, by have := HM6.out; omega, HRR4.out.below hb, hb⟩
        · go_wp2_with fail
          go_meet
          case rel =>
            have hb := HBR.out.alloc HBR.out.size (.cells #[.slice AR m mc, .slice (some ⟨g1, 0, none⟩) N1 c1, .slice (some ⟨g2, 0, none⟩) N2 c2, .slice (some ⟨g1, 0, none⟩) K c1] 23)
            exact ⟨_, _, _, _, rfl, hn1, HR1.out.below hb, hb⟩
        · go_wp2_with fail
          go_meet
          case rel =>
            have hb := HBR.out.alloc HBR.out.size (.cells #[.slice AR m mc, .slice (some ⟨g1, 0, none⟩) N1 c1, .slice (some ⟨g2, 0, none⟩) N2 c2, .slice (some ⟨g1, 0, none⟩) K c1] 23)
            exact ⟨_, _, _, _, rfl, hn2, HR2.out.below hb, hb⟩
        · go_wp2_with fail
          go_meet
          case rel =>
            have hb := HBR.out.alloc HBR.out.size (.cells #[.slice AR m mc, .slice (some ⟨g1, 0, none⟩) N1 c1, .slice (some ⟨g2, 0, none⟩) N2 c2, .slice (some ⟨g1, 0, none⟩) K c1] 23)
            exact ⟨_, _, _, _, rfl, by omega, (RowS.of_row (HRB1.out.take HKN.out)).below hb, hb⟩
      case rest =>
        obtain ⟨A, n, cap, S, rfl, hn, hrs, hbw⟩ := hcut
        have HBW := Lib.hid hbw
        have HRS := Lib.hid hrs
        clear hbw hrs HBR mk hK hKN hKc hKt hq
        have hsz := HRS.out.1
        go_wp2_with fail
        refine (parse_text A n cap S wc HRS.out).mono ?_
        rintro e w5 ⟨⟨v1, rfl, hq1⟩, hb5⟩
        obtain ⟨cs1, rfl, hz1, hone1⟩ := hq1.any
        have HB5 := Lib.hid (HBW.out.trans (hb5.mono HBW.out.size))
        have HRS5 := Lib.hid (HRS.out.below hb5)
        have HQ1 := Lib.hid hq1
        clear hb5 hq1
        obtain ⟨E, hE⟩ : ∃ E, headE S.size (PlainAid.bt S) = E := ⟨_, rfl⟩
        simp only [hE]
        have HE := Lib.hid hE
        clear hE
        go_upto_region 10 with (refine wpList_store_row rfl 32 _ _ rfl w5.heap.size cs1 rfl rfl 32 _ (heap_alloc_new _ _) (by rw [hz1]; rfl) (by rw [hz1]; rfl) hone1 ?_)
        rw [zero_head]
        try simp only [Act.put]
        have hg6 := setRow_heap (w5.alloc (.cells (headC 0 0 0 0 0 0) 32)) w5.heap.size _ cs1 _ _ (heap_alloc_new _ _)
        have hb6 : Below w5.heap.size w5 ((w5.alloc (.cells (headC 0 0 0 0 0 0) 32)).setRow w5.heap.size cs1) := below_setRow ((Below.refl _ w5).alloc (Nat.le_refl _) _) (Nat.le_refl _) _
        have HB6 := Lib.hid (HB5.out.trans (hb6.mono HB5.out.size))
        have HRS6 := Lib.hid (HRS5.out.below hb6)
        have HQ6 := Lib.hid (HQ1.out.below hb6)
        clear hb6 HB5 HRS5 HQ1
        generalize (w5.alloc (.cells (headC 0 0 0 0 0 0) 32)).setRow w5.heap.size cs1 = w6 at *
        generalize w5.heap.size = G13 at *
        have hcv := HRS6.out.str
        have HCA := Lib.hid (HRH.out S w6 (by rw [hsz]; omega))
        go_wp2_with fail
        refine HCA.out.mono ?_
        rintro e w7 ⟨⟨v2, rfl, hq2⟩, hb7⟩
        obtain ⟨cs2, rfl, hz2, hone2⟩ := hq2.any
        simp only [HE.out]
        have HB7 := Lib.hid (HB6.out.trans (hb7.mono HB6.out.size))
        have hg7 := (hb7.block G13 (Array.getElem?_eq_some_iff.1 hg6).1).trans hg6
        have HQ7 := Lib.hid (HQ6.out.below hb7)
        have HQB := Lib.hid hq2
        clear hcv hb7 hq2 hg6 HQ6 HB6 HRS6 HCA
        go_upto_region 11 with (refine wpList_store_row rfl 32 _ _ rfl w7.heap.size cs2 rfl rfl 32 _ (heap_alloc_new _ _) (by rw [hz2]; rfl) (by rw [hz2]; rfl) hone2 ?_)
        rw [zero_head]
        try simp only [Act.put]
        have hg8 := setRow_heap (w7.alloc (.cells (headC 0 0 0 0 0 0) 32)) w7.heap.size _ cs2 _ _ (heap_alloc_new _ _)
        have hb8 : Below w7.heap.size w7 ((w7.alloc (.cells (headC 0 0 0 0 0 0) 32)).setRow w7.heap.size cs2) := below_setRow ((Below.refl _ w7).alloc (Nat.le_refl _) _) (Nat.le_refl _) _
        have HB8 := Lib.hid (HB7.out.trans (hb8.mono HB7.out.size))
        have hg78 := (hb8.block G13 (Array.getElem?_eq_some_iff.1 hg7).1).trans hg7
        have hqa := HQ7.out.below hb8
        have hqb := HQB.out.below hb8
        rw [HE.out] at hqa hqb
        clear hb8 HB7 HQ7 HQB hg7
        generalize (w7.alloc (.cells (headC 0 0 0 0 0 0) 32)).setRow w7.heap.size cs2 = w8 at *
        generalize w7.heap.size = G15 at *
        rw [← HE.out] at hqa hqb
        obtain ⟨k1, k2, hd, sv1, sv2, sl, e1, e2, x1, x2, y1, y2, db⟩ := hqa.two (bt255 S) hqb
        obtain rfl : cs1 = k1 := by simpa using e1
        obtain rfl : cs2 = k2 := by simpa using e2
        have HSA := Lib.hid (same_any cs1 cs2 hd sv1 sv2 sl w8 x1 x2 y1 y2 db)
        have HG1 := Lib.hid hg78
        have HG2 := Lib.hid hg8
        have ee : (E != E) = false := by simp
        clear hqa hqb e1 e2 x1 x2 y1 y2 db hg78 hg8
        go_wp2_with (first
          | (refine wpList_load_row_g (by rfl) 32 _ rfl G13 rfl 32 cs1 (0, 0) _ HG1.out rfl rfl (by rw [hz1]; rfl) ?_)
          | (refine wpList_load_row_g (by rfl) 32 _ rfl G15 rfl 32 cs2 (0, 0) _ HG2.out rfl rfl (by rw [hz2]; rfl) ?_)
          | (go_fit HSA.out; rintro e w9 ⟨rfl, hb9⟩))
        go_roundw
        case rel => exact ⟨i + 1, by omega, by go_num, HB8.out.trans (hb9.mono HB8.out.size)⟩
        case measure => simp [intOf]; omega
    · obtain rfl : i = 4 := by omega
      have HA := Lib.hid (awake5_any wr)
      go_wp2_with (go_fit HA.out; rintro e w' ⟨rfl, hb⟩)
      go_ret
      exact ⟨rfl, (HB4.out.trans (HBR.out.mono HB4.out.size)).trans (hb.mono (HB4.out.trans (HBR.out.mono HB4.out.size)).size)⟩
end Go.Proofs.Ytlgdaljbajebhaa
namespace Go.Proofs.Ytlgdaljbajebhaa
open Go.ChangeShapes Go.WideShapes Go.ChangeAt Go.RowKit
set_option linter.unusedVariables false

theorem slT_turns {w : World} {a : Option Addr} {len cap : Nat} {zs : List Trip}
    (h : (a = none ∧ len = 0 ∧ cap = 0 ∧ zs = []) ∨ ∃ x, a = some x ∧ len ≤ cap ∧ cap ≤ maxLen ∧ zs.length = cap ∧ ∀ i (h : i < zs.length), w.cell? (x.add (i * 3)) = some (.int .i64 zs[i].1) ∧ w.cell? (x.add (i * 3 + 1)) = some (.int .i64 zs[i].2.1) ∧ w.cell? (x.add (i * 3 + 2)) = some (.int .u64 zs[i].2.2) ∧ (Lit.int .i64 zs[i].1).wf = true ∧ (Lit.int .i64 zs[i].2.1).wf = true ∧ (Lit.int .u64 zs[i].2.2).wf = true) :
    (zs.take len).length = len ∧ len ≤ 9223372036854775807 ∧ SlT turnC 3 w a (zs.take len) ∧ ∀ t ∈ zs.take len, 0 ≤ t.2.2 ∧ t.2.2 ≤ 18446744073709551615 := by
  rcases h with ⟨rfl, rfl, rfl, rfl⟩ | ⟨x, rfl, hl, hm, hz, hc⟩
  · exact ⟨rfl, by omega, .inl rfl, fun t ht => by simp at ht⟩
  · have hlen : (zs.take len).length = len := by rw [List.length_take]; omega
    refine ⟨hlen, by unfold maxLen at hm; omega, ?_, fun t ht => ?_⟩
    · rcases Nat.eq_zero_or_pos len with h0 | h0
      · left; rw [h0]; rfl
      · obtain ⟨b, off, spot⟩ := x
        have hspot : spot = none := by simpa [Addr.add] using World.cell?_spot (hc 0 (by omega)).1
        subst hspot
        have hadd : ∀ i, (⟨b, off, none⟩ : Addr).add i = ⟨b, off + i, none⟩ := fun i => by unfold Addr.add; split <;> simp_all
        refine .inr ⟨b, off, rfl, ?_, fun i hi j v hv => ?_⟩
        · have h1 := (hc 0 (by omega)).1
          rw [hadd] at h1
          rcases Nat.lt_or_ge b w.heap.size with hlt | hge
          · exact hlt
          · simp [World.cell?, Array.getElem?_eq_none hge] at h1
        · obtain ⟨c0, c1, c2, _⟩ := hc i (by omega)
          rw [hadd] at c0 c1 c2
          simp only [List.getElem_take] at hv
          rcases j with _ | _ | _ | j
          · simp [turnC] at hv; subst hv; simpa using c0
          · simp [turnC] at hv; subst hv; rw [← c1]
          · simp [turnC] at hv; subst hv; rw [← c2]
          · simp [turnC] at hv
    · obtain ⟨i, hi, rfl⟩ := List.mem_iff_getElem.1 ht
      simp only [List.getElem_take]
      have h := (hc i (by rw [List.length_take] at hi; omega)).2.2.2.2.2
      simp [Lit.wf, IntKind.min, IntKind.max, IntKind.bits, IntKind.signed] at h
      omega
end Go.Proofs.Ytlgdaljbajebhaa
