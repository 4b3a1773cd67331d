/- law 8: as many descriptors, and symbols of one, may be as the bounds say: the walk. -/
import Derived.Test.YtbjabncefhgefaaImpV
namespace Go.Proofs.Ytbjabncefhgefaa
open Go.ChangeShapes Go.WideShapes Go.ChangeAt Go.RowKit
set_option linter.unusedVariables false
set_option linter.unusedSimpArgs false
set_option maxRecDepth 100000

set_option maxHeartbeats 8000000 in
theorem ibounds_any (n k : Int) (delay : Bool) (w : World) :
    Calls Try.prog 7 #[.int .i64 n, .int .i64 k, .bool delay] w fun e w' => e = .returned (.bool true) ∧ Below w.heap.size w w' := by
  have HAW := Lib.hid awake8_any
  obtain ⟨d, hd, m0⟩ : ∃ d : Nat, d < 4 ∧ bits .and .i64 n 3 = (d : Int) := ⟨(n % 4).toNat, by omega, by rw [show (3 : Int) = ((2 ^ 2 - 1 : Nat) : Int) from rfl, i64_mask n 2 (by omega)]; omega⟩
  obtain ⟨p, hp, m1⟩ : ∃ p : Nat, p < 4 ∧ bits .and .i64 k 3 = (p : Int) := ⟨(k % 4).toNat, by omega, by rw [show (3 : Int) = ((2 ^ 2 - 1 : Nat) : Int) from rfl, i64_mask k 2 (by omega)]; omega⟩
  obtain ⟨N, hN⟩ : ∃ N, d + 14 = N := ⟨_, rfl⟩
  obtain ⟨K, hK⟩ : ∃ K, p + 62 = K := ⟨_, rfl⟩
  have hN1 : (d : Int) + 14 = (N : Int) := by omega
  have hK1 : (p : Int) + 62 = (K : Int) := by omega
  have hNb : N ≤ 17 := by omega
  have hKb : K ≤ 65 := by omega
  have HN0 := Lib.hid (show 0 < N by omega)
  clear hd hp hN hK
  go_enter Try.func7, Try.ntmps7
  go_wp2_with fail
  go_loopw [7, 8] (fun v7 v8 wr => ∃ (l : List PImA) (A : Option Addr) (c : Nat), l.length ≤ N ∧ v8 = .int .i64 l.length ∧ v7 = .slice A l.length c ∧ PRows wr w.heap.size (.slice A l.length c) l ∧ (∀ y ∈ l, y.v = oneA8) ∧ Below w.heap.size w wr) (fun v7 _ _ => N - lenV v7)
  case atStart => exact ⟨[], none, 0, Nat.zero_le _, rfl, rfl, PRows.nil _ _, fun y hy => by simp at hy, Below.refl _ _⟩
  case round =>
    obtain ⟨l, A, c, hl, rfl, rfl, hpr, hone, hbel⟩ := hrel
    have HPR := Lib.hid hpr
    have HONE := Lib.hid hone
    have HBW := Lib.hid hbel
    clear hpr hone hbel
    have hl17 : l.length ≤ 17 := by omega
    by_cases hlt : l.length < N
    · obtain ⟨w1, hw1⟩ : ∃ q, wr.alloc (.cells #[.string ⟨#[102]⟩, .int .i64 0, .bool false] 50) = q := ⟨_, rfl⟩
      obtain ⟨w2, hw2⟩ : ∃ q, w1.alloc (.cells #[.string ⟨#[97]⟩, .slice (some ⟨wr.heap.size, 0, none⟩) 1 1] 66) = q := ⟨_, rfl⟩
      have hs1 : w1.heap.size = wr.heap.size + 1 := by rw [← hw1]; simp
      have hbl1 : Below wr.heap.size wr w1 := by rw [← hw1]; exact (Below.refl _ _).alloc (Nat.le_refl _) _
      have hbl2 : Below wr.heap.size wr w2 := by rw [← hw2]; exact hbl1.alloc hbl1.size _
      have hsl1 : SlT symC 3 w1 (some ⟨wr.heap.size, 0, none⟩) [([102], 0, false)] := by
        rw [← hw1]
        exact slT_new symC_len wr _ _ _ (by simp [symC, txt8_f])
      have hsl2 : SlT symC 3 w2 (some ⟨wr.heap.size, 0, none⟩) [([102], 0, false)] := by
        rw [← hw2]
        exact hsl1.below ((Below.refl _ _).alloc (Nat.le_refl _) _)
      have hy2 : ∀ j u, (pimC ⟨oneA8, some ⟨wr.heap.size, 0, none⟩, 1⟩)[j]? = some u → w2.cell? ⟨w1.heap.size, j, none⟩ = some u := by
        rw [← hw2]
        have h := pimCells ⟨oneA8, some ⟨wr.heap.size, 0, none⟩, 1⟩ w1
        have e1 : txt oneA8.dll = ⟨#[97]⟩ := txt_aa
        simp only [e1] at h
        exact h
      have HPR2 := Lib.hid (HPR.out.below hbl2)
      have HO2 := Lib.hid HPR2.out.1
      have HY2 := Lib.hid hy2
      have HSL2 := Lib.hid hsl2
      have HB2 := Lib.hid (HBW.out.trans (hbl2.mono HBW.out.size))
      have HG4 := Lib.hid (show l.length + 1 ≤ maxLen from by unfold maxLen; omega)
      have HG5 := Lib.hid (show (l.length + 1) * 40 ≤ 140737488355328 from by omega)
      have HG6 := Lib.hid (show w.heap.size ≤ w2.heap.size from HB2.out.size)
      have HAP := Lib.hid (show ([(⟨oneA8, some ⟨wr.heap.size, 0, none⟩, 1⟩ : PImA)] : List PImA).length = 1 from rfl)
      have HLT := Lib.hid (fun k (hk : (Value.slice A l.length c).ownBlock = some k) => (HPR.out.1.lt k hk).2)
      rw [hs1] at HY2
      clear hs1 hbl1 hbl2 hsl1 hsl2 hy2
      subst hw1
      subst hw2
      have hlN : (l.length : Int) < (N : Int) := by omega
      have HNN := Lib.hid hlt
      clear hlt hl
      go_wp2_with (first
        | (at_builtin; refine wpList_appT rfl (.tmp 28) (.tmp 32) 63 rfl w.heap.size 66 _ 40 rfl infoPImp rfl (by omega) pimC_len pimC_one _ l rfl HO2.out (wr.heap.size + 1) 1 rfl ⟨oneA8, some ⟨wr.heap.size, 0, none⟩, 1⟩ HY2.out HG4.out HG5.out HG6.out ?_; intro g5 c5 w5 hown5 hg5 hat5
           have HN5 := Lib.hid hown5
           have HG7 := Lib.hid (show World.grownBy _ w5 (Value.slice A l.length c).ownBlock from hg5)
           have HAT := Lib.hid (show (Value.slice A l.length c).ownBlock = some g5 ∨ g5 = _ from hat5)
           clear hown5 hg5 hat5)
        | fail)
      have HP5 := Lib.hid (HPR2.out.app HSL2.out (fun _ b hb hk => by
        have := HLT.out b hk
        simp at hb
        omega) HN5.out HG7.out HAT.out)
      have HB5 := Lib.hid (HO2.out.grew HB2.out (Nat.le_refl _) HB2.out.size HG7.out)
      go_roundw
      case rel =>
        refine ⟨l ++ [⟨oneA8, some ⟨wr.heap.size, 0, none⟩, 1⟩], some ⟨g5, 0, none⟩, c5, by have := HNN.out; simp; omega, by simp, by simp, HP5.out, fun y hy => ?_, HB5.out⟩
        rcases List.mem_append.mp hy with h | h
        · exact HONE.out y h
        · simp at h; subst h; rfl
      case measure =>
        show N - (l.length + 1) < N - l.length
        have := HNN.out
        omega
    · rename World => w0
      have hlN : l.length = N := by omega
      subst hlN
      have hli : ¬ (l.length : Int) < (l.length : Int) := by omega
      obtain ⟨hrA, hlA⟩ := bndA8 l.length hl17 delay
      obtain ⟨hrB, hlB⟩ := bndB8 K hKb delay
      have hAI : at8 64 (l.map (·.v)) delay = at8 64 (List.replicate l.length oneA8) delay := by rw [rowsA8 HONE.out rfl]
      obtain ⟨IA, hIA⟩ : ∃ q, at8 64 (List.replicate l.length oneA8) delay = q := ⟨_, rfl⟩
      obtain ⟨IB, hIB⟩ : ∃ q, at8 64 [oneB8 K] delay = q := ⟨_, rfl⟩
      rw [hIA] at hrA hlA hAI
      rw [hIB] at hrB hlB
      obtain ⟨gN, hgN⟩ : ∃ q, decide ((l.length : Int) ≤ 16) = q := ⟨_, rfl⟩
      obtain ⟨gK, hgK⟩ : ∃ q, decide ((K : Int) ≤ 64) = q := ⟨_, rfl⟩
      have HRA := Lib.hid (show (parseI IA 64 (lenD delay) (rdD delay)).map List.length = if gN = true then some l.length else none by
        rw [hrA, ← hgN]
        by_cases c : l.length ≤ 16
        · rw [if_pos c, if_pos (decide_eq_true (by omega))]
        · rw [if_neg c, if_neg (by rw [decide_eq_true_iff]; omega)])
      have HRB := Lib.hid (show (parseI IB 64 (lenD delay) (rdD delay)).map List.length = if gK = true then some 1 else none by
        rw [hrB, ← hgK]
        by_cases c : K ≤ 64
        · rw [if_pos c, if_pos (decide_eq_true (by omega))]
        · rw [if_neg c, if_neg (by rw [decide_eq_true_iff]; omega)])
      have HLA := Lib.hid hlA
      have HLB := Lib.hid hlB
      have HIB := Lib.hid hIB
      have HMA := Lib.hid (Made8.of (delay := delay) HPR.out (by have := HN0.out; intro e; rw [e] at this; simp at this) (by omega) (fun y hy => by rw [HONE.out y hy]; exact oneA8_ok) IA hAI)
      clear hrA hlA hrB hlB hAI hIA hIB hl hlt HONE HN0 hN1 m0
      obtain ⟨w1, hw1⟩ : ∃ q, w0.alloc (.cells #[.string ⟨#[98]⟩, .slice none 0 0] 66) = q := ⟨_, rfl⟩
      have HE1 := Lib.hid hw1
      have HX1 := Lib.hid (show w1.heap[w0.heap.size]? = some (.cells #[.string ⟨#[98]⟩, .slice none 0 0] 66 (0, 0)) from by rw [← hw1]; exact heap_alloc_new w0 _)
      have HW1 := Lib.hid (show Below w0.heap.size w0 w1 from by rw [← hw1]; exact (Below.refl _ _).alloc (Nat.le_refl _) _)
      have HS1 := Lib.hid (show w1.heap.size = w0.heap.size + 1 from by rw [← hw1]; simp)
      obtain ⟨n', hn'⟩ : ∃ q, l.length = q := ⟨_, rfl⟩
      rw [hn'] at hli hgN HRA HMA
      rw [hn']
      have HNL := Lib.hid (show n' ≤ 17 by omega)
      clear hw1 hl17 hn' HPR
      go_upto_region 7 with (fail)
      go_upto_region 8 with (fail)
      refine (congrArg _ HE1.out).mpr ?_
      obtain ⟨xb, hxb⟩ : ∃ q, w0.heap.size = q := ⟨_, rfl⟩
      rw [hxb] at HX1 HW1 HS1
      rw [hxb]
      have HXB := Lib.hid hxb
      clear hxb
      go_wp2_with fail
      go_loopw [10] (fun v10 W => ∃ (s : List SymV) (A' : Option Addr) (c' : Nat), s.length ≤ K ∧ s = symsB8 s.length ∧ v10 = .int .i64 s.length ∧ W.heap[xb]? = some (.cells #[.string ⟨#[98]⟩, .slice A' s.length c'] 66 (0, 0)) ∧ OwnT symC 3 W (xb + 1) 50 (.slice A' s.length c') s ∧ Below xb w0 W ∧ xb + 1 ≤ W.heap.size) (fun v10 _ => K - (intOf v10).toNat)
      case atStart => exact ⟨[], none, 0, Nat.zero_le _, rfl, rfl, HX1.out, OwnT.nil _ _ _, HW1.out, by rw [HS1.out]; omega⟩
      case round =>
        obtain ⟨s, A', c', hs, hss, rfl, hrow, hown, hbel, hsz⟩ := hrel
        have HROW := Lib.hid hrow
        have HO := Lib.hid hown
        have HWW := Lib.hid hbel
        have HSZ := Lib.hid hsz
        have HSS := Lib.hid hss
        clear hrow hown hbel hsz hss HX1 HW1 HS1
        have x1 : wr.cell? ⟨xb, 1, none⟩ = some (.slice A' s.length c') := by rw [cell_of_row _ _ _ _ _ _ HROW.out]; rfl
        by_cases hlt : s.length < K
        · have hsK : (s.length : Int) < (K : Int) := by omega
          have HNN := Lib.hid hlt
          have HG4 := Lib.hid (show s.length + 1 ≤ maxLen from by unfold maxLen; omega)
          have HG5 := Lib.hid (show (s.length + 1) * 32 ≤ 140737488355328 from by omega)
          have HA := Lib.hid (HO.out.alloc (.cells #[.string ⟨#[]⟩, .int .i64 s.length, .bool true] 50))
          have HY := Lib.hid (show ∀ j u, (symC ([], s.length, true))[j]? = some u → (wr.alloc (.cells #[.string ⟨#[]⟩, .int .i64 s.length, .bool true] 50)).cell? ⟨wr.heap.size, j, none⟩ = some u from by
            have h := symCell1 ([], s.length, true) wr
            simp only [txt8_e] at h
            exact h)
          have HG6 := Lib.hid (show xb + 1 ≤ (wr.alloc (.cells #[.string ⟨#[]⟩, .int .i64 s.length, .bool true] 50)).heap.size from by have := HSZ.out; simp; omega)
          have HR2 := Lib.hid ((Below.heap_alloc wr (.cells #[.string ⟨#[]⟩, .int .i64 s.length, .bool true] 50) xb (lt_of_row' HROW.out)).trans HROW.out)
          have HW2 := Lib.hid (HWW.out.alloc (by have := HSZ.out; omega) (.cells #[.string ⟨#[]⟩, .int .i64 s.length, .bool true] 50))
          have HKR := Lib.hid (show ∀ w5, (wr.alloc (.cells #[.string ⟨#[]⟩, .int .i64 s.length, .bool true] 50)).grownBy w5 (Value.slice A' s.length c').ownBlock → w5.heap[xb]? = some (.cells #[.string ⟨#[98]⟩, .slice A' s.length c'] 66 (0, 0)) from fun w5 hg => (hg.block xb (lt_of_row' HR2.out) (fun e => by have := (HA.out.lt xb e.symm).1; omega)).trans HR2.out)
          have HKB := Lib.hid (show ∀ w5, (wr.alloc (.cells #[.string ⟨#[]⟩, .int .i64 s.length, .bool true] 50)).grownBy w5 (Value.slice A' s.length c').ownBlock → Below xb w0 w5 from fun w5 hg => HA.out.grew HW2.out (by omega) (by have := HG6.out; omega) hg)
          have HKC := Lib.hid (show ∀ w5 : World, w5.heap[xb]? = some (.cells #[.string ⟨#[98]⟩, .slice A' s.length c'] 66 (0, 0)) → w5.cell? ⟨xb, 1, none⟩ = some (.slice A' s.length c') ∧ w5.frozen? ⟨xb, 1, none⟩ = false from fun w5 h => ⟨by rw [cell_of_row _ _ _ _ _ _ h]; rfl, frozen_of_row _ _ _ _ _ h⟩)
          clear hlt hs
          go_wp2_with (first
            | (at_builtin; refine wpList_appT rfl (.tmp 41) (.tmp 44) 64 rfl (xb + 1) 50 _ 32 rfl infoSym rfl (by omega) symC_len symC_one _ s rfl HA.out wr.heap.size 1 rfl ([], s.length, true) HY.out HG4.out HG5.out HG6.out ?_; intro g5 c5 w5 hown5 hg5 hat5
               have HN5 := Lib.hid hown5
               have HG7 := Lib.hid (show World.grownBy _ w5 (Value.slice A' s.length c').ownBlock from hg5)
               have HR5 := Lib.hid (HKR.out w5 hg5)
               have HB5 := Lib.hid (HKB.out w5 hg5)
               obtain ⟨hx5, hf5⟩ := HKC.out w5 HR5.out
               clear hown5 hg5 hat5)
            | fail)
          go_roundw
          case rel =>
            refine ⟨s ++ [([], s.length, true)], some ⟨g5, 0, none⟩, c5, by have := HNN.out; simp; omega, by rw [List.length_append, List.length_singleton, symsB8_succ, ← HSS.out], by simp, ?_, ?_, HB5.out.setCell (p := ⟨xb, 1, none⟩) (Nat.le_refl _) _, by rw [World.size_setCell]; have := lt_of_row' HR5.out; omega⟩
            · rw [List.length_append, List.length_singleton]
              exact heap_setCell_same w5 xb 1 _ _ _ HR5.out
            · have h : OwnT symC 3 w5 (xb + 1) 50 (.slice (some ⟨g5, 0, none⟩) (s ++ [([], s.length, true)]).length c5) (s ++ [([], s.length, true)]) := by simpa using HN5.out
              exact h.of_block fun k hk => heap_setCell_other w5 _ k _ (fun e => by have := (h.lt k hk).1; simp at e; omega)
          case measure =>
            have := HNN.out
            simp [intOf]
            omega
        · have hlK : s.length = K := by omega
          have hss := HSS.out
          rw [hlK] at hss
          have HSY := Lib.hid (show SlT symC 3 wr A' (oneB8 K).syms from by
            have h := HO.out.sl symC_len
            rw [hss] at h
            exact h)
          have HSB := Lib.hid (show ∀ b, A'.map (·.block) = some b → b < wr.heap.size from fun b hb => by
            have h := HO.out.lt b (by
              rcases A' with _ | a
              · simp at hb
              · simp at hb ⊢; simp [Value.ownBlock, hb])
            exact h.2)
          rw [hlK] at HROW x1 ⊢
          have hki : ¬ (K : Int) < (K : Int) := by omega
          have HWT := Lib.hid (show Below w.heap.size w wr from HBW.out.trans (by rw [← HXB.out] at HWW; exact HWW.out.mono HBW.out.size))
          have HMA2 := Lib.hid (show Made8 wr delay A n' c IA from fun W hW => HMA.out W (by rw [← HXB.out] at HWW; exact HWW.out.trans (hW.mono HWW.out.size)))
          have HMB2 := Lib.hid (show ∀ W, Below wr.heap.size wr W → Made8 (W.alloc (.cells #[.string ⟨#[98]⟩, .slice A' K c'] 66)) delay (some ⟨W.heap.size, 0, none⟩) 1 1 IB from fun W hW => by
            have h := own_one8 W ⟨oneB8 K, A', c'⟩ 0 (Nat.zero_le _) (HSY.out.below hW) (fun b hb => Nat.lt_of_lt_of_le (HSB.out b hb) hW.size)
            have e1 : txt (oneB8 K).dll = ⟨#[98]⟩ := txt_bb
            have e2 : (oneB8 K).syms.length = K := symsB8_len K
            simp only [e1, e2] at h
            exact Made8.of (delay := delay) h (by simp) (by simp) (fun y hy => by simp at hy; subst hy; exact oneB8_ok K hKb) IB HIB.out)
          clear hlt hs hss HSS HO HSZ HSY HWW HMA HIB
          rename World => w3
          go_wp2_with fail
          have x0 : w3.cell? ⟨xb, 0, none⟩ = some (.string ⟨#[98]⟩) := by rw [cell_of_row _ _ _ _ _ _ HROW.out]; rfl
          have HXL := Lib.hid (lt_of_row' HROW.out)
          go_loopw [11, 12, 13, 14, 15, 16] (fun v11 _ _ _ _ _ wr => ∃ q : Nat, q ≤ 2 ∧ v11 = .int .i64 q ∧ Below w3.heap.size w3 wr) (fun v11 _ _ _ _ _ _ => 2 - (intOf v11).toNat)
          case atStart => exact ⟨0, by omega, rfl, Below.refl _ _⟩
          case round =>
            obtain ⟨q, hq2, rfl, hbel⟩ := hrel
            have HW3 := Lib.hid hbel
            have y0 := (hbel.cell (p := ⟨xb, 0, none⟩) HXL.out).trans x0
            have y1 := (hbel.cell (p := ⟨xb, 1, none⟩) HXL.out).trans x1
            clear hbel x0 x1
            obtain rfl | rfl | rfl : q = 0 ∨ q = 1 ∨ q = 2 := by omega
            · cases delay
              · go_upto_region 16 with (fail)
                obtain ⟨w5, hw5⟩ : ∃ q, (wr.alloc (.cells #[.string ⟨#[98]⟩, .slice A' K c'] 66)).alloc (.cells #[.slice A n' c, .slice (some ⟨wr.heap.size, 0, none⟩) 1 1] 63) = q := ⟨_, rfl⟩
                have HE5 := Lib.hid hw5
                have h45 : Below (wr.heap.size + 1) (wr.alloc (.cells #[.string ⟨#[98]⟩, .slice A' K c'] 66)) w5 := by rw [← hw5]; exact (Below.refl _ _).alloc (by simp) _
                have h35 : Below wr.heap.size wr w5 := ((Below.refl wr.heap.size wr).alloc (Nat.le_refl _) _).trans (h45.mono (by omega))
                have HB5 := Lib.hid (HW3.out.trans (h35.mono HW3.out.size))
                have HM := Lib.hid (HMA2.out w5 (HW3.out.trans (h35.mono HW3.out.size)))
                clear hw5 h45 h35
                refine (congrArg _ HE5.out).mpr ?_
                go_wp2_with fail
                refine HM.out.mono ?_
                rintro e w6 ⟨g6, cc6, rfl, ho6, hw6⟩
                have HO6 := Lib.hid ho6
                have HB6 := Lib.hid (HB5.out.trans (hw6.mono HB5.out.size))
                clear ho6 hw6 HM
                have HPA := Lib.hid (show Calls Try.prog 21 #[.slice (some ⟨g6, 0, none⟩) IA.length cc6, .agg #[.int .i64 64, .int .i64 0]] w6 fun e w' => ImpQ w6 w' (parseI IA 64 20 importD) e ∧ Below w6.heap.size w6 w' from imParse_any (some ⟨g6, 0, none⟩) cc6 IA 64 0 w6 HO6.out.len HO6.out.most (by have := HLA.out; omega) HO6.out.lb HO6.out.slB (by omega))
                go_wp2_with fail
                refine HPA.out.mono ?_
                rintro e w7 ⟨hq, hw7⟩
                have HB7 := Lib.hid (HB6.out.trans (hw7.mono HB6.out.size))
                obtain ⟨A7, m7, c7, y7, rfl, hg⟩ := hq.good HRA.out
                have HB8 := Lib.hid HB7.out
                clear hq hw7 HPA
                have HB9 := Lib.hid (HB8.out.alloc HB8.out.size (.cells #[.bool gN, .bool gK] 4))
                rcases hg with ⟨rfl, rfl, rfl⟩ | ⟨rfl, rfl, rfl⟩
                · go_wp2_with fail
                  go_roundw
                  case rel => exact ⟨1, by omega, rfl, HB9.out⟩
                  case measure => simp [intOf]
                · go_wp2_with fail
                  go_roundw
                  case rel => exact ⟨1, by omega, rfl, HB9.out⟩
                  case measure => simp [intOf]
              · go_upto_region 16 with (fail)
                obtain ⟨w5, hw5⟩ : ∃ q, (wr.alloc (.cells #[.string ⟨#[98]⟩, .slice A' K c'] 66)).alloc (.cells #[.slice A n' c, .slice (some ⟨wr.heap.size, 0, none⟩) 1 1] 63) = q := ⟨_, rfl⟩
                have HE5 := Lib.hid hw5
                have h45 : Below (wr.heap.size + 1) (wr.alloc (.cells #[.string ⟨#[98]⟩, .slice A' K c'] 66)) w5 := by rw [← hw5]; exact (Below.refl _ _).alloc (by simp) _
                have h35 : Below wr.heap.size wr w5 := ((Below.refl wr.heap.size wr).alloc (Nat.le_refl _) _).trans (h45.mono (by omega))
                have HB5 := Lib.hid (HW3.out.trans (h35.mono HW3.out.size))
                have HM := Lib.hid (HMA2.out w5 (HW3.out.trans (h35.mono HW3.out.size)))
                clear hw5 h45 h35
                refine (congrArg _ HE5.out).mpr ?_
                go_wp2_with fail
                refine HM.out.mono ?_
                rintro e w6 ⟨g6, cc6, rfl, ho6, hw6⟩
                have HO6 := Lib.hid ho6
                have HB6 := Lib.hid (HB5.out.trans (hw6.mono HB5.out.size))
                clear ho6 hw6 HM
                have HPA := Lib.hid (show Calls Try.prog 21 #[.slice (some ⟨g6, 0, none⟩) IA.length cc6, .agg #[.int .i64 64, .int .i64 0]] w6 fun e w' => ImpQ w6 w' (parseI IA 64 20 importD) e ∧ Below w6.heap.size w6 w' from imParse_any (some ⟨g6, 0, none⟩) cc6 IA 64 0 w6 HO6.out.len HO6.out.most (by have := HLA.out; omega) HO6.out.lb HO6.out.slB (by omega))
                go_wp2_with fail
                refine HPA.out.mono ?_
                rintro e w7 ⟨hq, hw7⟩
                have HB7 := Lib.hid (HB6.out.trans (hw7.mono HB6.out.size))
                obtain ⟨A6, m6, c6, y6, rfl, _⟩ := hq.told
                have HO7 := Lib.hid (HO6.out.below hw7)
                clear hq hw7 HPA
                have HPD := Lib.hid (show Calls Try.prog 22 #[.slice (some ⟨g6, 0, none⟩) IA.length cc6, .agg #[.int .i64 64, .int .i64 0]] w7 fun e w' => ImpQ w7 w' (parseI IA 64 32 delayD) e ∧ Below w7.heap.size w7 w' from imDelays_any (some ⟨g6, 0, none⟩) cc6 IA 64 0 w7 HO7.out.len HO7.out.most (by have := HLA.out; omega) HO7.out.lb HO7.out.slB (by omega))
                go_wp2_with fail
                refine HPD.out.mono ?_
                rintro e w8 ⟨hq, hw8⟩
                have HB8 := Lib.hid (HB7.out.trans (hw8.mono HB7.out.size))
                obtain ⟨A7, m7, c7, y7, rfl, hg⟩ := hq.good HRA.out
                clear hq hw8 HPD
                have HB9 := Lib.hid (HB8.out.alloc HB8.out.size (.cells #[.bool gN, .bool gK] 4))
                rcases hg with ⟨rfl, rfl, rfl⟩ | ⟨rfl, rfl, rfl⟩
                · go_wp2_with fail
                  go_roundw
                  case rel => exact ⟨1, by omega, rfl, HB9.out⟩
                  case measure => simp [intOf]
                · go_wp2_with fail
                  go_roundw
                  case rel => exact ⟨1, by omega, rfl, HB9.out⟩
                  case measure => simp [intOf]
            · cases delay
              · go_upto_region 16 with (fail)
                obtain ⟨w5, hw5⟩ : ∃ q, (wr.alloc (.cells #[.string ⟨#[98]⟩, .slice A' K c'] 66)).alloc (.cells #[.slice A n' c, .slice (some ⟨wr.heap.size, 0, none⟩) 1 1] 63) = q := ⟨_, rfl⟩
                have HE5 := Lib.hid hw5
                have h45 : Below (wr.heap.size + 1) (wr.alloc (.cells #[.string ⟨#[98]⟩, .slice A' K c'] 66)) w5 := by rw [← hw5]; exact (Below.refl _ _).alloc (by simp) _
                have h35 : Below wr.heap.size wr w5 := ((Below.refl wr.heap.size wr).alloc (Nat.le_refl _) _).trans (h45.mono (by omega))
                have HB5 := Lib.hid (HW3.out.trans (h35.mono HW3.out.size))
                have HM := Lib.hid (HMB2.out wr HW3.out w5 (by simpa using h45))
                clear hw5 h45 h35
                refine (congrArg _ HE5.out).mpr ?_
                go_wp2_with fail
                refine HM.out.mono ?_
                rintro e w6 ⟨g6, cc6, rfl, ho6, hw6⟩
                have HO6 := Lib.hid ho6
                have HB6 := Lib.hid (HB5.out.trans (hw6.mono HB5.out.size))
                clear ho6 hw6 HM
                have HPA := Lib.hid (show Calls Try.prog 21 #[.slice (some ⟨g6, 0, none⟩) IB.length cc6, .agg #[.int .i64 64, .int .i64 0]] w6 fun e w' => ImpQ w6 w' (parseI IB 64 20 importD) e ∧ Below w6.heap.size w6 w' from imParse_any (some ⟨g6, 0, none⟩) cc6 IB 64 0 w6 HO6.out.len HO6.out.most (by have := HLB.out; omega) HO6.out.lb HO6.out.slB (by omega))
                go_wp2_with fail
                refine HPA.out.mono ?_
                rintro e w7 ⟨hq, hw7⟩
                have HB7 := Lib.hid (HB6.out.trans (hw7.mono HB6.out.size))
                obtain ⟨A7, m7, c7, y7, rfl, hg⟩ := hq.good HRB.out
                have HB8 := Lib.hid HB7.out
                clear hq hw7 HPA
                have HB9 := Lib.hid (HB8.out.alloc HB8.out.size (.cells #[.bool gN, .bool gK] 4))
                rcases hg with ⟨rfl, rfl, rfl⟩ | ⟨rfl, rfl, rfl⟩
                · go_wp2_with fail
                  go_roundw
                  case rel => exact ⟨2, by omega, rfl, HB9.out⟩
                  case measure => simp [intOf]
                · go_wp2_with fail
                  go_roundw
                  case rel => exact ⟨2, by omega, rfl, HB9.out⟩
                  case measure => simp [intOf]
              · go_upto_region 16 with (fail)
                obtain ⟨w5, hw5⟩ : ∃ q, (wr.alloc (.cells #[.string ⟨#[98]⟩, .slice A' K c'] 66)).alloc (.cells #[.slice A n' c, .slice (some ⟨wr.heap.size, 0, none⟩) 1 1] 63) = q := ⟨_, rfl⟩
                have HE5 := Lib.hid hw5
                have h45 : Below (wr.heap.size + 1) (wr.alloc (.cells #[.string ⟨#[98]⟩, .slice A' K c'] 66)) w5 := by rw [← hw5]; exact (Below.refl _ _).alloc (by simp) _
                have h35 : Below wr.heap.size wr w5 := ((Below.refl wr.heap.size wr).alloc (Nat.le_refl _) _).trans (h45.mono (by omega))
                have HB5 := Lib.hid (HW3.out.trans (h35.mono HW3.out.size))
                have HM := Lib.hid (HMB2.out wr HW3.out w5 (by simpa using h45))
                clear hw5 h45 h35
                refine (congrArg _ HE5.out).mpr ?_
                go_wp2_with fail
                refine HM.out.mono ?_
                rintro e w6 ⟨g6, cc6, rfl, ho6, hw6⟩
                have HO6 := Lib.hid ho6
                have HB6 := Lib.hid (HB5.out.trans (hw6.mono HB5.out.size))
                clear ho6 hw6 HM
                have HPA := Lib.hid (show Calls Try.prog 21 #[.slice (some ⟨g6, 0, none⟩) IB.length cc6, .agg #[.int .i64 64, .int .i64 0]] w6 fun e w' => ImpQ w6 w' (parseI IB 64 20 importD) e ∧ Below w6.heap.size w6 w' from imParse_any (some ⟨g6, 0, none⟩) cc6 IB 64 0 w6 HO6.out.len HO6.out.most (by have := HLB.out; omega) HO6.out.lb HO6.out.slB (by omega))
                go_wp2_with fail
                refine HPA.out.mono ?_
                rintro e w7 ⟨hq, hw7⟩
                have HB7 := Lib.hid (HB6.out.trans (hw7.mono HB6.out.size))
                obtain ⟨A6, m6, c6, y6, rfl, _⟩ := hq.told
                have HO7 := Lib.hid (HO6.out.below hw7)
                clear hq hw7 HPA
                have HPD := Lib.hid (show Calls Try.prog 22 #[.slice (some ⟨g6, 0, none⟩) IB.length cc6, .agg #[.int .i64 64, .int .i64 0]] w7 fun e w' => ImpQ w7 w' (parseI IB 64 32 delayD) e ∧ Below w7.heap.size w7 w' from imDelays_any (some ⟨g6, 0, none⟩) cc6 IB 64 0 w7 HO7.out.len HO7.out.most (by have := HLB.out; omega) HO7.out.lb HO7.out.slB (by omega))
                go_wp2_with fail
                refine HPD.out.mono ?_
                rintro e w8 ⟨hq, hw8⟩
                have HB8 := Lib.hid (HB7.out.trans (hw8.mono HB7.out.size))
                obtain ⟨A7, m7, c7, y7, rfl, hg⟩ := hq.good HRB.out
                clear hq hw8 HPD
                have HB9 := Lib.hid (HB8.out.alloc HB8.out.size (.cells #[.bool gN, .bool gK] 4))
                rcases hg with ⟨rfl, rfl, rfl⟩ | ⟨rfl, rfl, rfl⟩
                · go_wp2_with fail
                  go_roundw
                  case rel => exact ⟨2, by omega, rfl, HB9.out⟩
                  case measure => simp [intOf]
                · go_wp2_with fail
                  go_roundw
                  case rel => exact ⟨2, by omega, rfl, HB9.out⟩
                  case measure => simp [intOf]
            · have HBE := Lib.hid (HWT.out.trans (HW3.out.mono HWT.out.size))
              go_wp2_with fail
              refine (HAW.out _).mono ?_
              rintro e w9 ⟨rfl, hw9⟩
              have HBZ := Lib.hid (HBE.out.trans (hw9.mono HBE.out.size))
              clear hw9
              go_wp2_with fail
              go_ret
              exact ⟨rfl, HBZ.out⟩
end Go.Proofs.Ytbjabncefhgefaa
