/- law 16: CpuStack, the walk. -/
import Derived.Test.YthbgmlmcjnlopaaMchU
namespace Go.Proofs.Ythbgmlmcjnlopaa
open Go.ChangeShapes Go.WideShapes Go.ChangeAt Go.RowKit
set_option linter.unusedVariables false
set_option linter.unusedSimpArgs false
set_option maxRecDepth 100000

def NumsU (w : World) (A : Option Addr) (n : Nat) (f : Nat → Nat) : Prop := n = 0 ∨ ∃ b off, A = some ⟨b, off, none⟩ ∧ b < w.heap.size ∧ ∀ i, i < n → w.cell? ⟨b, off + i, none⟩ = some (.int .u64 (f i))
theorem NumsU.kept {w w' : World} {A : Option Addr} {n : Nat} {f : Nat → Nat} (h : NumsU w A n f) (hk : Kept (· < w.heap.size) w w') : NumsU w' A n f := by
  rcases h with h | ⟨b, off, hA, hlt, hc⟩
  · exact .inl h
  · exact .inr ⟨b, off, hA, Nat.lt_of_lt_of_le hlt hk.size, fun i hi => (World.cell?_of_block (hk.block b hlt)).trans (hc i hi)⟩
set_option maxHeartbeats 4000000 in
theorem stack_core (w : World) (A : Option Addr) (l cap : Nat) (Z : Nat → Nat) (hl : l ≤ 9223372036854775807) (hZ : ∀ i, Z i < 18446744073709551616) (hA : NumsU w A l Z) :
    Calls Try.prog 7 #[.slice A l cap] w fun e w' => e = .returned (.bool true) ∧ Below w.heap.size w w' := by
  have HZ := Lib.hid hZ
  have HA := Lib.hid hA
  have HN := Lib.hid (mem0_new w 2 (by omega) (by omega))
  clear hZ hA
  go_enter Try.func7, Try.ntmps7
  go_wp2_with fail
  refine HN.out.mono ?_
  rintro e w1 ⟨M, rfl, h1⟩
  have H1 := Lib.hid h1
  clear h1 HN
  go_wp2_with fail
  refine (mem0_map H1.out 4096 4 1 (by omega) ⟨by decide, by omega, by omega, by omega⟩ (by omega) (by omega) (fun i _ => rfl) (by omega) (by omega)).mono ?_
  rintro e w2 ⟨rfl, h2⟩
  have H2 := Lib.hid h2
  clear h2 H1
  go_wp2_with fail
  refine (mem0_map H2.out 8192 3 1 (by omega) ⟨by decide, by omega, by omega, by omega⟩ (by omega) (by omega) (fun i hi => by (obtain rfl : i = 0 := by omega); kernel_rfl) (by omega) (by omega)).mono ?_
  rintro e w3 ⟨rfl, h3⟩
  have H3 := Lib.hid h3
  clear h3 H2
  go_wp2_with fail
  case' inr => obtain ⟨n, hn, hn1, hn2⟩ : ∃ n : Nat, (l : Int) = n ∧ n ≤ 100 ∧ n ≤ l := ⟨l, rfl, by omega, by omega⟩
  case' inl => obtain ⟨n, hn, hn1, hn2⟩ : ∃ n : Nat, (100 : Int) = n ∧ n ≤ 100 ∧ n ≤ l := ⟨100, rfl, by omega, by omega⟩
  all_goals
    have HMP := Lib.hid (show setP (setP noM 4096 4 1) 8192 3 1 4096 = some ⟨4, fun _ => 0⟩ ∧ setP (setP noM 4096 4 1) 8192 3 1 8192 = some ⟨3, fun _ => 0⟩ from ⟨by kernel_rfl, by kernel_rfl⟩)
    generalize setP (setP noM 4096 4 1) 8192 3 1 = mp0 at *
    have HB3 := Lib.hid (BufL.start H3.out)
    generalize w3.heap.size = B at *
    clear H3
    go_loopw [5, 6] (fun v5 v6 wr => ∃ i : Nat, i ≤ n ∧ v6 = .int .i64 i ∧ BufL w wr M (0 + 1 + 1) 2 mp0 B v5 (List.replicate i 80)) (fun _ v6 _ => n - (intOf v6).toNat)
    case atStart => exact ⟨0, by omega, rfl, HB3.out⟩
    case round =>
      obtain ⟨i, hi, rfl, hbu⟩ := hrel
      have HBU := Lib.hid hbu
      clear hbu HB3
      by_cases hlt : i < n
      · have HSRC := Lib.hid (src_new wr [80] 1)
        have HLE := Lib.hid (show (List.replicate i (80 : Int)).length + [(80 : Int)].length ≤ 140737488355328 from by simp; omega)
        have HBA := Lib.hid (HBU.out.alloc (.cells #[.int .u8 80] 5))
        go_wp2_with (at_builtin; refine wpList_appBL rfl (.tmp 36) (.tmp 37) 24 rfl B _ (List.replicate i 80) rfl HBA.out.own _ rfl [80] HSRC.out HLE.out HBA.out.hB.2 ?_; intro A5 cap5 w5 hown5 hg5 hat5; have HBU5 := Lib.hid (HBA.out.app hown5 hg5 hat5); clear hown5 hg5 hat5)
        go_roundw
        case rel => exact ⟨i + 1, by omega, by go_num, by have h5 := HBU5.out; rw [List.length_replicate] at h5; rw [List.replicate_succ']; exact h5⟩
        case measure => simp [intOf]; omega
      · obtain rfl : i = n := by omega
        go_wp2_with fail
        go_loopw [5, 7] (fun v5 v6 wr => ∃ k : Nat, k ≤ i ∧ v6 = .int .i64 k ∧ BufL w wr M (0 + 1 + 1) 2 mp0 B v5 (codS i k)) (fun _ v6 _ => i - (intOf v6).toNat)
        case atStart => exact ⟨0, by omega, rfl, by unfold codS; rw [List.replicate_zero, List.append_nil]; exact HBU.out⟩
        case round =>
          obtain ⟨k, hk, rfl, hbu⟩ := hrel
          have HBV := Lib.hid hbu
          clear hbu HBU
          by_cases hlt : k < i
          · have HSRC := Lib.hid (src_new wr [89] 1)
            have HLE := Lib.hid (show (codS i k).length + [(89 : Int)].length ≤ 140737488355328 from by unfold codS; simp; omega)
            have HBA := Lib.hid (HBV.out.alloc (.cells #[.int .u8 89] 5))
            go_wp2_with (at_builtin; refine wpList_appBL rfl (.tmp 44) (.tmp 45) 24 rfl B _ (codS i k) rfl HBA.out.own _ rfl [89] HSRC.out HLE.out HBA.out.hB.2 ?_; intro A5 cap5 w5 hown5 hg5 hat5; have HBU5 := Lib.hid (HBA.out.app hown5 hg5 hat5); clear hown5 hg5 hat5)
            go_roundw
            case rel => exact ⟨k + 1, by omega, by go_num, by have h5 := HBU5.out; rw [codS_succ] at h5; exact h5⟩
            case measure => simp [intOf]; omega
          · obtain rfl : k = i := by omega
            go_wp2_with fail
            obtain ⟨A4, cap4, rfl, hc1, hc2⟩ := HBV.out.shape
            rw [codS_len] at hc1 ⊢
            obtain ⟨R, h4, hs4⟩ := HBV.out.src
            rw [codS_len] at hs4
            have H4 := Lib.hid h4
            have HS4 := Lib.hid hs4
            clear h4 hs4 HBV
            refine (mem0_poke H4.out 4096 A4 (k + k) cap4 (litF (codS k k)) (by omega) (by omega) (by omega) (by omega) (by omega) (fun j j0 j1 => ?_) HS4.out (codS_bd k k)).mono ?_
            · rw [show (4096 : Int) + j - (4096 + j) % 4096 = 4096 by omega, HMP.out.1]
              exact fun h => nomatch h
            rintro e w5 ⟨rfl, h5, _⟩
            obtain ⟨mp1, hmp1⟩ : ∃ mp1, putP mp0 4096 (k + k) (litF (codS k k)) = mp1 := ⟨_, rfl⟩
            rw [hmp1] at h5
            have HI := Lib.hid (StkI.start HMP.out.1 HMP.out.2 k hn1 Z hmp1 h5.ok)
            have H5 := Lib.hid h5
            clear h5 hmp1 H4 HS4 HMP
            go_wp2_with fail
            refine (mem0_cpu H5.out).mono ?_
            rintro e w6 ⟨C, _, _, rfl, h6⟩
            have H6 := Lib.hid h6
            clear h6 H5
            go_wp2_with fail
            refine (box_jump H6.out 4096 (by omega) (by omega)).mono ?_
            rintro e w7 ⟨rfl, h7, _⟩
            have H7 := Lib.hid h7
            clear h7 H6
            go_wp2_with fail
            refine (box_put H7.out 4 (by omega) 12288 (by omega) (by omega)).mono ?_
            rintro e w8 ⟨rfl, h8, _⟩
            have H8 := Lib.hid h8
            clear h8 H7
            go_wp2_with fail
            have hr9 : ∃ (R : Nat → Prop) (mp : Int → Option Pg) (s : StV), Box R w w8 C M (0 + 1 + 1) 2 mp s 0 0 ∧ StkI mp k Z 0 ∧ s.r 4 = 12288 - 8 * ((0 : Nat) : Int) ∧ s.ip = 4096 + ((0 : Nat) : Int) := ⟨_, _, _, H8.out, HI.out, rfl, rfl⟩
            have HR9 := Lib.hid hr9
            clear hr9 HI H8
            go_loopw [9] (fun v9 wr => ∃ i : Nat, i ≤ k ∧ v9 = .int .i64 i ∧ ∃ (R : Nat → Prop) (mp : Int → Option Pg) (s : StV), Box R w wr C M (0 + 1 + 1) 2 mp s 0 0 ∧ StkI mp k Z i ∧ s.r 4 = 12288 - 8 * (i : Int) ∧ s.ip = 4096 + (i : Int)) (fun v9 _ => k - (intOf v9).toNat)
            case atStart => exact ⟨0, by omega, rfl, HR9.out⟩
            case round =>
              clear HR9
              obtain ⟨i, hi, rfl, R, mp, s, hbx, hst, h4, hip⟩ := hrel
              have HBX := Lib.hid hbx
              have HST := Lib.hid hst
              have H4 := Lib.hid (And.intro h4 hip)
              clear hbx hst h4 hip
              by_cases hlt : i < k
              · have hz := HZ.out i
                obtain ⟨b, off, rfl, hcl⟩ : ∃ b off, A = some ⟨b, off, none⟩ ∧ wr.cell? ⟨b, off + i, none⟩ = some (.int .u64 (Z i)) := by
                  rcases HA.out.kept HBX.out.kept with h | ⟨b, off, h1, _, h2⟩
                  · omega
                  · exact ⟨b, off, h1, h2 i (by omega)⟩
                go_wp2_with fail
                refine (box_put HBX.out 0 (by omega) (Z i) (by omega) (by omega)).mono ?_
                rintro e w9 ⟨rfl, h9, _⟩
                have H9 := Lib.hid h9
                clear h9 HBX hcl
                go_wp2_with fail
                refine (push_box H9.out HST.out hlt hn1 hz H4.out.1 H4.out.2 rfl).mono ?_
                rintro e w10 ⟨rfl, mp', s', h10, hst10, h4', hip'⟩
                have H10 := Lib.hid h10
                have HST10 := Lib.hid hst10
                have H4' := Lib.hid (And.intro h4' hip')
                clear h10 hst10 h4' hip' H9 HST
                go_wp2_with fail
                refine (box_reg H10.out 4 (by omega) _ H4'.out.1).mono ?_
                rintro e w11 ⟨rfl, rfl⟩
                go_wp2_with fail
                go_roundw
                case rel => exact ⟨i + 1, by omega, by go_num, _, _, _, H10.out, HST10.out, by rw [H4'.out.1]; omega, by rw [H4'.out.2]; omega⟩
                case measure => simp [intOf]; omega
              · obtain rfl : i = k := by omega
                go_wp2_with fail
                go_loopw [12] (fun v12 wr => ∃ (c : Nat) (x : Int), c ≤ i ∧ v12 = .int .i64 x ∧ x = (c : Int) - 1 ∧ ∃ (R : Nat → Prop) (mp : Int → Option Pg) (s : StV), Box R w wr C M (0 + 1 + 1) 2 mp s 0 0 ∧ StkI mp i Z c ∧ s.r 4 = 12288 - 8 * (c : Int) ∧ s.ip = 4096 + ((i : Int) + (i - c))) (fun v12 _ => (intOf v12 + 1).toNat)
                case atStart => exact ⟨i, _, by omega, rfl, rfl, _, _, _, HBX.out, HST.out, H4.out.1, by rw [H4.out.2]; omega⟩
                case round =>
                  clear HBX HST H4
                  obtain ⟨c, x, hc, rfl, hx, R, mp, s, hbx, hst, h4, hip⟩ := hrel
                  have HBX := Lib.hid hbx
                  have HST := Lib.hid hst
                  have H4 := Lib.hid (And.intro h4 hip)
                  clear hbx hst h4 hip
                  by_cases hlt : 0 < c
                  · obtain ⟨j, rfl⟩ : ∃ j, c = j + 1 := ⟨c - 1, by omega⟩
                    obtain rfl : x = (j : Int) := by omega
                    clear hx
                    have hz := HZ.out j
                    obtain ⟨b, off, rfl, hcl⟩ : ∃ b off, A = some ⟨b, off, none⟩ ∧ wr.cell? ⟨b, off + j, none⟩ = some (.int .u64 (Z j)) := by
                      rcases HA.out.kept HBX.out.kept with h | ⟨b, off, h1, _, h2⟩
                      · omega
                      · exact ⟨b, off, h1, h2 j (by omega)⟩
                    clear hcl
                    go_wp2_with fail
                    refine (pop_box HBX.out HST.out (by omega) hn1 hz (by have := H4.out.1; omega) (by have := H4.out.2; omega)).mono ?_
                    rintro e w10 ⟨rfl, s', h10, hst10, h4', hip', h1'⟩
                    have hcl : w10.cell? ⟨b, off + j, none⟩ = some (.int .u64 (Z j)) := by
                      rcases HA.out.kept h10.kept with h | ⟨b', off', h1, _, h2⟩
                      · omega
                      · injection h1 with h1
                        injection h1 with h1 h3
                        subst h1 h3
                        exact h2 j (by omega)
                    have H10 := Lib.hid h10
                    have HST10 := Lib.hid hst10
                    have H4' := Lib.hid (And.intro h4' (And.intro hip' h1'))
                    clear h10 hst10 h4' hip' h1' HBX HST
                    go_upto_region 32 with (fail)
                    have HRG := Lib.hid (fun W (hW : Below w10.heap.size w10 W) => show Calls Try.prog 18 #[.pointer (some ⟨C, 0, none⟩), .int .i64 1] W fun e w' => e = .returned (.int .u64 (Z j)) ∧ W = w' from by
                      refine (box_reg (H10.out.below hW) 1 (by omega) _ H4'.out.2.2).mono ?_
                      rintro e w' ⟨rfl, rfl⟩
                      exact ⟨rfl, rfl⟩)
                    have HCL := Lib.hid (fun W (hW : Below w10.heap.size w10 W) => show W.cell? ⟨b, off + j, none⟩ = some (.int .u64 (Z j)) from (hW.cell (World.block_lt_of_cell? w10 _ hcl)).trans hcl)
                    clear hcl
                    have hjl : j < l := by omega
                    have hji : j < i := by omega
                    have HS := Lib.hid (show Below w10.heap.size w10 w10.drew from (Below.refl _ _).drew)
                    refine wp_region_noPanic ?_
                    refine wp_region_K (fun W => Below w10.heap.size w10 W) (fun _ => True) 99 (by kernel_rfl) ?_
                    refine wpAnyK_take (i := 0) (oi := ?_) (v := ?_) ?_ (by kernel_rfl) (by kernel_rfl) (by kernel_rfl) (fun _ _ _ h => h) (by decide) ?_ HS.out (fun _ => trivial) ?_
                    rotate_left 2
                    · (simp only [List.getElem?_toArray, List.getElem?_cons_succ, List.getElem?_cons_zero]; rfl)
                    · (first | exact Or.inr ⟨by rfl, rfl⟩ | (refine Or.inl ⟨by rfl, ?_⟩; intro W hSw; clear hSw; go_simp; try with_reducible rfl))
                    try simp only [Act.put, List.setIfInBounds_toArray, List.set_cons_zero, List.set_cons_succ]
                    refine wpAnyK_take (i := 1) (oi := ?_) (v := ?_) ?_ (by kernel_rfl) (by kernel_rfl) (by kernel_rfl) (fun _ _ _ h => h) (by decide) ?_ HS.out (fun _ => trivial) ?_
                    rotate_left 2
                    · (simp only [List.getElem?_toArray, List.getElem?_cons_succ, List.getElem?_cons_zero]; rfl)
                    · (first | exact Or.inr ⟨by rfl, rfl⟩ | (refine Or.inl ⟨by rfl, ?_⟩; intro W hSw; clear hSw; go_simp; try with_reducible rfl))
                    try simp only [Act.put, List.setIfInBounds_toArray, List.set_cons_zero, List.set_cons_succ]
                    refine wpAnyK_take (i := 2) (oi := ?_) (v := ?_) ?_ (by kernel_rfl) (by kernel_rfl) (by kernel_rfl) (fun _ _ _ h => h) (by decide) ?_ HS.out (fun _ => trivial) ?_
                    rotate_left 2
                    · (simp only [List.getElem?_toArray, List.getElem?_cons_succ, List.getElem?_cons_zero]; rfl)
                    · (first | exact Or.inr ⟨by rfl, rfl⟩ | (refine Or.inl ⟨by rfl, ?_⟩; intro W hSw; clear hSw; go_simp; try with_reducible rfl))
                    try simp only [Act.put, List.setIfInBounds_toArray, List.set_cons_zero, List.set_cons_succ]
                    refine wpAnyK_take (i := 3) (oi := ?_) (v := ?_) ?_ (by kernel_rfl) (by kernel_rfl) (by kernel_rfl) (fun _ _ _ h => h) (by decide) ?_ HS.out (fun _ => trivial) ?_
                    rotate_left 2
                    · (simp only [List.getElem?_toArray, List.getElem?_cons_succ, List.getElem?_cons_zero]; rfl)
                    · (first | exact Or.inr ⟨by rfl, rfl⟩ | (refine Or.inl ⟨by rfl, ?_⟩; intro W hSw; clear hSw; go_simp; try with_reducible rfl))
                    try simp only [Act.put, List.setIfInBounds_toArray, List.set_cons_zero, List.set_cons_succ]
                    refine wpAnyK_takeQ (i := 4) (oi := ?_) (v := .int .u64 (Z j)) ?_ (by kernel_rfl) (by kernel_rfl) (by kernel_rfl) (fun _ _ _ h => h) (by decide) ?_ HS.out (fun _ => trivial) ?_
                    rotate_left 1
                    · (simp only [List.getElem?_toArray, List.getElem?_cons_succ, List.getElem?_cons_zero]; rfl)
                    · refine ⟨by rfl, fun W hW => ⟨18, #[.pointer (some ⟨C, 0, none⟩), .int .i64 1], ?_, HRG.out W hW⟩⟩
                      first | kernel_rfl | (go_simp; done) | rfl
                    try simp only [Act.put, List.setIfInBounds_toArray, List.set_cons_zero, List.set_cons_succ]
                    refine wpAnyK_take (i := 5) (oi := ?_) (v := ?_) ?_ (by kernel_rfl) (by kernel_rfl) (by kernel_rfl) (fun _ _ _ h => h) (by decide) ?_ HS.out (fun _ => trivial) ?_
                    rotate_left 2
                    · (simp only [List.getElem?_toArray, List.getElem?_cons_succ, List.getElem?_cons_zero]; rfl)
                    · (first | exact Or.inr ⟨by rfl, rfl⟩ | (refine Or.inl ⟨by rfl, ?_⟩; intro W hSw; clear hSw; go_simp; try with_reducible rfl))
                    try simp only [Act.put, List.setIfInBounds_toArray, List.set_cons_zero, List.set_cons_succ]
                    refine wpAnyK_take (i := 6) (oi := ?_) (v := ?_) ?_ (by kernel_rfl) (by kernel_rfl) (by kernel_rfl) (fun _ _ _ h => h) (by decide) ?_ HS.out (fun _ => trivial) ?_
                    rotate_left 2
                    · (simp only [List.getElem?_toArray, List.getElem?_cons_succ, List.getElem?_cons_zero]; rfl)
                    · (first | exact Or.inr ⟨by rfl, rfl⟩ | (refine Or.inl ⟨by rfl, ?_⟩; intro W hSw; clear hSw; go_simp; try with_reducible rfl))
                    try simp only [Act.put, List.setIfInBounds_toArray, List.set_cons_zero, List.set_cons_succ]
                    refine wpAnyK_take (i := 7) (oi := ?_) (v := ?_) ?_ (by kernel_rfl) (by kernel_rfl) (by kernel_rfl) (fun _ _ _ h => h) (by decide) ?_ HS.out (fun _ => trivial) ?_
                    rotate_left 2
                    · (simp only [List.getElem?_toArray, List.getElem?_cons_succ, List.getElem?_cons_zero]; rfl)
                    · (first | exact Or.inr ⟨by rfl, rfl⟩ | (refine Or.inl ⟨by rfl, ?_⟩; intro W hSw; clear hSw; go_simp; try with_reducible rfl))
                    try simp only [Act.put, List.setIfInBounds_toArray, List.set_cons_zero, List.set_cons_succ]
                    refine wpAnyK_take (i := 8) (oi := ?_) (v := ?_) ?_ (by kernel_rfl) (by kernel_rfl) (by kernel_rfl) (fun _ _ _ h => h) (by decide) ?_ HS.out (fun _ => trivial) ?_
                    rotate_left 2
                    · (simp only [List.getElem?_toArray, List.getElem?_cons_succ, List.getElem?_cons_zero]; rfl)
                    · (first | exact Or.inr ⟨by rfl, rfl⟩ | (refine Or.inl ⟨by rfl, ?_⟩; intro W hSw; have hq := HCL.out W hSw; clear hSw; go_simp; try with_reducible rfl))
                    try simp only [Act.put, List.setIfInBounds_toArray, List.set_cons_zero, List.set_cons_succ]
                    refine wpAnyK_take (i := 9) (oi := ?_) (v := ?_) ?_ (by kernel_rfl) (by kernel_rfl) (by kernel_rfl) (fun _ _ _ h => h) (by decide) ?_ HS.out (fun _ => trivial) ?_
                    rotate_left 2
                    · (simp only [List.getElem?_toArray, List.getElem?_cons_succ, List.getElem?_cons_zero]; rfl)
                    · (first | exact Or.inr ⟨by rfl, rfl⟩ | (refine Or.inl ⟨by rfl, ?_⟩; intro W hSw; clear hSw; go_simp; try with_reducible rfl))
                    try simp only [Act.put, List.setIfInBounds_toArray, List.set_cons_zero, List.set_cons_succ]
                    refine wpAnyK_take (i := 10) (oi := ?_) (v := ?_) ?_ (by kernel_rfl) (by kernel_rfl) (by kernel_rfl) (fun _ _ _ h => h) (by decide) ?_ HS.out (fun _ => trivial) ?_
                    rotate_left 2
                    · (simp only [List.getElem?_toArray, List.getElem?_cons_succ, List.getElem?_cons_zero]; rfl)
                    · (first | exact Or.inr ⟨by rfl, rfl⟩ | (refine Or.inl ⟨by rfl, ?_⟩; intro W hSw; clear hSw; go_simp; try with_reducible rfl))
                    try simp only [Act.put, List.setIfInBounds_toArray, List.set_cons_zero, List.set_cons_succ]
                    refine wpAnyK_done (by kernel_rfl) ?_ _
                    refine NoPanic.normal ?_
                    have HS2 := Lib.hid (H10.out.below HS.out)
                    go_wp2_with fail
                    go_roundw
                    case rel => exact ⟨j, _, by omega, rfl, rfl, _, _, _, HS2.out, HST10.out, H4'.out.1, H4'.out.2.1⟩
                    case measure => first | (simp [intOf]; done) | (simp [intOf]; omega)
                  · obtain rfl : c = 0 := by omega
                    obtain rfl : x = -1 := by omega
                    clear hx
                    go_wp2_with fail
                    refine (box_reg HBX.out 4 (by omega) 12288 (by rw [H4.out.1]; omega)).mono ?_
                    rintro e w12 ⟨rfl, rfl⟩
                    go_wp2_with fail
                    refine (box_ip HBX.out (4096 + 2 * (i : Int)) (by rw [H4.out.2]; omega)).mono ?_
                    rintro e w12 ⟨rfl, rfl⟩
                    go_wp2_with fail
                    refine (awake16_any w12).mono ?_
                    rintro e w14 ⟨rfl, hb14⟩
                    have H14 := Lib.hid (HBX.out.ends.trans (hb14.mono HBX.out.ends.size))
                    go_wp2
                    go_ret
                    exact ⟨rfl, H14.out⟩
end Go.Proofs.Ythbgmlmcjnlopaa
