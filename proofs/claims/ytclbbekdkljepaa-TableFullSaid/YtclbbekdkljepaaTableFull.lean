/- law 18: as many modules as the bound says. -/
import Derived.Test.YtclbbekdkljepaaFullA
namespace Go.Proofs.Ytclbbekdkljepaa
open Go.ChangeShapes Go.WideShapes Go.ChangeAt Go.RowKit
set_option linter.unusedVariables false

theorem and_31' (n : Int) : bits .and .i64 n 31 = n % 32 := i64_mask n 5 (by omega)

/-- The modules are there. -/
def Full1 (w wr : World) (n : Nat) : Prop := ∃ (L : List Md) (sv : Value), TabAt wr w.heap.size w.heap.size n L [] sv (.slice none 0 0) ∧ Rows18 L n [] ∧ Below w.heap.size w wr
/-- The modules, those that are attached, and the list of them. -/
def Full2 (w wr : World) (C : List Int) (cv : Value) : Prop := ∃ (L : List Md) (sv av : Value), TabAt wr w.heap.size w.heap.size 32 L C sv av ∧ Rows18 L 32 C ∧ Came wr w.heap.size w.heap.size L sv av cv C ∧ Below w.heap.size w wr
structure Lst (C : List Int) (k : Nat) : Prop where
  nd : C.Nodup
  len : C.length ≤ k
  rng : ∀ x ∈ C, 1 ≤ x ∧ x ≤ 32

set_option maxRecDepth 100000 in
set_option maxHeartbeats 4000000 in
theorem full_walk (kk : Int) (A : Option Addr) (ord : List Int) (cap : Nat) (w : World) (hs : SlT intC 1 w A ord) (hl : ord.length ≤ 9223372036854775807) :
    Calls Try.prog 5 #[.int .i64 kk, .slice A ord.length cap] w fun e w' => e = .returned (.bool true) ∧ Below w.heap.size w w' := by
  have HS := Lib.hid hs
  obtain ⟨N, hN⟩ : ∃ N : Nat, kk % 32 = N := ⟨(kk % 32).toNat, by omega⟩
  have hK := (and_31' kk).trans hN
  have hN32 : N < 32 := by omega
  clear hs hN
  go_enter Try.func5, Try.ntmps5
  go_wp2_with fail
  go_fit (tabNew w)
  rintro e w1 ⟨rfl, h1, hb1⟩
  have H1 := Lib.hid (show Full1 w w1 0 from ⟨[], _, h1, Rows18.nil, hb1⟩)
  clear h1 hb1
  go_wp2_with fail
  go_loopw [6] (fun v6 wr => ∃ n : Nat, n ≤ 32 ∧ v6 = .int .i64 ((n : Int) + 1) ∧ Full1 w wr n) (fun v6 _ => 33 - (intOf v6).toNat)
  case atStart => exact ⟨0, by omega, rfl, H1.out⟩
  case round =>
    obtain ⟨n, hn, rfl, hf⟩ := hrel
    have HF := Lib.hid hf
    clear hf H1
    by_cases hlt : n < 32
    · obtain ⟨L, sv, ht, hr, hb⟩ := HF.out
      have HR := Lib.hid hr
      have HB := Lib.hid hb
      have HDG := Lib.hid (digits_any (n + 1) wr (by omega))
      have hadd := fun (W : World) => run_string_add_sum (P := Try.prog) W ⟨#[109]⟩ (dB (n + 1)) (by have := (nm_facts (n + 1) (by omega)).2.1; show 1 + _ ≤ _; omega)
      have HAD := Lib.hid (add_new wr _ _ _ _ _ _ _ (nmB (n + 1)) (kyB (n + 1)) ht (by have := (nm_facts (n + 1) (by omega)).1; omega) (ky_of (n + 1) (by omega)) (hr.key_no (by omega)) (by have := hr.len; omega) (by omega) (by omega))
      rw [show ((n : Nat) : Int) + 1 = ((n + 1 : Nat) : Int) from rfl] at *
      clear ht hr hb HF
      unfold nmB at HAD
      go_wp2_with (first
        | (go_fit HDG.out; rintro e w2 ⟨rfl, rfl⟩)
        | (refine wpList_built rfl 46 #[] rfl [] peZ rfl built_peZ ?_)
        | (go_fit HAD.out; rintro e w3 ⟨rfl, hx⟩; have HX := Lib.hid hx; clear hx))
      go_roundw
      case rel =>
        refine ⟨n + 1, by omega, by go_num, ?_⟩
        obtain ⟨sv', p, h1, h2⟩ := HX.out
        exact ⟨_, sv', h1, HR.out.add p, HB.out.trans h2⟩
      case measure => simp [intOf]; omega
    · obtain rfl : n = 32 := by omega
      obtain ⟨L, sv, ht, hr, hb⟩ := HF.out
      have H2 := Lib.hid (show Full2 w wr [] (.slice none 0 0) from ⟨L, sv, _, ht, hr, ⟨OwnL.nil _ _ _, fun g e => by cases e⟩, hb⟩)
      clear ht hr hb HF hlt hn
      simp only [show (((32 : Nat) : Int) + 1) = 33 from rfl]
      go_wp2_with fail
      go_loopw [9, 10] (fun v9 v10 wr => ∃ (k : Nat) (C : List Int) (B : Option Addr) (c : Nat), k ≤ ord.length ∧ k ≤ 20 ∧ v10 = .int .i64 k ∧ v9 = .slice B C.length c ∧ Lst C k ∧ Full2 w wr C (.slice B C.length c)) (fun _ v10 _ => ord.length - (intOf v10).toNat)
      case atStart => exact ⟨0, [], none, 0, by omega, by omega, rfl, rfl, ⟨List.nodup_nil, by simp, fun x hx => by simp at hx⟩, H2.out⟩
      case round =>
        obtain ⟨k, C, B, c, hk, hk20, rfl, rfl, hc, hf⟩ := hrel
        have HC := Lib.hid hc
        have HF := Lib.hid hf
        clear hc hf H2
        by_cases hlt : k < ord.length
        · by_cases hlt2 : k < 20
          · obtain ⟨L, sv, av, ht, hr, hca, hb⟩ := HF.out
            obtain ⟨b, off, rfl, _, q0⟩ := (HS.out.below hb).int hlt
            generalize ord[k] = x at *
            obtain ⟨J, hJ⟩ : ∃ J : Nat, x % 32 = J := ⟨(x % 32).toNat, by omega⟩
            have hx := (and_31' x).trans hJ
            have hJ32 : J < 32 := by omega
            have HSL := Lib.hid hca.own.slT
            have HR := Lib.hid hr
            have HB := Lib.hid hb
            have HT := Lib.hid ht
            have HCA := Lib.hid hca
            have hk' : (k : Int) < (ord.length : Int) := by omega
            have hcl : C.length ≤ 20 := by have := HC.out.len; omega
            have HJL := Lib.hid (show J < L.length by have := hr.len; omega)
            have HOF := Lib.hid (hr.of J HJL.out ((J : Int) + 1) rfl)
            clear hJ ht hr hca hb HF
            by_cases hin : ((J : Int) + 1) ∈ C
            · have hall : memK C ((J : Int) + 1) C.length = true := (memK_all C _).2 hin
              have HAL := Lib.hid hall
              have HAG := Lib.hid (att_again wr _ _ _ _ _ _ _ ((J : Int) + 1) J HJL.out HT.out HOF.out ((HR.out.att J HJL.out).2 hin))
              clear hin hall
              go_wp2_with fail
              go_loop [12, 13] (fun v12 v13 => ∃ q : Nat, q ≤ C.length ∧ v13 = .int .i64 q ∧ v12 = .bool (memK C ((J : Int) + 1) q)) (fun _ v13 => C.length - (intOf v13).toNat)
              case atStart => exact ⟨0, by omega, rfl, rfl⟩
              case round =>
                obtain ⟨q, hq, rfl, rfl⟩ := hrel
                by_cases hqt : q < C.length
                · obtain ⟨g, o, rfl, _, c0⟩ := HSL.out.int hqt
                  have HM := Lib.hid (memK_succ C ((J : Int) + 1) q hqt)
                  generalize C[q] = y at *
                  have hq' : (q : Int) < (C.length : Int) := by omega
                  cases hm : memK C ((J : Int) + 1) q <;> cases he : (y == (J : Int) + 1)
                  all_goals
                    rw [hm, he] at HM
                    clear hm
                    go_wp2_with fail
                    go_round
                    case rel => exact ⟨q + 1, by omega, by go_num, by rw [HM.out]; rfl⟩
                    case measure => simp [intOf]; omega
                · obtain rfl : q = C.length := by omega
                  rw [HAL.out]
                  go_wp2_with (go_fit HAG.out; rintro e w2 ⟨rfl, rfl⟩)
                  go_roundw
                  case rel => exact ⟨k + 1, C, B, c, by omega, by omega, by go_num, rfl, ⟨HC.out.nd, by have := HC.out.len; omega, HC.out.rng⟩, ⟨L, sv, av, HT.out, HR.out, HCA.out, HB.out⟩⟩
                  case measure => simp [intOf]; omega
            · have hall : memK C ((J : Int) + 1) C.length = false := by rw [Bool.eq_false_iff]; exact fun h => hin ((memK_all C _).1 h)
              have HAL := Lib.hid hall
              have HIN := Lib.hid hin
              clear hin hall
              go_wp2_with fail
              go_loop [12, 13] (fun v12 v13 => ∃ q : Nat, q ≤ C.length ∧ v13 = .int .i64 q ∧ v12 = .bool (memK C ((J : Int) + 1) q)) (fun _ v13 => C.length - (intOf v13).toNat)
              case atStart => exact ⟨0, by omega, rfl, rfl⟩
              case round =>
                obtain ⟨q, hq, rfl, rfl⟩ := hrel
                by_cases hqt : q < C.length
                · obtain ⟨g, o, rfl, _, c0⟩ := HSL.out.int hqt
                  have HM := Lib.hid (memK_succ C ((J : Int) + 1) q hqt)
                  generalize C[q] = y at *
                  have hq' : (q : Int) < (C.length : Int) := by omega
                  cases hm : memK C ((J : Int) + 1) q <;> cases he : (y == (J : Int) + 1)
                  all_goals
                    rw [hm, he] at HM
                    clear hm
                    go_wp2_with fail
                    go_round
                    case rel => exact ⟨q + 1, by omega, by go_num, by rw [HM.out]; rfl⟩
                    case measure => simp [intOf]; omega
                · obtain rfl : q = C.length := by omega
                  rw [HAL.out]
                  have ho2 := HCA.out.own.alloc (.cells #[.int .i64 ((J : Int) + 1)] 3)
                  have hsrc : (wr.alloc (.cells #[.int .i64 ((J : Int) + 1)] 3)).cell? ⟨wr.heap.size, 0, none⟩ = some (.int .i64 ((J : Int) + 1)) := by
                    rw [cell_of_row _ _ _ _ _ _ (heap_alloc_new wr (.cells #[.int .i64 ((J : Int) + 1)] 3))]; rfl
                  have HO2 := Lib.hid ho2
                  have HSRC := Lib.hid hsrc
                  have HLE := Lib.hid (show w.heap.size ≤ (wr.alloc (.cells #[.int .i64 ((J : Int) + 1)] 3)).heap.size by have := HB.out.size; simp; omega)
                  have HCL := Lib.hid (show (C.map (Value.int .i64)).length ≤ 1000 by rw [List.length_map]; omega)
                  clear ho2 hsrc
                  go_upto_region 22 with (refine wpList_appL rfl (.tmp 77) (.tmp 79) 22 22 rfl w.heap.size 3 (.int .i64 0) 8 rfl rfl rfl (.slice B C.length c) (C.map (Value.int .i64)) rfl HO2.out (.slice (some ⟨wr.heap.size, 0, none⟩) 1 1) rfl [.int .i64 ((J : Int) + 1)] (src_one rfl rfl HSRC.out 1) (Nat.le_trans (Nat.succ_le_succ HCL.out) (by decide)) (Nat.le_trans (Nat.mul_le_mul_right 8 (Nat.succ_le_succ HCL.out)) (by decide)) HLE.out ?_; intro A' cap' w5 hown5 hg5 hat5; have HO5 := Lib.hid hown5; have HG5 := Lib.hid hg5; have HAT5 := Lib.hid hat5; clear hown5 hg5 hat5)
                  have HX := Lib.hid (Came.append (cv' := .slice A' (C.length + 1) cap') HT.out HCA.out (.cells #[.int .i64 ((J : Int) + 1)] 3) ((J : Int) + 1) HG5.out (by have h := HO5.out; rw [List.length_map] at h; exact h) (by
                    rcases HAT5.out with e | e
                    · exact .inl ((ownB_len _ _ _ _ _).trans e)
                    · exact .inr ((ownB_len _ _ _ _ _).trans (e.trans (by simp)))))
                  have HOFF := Lib.hid (show L[J].att = false by rw [Bool.eq_false_iff]; exact fun h => HIN.out ((HR.out.att J HJL.out).1 h))
                  have HATT := Lib.hid (att_on w5 _ _ _ _ _ _ _ ((J : Int) + 1) J HJL.out HX.out.1 HOF.out HOFF.out (by omega))
                  clear HO5 HG5 HAT5
                  go_wp2_with (go_fit HATT.out; rintro e w6 ⟨rfl, hx⟩; have HY := Lib.hid hx; clear hx)
                  go_roundw
                  case rel =>
                    obtain ⟨av', t1, t2, t3⟩ := HY.out
                    have hl1 : (C ++ [((J : Int) + 1)]).length = C.length + 1 := by simp
                    refine ⟨k + 1, C ++ [((J : Int) + 1)], A', cap', by omega, by omega, by go_num, by rw [hl1], ⟨?_, by rw [hl1]; have := HC.out.len; omega, fun y hy => ?_⟩, ⟨_, sv, av', t1, HR.out.set J HJL.out _ rfl, ?_, (HB.out.trans HX.out.2.2).trans t2⟩⟩
                    · rw [List.nodup_append]
                      exact ⟨HC.out.nd, by simp, fun a ha b hb => by rw [List.mem_singleton] at hb; subst hb; exact fun e => HIN.out (e ▸ ha)⟩
                    · rcases List.mem_append.1 hy with h | h
                      · exact HC.out.rng y h
                      · rw [List.mem_singleton] at h; omega
                    · rw [hl1]; exact HX.out.2.1.aside t3 t2.size
                  case measure => simp [intOf]; omega
          · obtain rfl : k = 20 := by omega
            have hk' : ((20 : Nat) : Int) < (ord.length : Int) := by omega
            clear hlt hlt2
            go_upto_region 24 with fail
            obtain ⟨L, sv, av, ht, hr, hca, hb⟩ := HF.out
            have HR := Lib.hid hr
            have HB := Lib.hid hb
            have HT := Lib.hid ht
            have HCA := Lib.hid hca
            have hcl : C.length ≤ 1000 := by have := HC.out.len; omega
            have HCL := Lib.hid hcl
            have HFU := Lib.hid (add_full wr _ _ _ _ _ _ _ moreB moreK ht (by decide) more_of (hr.more_no (by omega)) hr.len)
            clear ht hr hca hb HF hcl
            unfold moreB at HFU
            go_upto_region 25 with (first
              | (refine wpList_built rfl 46 #[] rfl [] peZ rfl built_peZ ?_)
              | (go_fit HFU.out; rintro e w3 ⟨rfl, hb3⟩; have HB3 := Lib.hid hb3; clear hb3))
            have HT3 := Lib.hid (HT.out.below HB3.out)
            have HCA3 := Lib.hid (HCA.out.aside (Aside'.below HB3.out) HB3.out.size)
            have HW3 := Lib.hid (HB.out.trans (HB3.out.mono HB.out.size))
            have HAT := Lib.hid (attached_any w3 _ _ _ _ _ _ _ HT3.out HCL.out)
            clear HT HCA HB HB3 HFU
            go_wp2_with (go_fit HAT.out; rintro e w4 ⟨A4, c4, rfl, hs4, hb4⟩; have HS4 := Lib.hid hs4; have HB4 := Lib.hid hb4; clear hs4 hb4)
            have HT4 := Lib.hid (HT3.out.below HB4.out)
            have HCA4 := Lib.hid (HCA3.out.aside (Aside'.below HB4.out) HB4.out.size)
            have HW4 := Lib.hid (HW3.out.trans (HB4.out.mono HW3.out.size))
            have HSI := Lib.hid (sameInts_eq A4 B C c4 c w4 HS4.out HCA4.out.own.slT (by have := HCL.out; omega))
            clear HT3 HCA3 HW3 HB4 HAT HS4
            go_fit HSI.out
            rintro e w5 ⟨rfl, d, rfl⟩
            have hb5 : Below w4.heap.size w4 (w4.drewN d) := ⟨rfl, rfl, rfl, Nat.le_refl _, fun _ _ => rfl⟩
            have HT5 := Lib.hid (HT4.out.below hb5)
            have HCA5 := Lib.hid (HCA4.out.aside (Aside'.below hb5) hb5.size)
            have HW5 := Lib.hid (HW4.out.trans (hb5.mono HW4.out.size))
            clear HT4 HCA4 HW4 hb5 HSI
            generalize w4.drewN d = w5 at *
            have HN := Lib.hid (show N < L.length by have := HR.out.len; omega)
            have HDR := Lib.hid (drop_yes w5 _ _ _ _ _ _ _ ((N : Int) + 1) N HN.out (HR.out.id N HN.out) HT5.out HCL.out HC.out.nd (HR.out.of N HN.out _ rfl) (fun j hj hne => HR.out.other N j hj hne))
            go_upto_region 29 with (go_fit HDR.out; rintro e w6 ⟨rfl, hx⟩; have HX := Lib.hid hx; clear hx)
            obtain ⟨sv6, av6, h6, hb6, ha6⟩ := HX.out
            have HT6 := Lib.hid h6
            have HCA6 := Lib.hid (HCA5.out.aside ha6 hb6.size)
            have HW6 := Lib.hid (HW5.out.trans hb6)
            have hlen6 : (L.eraseIdx N).length = 31 := by rw [List.length_eraseIdx, if_pos HN.out, HR.out.len]
            have HAD := Lib.hid (add_newF w6 _ _ _ _ _ _ _ moreB moreK h6 (by decide) more_of (HR.out.more_no' (by omega) N) (by omega) (by omega) (by omega))
            clear h6 hb6 ha6 HX HDR HT5 HCA5 HW5 hlen6
            unfold moreB at HAD
            go_upto_region 30 with (first
              | (refine wpList_built rfl 46 #[] rfl [] peZ rfl built_peZ ?_)
              | (go_fit HAD.out; rintro e w7 ⟨rfl, hx⟩; have HX := Lib.hid hx; clear hx))
            obtain ⟨sv7, p7, h7, hb7, ha7⟩ := HX.out
            have HT7 := Lib.hid h7
            have HCA7 := Lib.hid (HCA6.out.aside ha7 hb7.size)
            have HW7 := Lib.hid (HW6.out.trans hb7)
            have HGO := Lib.hid (HR.out.gone N ⟨32 + 1, moreK, 0, 0, -1, false, p7⟩ (by show (32 : Int) + 1 ≠ _; omega))
            clear h7 hb7 ha7 HX HAD HT6 HCA6 HW6
            go_wp2_with fail
            go_loopw [19, 20] (fun v19 v20 wq => ∃ (i : Nat) (B2 : Option Addr) (c2 : Nat), i ≤ C.length ∧ v20 = .int .i64 i ∧ v19 = .slice B2 (without (C.take i) ((N : Int) + 1)).length c2 ∧ OwnL wq w7.heap.size 3 (.slice B2 (without (C.take i) ((N : Int) + 1)).length c2) ((without (C.take i) ((N : Int) + 1)).map (Value.int .i64)) ∧ Below w7.heap.size w7 wq) (fun _ v20 _ => C.length - (intOf v20).toNat)
            case atStart => exact ⟨0, none, 0, by omega, rfl, rfl, OwnL.nil _ _ _, Below.refl _ _⟩
            case round =>
              obtain ⟨i, B2, c2, hi, rfl, rfl, ho, hbq⟩ := hrel
              have HO := Lib.hid ho
              have HBQ := Lib.hid hbq
              clear ho hbq
              by_cases hit : i < C.length
              · obtain ⟨g, o, rfl, _, c0⟩ := (HCA7.out.own.below HBQ.out).slT.int hit
                have HTK := Lib.hid (show C.take (i + 1) = C.take i ++ [C[i]] from List.take_succ_eq_append_getElem hit)
                have HWL := Lib.hid (show (without (C.take i) ((N : Int) + 1)).length ≤ 1000 from Nat.le_trans (without_le (C.take i) ((N : Int) + 1)) (Nat.le_trans (List.length_take_le i C) (by have := HCL.out; omega)))
                have hit' : (i : Int) < (C.length : Int) := by omega
                have hcl' : (C.length : Int) ≤ 1000 := by have := HCL.out; omega
                generalize C[i] = y at *
                by_cases hy : y = (N : Int) + 1
                · have he : (y == (N : Int) + 1) = true := by simp [hy]
                  have he2 : (y != (N : Int) + 1) = false := by simp [hy]
                  have HWS := Lib.hid (show without (C.take (i + 1)) ((N : Int) + 1) = without (C.take i) ((N : Int) + 1) by rw [HTK.out, without_snoc, if_pos hy])
                  clear hy
                  go_wp2_with fail
                  go_roundw
                  case rel => exact ⟨i + 1, B2, c2, by omega, by go_num, by rw [HWS.out], by rw [HWS.out]; exact HO.out, HBQ.out⟩
                  case measure => simp [intOf]; omega
                · have he : (y == (N : Int) + 1) = false := by simp [hy]
                  have he2 : (y != (N : Int) + 1) = true := by simp [hy]
                  have HWS := Lib.hid (show without (C.take (i + 1)) ((N : Int) + 1) = without (C.take i) ((N : Int) + 1) ++ [y] by rw [HTK.out, without_snoc, if_neg hy])
                  clear hy
                  generalize without (C.take i) ((N : Int) + 1) = W at *
                  have ho2 := HO.out.alloc (.cells #[.int .i64 y] 3)
                  have hsrc : (wr.alloc (.cells #[.int .i64 y] 3)).cell? ⟨wr.heap.size, 0, none⟩ = some (.int .i64 y) := by
                    rw [cell_of_row _ _ _ _ _ _ (heap_alloc_new wr (.cells #[.int .i64 y] 3))]; rfl
                  have HO2 := Lib.hid ho2
                  have HSRC := Lib.hid hsrc
                  have HLE := Lib.hid (show w7.heap.size ≤ (wr.alloc (.cells #[.int .i64 y] 3)).heap.size by have := HBQ.out.size; simp; omega)
                  have HCW := Lib.hid (show (W.map (Value.int .i64)).length ≤ 1000 by rw [List.length_map]; exact HWL.out)
                  clear ho2 hsrc
                  go_wp2_with (refine wpList_appL rfl (.tmp 124) (.tmp 129) 22 22 rfl w7.heap.size 3 (.int .i64 0) 8 rfl rfl rfl (.slice B2 W.length c2) (W.map (Value.int .i64)) rfl HO2.out (.slice (some ⟨wr.heap.size, 0, none⟩) 1 1) rfl [.int .i64 y] (src_one rfl rfl HSRC.out 1) (Nat.le_trans (Nat.succ_le_succ HCW.out) (by decide)) (Nat.le_trans (Nat.mul_le_mul_right 8 (Nat.succ_le_succ HCW.out)) (by decide)) HLE.out ?_; intro A' cap' w8 hown8 hg8 hat8; have HO8 := Lib.hid hown8; have HG8 := Lib.hid hg8; clear hown8 hg8 hat8)
                  go_roundw
                  case rel =>
                    refine ⟨i + 1, A', cap', by omega, by go_num, by rw [HWS.out, List.length_append]; rfl, ?_, (HBQ.out.alloc HBQ.out.size _).trans (Below.of_grown HG8.out (fun k e => (HO.out.lt k e).1) HLE.out)⟩
                    rw [HWS.out, List.map_append, List.length_append]
                    have h := HO8.out
                    rw [List.length_map] at h
                    exact h
                  case measure => simp [intOf]; omega
              · obtain rfl : i = C.length := by omega
                have HT9 := Lib.hid (HT7.out.below HBQ.out)
                have hfull : C.take C.length = C := List.take_length
                have HO9 := Lib.hid HO.out
                rw [hfull] at HO9 ⊢
                have HWL := Lib.hid (Nat.le_trans (without_le C ((N : Int) + 1)) HCL.out)
                have HAT := Lib.hid (attached_any wr _ _ _ _ _ _ _ HT9.out HWL.out)
                have HW9 := Lib.hid (HW7.out.trans (HBQ.out.mono HW7.out.size))
                clear hfull HO
                generalize without C ((N : Int) + 1) = W at *
                go_wp2_with (go_fit HAT.out; rintro e w10 ⟨A5, c5, rfl, hs5, hb5⟩; have HS5 := Lib.hid hs5; have HB5 := Lib.hid hb5; clear hs5 hb5)
                have HSI := Lib.hid (sameInts_eq A5 B2 W c5 c2 w10 HS5.out (HO9.out.below HB5.out).slT (by have := HWL.out; omega))
                have HT10 := Lib.hid (HT9.out.below HB5.out)
                have HW10 := Lib.hid (HW9.out.trans (HB5.out.mono HW9.out.size))
                clear HAT HT9 HW9 HB5 HS5 HO9
                go_fit HSI.out
                rintro e w11 ⟨rfl, d2, rfl⟩
                have hb11 : Below w10.heap.size w10 (w10.drewN d2) := ⟨rfl, rfl, rfl, Nat.le_refl _, fun _ _ => rfl⟩
                have HDN := Lib.hid (drop_no (w10.drewN d2) _ _ _ _ _ _ _ ((N : Int) + 1) (HT10.out.below hb11) HGO.out)
                have HW11 := Lib.hid (HW10.out.trans (hb11.mono HW10.out.size))
                clear hb11 HSI HT10 HW10
                generalize w10.drewN d2 = w11 at *
                go_wp2_with (first
                  | (go_fit HDN.out; rintro e w12 ⟨rfl, hb12⟩; have HW12 := Lib.hid (HW11.out.trans (hb12.mono HW11.out.size)); clear hb12)
                  | (go_fit (awake18_any _); rintro e w13 ⟨rfl, hb13⟩; have HW13 := Lib.hid (HW12.out.trans (hb13.mono HW12.out.size)); clear hb13))
                go_ret
                exact ⟨rfl, HW13.out⟩
        · obtain rfl : k = ord.length := by omega
          clear hlt
          go_upto_region 24 with fail
          obtain ⟨L, sv, av, ht, hr, hca, hb⟩ := HF.out
          have HR := Lib.hid hr
          have HB := Lib.hid hb
          have HT := Lib.hid ht
          have HCA := Lib.hid hca
          have hcl : C.length ≤ 1000 := by have := HC.out.len; omega
          have HCL := Lib.hid hcl
          have HFU := Lib.hid (add_full wr _ _ _ _ _ _ _ moreB moreK ht (by decide) more_of (hr.more_no (by omega)) hr.len)
          clear ht hr hca hb HF hcl
          unfold moreB at HFU
          go_upto_region 25 with (first
            | (refine wpList_built rfl 46 #[] rfl [] peZ rfl built_peZ ?_)
            | (go_fit HFU.out; rintro e w3 ⟨rfl, hb3⟩; have HB3 := Lib.hid hb3; clear hb3))
          have HT3 := Lib.hid (HT.out.below HB3.out)
          have HCA3 := Lib.hid (HCA.out.aside (Aside'.below HB3.out) HB3.out.size)
          have HW3 := Lib.hid (HB.out.trans (HB3.out.mono HB.out.size))
          have HAT := Lib.hid (attached_any w3 _ _ _ _ _ _ _ HT3.out HCL.out)
          clear HT HCA HB HB3 HFU
          go_wp2_with (go_fit HAT.out; rintro e w4 ⟨A4, c4, rfl, hs4, hb4⟩; have HS4 := Lib.hid hs4; have HB4 := Lib.hid hb4; clear hs4 hb4)
          have HT4 := Lib.hid (HT3.out.below HB4.out)
          have HCA4 := Lib.hid (HCA3.out.aside (Aside'.below HB4.out) HB4.out.size)
          have HW4 := Lib.hid (HW3.out.trans (HB4.out.mono HW3.out.size))
          have HSI := Lib.hid (sameInts_eq A4 B C c4 c w4 HS4.out HCA4.out.own.slT (by have := HCL.out; omega))
          clear HT3 HCA3 HW3 HB4 HAT HS4
          go_fit HSI.out
          rintro e w5 ⟨rfl, d, rfl⟩
          have hb5 : Below w4.heap.size w4 (w4.drewN d) := ⟨rfl, rfl, rfl, Nat.le_refl _, fun _ _ => rfl⟩
          have HT5 := Lib.hid (HT4.out.below hb5)
          have HCA5 := Lib.hid (HCA4.out.aside (Aside'.below hb5) hb5.size)
          have HW5 := Lib.hid (HW4.out.trans (hb5.mono HW4.out.size))
          clear HT4 HCA4 HW4 hb5 HSI
          generalize w4.drewN d = w5 at *
          have HN := Lib.hid (show N < L.length by have := HR.out.len; omega)
          have HDR := Lib.hid (drop_yes w5 _ _ _ _ _ _ _ ((N : Int) + 1) N HN.out (HR.out.id N HN.out) HT5.out HCL.out HC.out.nd (HR.out.of N HN.out _ rfl) (fun j hj hne => HR.out.other N j hj hne))
          go_upto_region 29 with (go_fit HDR.out; rintro e w6 ⟨rfl, hx⟩; have HX := Lib.hid hx; clear hx)
          obtain ⟨sv6, av6, h6, hb6, ha6⟩ := HX.out
          have HT6 := Lib.hid h6
          have HCA6 := Lib.hid (HCA5.out.aside ha6 hb6.size)
          have HW6 := Lib.hid (HW5.out.trans hb6)
          have hlen6 : (L.eraseIdx N).length = 31 := by rw [List.length_eraseIdx, if_pos HN.out, HR.out.len]
          have HAD := Lib.hid (add_newF w6 _ _ _ _ _ _ _ moreB moreK h6 (by decide) more_of (HR.out.more_no' (by omega) N) (by omega) (by omega) (by omega))
          clear h6 hb6 ha6 HX HDR HT5 HCA5 HW5 hlen6
          unfold moreB at HAD
          go_upto_region 30 with (first
            | (refine wpList_built rfl 46 #[] rfl [] peZ rfl built_peZ ?_)
            | (go_fit HAD.out; rintro e w7 ⟨rfl, hx⟩; have HX := Lib.hid hx; clear hx))
          obtain ⟨sv7, p7, h7, hb7, ha7⟩ := HX.out
          have HT7 := Lib.hid h7
          have HCA7 := Lib.hid (HCA6.out.aside ha7 hb7.size)
          have HW7 := Lib.hid (HW6.out.trans hb7)
          have HGO := Lib.hid (HR.out.gone N ⟨32 + 1, moreK, 0, 0, -1, false, p7⟩ (by show (32 : Int) + 1 ≠ _; omega))
          clear h7 hb7 ha7 HX HAD HT6 HCA6 HW6
          go_wp2_with fail
          go_loopw [19, 20] (fun v19 v20 wq => ∃ (i : Nat) (B2 : Option Addr) (c2 : Nat), i ≤ C.length ∧ v20 = .int .i64 i ∧ v19 = .slice B2 (without (C.take i) ((N : Int) + 1)).length c2 ∧ OwnL wq w7.heap.size 3 (.slice B2 (without (C.take i) ((N : Int) + 1)).length c2) ((without (C.take i) ((N : Int) + 1)).map (Value.int .i64)) ∧ Below w7.heap.size w7 wq) (fun _ v20 _ => C.length - (intOf v20).toNat)
          case atStart => exact ⟨0, none, 0, by omega, rfl, rfl, OwnL.nil _ _ _, Below.refl _ _⟩
          case round =>
            obtain ⟨i, B2, c2, hi, rfl, rfl, ho, hbq⟩ := hrel
            have HO := Lib.hid ho
            have HBQ := Lib.hid hbq
            clear ho hbq
            by_cases hit : i < C.length
            · obtain ⟨g, o, rfl, _, c0⟩ := (HCA7.out.own.below HBQ.out).slT.int hit
              have HTK := Lib.hid (show C.take (i + 1) = C.take i ++ [C[i]] from List.take_succ_eq_append_getElem hit)
              have HWL := Lib.hid (show (without (C.take i) ((N : Int) + 1)).length ≤ 1000 from Nat.le_trans (without_le (C.take i) ((N : Int) + 1)) (Nat.le_trans (List.length_take_le i C) (by have := HCL.out; omega)))
              have hit' : (i : Int) < (C.length : Int) := by omega
              have hcl' : (C.length : Int) ≤ 1000 := by have := HCL.out; omega
              generalize C[i] = y at *
              by_cases hy : y = (N : Int) + 1
              · have he : (y == (N : Int) + 1) = true := by simp [hy]
                have he2 : (y != (N : Int) + 1) = false := by simp [hy]
                have HWS := Lib.hid (show without (C.take (i + 1)) ((N : Int) + 1) = without (C.take i) ((N : Int) + 1) by rw [HTK.out, without_snoc, if_pos hy])
                clear hy
                go_wp2_with fail
                go_roundw
                case rel => exact ⟨i + 1, B2, c2, by omega, by go_num, by rw [HWS.out], by rw [HWS.out]; exact HO.out, HBQ.out⟩
                case measure => simp [intOf]; omega
              · have he : (y == (N : Int) + 1) = false := by simp [hy]
                have he2 : (y != (N : Int) + 1) = true := by simp [hy]
                have HWS := Lib.hid (show without (C.take (i + 1)) ((N : Int) + 1) = without (C.take i) ((N : Int) + 1) ++ [y] by rw [HTK.out, without_snoc, if_neg hy])
                clear hy
                generalize without (C.take i) ((N : Int) + 1) = W at *
                have ho2 := HO.out.alloc (.cells #[.int .i64 y] 3)
                have hsrc : (wr.alloc (.cells #[.int .i64 y] 3)).cell? ⟨wr.heap.size, 0, none⟩ = some (.int .i64 y) := by
                  rw [cell_of_row _ _ _ _ _ _ (heap_alloc_new wr (.cells #[.int .i64 y] 3))]; rfl
                have HO2 := Lib.hid ho2
                have HSRC := Lib.hid hsrc
                have HLE := Lib.hid (show w7.heap.size ≤ (wr.alloc (.cells #[.int .i64 y] 3)).heap.size by have := HBQ.out.size; simp; omega)
                have HCW := Lib.hid (show (W.map (Value.int .i64)).length ≤ 1000 by rw [List.length_map]; exact HWL.out)
                clear ho2 hsrc
                go_wp2_with (refine wpList_appL rfl (.tmp 124) (.tmp 129) 22 22 rfl w7.heap.size 3 (.int .i64 0) 8 rfl rfl rfl (.slice B2 W.length c2) (W.map (Value.int .i64)) rfl HO2.out (.slice (some ⟨wr.heap.size, 0, none⟩) 1 1) rfl [.int .i64 y] (src_one rfl rfl HSRC.out 1) (Nat.le_trans (Nat.succ_le_succ HCW.out) (by decide)) (Nat.le_trans (Nat.mul_le_mul_right 8 (Nat.succ_le_succ HCW.out)) (by decide)) HLE.out ?_; intro A' cap' w8 hown8 hg8 hat8; have HO8 := Lib.hid hown8; have HG8 := Lib.hid hg8; clear hown8 hg8 hat8)
                go_roundw
                case rel =>
                  refine ⟨i + 1, A', cap', by omega, by go_num, by rw [HWS.out, List.length_append]; rfl, ?_, (HBQ.out.alloc HBQ.out.size _).trans (Below.of_grown HG8.out (fun k e => (HO.out.lt k e).1) HLE.out)⟩
                  rw [HWS.out, List.map_append, List.length_append]
                  have h := HO8.out
                  rw [List.length_map] at h
                  exact h
                case measure => simp [intOf]; omega
            · obtain rfl : i = C.length := by omega
              have HT9 := Lib.hid (HT7.out.below HBQ.out)
              have hfull : C.take C.length = C := List.take_length
              have HO9 := Lib.hid HO.out
              rw [hfull] at HO9 ⊢
              have HWL := Lib.hid (Nat.le_trans (without_le C ((N : Int) + 1)) HCL.out)
              have HAT := Lib.hid (attached_any wr _ _ _ _ _ _ _ HT9.out HWL.out)
              have HW9 := Lib.hid (HW7.out.trans (HBQ.out.mono HW7.out.size))
              clear hfull HO
              generalize without C ((N : Int) + 1) = W at *
              go_wp2_with (go_fit HAT.out; rintro e w10 ⟨A5, c5, rfl, hs5, hb5⟩; have HS5 := Lib.hid hs5; have HB5 := Lib.hid hb5; clear hs5 hb5)
              have HSI := Lib.hid (sameInts_eq A5 B2 W c5 c2 w10 HS5.out (HO9.out.below HB5.out).slT (by have := HWL.out; omega))
              have HT10 := Lib.hid (HT9.out.below HB5.out)
              have HW10 := Lib.hid (HW9.out.trans (HB5.out.mono HW9.out.size))
              clear HAT HT9 HW9 HB5 HS5 HO9
              go_fit HSI.out
              rintro e w11 ⟨rfl, d2, rfl⟩
              have hb11 : Below w10.heap.size w10 (w10.drewN d2) := ⟨rfl, rfl, rfl, Nat.le_refl _, fun _ _ => rfl⟩
              have HDN := Lib.hid (drop_no (w10.drewN d2) _ _ _ _ _ _ _ ((N : Int) + 1) (HT10.out.below hb11) HGO.out)
              have HW11 := Lib.hid (HW10.out.trans (hb11.mono HW10.out.size))
              clear hb11 HSI HT10 HW10
              generalize w10.drewN d2 = w11 at *
              go_wp2_with (first
                | (go_fit HDN.out; rintro e w12 ⟨rfl, hb12⟩; have HW12 := Lib.hid (HW11.out.trans (hb12.mono HW11.out.size)); clear hb12)
                | (go_fit (awake18_any _); rintro e w13 ⟨rfl, hb13⟩; have HW13 := Lib.hid (HW12.out.trans (hb13.mono HW12.out.size)); clear hb13))
              go_ret
              exact ⟨rfl, HW13.out⟩
end Go.Proofs.Ytclbbekdkljepaa
