/- RelBounds. -/
import Derived.Test.YtcommphfjkggkaaRelBack
namespace Go.Proofs.Ytcommphfjkggkaa
open Go.ChangeShapes Go.WideShapes Go.ChangeAt Go.RowKit
set_option linter.unusedVariables false

/-- The entries of the first k sites, some noughts between. -/
def vsB (more : Nat) : Nat → List Int
  | 0 => []
  | k + 1 => vsB more k ++ [12288 + 4 * (k : Int)] ++ (if k < more then [0] else [])
def sitesB (k : Nat) : List Site := (List.range k).map fun (i : Nat) => ((3 : Int), 4 * (i : Int))

theorem sitesB_len (k : Nat) : (sitesB k).length = k := by simp [sitesB]
theorem sitesB_get (m : Nat) {h : m < (sitesB (m + 1)).length} : (sitesB (m + 1))[m] = (3, 4 * (m : Int)) := by simp [sitesB]
theorem spansB_len (k : Nat) : (spansI (sitesB k)).length = k := by
  induction k with
  | zero => rfl
  | succ k ih =>
    have : sitesB (k + 1) = sitesB k ++ [(3, 4 * (k : Int))] := by simp [sitesB, List.range_succ]
    rw [this]
    unfold spansI at ih ⊢
    rw [List.flatMap_append, List.length_append, ih]
    rfl

theorem vsB_len (more : Nat) : ∀ k, (vsB more k).length ≤ 2 * k ∧ (vsB more k).length ≤ k + more
  | 0 => by simp [vsB]
  | k + 1 => by
    have := vsB_len more k
    unfold vsB
    rw [List.length_append, List.length_append]
    split <;> simp <;> omega
theorem vsB_bd (more : Nat) : ∀ k, k ≤ 1000 → ∀ v ∈ vsB more k, 0 ≤ v ∧ v < 65536
  | 0, _, v, hv => by simp [vsB] at hv
  | k + 1, hk, v, hv => by
    unfold vsB at hv
    rw [List.mem_append, List.mem_append] at hv
    rcases hv with (hv | hv) | hv
    · exact vsB_bd more k (by omega) v hv
    · rw [List.mem_singleton] at hv; omega
    · split at hv
      · rw [List.mem_singleton] at hv; omega
      · simp at hv

theorem rowV_B (N more : Nat) : ∀ k, k ≤ 1000 → 4 * k ≤ N → rowV N 0 (vsB more k) [] = if k ≤ 512 then some (sitesB k) else none
  | 0, _, _ => by simp [vsB, rowV, sitesB]
  | k + 1, hk, hN => by
    have ih := rowV_B N more k (by omega) (by omega)
    unfold vsB
    rw [rowV_append, rowV_append, ih]
    have hv : (12288 + 4 * (k : Int)) / 4096 = 3 := by omega
    by_cases h : k ≤ 512
    · rw [if_pos h]
      show ((if (12288 + 4 * (k : Int)) / 4096 = 0 then rowV N 0 [] (sitesB k) else if siteOk N (sitesB k) (siteOf 0 (12288 + 4 * (k : Int))) then rowV N 0 [] (sitesB k ++ [siteOf 0 (12288 + 4 * (k : Int))]) else none).bind _) = _
      have hs : siteOf 0 (12288 + 4 * (k : Int)) = (3, 4 * (k : Int)) := by
        unfold siteOf
        rw [hv, Prod.mk.injEq]
        exact ⟨rfl, by omega⟩
      have hsl : (sitesB k).length = k := by simp [sitesB]
      rw [if_neg (by omega), hs]
      by_cases h2 : k + 1 ≤ 512
      · rw [if_pos h2, if_pos]
        · show rowV N 0 (if k < more then [0] else []) (sitesB k ++ [(3, 4 * (k : Int))]) = _
          have he : sitesB k ++ [(3, 4 * (k : Int))] = sitesB (k + 1) := by simp [sitesB, List.range_succ]
          rw [he]
          split
          · exact rowV_zero _ _ _
          · rfl
        · refine ⟨by show relLen 3 ≠ 0; decide, by show 4 * (k : Int) + relLen 3 ≤ N; rw [show relLen 3 = 4 from rfl]; omega, by omega, fun y hy => ?_⟩
          simp only [sitesB, List.mem_map, List.mem_range] at hy
          obtain ⟨i, hi, rfl⟩ := hy
          show 4 * (i : Int) + relLen 3 ≤ 4 * (k : Int) ∨ _
          rw [show relLen 3 = 4 from rfl]
          omega
      · rw [if_neg h2, if_neg]
        · rfl
        · rintro ⟨_, _, h3, _⟩
          omega
    · rw [if_neg h, if_neg (show ¬ k + 1 ≤ 512 by omega)]
      rfl

/-- The block that is laid: its head, its entries. -/
def hdB (s : Nat) : List Int := [0, 0, 0, 0, (s : Int) % 256, (s : Int) / 256, 0, 0]
theorem parse_B (vs : List Int) (h2 : vs.length % 2 = 0) (hl : vs.length ≤ 1000) :
    parseS (4096 + (8 + 2 * vs.length)) (litF (List.replicate 4096 0 ++ hdB (8 + 2 * vs.length) ++ vs.flatMap enc)) 4096 ((8 + 2 * vs.length : Nat) : Int) = rowV (4096 + (8 + 2 * vs.length)) 0 vs [] := by
  obtain ⟨s, hs⟩ : ∃ s, 8 + 2 * vs.length = s := ⟨_, rfl⟩
  obtain ⟨f, hf⟩ : ∃ f, litF (List.replicate 4096 0 ++ hdB s ++ vs.flatMap enc) = f := ⟨_, rfl⟩
  rw [hs, hf]
  have hlies : Lies f 0 (List.replicate 4096 0 ++ hdB s ++ vs.flatMap enc) := fun i b hb => by
    rw [← hf, Nat.zero_add]
    unfold litF
    rw [List.getD_eq_getElem?_getD, hb]
    rfl
  have hh := hlies.left.right
  have hr := hlies.right
  rw [List.length_replicate, Nat.zero_add] at hh
  rw [List.length_append, List.length_replicate, show (hdB s).length = 8 from rfl, Nat.zero_add] at hr
  have g := fun i b h => hh i b h
  have g0 := g 0 0 rfl
  have g1 := g 1 0 rfl
  have g2 := g 2 0 rfl
  have g3 := g 3 0 rfl
  have g4 := g 4 ((s : Int) % 256) rfl
  have g5 := g 5 ((s : Int) / 256) rfl
  have g6 := g 6 0 rfl
  have g7 := g 7 0 rfl
  have r0 : rdF f 4096 4 = 0 := by
    show f 4096 + 256 * (f (4096 + 1) + 256 * (f (4096 + 1 + 1) + 256 * (f (4096 + 1 + 1 + 1) + 256 * 0))) = 0
    simp only [Nat.reduceAdd] at g0 g1 g2 g3 ⊢
    rw [g0, g1, g2, g3]; rfl
  have r1 : rdF f (4096 + 4) 4 = s := by
    show f (4096 + 4) + 256 * (f (4096 + 4 + 1) + 256 * (f (4096 + 4 + 1 + 1) + 256 * (f (4096 + 4 + 1 + 1 + 1) + 256 * 0))) = s
    simp only [Nat.reduceAdd] at g4 g5 g6 g7 ⊢
    rw [g4, g5, g6, g7]; omega
  have hhead : headS f 4096 (4096 + s) = some (0, (s : Int)) := by
    unfold headS
    rw [if_neg (by omega), r0, r1, if_neg (by omega)]
  have hrow : rowS (4096 + s) f 0 vs.length (4096 + 8) [] = rowV (4096 + s) 0 vs [] := rowS_rowV _ f 0 vs (4096 + 8) [] (fun i hi => by
    obtain ⟨q0, q1⟩ := enc_get vs i hi
    exact rd2 (hr _ _ q0) (by have := hr _ _ q1; rwa [← Nat.add_assoc] at this))
  unfold parseS
  rw [if_neg (by omega), if_neg (by omega)]
  rw [show (4096 : Int).toNat = 4096 from rfl, Int.toNat_natCast]
  unfold blocksS
  rw [if_neg (by omega), hhead]
  simp only [Int.toNat_natCast]
  rw [show (s - 8) / 2 = vs.length by omega, hrow]
  cases rowV (4096 + s) 0 vs [] with
  | none => rfl
  | some l =>
    show blocksS _ f _ s (4096 + s) l = some l
    obtain ⟨s', rfl⟩ : ∃ s', s = s' + 1 := ⟨s - 1, by omega⟩
    unfold blocksS
    rw [if_pos (Nat.le_refl _)]

theorem or_12288 (i : Nat) (h : i ≤ 1000) : bits .or .i64 12288 (4 * (i : Int)) = 12288 + 4 * (i : Int) := by
  have h1 := i64_or 12288 (4 * i) (by omega) (by omega)
  have e : 12288 ||| 4 * i = 12288 + 4 * i := by
    have := Nat.two_pow_add_eq_or_of_lt (show 4 * i < 2 ^ 12 by omega) 3
    exact this.symm
  rw [e] at h1
  have e2 : ((4 * i : Nat) : Int) = 4 * (i : Int) := by omega
  rw [e2] at h1
  rw [show (12288 : Int) = ((12288 : Nat) : Int) from rfl, h1]
  omega

set_option maxRecDepth 100000 in
set_option maxHeartbeats 4000000 in
theorem bounds_core (w : World) (n' more' : Int) :
    Calls Try.prog 4 #[.int .i64 n', .int .i64 more'] w fun e w' => e = .returned (.bool true) ∧ Below w.heap.size w w' := by
  obtain ⟨K, hK⟩ : ∃ K : Nat, n' % 8 = K := ⟨(n' % 8).toNat, by omega⟩
  have hKb := (and_7 n').trans hK
  obtain ⟨mo, hmo⟩ : ∃ mo : Nat, more' % 64 = mo := ⟨(more' % 64).toNat, by omega⟩
  have hMb := (and_63 more').trans hmo
  have hK8 : K < 8 := by omega
  have hm64 : mo < 64 := by omega
  clear hK hmo
  go_enter Try.func4, Try.ntmps4
  go_wp2_with fail
  obtain ⟨n, hn⟩ : ∃ n : Nat, (K : Int) + 508 = n := ⟨K + 508, by omega⟩
  simp only [hn]
  have hn1 : 508 ≤ n := by omega
  have hn2 : n ≤ 515 := by omega
  clear hn hKb hMb hK8
  go_loopw [5, 6] (fun v5 v6 wr => ∃ (i : Nat) (bs : List Int) (A : Option Addr) (cap : Nat), i ≤ n ∧ bs = (vsB mo i).flatMap enc ∧ v6 = .int .i64 i ∧ v5 = .slice A bs.length cap ∧ OwnBL wr w.heap.size (.slice A bs.length cap) bs ∧ Below w.heap.size w wr) (fun _ v6 _ => n - (intOf v6).toNat)
  case atStart => exact ⟨0, [], none, 0, by omega, rfl, rfl, rfl, OwnBL.nil _ _, Below.refl _ _⟩
  case round =>
    obtain ⟨i, bs, A, cap, hi, hbs, rfl, rfl, how, hbe⟩ := hrel
    have hvl := vsB_len mo i
    have hbl := enc_len (vsB mo i)
    rw [← hbs] at hbl
    have hbl2 : bs.length ≤ 2 * (i + mo) := by omega
    have HBS := Lib.hid hbs
    have HOW := Lib.hid how
    have HBE := Lib.hid hbe
    have HBL := Lib.hid hbl
    clear hbs how hbe hbl hvl
    by_cases hlt : i < n
    · have ho := or_12288 i (by omega)
      have HOW1 := Lib.hid (HOW.out.alloc (.cells ((enc (12288 + 4 * (i : Int))).map (Value.int .u8)).toArray 5))
      have hbase := Lib.hid HBE.out.size
      by_cases hm : i < mo
      · have hvs : (vsB mo (i + 1)).flatMap enc = bs ++ enc (12288 + 4 * (i : Int)) ++ [0, 0] := by
          unfold vsB
          rw [if_pos hm, List.flatMap_append, List.flatMap_append, ← HBS.out]
          simp [enc]
        have HVS := Lib.hid hvs
        clear hvs
        go_wp2_with (first | (at_builtin; refine wpList_appBL rfl (.tmp 25) (.tmp 31) 22 rfl w.heap.size _ bs rfl HOW1.out _ rfl (enc (12288 + 4 * (i : Int))) (src_new wr (enc (12288 + 4 * (i : Int))) 2) (by simp [enc]; omega) (by have := hbase.out; simp; omega) ?_; intro A3 cap3 w3 hown3 hg3 hat3; have hbel3 := HOW1.out.grew (HBE.out.alloc hbase.out (.cells ((enc (12288 + 4 * (i : Int))).map (Value.int .u8)).toArray 5)) (Nat.le_refl _) (by have := hbase.out; simp; omega) hg3) | (at_builtin; refine wpList_appBL rfl (.tmp 36) (.tmp 37) 22 rfl w.heap.size _ (bs ++ enc (12288 + 4 * (i : Int))) (by simp [Act.eval, Act.put, enc]) (hown3.alloc (.cells (([0, 0] : List Int).map (Value.int .u8)).toArray 5)) _ rfl [0, 0] (src_new w3 [0, 0] 2) (by simp [enc]; omega) (by have := hbel3.size; simp; omega) ?_; intro A4 cap4 w4 hown4 hg4 hat4; have hbel4 := (hown3.alloc (.cells (([0, 0] : List Int).map (Value.int .u8)).toArray 5)).grew (hbel3.alloc hbel3.size (.cells (([0, 0] : List Int).map (Value.int .u8)).toArray 5)) (Nat.le_refl _) (by have := hbel3.size; simp; omega) hg4))
        have HO4 := Lib.hid hown4
        have HB4 := Lib.hid hbel4
        clear hown3 hg3 hat3 hbel3 hown4 hg4 hat4 hbel4
        go_roundw
        case rel => exact ⟨i + 1, bs ++ enc (12288 + 4 * (i : Int)) ++ [0, 0], A4, cap4, by omega, HVS.out.symm, by go_num, by simp [enc], by have := HO4.out; simpa [enc] using this, HB4.out⟩
        case measure => simp [intOf]; omega
      · have hvs : (vsB mo (i + 1)).flatMap enc = bs ++ enc (12288 + 4 * (i : Int)) := by
          unfold vsB
          rw [if_neg hm, List.flatMap_append, List.flatMap_append, ← HBS.out]
          simp [enc]
        have HVS := Lib.hid hvs
        clear hvs
        go_wp2_with (at_builtin; refine wpList_appBL rfl (.tmp 25) (.tmp 31) 22 rfl w.heap.size _ bs rfl HOW1.out _ rfl (enc (12288 + 4 * (i : Int))) (src_new wr (enc (12288 + 4 * (i : Int))) 2) (by simp [enc]; omega) (by have := hbase.out; simp; omega) ?_; intro A3 cap3 w3 hown3 hg3 hat3; have hbel3 := HOW1.out.grew (HBE.out.alloc hbase.out (.cells ((enc (12288 + 4 * (i : Int))).map (Value.int .u8)).toArray 5)) (Nat.le_refl _) (by have := hbase.out; simp; omega) hg3)
        have HO4 := Lib.hid hown3
        have HB4 := Lib.hid hbel3
        clear hown3 hg3 hat3 hbel3
        go_roundw
        case rel => exact ⟨i + 1, bs ++ enc (12288 + 4 * (i : Int)), A3, cap3, by omega, HVS.out.symm, by go_num, by simp [enc], by have := HO4.out; simpa [enc] using this, HB4.out⟩
        case measure => simp [intOf]; omega
    · obtain rfl : i = n := by omega
      obtain ⟨vs, hvs⟩ : ∃ vs, vs = vsB mo i ++ (if (vsB mo i).length % 2 = 1 then [0] else []) := ⟨_, rfl⟩
      have hvl := vsB_len mo i
      have hv2 : vs.length % 2 = 0 := by rw [hvs, List.length_append]; split <;> simp <;> omega
      have hv3 : vs.length ≤ 600 := by rw [hvs, List.length_append]; split <;> simp <;> omega
      have hrw := rowV_B (4096 + (8 + 2 * vs.length)) mo i (by omega) (by omega)
      have hall : ∀ N, rowV N 0 vs [] = rowV N 0 (vsB mo i) [] := fun N => by
        rw [hvs]
        split
        · rw [rowV_append]
          cases rowV N 0 (vsB mo i) [] with
          | none => rfl
          | some l => exact rowV_zero _ _ _
        · rw [List.append_nil]
      have hre := (hall _).trans hrw
      clear hall
      have hpB := parse_B vs hv2 (by omega)
      rw [hre] at hpB
      have HPB := Lib.hid hpB
      have hbd : ∀ v ∈ vs, 0 ≤ v ∧ v < 65536 := fun v hv => by
        rw [hvs] at hv
        rcases List.mem_append.1 hv with hv | hv
        · exact vsB_bd mo i (by omega) v hv
        · split at hv
          · rw [List.mem_singleton] at hv; omega
          · simp at hv
      have HBs := Lib.hid (show Bs (vs.flatMap enc) from fun b hb => by
        obtain ⟨v, hv, h⟩ := List.mem_flatMap.1 hb
        have := hbd v hv
        simp only [enc, List.mem_cons, List.not_mem_nil, or_false] at h
        rcases h with rfl | rfl <;> omega)
      have HVS := Lib.hid hvs
      have hel := enc_len vs
      have HEL := Lib.hid hel
      have hbase := Lib.hid HBE.out.size
      clear hrw hre hpB hbd hel hvl hlt hi
      have hB0 := HBE.out
      by_cases hodd : (vsB mo i).length % 2 = 1
      · have hrow : bs ++ [0, 0] = vs.flatMap enc := by rw [HVS.out, if_pos hodd, List.flatMap_append, ← HBS.out]; simp [enc]
        have hm4 : ((bs.length : Int) % 4 != 0) = true := by have := HBL.out; simp; omega
        have HOW1 := Lib.hid (HOW.out.alloc (.cells (([0, 0] : List Int).map (Value.int .u8)).toArray 5))
        have hlen2 : bs.length + ([0, 0] : List Int).length = (bs ++ [0, 0]).length := by rw [List.length_append]
        have hrl1 : (bs ++ [0, 0]).length ≤ 1200 := by rw [hrow, HEL.out]; omega
        clear hodd hvs
        go_upto_region 14 with (first | (at_builtin; refine wpList_appBL rfl (.tmp 43) (.tmp 44) 22 rfl w.heap.size _ bs rfl HOW1.out _ rfl [0, 0] (src_new wr [0, 0] 2) (by simp; omega) (by have := hbase.out; simp; omega) ?_; intro A3 cap3 w3 hown3 hg3 hat3; simp only [hlen2] at hown3 ⊢; clear hlen2; have hbel3 := HOW1.out.grew (hB0.alloc hbase.out (.cells (([0, 0] : List Int).map (Value.int .u8)).toArray 5)) (Nat.le_refl _) (by have := hbase.out; simp; omega) hg3; generalize bs ++ [0, 0] = row at *; have HROW := Lib.hid hrow; clear hrow) | (at_make; refine wpList_make_bl rfl _ _ rfl w.heap.size .i64 .i64 4096 rfl rfl (by omega) hbel3.size ?_; intro w5 hw5 hb5 hs5; clear hs5; have hbel5 := hbel3.trans (hb5.mono hbel3.size); have hrow5 := (hown3).below hb5; have hapt := (hown3).lt))
        go_wp2_with (first | (at_builtin; refine wpList_appBL rfl (.tmp 50) (.tmp 56) 22 rfl w.heap.size (.slice (some ⟨w3.heap.size, 0, none⟩) 4096 4096) (List.replicate 4096 0) rfl (hw5.alloc (.cells (([0, 0, 0, 0, ((row.length : Int) + 8) % 256, ((row.length : Int) + 8) / 256, 0, 0] : List Int).map (Value.int .u8)).toArray 5)) _ rfl [0, 0, 0, 0, ((row.length : Int) + 8) % 256, ((row.length : Int) + 8) / 256, 0, 0] (src_new w5 [0, 0, 0, 0, ((row.length : Int) + 8) % 256, ((row.length : Int) + 8) / 256, 0, 0] 8) (by simp) (by have := hbel5.size; simp; omega) ?_; intro A6 cap6 w6 hown6 hg6 hat6; have hbel6 := (hw5.alloc (.cells (([0, 0, 0, 0, ((row.length : Int) + 8) % 256, ((row.length : Int) + 8) / 256, 0, 0] : List Int).map (Value.int .u8)).toArray 5)).grew (hbel5.alloc hbel5.size (.cells (([0, 0, 0, 0, ((row.length : Int) + 8) % 256, ((row.length : Int) + 8) / 256, 0, 0] : List Int).map (Value.int .u8)).toArray 5)) (Nat.le_refl _) (by have := hbel5.size; simp; omega) hg6; have hrow6 := (hrow5.alloc (.cells (([0, 0, 0, 0, ((row.length : Int) + 8) % 256, ((row.length : Int) + 8) / 256, 0, 0] : List Int).map (Value.int .u8)).toArray 5)).grown hg6 (fun k hk h => by have h2 := (hapt k hk).2; have h3 : w3.heap.size = k := Option.some.inj h; omega)) | (at_builtin; refine wpList_appBL rfl (.tmp 57) (.tmp 58) 22 rfl w.heap.size _ (List.replicate 4096 0 ++ [0, 0, 0, 0, ((row.length : Int) + 8) % 256, ((row.length : Int) + 8) / 256, 0, 0]) (by simp [Act.eval, Act.put]) hown6 _ rfl row (src_own hrow6) (by simp; omega) hbel6.size ?_; intro A7 cap7 w7 hown7 hg7 hat7; have hbel7 := hown6.grew hbel6 (Nat.le_refl _) hbel6.size hg7))
        have HO7 := Lib.hid hown7
        have HB7 := Lib.hid hbel7
        clear hw5 hb5 hbel5 hrow5 hapt hown6 hg6 hat6 hbel6 hrow6 hown7 hg7 hat7 hbel7
        have hlen : row.length = 2 * vs.length := by rw [HROW.out, HEL.out]
        have hpar : parseS (List.replicate 4096 0 ++ [0, 0, 0, 0, ((row.length : Int) + 8) % 256, ((row.length : Int) + 8) / 256, 0, 0] ++ row).length (litF (List.replicate 4096 0 ++ [0, 0, 0, 0, ((row.length : Int) + 8) % 256, ((row.length : Int) + 8) / 256, 0, 0] ++ row)) 4096 ((row.length : Int) + 8) = if i ≤ 512 then some (sitesB i) else none := by
          have h := HPB.out
          rw [← HROW.out] at h
          have e1 : (List.replicate 4096 0 ++ [0, 0, 0, 0, ((row.length : Int) + 8) % 256, ((row.length : Int) + 8) / 256, 0, 0] ++ row).length = 4096 + (8 + 2 * vs.length) := by rw [List.length_append, List.length_append, List.length_replicate, hlen]; simp; omega
          have e3 : ((row.length : Int) + 8) = ((8 + 2 * vs.length : Nat) : Int) := by omega
          have e2 : ([0, 0, 0, 0, ((row.length : Int) + 8) % 256, ((row.length : Int) + 8) / 256, 0, 0] : List Int) = hdB (8 + 2 * vs.length) := by unfold hdB; rw [e3]
          rw [e1, e2, e3]
          exact h
        have hbs : Bs (List.replicate 4096 0 ++ [0, 0, 0, 0, ((row.length : Int) + 8) % 256, ((row.length : Int) + 8) / 256, 0, 0] ++ row) := by
          refine (Bs.append (fun b hb => ?_) (fun b hb => ?_)).append (by rw [HROW.out]; exact HBs.out)
          · rw [List.mem_replicate] at hb; omega
          · simp only [List.mem_cons, List.not_mem_nil, or_false] at hb; omega
        have hl7 : (List.replicate 4096 0 ++ [0, 0, 0, 0, ((row.length : Int) + 8) % 256, ((row.length : Int) + 8) / 256, 0, 0] ++ row).length ≤ 100000 := by rw [List.length_append, List.length_append, List.length_replicate]; simp; omega
        have hpb := parse_bl (r := 4096) (s := (row.length : Int) + 8) HO7.out hbs hpar hl7 (by omega) (by omega) (by omega) (by omega)
        by_cases h512 : i ≤ 512
        · rw [if_pos h512] at hpb
          have HP := Lib.hid hpb
          clear hlen hpar hbs hl7 hpb
          go_fit HP.out
          rintro e w8 ⟨⟨A8, cap8, rfl, hown8⟩, hb8⟩
          obtain ⟨m, rfl⟩ : ∃ m, i = m + 1 := ⟨i - 1, by omega⟩
          have HB8 := Lib.hid (HB7.out.trans (hb8.mono HB7.out.size))
          have HST := Lib.hid (sites_any A8 (sitesB (m + 1)) cap8 w8 (hown8.sl relC_len) (by rw [sitesB_len]; omega))
          obtain ⟨b8, off8, rfl, _, q0, q1⟩ := (hown8.sl relC_len).site (i := m) (by rw [sitesB_len]; omega)
          rw [sitesB_get] at q0 q1
          clear hown8 hb8 HP
          rw [sitesB_len] at HST
          simp only [sitesB_len]
          clear q0
          go_wp2_with fail
          go_fit HST.out
          rintro e w9 ⟨A9, cap9, rfl, _, hb9⟩
          simp only [spansB_len]
          have HB9 := Lib.hid (HB8.out.trans (hb9.mono HB8.out.size))
          clear hb9
          go_wp2_with fail
          go_fit (awake10_any w9)
          rintro e w10 ⟨rfl, hb10⟩
          have HB10 := Lib.hid (HB9.out.trans (hb10.mono HB9.out.size))
          clear hb10
          go_wp2_with fail
          go_ret
          exact ⟨rfl, HB10.out⟩
        · rw [if_neg h512] at hpb
          have HP := Lib.hid hpb
          clear hlen hpar hbs hl7 hpb
          go_fit HP.out
          rintro e w8 ⟨rfl, hb8⟩
          have HB8 := Lib.hid (HB7.out.trans (hb8.mono HB7.out.size))
          have hi5 : 512 < i := by omega
          clear hb8 HP h512
          go_wp2_with fail
          go_fit (awake10_any w8)
          rintro e w10 ⟨rfl, hb10⟩
          have HB10 := Lib.hid (HB8.out.trans (hb10.mono HB8.out.size))
          clear hb10
          go_wp2_with fail
          go_ret
          exact ⟨rfl, HB10.out⟩
      · have hrow : bs = vs.flatMap enc := by rw [HVS.out, if_neg hodd, List.append_nil, ← HBS.out]
        have hm4 : ((bs.length : Int) % 4 != 0) = false := by have := HBL.out; simp; omega
        have hrl1 : bs.length ≤ 1200 := by rw [hrow, HEL.out]; omega
        have HROW := Lib.hid hrow
        have HOWX := HOW
        clear hodd hvs hrow HBS HBL
        generalize bs = row at *
        go_upto_region 14 with (first | (at_make; refine wpList_make_bl rfl _ _ rfl w.heap.size .i64 .i64 4096 rfl rfl (by omega) HBE.out.size ?_; intro w5 hw5 hb5 hs5; clear hs5; have hbel5 := HBE.out.trans (hb5.mono HBE.out.size); have hrow5 := (HOWX.out).below hb5; have hapt := (HOWX.out).lt))
        go_wp2_with (first | (at_builtin; refine wpList_appBL rfl (.tmp 50) (.tmp 56) 22 rfl w.heap.size (.slice (some ⟨wr.heap.size, 0, none⟩) 4096 4096) (List.replicate 4096 0) rfl (hw5.alloc (.cells (([0, 0, 0, 0, ((row.length : Int) + 8) % 256, ((row.length : Int) + 8) / 256, 0, 0] : List Int).map (Value.int .u8)).toArray 5)) _ rfl [0, 0, 0, 0, ((row.length : Int) + 8) % 256, ((row.length : Int) + 8) / 256, 0, 0] (src_new w5 [0, 0, 0, 0, ((row.length : Int) + 8) % 256, ((row.length : Int) + 8) / 256, 0, 0] 8) (by simp) (by have := hbel5.size; simp; omega) ?_; intro A6 cap6 w6 hown6 hg6 hat6; have hbel6 := (hw5.alloc (.cells (([0, 0, 0, 0, ((row.length : Int) + 8) % 256, ((row.length : Int) + 8) / 256, 0, 0] : List Int).map (Value.int .u8)).toArray 5)).grew (hbel5.alloc hbel5.size (.cells (([0, 0, 0, 0, ((row.length : Int) + 8) % 256, ((row.length : Int) + 8) / 256, 0, 0] : List Int).map (Value.int .u8)).toArray 5)) (Nat.le_refl _) (by have := hbel5.size; simp; omega) hg6; have hrow6 := (hrow5.alloc (.cells (([0, 0, 0, 0, ((row.length : Int) + 8) % 256, ((row.length : Int) + 8) / 256, 0, 0] : List Int).map (Value.int .u8)).toArray 5)).grown hg6 (fun k hk h => by have h2 := (hapt k hk).2; have h3 : wr.heap.size = k := Option.some.inj h; omega)) | (at_builtin; refine wpList_appBL rfl (.tmp 57) (.tmp 58) 22 rfl w.heap.size _ (List.replicate 4096 0 ++ [0, 0, 0, 0, ((row.length : Int) + 8) % 256, ((row.length : Int) + 8) / 256, 0, 0]) (by simp [Act.eval, Act.put]) hown6 _ rfl row (src_own hrow6) (by simp; omega) hbel6.size ?_; intro A7 cap7 w7 hown7 hg7 hat7; have hbel7 := hown6.grew hbel6 (Nat.le_refl _) hbel6.size hg7))
        have HO7 := Lib.hid hown7
        have HB7 := Lib.hid hbel7
        clear hw5 hb5 hbel5 hrow5 hapt hown6 hg6 hat6 hbel6 hrow6 hown7 hg7 hat7 hbel7
        have hlen : row.length = 2 * vs.length := by rw [HROW.out, HEL.out]
        have hpar : parseS (List.replicate 4096 0 ++ [0, 0, 0, 0, ((row.length : Int) + 8) % 256, ((row.length : Int) + 8) / 256, 0, 0] ++ row).length (litF (List.replicate 4096 0 ++ [0, 0, 0, 0, ((row.length : Int) + 8) % 256, ((row.length : Int) + 8) / 256, 0, 0] ++ row)) 4096 ((row.length : Int) + 8) = if i ≤ 512 then some (sitesB i) else none := by
          have h := HPB.out
          rw [← HROW.out] at h
          have e1 : (List.replicate 4096 0 ++ [0, 0, 0, 0, ((row.length : Int) + 8) % 256, ((row.length : Int) + 8) / 256, 0, 0] ++ row).length = 4096 + (8 + 2 * vs.length) := by rw [List.length_append, List.length_append, List.length_replicate, hlen]; simp; omega
          have e3 : ((row.length : Int) + 8) = ((8 + 2 * vs.length : Nat) : Int) := by omega
          have e2 : ([0, 0, 0, 0, ((row.length : Int) + 8) % 256, ((row.length : Int) + 8) / 256, 0, 0] : List Int) = hdB (8 + 2 * vs.length) := by unfold hdB; rw [e3]
          rw [e1, e2, e3]
          exact h
        have hbs : Bs (List.replicate 4096 0 ++ [0, 0, 0, 0, ((row.length : Int) + 8) % 256, ((row.length : Int) + 8) / 256, 0, 0] ++ row) := by
          refine (Bs.append (fun b hb => ?_) (fun b hb => ?_)).append (by rw [HROW.out]; exact HBs.out)
          · rw [List.mem_replicate] at hb; omega
          · simp only [List.mem_cons, List.not_mem_nil, or_false] at hb; omega
        have hl7 : (List.replicate 4096 0 ++ [0, 0, 0, 0, ((row.length : Int) + 8) % 256, ((row.length : Int) + 8) / 256, 0, 0] ++ row).length ≤ 100000 := by rw [List.length_append, List.length_append, List.length_replicate]; simp; omega
        have hpb := parse_bl (r := 4096) (s := (row.length : Int) + 8) HO7.out hbs hpar hl7 (by omega) (by omega) (by omega) (by omega)
        by_cases h512 : i ≤ 512
        · rw [if_pos h512] at hpb
          have HP := Lib.hid hpb
          clear hlen hpar hbs hl7 hpb
          go_fit HP.out
          rintro e w8 ⟨⟨A8, cap8, rfl, hown8⟩, hb8⟩
          obtain ⟨m, rfl⟩ : ∃ m, i = m + 1 := ⟨i - 1, by omega⟩
          have HB8 := Lib.hid (HB7.out.trans (hb8.mono HB7.out.size))
          have HST := Lib.hid (sites_any A8 (sitesB (m + 1)) cap8 w8 (hown8.sl relC_len) (by rw [sitesB_len]; omega))
          obtain ⟨b8, off8, rfl, _, q0, q1⟩ := (hown8.sl relC_len).site (i := m) (by rw [sitesB_len]; omega)
          rw [sitesB_get] at q0 q1
          clear hown8 hb8 HP
          rw [sitesB_len] at HST
          simp only [sitesB_len]
          clear q0
          go_wp2_with fail
          go_fit HST.out
          rintro e w9 ⟨A9, cap9, rfl, _, hb9⟩
          simp only [spansB_len]
          have HB9 := Lib.hid (HB8.out.trans (hb9.mono HB8.out.size))
          clear hb9
          go_wp2_with fail
          go_fit (awake10_any w9)
          rintro e w10 ⟨rfl, hb10⟩
          have HB10 := Lib.hid (HB9.out.trans (hb10.mono HB9.out.size))
          clear hb10
          go_wp2_with fail
          go_ret
          exact ⟨rfl, HB10.out⟩
        · rw [if_neg h512] at hpb
          have HP := Lib.hid hpb
          clear hlen hpar hbs hl7 hpb
          go_fit HP.out
          rintro e w8 ⟨rfl, hb8⟩
          have HB8 := Lib.hid (HB7.out.trans (hb8.mono HB7.out.size))
          have hi5 : 512 < i := by omega
          clear hb8 HP h512
          go_wp2_with fail
          go_fit (awake10_any w8)
          rintro e w10 ⟨rfl, hb10⟩
          have HB10 := Lib.hid (HB8.out.trans (hb10.mono HB8.out.size))
          clear hb10
          go_wp2_with fail
          go_ret
          exact ⟨rfl, HB10.out⟩
end Go.Proofs.Ytcommphfjkggkaa
