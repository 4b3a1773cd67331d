/- package exps: Parse. -/
import Derived.Test.YtbjabncefhgefaaExpB
import Derived.Test.YtbjabncefhgefaaExpD
namespace Go.Proofs.Ytbjabncefhgefaa
open Go.ChangeShapes Go.WideShapes Go.ChangeAt Go.RowKit
set_option linter.unusedVariables false
set_option linter.unusedSimpArgs false

abbrev ExpV := Nat × List FnV × List NmV
def parseE (b : List Nat) (rva size : Int) : Option ExpV :=
  if rva = 0 then some (0, [], [])
  else match findE b rva size with
    | none => none
    | some r => match funcsL b rva.toNat size.toNat r.atF r.funcs 0 [] with
      | none => none
      | some f => match namesL b r.atN r.atI r.funcs r.names 0 [] [] with
        | none => none
        | some n => some (r.base, f, n)

/-- What Parse tells. -/
def ParseE (w w' : World) (r : Option ExpV) (e : Ending) : Prop := match r with
  | none => e = .returned (.tuple #[.agg #[.int .i64 0, .slice none 0 0, .slice none 0 0], .int .i64 11])
  | some x => ∃ A c A' c', e = .returned (.tuple #[.agg #[.int .i64 x.1, .slice A x.2.1.length c, .slice A' x.2.2.length c'], .int .i64 0]) ∧ OwnT gC 2 w' w.heap.size 37 (.slice A x.2.1.length c) x.2.1 ∧ OwnT nC 2 w' w.heap.size 42 (.slice A' x.2.2.length c') x.2.2

theorem findE_some {b : List Nat} {rva size : Int} {r : Rw} (h : findE b rva size = some r) : 0 ≤ rva ∧ 40 ≤ size ∧ rva ≤ b.length - size ∧ r.funcs ≤ 256 ∧ r.names ≤ 256 ∧ (r.funcs = 0 ∨ r.atF + 4 * r.funcs ≤ b.length) ∧ (r.names = 0 ∨ (r.atN + 4 * r.names ≤ b.length ∧ r.atI + 2 * r.names ≤ b.length)) := by
  unfold findE at h
  by_cases c : 40 ≤ size ∧ 0 ≤ rva ∧ rva ≤ b.length - size
  · rw [if_pos c] at h
    by_cases k : (rowsL b rva.toNat).ok b.length = true
    · rw [if_pos k] at h
      injection h with h
      subst h
      simp only [Rw.ok, inL, Bool.and_eq_true, Bool.or_eq_true, decide_eq_true_eq] at k
      omega
    · rw [if_neg k] at h; exact absurd h (by simp)
  · rw [if_neg c] at h; exact absurd h (by simp)

theorem expOne {n : Int} {A A' : Option Addr} {a b c d : Nat} : (#[.int .i64 n, .slice A a b, .slice A' c d] : Array Value).all (·.oneCell') = true := by simp [Value.oneCell']
theorem expInfo {x y z : Value} : (Try.prog.info? 32).map (·.size) = some (#[x, y, z] : Array Value).size := by kernel_rfl

set_option maxRecDepth 100000 in
set_option maxHeartbeats 4000000 in
theorem parseE_any (A : Option Addr) (cap : Nat) (bs : List Nat) (rva size : Int) (w : World) (hb : Lb bs) (hl : bs.length ≤ cap) (hc : cap ≤ 9223372036854775807) (hlen : bs.length ≤ 1099511627776) (hs : SlB w A bs.length (lF bs)) (hr : -9223372036854775808 ≤ rva) (hr' : rva ≤ 9223372036854775807) (hz : -9223372036854775808 ≤ size) (hz' : size ≤ 9223372036854775807) :
    Calls Try.prog 11 #[.slice A bs.length cap, .agg #[.int .i64 rva, .int .i64 size]] w fun e w' => ParseE w w' (parseE bs rva size) e ∧ Below w.heap.size w w' := by
  obtain ⟨R, hR⟩ : ∃ R, parseE bs rva size = R := ⟨_, rfl⟩
  rw [hR]
  unfold parseE at hR
  by_cases c0 : rva = 0
  · subst c0
    rw [if_pos rfl] at hR
    subst hR
    clear hs
    go_enter Try.func11, Try.ntmps11
    go_wp2_with fail
    refine bodyPost_ret (v := .tuple #[.agg #[.int .i64 0, .slice none 0 0, .slice none 0 0], .int .i64 0]) (by simp [results, Try.results11, go_sem]) rfl ⟨⟨none, 0, none, 0, rfl, OwnT.nil _ _ _, OwnT.nil _ _ _⟩, by go_grown⟩
  rw [if_neg c0] at hR
  have d0 : (rva == 0) = false := beq_eq_false_iff_ne.mpr c0
  have HS := Lib.hid (fun W (hW : Below w.heap.size w W) => SlB.below hs hW)
  have HLB := Lib.hid hb
  have HFD := Lib.hid (fun W (hW : Below w.heap.size w W) => find_any A cap bs rva size W hb hl hc hlen (HS.out W hW) hr hr' hz hz')
  have HLC := Lib.hid (And.intro hl (And.intro hc hlen))
  have HRZ := Lib.hid (And.intro hr' hz')
  have HRE := Lib.hid hR
  clear hs c0 hR
  go_enter Try.func11, Try.ntmps11
  go_wp2_with fail
  refine (HFD.out _ (by go_grown)).mono ?_
  rintro e w1 ⟨hq, hw1⟩
  have hd1 : w1.heap[w.heap.size]? = some (.cells #[.int .i64 rva, .int .i64 size] 26 (0, 0)) :=
    (hw1.block w.heap.size (by simp; omega)).trans ((Below.heap_alloc _ _ w.heap.size (by simp)).trans (heap_alloc_new w _))
  have hx1 : w1.heap[w.heap.size + 1]? = some (.cells #[.int .i64 0, .slice none 0 0, .slice none 0 0] 32 (0, 0)) := (hw1.block (w.heap.size + 1) (by simp)).trans (by
    have h := heap_alloc_new (w.alloc (.cells #[.int .i64 rva, .int .i64 size] 26)) (.cells #[.int .i64 0, .slice none 0 0, .slice none 0 0] 32)
    rwa [show (w.alloc (.cells #[.int .i64 rva, .int .i64 size] 26)).heap.size = w.heap.size + 1 by simp] at h)
  have hb1 : Below w.heap.size w w1 := (((Below.refl w.heap.size w).alloc (Nat.le_refl _) _).alloc (by simp) _).trans (hw1.mono (by simp; omega))
  have HD1 := Lib.hid hd1
  have HX1 := Lib.hid hx1
  have HB1 := Lib.hid hb1
  clear hd1 hx1 hb1 hw1 HFD
  obtain ⟨r, ok, rfl, hq1, hq2⟩ : ∃ (r : Rw) (ok : Bool), e = .returned (.tuple #[.agg r.cells, .bool ok]) ∧ (findE bs rva size = none → ok = false) ∧ (∀ r', findE bs rva size = some r' → ok = true ∧ r' = r) := by
    unfold FindQ at hq
    rcases hf : findE bs rva size with _ | r
    · rw [hf] at hq
      obtain ⟨r, rfl⟩ := hq
      exact ⟨r, false, rfl, fun _ => rfl, fun r' h => absurd h (by simp)⟩
    · rw [hf] at hq
      exact ⟨r, true, hq, fun h => absurd h (by simp), fun r' h => ⟨rfl, by injection h with h; exact h.symm⟩⟩
  obtain ⟨b0, b1, b2, b3, b4, b5⟩ := r
  obtain ⟨w2, hw2⟩ : ∃ w2, (w1.alloc (.cells #[.int .i64 0, .int .i64 0, .int .i64 0, .int .i64 0, .int .i64 0, .int .i64 0] 83)).setRow w1.heap.size (Rw.cells ⟨b0, b1, b2, b3, b4, b5⟩) = w2 := ⟨_, rfl⟩
  have hle : w.heap.size + 2 ≤ w1.heap.size := lt_of_row' HX1.out
  have ha := ((Below.refl w1.heap.size w1).alloc (Nat.le_refl _) (.cells #[.int .i64 0, .int .i64 0, .int .i64 0, .int .i64 0, .int .i64 0, .int .i64 0] 83))
  have hs2 : Below w1.heap.size w1 w2 := by rw [← hw2]; exact below_setRow ha (Nat.le_refl _) _
  have HB2 := Lib.hid (HB1.out.trans (hs2.mono HB1.out.size))
  have HD2 := Lib.hid ((hs2.block w.heap.size (by omega)).trans HD1.out)
  have HX2 := Lib.hid ((hs2.block (w.heap.size + 1) (by omega)).trans HX1.out)
  have HR2 := Lib.hid (show w2.heap[w1.heap.size]? = some (.cells (Rw.cells ⟨b0, b1, b2, b3, b4, b5⟩) 83 (0, 0)) from by rw [← hw2]; exact setRow_heap _ _ _ _ _ _ (heap_alloc_new w1 _))
  have HE2 := Lib.hid hw2
  have HLE := Lib.hid hle
  clear hw2 hle ha hs2 hq
  go_upto_region 4 with (first | (refine wpList_store_row rfl 83 _ _ rfl w1.heap.size (Rw.cells ⟨b0, b1, b2, b3, b4, b5⟩) rfl rfl 83 _ (heap_alloc_new w1 _) (Rw.info _) rfl (Rw.one _) ?_; refine (congrArg _ HE2.out).mpr ?_) | fail)
  -- END
  generalize w1.heap.size = b6 at *
  clear HD1 HX1 HB1 HE2
  rcases hf : findE bs rva size with _ | r
  · obtain rfl := hq1 hf
    have hre := HRE.out
    rw [hf] at hre
    simp only at hre
    subst hre
    clear hq1 hq2 hf
    obtain ⟨w9, hw9⟩ : ∃ w9, w2.setRow (w.heap.size + 1) #[.int .i64 0, .slice none 0 0, .slice none 0 0] = w9 := ⟨_, rfl⟩
    have HE9 := Lib.hid hw9
    have HR9 := Lib.hid (show w9.heap[w.heap.size + 1]? = some (.cells #[.int .i64 0, .slice none 0 0, .slice none 0 0] 32 (0, 0)) from by rw [← hw9]; exact setRow_heap _ _ _ _ _ _ HX2.out)
    have HB9 := Lib.hid (show Below w.heap.size w w9 from by rw [← hw9]; exact below_setRow HB2.out (Nat.le_succ _) _)
    have k0 : w9.cell? ⟨w.heap.size + 1, 0, none⟩ = some (.int .i64 0) := by rw [cell_of_row _ _ _ _ _ _ HR9.out]; rfl
    have k1 : w9.cell? ⟨w.heap.size + 1, 1, none⟩ = some (.slice none 0 0) := by rw [cell_of_row _ _ _ _ _ _ HR9.out]; rfl
    have k2 : w9.cell? ⟨w.heap.size + 1, 2, none⟩ = some (.slice none 0 0) := by rw [cell_of_row _ _ _ _ _ _ HR9.out]; rfl
    clear hw9
    go_wp2_with (first | (refine wpList_store_row rfl 32 _ _ rfl (w.heap.size + 1) #[.int .i64 0, .slice none 0 0, .slice none 0 0] rfl rfl 32 #[.int .i64 0, .slice none 0 0, .slice none 0 0] HX2.out expInfo rfl expOne ?_; refine (congrArg _ HE9.out).mpr ?_) | fail)
    refine bodyPost_ret (v := .tuple #[.agg #[.int .i64 0, .slice none 0 0, .slice none 0 0], .int .i64 11]) (by simp [results, Try.results11, go_sem, k0, k1, k2]) rfl ⟨?_, HB9.out⟩
    exact rfl
  · obtain ⟨rfl, hr0⟩ := hq2 _ hf
    subst hr0
    obtain ⟨g1, g2, g3, g4, g5, g6, g7⟩ := findE_some hf
    simp only at g4 g5 g6 g7
    have hre := HRE.out
    rw [hf] at hre
    simp only at hre
    obtain ⟨o, rfl⟩ : ∃ o : Nat, rva = (o : Int) := ⟨rva.toNat, by omega⟩
    obtain ⟨z, rfl⟩ : ∃ z : Nat, size = (z : Int) := ⟨size.toNat, by omega⟩
    rw [Int.toNat_natCast, Int.toNat_natCast] at hre
    have HRE2 := Lib.hid hre
    have HF := Lib.hid (fun W (hW : Below w.heap.size w W) => readFuncs_any A cap bs o z b0 b1 b2 b3 b4 b5 W HLB.out HLC.out.1 HLC.out.2.1 HLC.out.2.2 (HS.out W hW) (by omega) (by omega) g4 g6)
    have HN := Lib.hid (fun W (hW : Below w.heap.size w W) => readNames_any A cap bs b0 b1 b2 b3 b4 b5 W HLB.out HLC.out.1 HLC.out.2.1 HLC.out.2.2 (HS.out W hW) g5 g7)
    clear hq1 hq2 hf hre g1 g2 g3 g4 g5 g6 g7 HRE hr hr' hz hz'
    have c0 : w2.cell? ⟨b6, 0, none⟩ = some (.int .i64 b0) := by rw [cell_of_row _ _ _ _ _ _ HR2.out]; rfl
    have c1 : w2.cell? ⟨b6, 1, none⟩ = some (.int .i64 b1) := by rw [cell_of_row _ _ _ _ _ _ HR2.out]; rfl
    have c2 : w2.cell? ⟨b6, 2, none⟩ = some (.int .i64 b2) := by rw [cell_of_row _ _ _ _ _ _ HR2.out]; rfl
    have c3 : w2.cell? ⟨b6, 3, none⟩ = some (.int .i64 b3) := by rw [cell_of_row _ _ _ _ _ _ HR2.out]; rfl
    have c4 : w2.cell? ⟨b6, 4, none⟩ = some (.int .i64 b4) := by rw [cell_of_row _ _ _ _ _ _ HR2.out]; rfl
    have c5 : w2.cell? ⟨b6, 5, none⟩ = some (.int .i64 b5) := by rw [cell_of_row _ _ _ _ _ _ HR2.out]; rfl
    have e0 : w2.cell? ⟨w.heap.size, 0, none⟩ = some (.int .i64 o) := by rw [cell_of_row _ _ _ _ _ _ HD2.out]; rfl
    have e1 : w2.cell? ⟨w.heap.size, 1, none⟩ = some (.int .i64 z) := by rw [cell_of_row _ _ _ _ _ _ HD2.out]; rfl
    simp only [Rw.cells]
    go_wp2_with fail
    refine (HF.out w2 HB2.out).mono ?_
    rintro e w3 ⟨hq, hw3⟩
    have HB3 := Lib.hid (HB2.out.trans (hw3.mono HB2.out.size))
    have HD3 := Lib.hid ((hw3.block w.heap.size (lt_of_row' HD2.out)).trans HD2.out)
    have HX3 := Lib.hid ((hw3.block (w.heap.size + 1) (lt_of_row' HX2.out)).trans HX2.out)
    have HR3 := Lib.hid ((hw3.block b6 (lt_of_row' HR2.out)).trans HR2.out)
    have HG3 := Lib.hid (lt_of_row' HX2.out)
    clear hw3 c0 c1 c2 c3 c4 c5 e0 e1 HF
    rcases hfl : funcsL bs o z b3 b1 0 [] with _ | f
    · rw [hfl] at hq
      have hq' : e = .returned (.tuple #[.slice none 0 0, .bool false]) := hq
      subst hq'
      have hre := HRE2.out
      rw [hfl] at hre
      simp only at hre
      subst hre
      clear hq hfl
      obtain ⟨w9, hw9⟩ : ∃ w9, w3.setRow (w.heap.size + 1) #[.int .i64 0, .slice none 0 0, .slice none 0 0] = w9 := ⟨_, rfl⟩
      have HE9 := Lib.hid hw9
      have HR9 := Lib.hid (show w9.heap[w.heap.size + 1]? = some (.cells #[.int .i64 0, .slice none 0 0, .slice none 0 0] 32 (0, 0)) from by rw [← hw9]; exact setRow_heap _ _ _ _ _ _ HX3.out)
      have HB9 := Lib.hid (show Below w.heap.size w w9 from by rw [← hw9]; exact below_setRow HB3.out (Nat.le_succ _) _)
      have k0 : w9.cell? ⟨w.heap.size + 1, 0, none⟩ = some (.int .i64 0) := by rw [cell_of_row _ _ _ _ _ _ HR9.out]; rfl
      have k1 : w9.cell? ⟨w.heap.size + 1, 1, none⟩ = some (.slice none 0 0) := by rw [cell_of_row _ _ _ _ _ _ HR9.out]; rfl
      have k2 : w9.cell? ⟨w.heap.size + 1, 2, none⟩ = some (.slice none 0 0) := by rw [cell_of_row _ _ _ _ _ _ HR9.out]; rfl
      clear hw9
      go_wp2_with (first | (refine wpList_store_row rfl 32 _ _ rfl (w.heap.size + 1) #[.int .i64 0, .slice none 0 0, .slice none 0 0] rfl rfl 32 #[.int .i64 0, .slice none 0 0, .slice none 0 0] HX3.out expInfo rfl expOne ?_; refine (congrArg _ HE9.out).mpr ?_) | fail)
      refine bodyPost_ret (v := .tuple #[.agg #[.int .i64 0, .slice none 0 0, .slice none 0 0], .int .i64 11]) (by simp [results, Try.results11, go_sem, k0, k1, k2]) rfl ⟨?_, HB9.out⟩
      exact rfl
    · rw [hfl] at hq
      obtain ⟨A1, c1, rfl, ho1⟩ := hq
      have HO1 := Lib.hid ho1
      have hre := HRE2.out
      rw [hfl] at hre
      simp only at hre
      have HRE3 := Lib.hid hre
      clear hfl hre ho1 HRE2
      have c0 : w3.cell? ⟨b6, 0, none⟩ = some (.int .i64 b0) := by rw [cell_of_row _ _ _ _ _ _ HR3.out]; rfl
      have cc1 : w3.cell? ⟨b6, 1, none⟩ = some (.int .i64 b1) := by rw [cell_of_row _ _ _ _ _ _ HR3.out]; rfl
      have c2 : w3.cell? ⟨b6, 2, none⟩ = some (.int .i64 b2) := by rw [cell_of_row _ _ _ _ _ _ HR3.out]; rfl
      have c3 : w3.cell? ⟨b6, 3, none⟩ = some (.int .i64 b3) := by rw [cell_of_row _ _ _ _ _ _ HR3.out]; rfl
      have c4 : w3.cell? ⟨b6, 4, none⟩ = some (.int .i64 b4) := by rw [cell_of_row _ _ _ _ _ _ HR3.out]; rfl
      have c5 : w3.cell? ⟨b6, 5, none⟩ = some (.int .i64 b5) := by rw [cell_of_row _ _ _ _ _ _ HR3.out]; rfl
      have e0 : w3.cell? ⟨w.heap.size, 0, none⟩ = some (.int .i64 o) := by rw [cell_of_row _ _ _ _ _ _ HD3.out]; rfl
      have e1 : w3.cell? ⟨w.heap.size, 1, none⟩ = some (.int .i64 z) := by rw [cell_of_row _ _ _ _ _ _ HD3.out]; rfl
      simp only
      go_wp2_with fail
      refine (HN.out w3 HB3.out).mono ?_
      rintro e w4 ⟨hq, hw4⟩
      have HB4 := Lib.hid (HB3.out.trans (hw4.mono HB3.out.size))
      have HX4 := Lib.hid ((hw4.block (w.heap.size + 1) (lt_of_row' HX3.out)).trans HX3.out)
      have HR4 := Lib.hid ((hw4.block b6 (lt_of_row' HR3.out)).trans HR3.out)
      have HG4 := Lib.hid (lt_of_row' HX3.out)
      replace HO1 := Lib.hid (HO1.out.below hw4)
      clear hw4 c0 cc1 c2 c3 c4 c5 e0 e1 HN
      rcases hnl : namesL bs b4 b5 b1 b2 0 [] [] with _ | n
      · rw [hnl] at hq
        have hq' : e = .returned (.tuple #[.slice none 0 0, .bool false]) := hq
        subst hq'
        have hre := HRE3.out
        rw [hnl] at hre
        simp only at hre
        subst hre
        clear hq hnl
        obtain ⟨w9, hw9⟩ : ∃ w9, w4.setRow (w.heap.size + 1) #[.int .i64 0, .slice none 0 0, .slice none 0 0] = w9 := ⟨_, rfl⟩
        have HE9 := Lib.hid hw9
        have HR9 := Lib.hid (show w9.heap[w.heap.size + 1]? = some (.cells #[.int .i64 0, .slice none 0 0, .slice none 0 0] 32 (0, 0)) from by rw [← hw9]; exact setRow_heap _ _ _ _ _ _ HX4.out)
        have HB9 := Lib.hid (show Below w.heap.size w w9 from by rw [← hw9]; exact below_setRow HB4.out (Nat.le_succ _) _)
        have k0 : w9.cell? ⟨w.heap.size + 1, 0, none⟩ = some (.int .i64 0) := by rw [cell_of_row _ _ _ _ _ _ HR9.out]; rfl
        have k1 : w9.cell? ⟨w.heap.size + 1, 1, none⟩ = some (.slice none 0 0) := by rw [cell_of_row _ _ _ _ _ _ HR9.out]; rfl
        have k2 : w9.cell? ⟨w.heap.size + 1, 2, none⟩ = some (.slice none 0 0) := by rw [cell_of_row _ _ _ _ _ _ HR9.out]; rfl
        clear hw9
        go_wp2_with (first | (refine wpList_store_row rfl 32 _ _ rfl (w.heap.size + 1) #[.int .i64 0, .slice none 0 0, .slice none 0 0] rfl rfl 32 #[.int .i64 0, .slice none 0 0, .slice none 0 0] HX4.out expInfo rfl expOne ?_; refine (congrArg _ HE9.out).mpr ?_) | fail)
        refine bodyPost_ret (v := .tuple #[.agg #[.int .i64 0, .slice none 0 0, .slice none 0 0], .int .i64 11]) (by simp [results, Try.results11, go_sem, k0, k1, k2]) rfl ⟨?_, HB9.out⟩
        exact rfl
      · rw [hnl] at hq
        obtain ⟨A2, c2, rfl, ho2⟩ := hq
        have HO2 := Lib.hid ho2
        have hre := HRE3.out
        rw [hnl] at hre
        simp only at hre
        subst hre
        clear hnl ho2
        have cc0 : w4.cell? ⟨b6, 0, none⟩ = some (.int .i64 b0) := by rw [cell_of_row _ _ _ _ _ _ HR4.out]; rfl
        obtain ⟨w9, hw9⟩ : ∃ w9, w4.setRow (w.heap.size + 1) #[.int .i64 b0, .slice A1 f.length c1, .slice A2 n.length c2] = w9 := ⟨_, rfl⟩
        have HE9 := Lib.hid hw9
        have HR9 := Lib.hid (show w9.heap[w.heap.size + 1]? = some (.cells #[.int .i64 b0, .slice A1 f.length c1, .slice A2 n.length c2] 32 (0, 0)) from by rw [← hw9]; exact setRow_heap _ _ _ _ _ _ HX4.out)
        have HB9 := Lib.hid (show Below w.heap.size w w9 from by rw [← hw9]; exact below_setRow HB4.out (Nat.le_succ _) _)
        have k0 : w9.cell? ⟨w.heap.size + 1, 0, none⟩ = some (.int .i64 b0) := by rw [cell_of_row _ _ _ _ _ _ HR9.out]; rfl
        have k1 : w9.cell? ⟨w.heap.size + 1, 1, none⟩ = some (.slice A1 f.length c1) := by rw [cell_of_row _ _ _ _ _ _ HR9.out]; rfl
        have k2 : w9.cell? ⟨w.heap.size + 1, 2, none⟩ = some (.slice A2 n.length c2) := by rw [cell_of_row _ _ _ _ _ _ HR9.out]; rfl
        have HP1 := Lib.hid (show OwnT gC 2 w9 w.heap.size 37 (.slice A1 f.length c1) f from by
          rw [← hw9]
          refine OwnT.of_block (Joins.ownsRow_le HO1.out HB2.out.size) fun k hk => setRow_other _ _ _ _ ?_
          have := (HO1.out.lt k hk).1
          have := HG3.out
          omega)
        have HP2 := Lib.hid (show OwnT nC 2 w9 w.heap.size 42 (.slice A2 n.length c2) n from by
          rw [← hw9]
          refine OwnT.of_block (Joins.ownsRow_le HO2.out HB3.out.size) fun k hk => setRow_other _ _ _ _ ?_
          have := (HO2.out.lt k hk).1
          have := HG4.out
          omega)
        clear hw9
        go_wp2_with (first | (refine wpList_store_row rfl 32 _ _ rfl (w.heap.size + 1) #[.int .i64 b0, .slice A1 f.length c1, .slice A2 n.length c2] rfl rfl 32 #[.int .i64 0, .slice none 0 0, .slice none 0 0] HX4.out expInfo rfl expOne ?_; refine (congrArg _ HE9.out).mpr ?_) | fail)
        refine bodyPost_ret (v := .tuple #[.agg #[.int .i64 b0, .slice A1 f.length c1, .slice A2 n.length c2], .int .i64 0]) (by simp [results, Try.results11, go_sem, k0, k1, k2]) rfl ⟨?_, HB9.out⟩
        exact ⟨A1, c1, A2, c2, rfl, HP1.out, HP2.out⟩
end Go.Proofs.Ytbjabncefhgefaa
