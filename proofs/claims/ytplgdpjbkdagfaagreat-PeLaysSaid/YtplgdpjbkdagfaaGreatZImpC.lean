import Derived.Test.YtplgdpjbkdagfaaGreatZExpD
namespace Go.Proofs.YtplgdpjbkdagfaaGreat
set_option maxRecDepth 100000
open Go.ChangeShapes Go.WideShapes Go.ChangeAt Go.RowKit
set_option linter.unusedVariables false
set_option linter.unusedSimpArgs false
theorem infoSym : (Tryz.prog.info? 58).map (fun i => (i.zero, i.size, i.bytes)) = some (some (.agg #[.string ByteArray.empty, .int .i64 0, .bool false]), 3, 32) := by kernel_rfl
theorem symCells (x : SymV) (w : World) : ∀ j u, (symC x)[j]? = some u → (w.alloc (.cells #[.string (txt x.1), .int .i64 x.2.1, .bool x.2.2] 58)).cell? ⟨w.heap.size, j, none⟩ = some u := by
  intro j u hu
  rcases j with _ | _ | _ | j
  · simp [symC] at hu; subst hu; simp [go_sem]
  · simp [symC] at hu; subst hu; simp [go_sem]
  · simp [symC] at hu; subst hu; simp [go_sem]
  · simp [symC] at hu
def symsL (b : List Nat) (at' iat : Nat) : Nat → List SymV → Option (List SymV)
  | 0, _ => none
  | n + 1, acc =>
    if at' + 8 * acc.length + 8 ≤ b.length then
      if numL (b.drop (at' + 8 * acc.length)) 8 = 0 then some acc
      else if iat + 8 * acc.length + 8 ≤ b.length ∧ acc.length ≠ 64 then
        match symbolL b (numL (b.drop (at' + 8 * acc.length)) 8) with
        | none => none
        | some s => symsL b at' iat n (acc ++ [s])
      else none
    else none
def symsD (b : List Nat) (x : Ds) : Option (List SymV) := symsL b (if x.thunks = 0 then x.iat else x.thunks) x.iat 66 []
def SymsQ (w w' : World) (r : Option (List SymV)) (e : Ending) : Prop := match r with
  | none => e = .returned (.tuple #[.slice none 0 0, .bool false])
  | some l => ∃ A c, e = .returned (.tuple #[.slice A l.length c, .bool true]) ∧ OwnT symC 3 w' w.heap.size 58 (.slice A l.length c) l
def lenV : Value → Nat
  | .slice _ n _ => n
  | _ => 0
set_option maxRecDepth 100000 in
set_option maxHeartbeats 4000000 in
theorem symbols_any (A : Option Addr) (cap : Nat) (bs : List Nat) (x : Ds) (w : World) (hl : bs.length ≤ cap) (hc : cap ≤ 9223372036854775807) (hlen : bs.length ≤ 1000000) (hb : Lb bs) (hs : SlB w A bs.length (lF bs)) (ht : x.thunks < 4294967296) (hi : x.iat < 4294967296) :
    Calls Tryz.prog 144 #[.slice A bs.length cap, .agg (Ds.cells x)] w fun e w' => SymsQ w w' (symsD bs x) e ∧ Below w.heap.size w w' := by
  obtain ⟨R, hR⟩ : ∃ R, symsD bs x = R := ⟨_, rfl⟩
  rw [hR]
  unfold symsD at hR
  obtain ⟨at0, hat⟩ : ∃ q, (if x.thunks = 0 then x.iat else x.thunks) = q := ⟨_, rfl⟩
  rw [hat] at hR
  obtain ⟨xt, xd, iat, xs, xy, xa, xh⟩ := x
  simp only at hat hi ht hR
  have hatb : at0 < 4294967296 := by rw [← hat]; split <;> assumption
  have HLB := Lib.hid hb
  have HS := Lib.hid (fun W (hW : Below w.heap.size w W) => SlB.below hs hW)
  have HCC := Lib.hid (And.intro hl hc)
  have HR := Lib.hid hR
  obtain ⟨w1, hw1⟩ : ∃ w1, w.alloc (.cells #[.int .i64 xt, .int .i64 xd, .int .i64 iat, .int .i64 xs, .bool xy, .int .i64 xa, .int .i64 xh] 219) = w1 := ⟨_, rfl⟩
  have HE1 := Lib.hid hw1
  have HB1 := Lib.hid (show Below w.heap.size w w1 from by rw [← hw1]; exact (Below.refl _ _).alloc (Nat.le_refl _) _)
  have HX1 := Lib.hid (show w1.heap[w.heap.size]? = some (.cells #[.int .i64 xt, .int .i64 xd, .int .i64 iat, .int .i64 xs, .bool xy, .int .i64 xa, .int .i64 xh] 219 (0, 0)) from by rw [← hw1]; exact heap_alloc_new w _)
  have HS1 := Lib.hid (show w1.heap.size = w.heap.size + 1 from by rw [← hw1]; simp)
  clear hw1 hb hs hl hc hR
  have q0 : w1.cell? ⟨w.heap.size, 0, none⟩ = some (.int .i64 xt) := by rw [cell_of_row _ _ _ _ _ _ HX1.out]; rfl
  have q2 : w1.cell? ⟨w.heap.size, 2, none⟩ = some (.int .i64 iat) := by rw [cell_of_row _ _ _ _ _ _ HX1.out]; rfl
  simp only [Ds.cells]
  go_enter Tryz.func144, Tryz.ntmps144
  go_upto_region 1 with (fail)
  refine (congrArg _ HE1.out).mpr ?_
  by_cases hx0 : xt = 0
  · rw [if_pos hx0] at hat
    have dx : ((xt : Int) == 0) = true := by rw [beq_iff_eq]; omega
    subst hat
    clear hx0 hatb
    go_wp2_with fail
    have HOM := Lib.hid (OwnT.made (C := symC) (sz := 3) w1 (w.heap.size + 1) (by rw [HS1.out]; omega) 58)
    have HBM := Lib.hid (HB1.out.alloc HB1.out.size (.cells #[] 58))
    have HXM := Lib.hid ((Below.heap_alloc w1 (.cells #[] 58) w.heap.size (lt_of_row' HX1.out)).trans HX1.out)
    go_loopw [7] (fun v7 wr => ∃ (n : Nat) (l : List SymV) (A' : Option Addr) (c' : Nat), l.length + n = 66 ∧ l.length ≤ 64 ∧ v7 = .slice A' l.length c' ∧ OwnT symC 3 wr (w.heap.size + 1) 58 (.slice A' l.length c') l ∧ Below w.heap.size w wr ∧ wr.heap[w.heap.size]? = some (.cells #[.int .i64 xt, .int .i64 xd, .int .i64 iat, .int .i64 xs, .bool xy, .int .i64 xa, .int .i64 xh] 219 (0, 0)) ∧ symsL bs iat iat n l = R) (fun v7 _ => 66 - lenV v7)
    case atStart => exact ⟨66, [], _, _, rfl, by simp, rfl, HOM.out, HBM.out, HXM.out, HR.out⟩
    case round =>
      obtain ⟨n, l, A', c', hn, hl64, rfl, hown, hbel, hxr, hR⟩ := hrel
      have HO := Lib.hid hown
      have HB := Lib.hid hbel
      have HX := Lib.hid hxr
      replace HR := Lib.hid hR
      clear hown hbel hxr hR HOM HBM HXM
      obtain ⟨n, rfl⟩ : ∃ q, n = q + 1 := ⟨n - 1, by omega⟩
      have hre := HR.out
      simp only [symsL] at hre
      obtain ⟨L, hL⟩ : ∃ L, l.length = L := ⟨_, rfl⟩
      rw [hL] at hre hn hl64 HO
      obtain ⟨m8, hm8⟩ : ∃ q, 8 * L = q := ⟨_, rfl⟩
      obtain ⟨o, ho⟩ : ∃ q, iat + m8 = q := ⟨_, rfl⟩
      rw [hm8, ho] at hre
      have em : (8 : Int) * (L : Int) = (m8 : Int) := by omega
      have wm : IntKind.i64.wrap (m8 : Int) = (m8 : Int) := by rw [IntKind.wrap_i64]; omega
      have eo : (iat : Int) + (m8 : Int) = (o : Int) := by omega
      have wo : IntKind.i64.wrap (o : Int) = (o : Int) := by rw [IntKind.wrap_i64]; omega
      have HL := Lib.hid hL
      have HU := Lib.hid (u64_list A cap bs o wr (by omega) HLB.out (HS.out wr HB.out))
      have HIN := Lib.hid (rowIn_any A bs.length cap o 8 (decide (o + 8 ≤ bs.length)) wr (by omega) (by omega) (by omega) (by rw [decide_eq_true_iff]; omega))
      have hv := numL_lt (HLB.out.drop o) 8
      rw [show (256 : Nat) ^ 8 = 18446744073709551616 from rfl] at hv
      obtain ⟨v, hvv⟩ : ∃ v, numL (bs.drop o) 8 = v := ⟨_, rfl⟩
      rw [hvv] at HU hre hv
      have e2 : wr.cell? ⟨w.heap.size, 2, none⟩ = some (.int .i64 iat) := by rw [cell_of_row _ _ _ _ _ _ HX.out]; rfl
      have HSY := Lib.hid (fun W (hW : Below w.heap.size w W) => symbol_any A cap bs v W HCC.out.1 HCC.out.2 HLB.out (HS.out W hW) hv)
      have HVB := Lib.hid hv
      rw [hL]
      clear hm8 ho hvv hL hv
      by_cases c1 : o + 8 ≤ bs.length
      · rw [if_pos c1] at hre
        rw [if_pos c1, decide_eq_true c1] at HU
        clear c1
        by_cases c2 : v = 0
        · rw [if_pos c2] at hre
          have dv : ((v : Int) == 0) = true := by rw [beq_iff_eq]; omega
          have hre' := hre
          subst hre'
          clear c2 hre
          go_wp2_with fail
          refine HU.out.mono ?_
          rintro e w' ⟨rfl, rfl⟩
          go_wp2_with fail
          go_ret2
          refine ⟨⟨A', c', by rw [HL.out]; rfl, by rw [HL.out]; exact Joins.ownsRow_le HO.out (by omega)⟩, HB.out⟩
        · rw [if_neg c2] at hre
          have dv : ((v : Int) == 0) = false := beq_eq_false_iff_ne.mpr (by omega)
          clear c2
          by_cases c3 : o + 8 ≤ bs.length
          · rw [decide_eq_true c3] at HIN
            by_cases c4 : L = 64
            · rw [if_neg (by omega)] at hre
              subst hre
              have d4 : ((L : Int) == 64) = true := by rw [beq_iff_eq]; omega
              have HC4 := Lib.hid c4
              clear c4 c3
              go_wp2_with fail
              refine HU.out.mono ?_
              rintro e w' ⟨rfl, rfl⟩
              go_wp2_with fail
              refine HIN.out.mono ?_
              rintro e w' ⟨rfl, rfl⟩
              go_wp2_with fail
              go_ret2
              exact ⟨rfl, HB.out⟩
            · rw [if_pos ⟨c3, c4⟩] at hre
              have d4 : ((L : Int) == 64) = false := beq_eq_false_iff_ne.mpr (by omega)
              have hL64 : L < 64 := by omega
              have HRE2 := Lib.hid hre
              clear c3 c4 hre
              go_wp2_with fail
              refine HU.out.mono ?_
              rintro e w' ⟨rfl, rfl⟩
              go_wp2_with fail
              refine HIN.out.mono ?_
              rintro e w' ⟨rfl, rfl⟩
              go_wp2_with fail
              refine (HSY.out _ HB.out).mono ?_
              rintro e w2 ⟨⟨T, O, B, ok, rfl, hq1, hq2⟩, hw2⟩
              obtain ⟨w3, hw3⟩ : ∃ w3, w2.alloc (.cells #[.string T, .int .i64 O, .bool B] 58) = w3 := ⟨_, rfl⟩
              have HE3 := Lib.hid hw3
              have h23 : Below wr.heap.size wr w3 := by rw [← hw3]; exact hw2.alloc hw2.size _
              have HB3 := Lib.hid (HB.out.trans (h23.mono HB.out.size))
              have HO3 := Lib.hid (HO.out.below h23)
              have HX3 := Lib.hid ((h23.block _ (lt_of_row' HX.out)).trans HX.out)
              have HT3 := Lib.hid (show w3.heap[w2.heap.size]? = some (.cells #[.string T, .int .i64 O, .bool B] 58 (0, 0)) from by rw [← hw3]; exact heap_alloc_new w2 _)
              clear hw2 hw3 h23 e2
              go_upto_region 14 with (fail)
              refine (congrArg _ HE3.out).mpr ?_
              rcases hrd : symbolL bs v with _ | s
              · obtain rfl := hq1 hrd
                have hre := HRE2.out
                rw [hrd] at hre
                simp only at hre
                subst hre
                clear hq1 hq2 hrd
                go_wp2_with fail
                go_ret2
                exact ⟨rfl, HB3.out⟩
              · obtain ⟨rfl, rfl, rfl, rfl⟩ := hq2 _ hrd
                have hre := HRE2.out
                rw [hrd] at hre
                simp only at hre
                have HRE3 := Lib.hid hre
                clear hq1 hq2 hrd hre
                have t0 : w3.cell? ⟨w2.heap.size, 0, none⟩ = some (.string (txt s.1)) := by rw [cell_of_row _ _ _ _ _ _ HT3.out]; rfl
                have t1 : w3.cell? ⟨w2.heap.size, 1, none⟩ = some (.int .i64 s.2.1) := by rw [cell_of_row _ _ _ _ _ _ HT3.out]; rfl
                have t2 : w3.cell? ⟨w2.heap.size, 2, none⟩ = some (.bool s.2.2) := by rw [cell_of_row _ _ _ _ _ _ HT3.out]; rfl
                have HA1 := Lib.hid (HO3.out.alloc (.cells #[.string (txt s.1), .int .i64 s.2.1, .bool s.2.2] 58))
                have HY1 := Lib.hid (symCells s w3)
                have HB8 := Lib.hid (HB3.out.alloc HB3.out.size (.cells #[.string (txt s.1), .int .i64 s.2.1, .bool s.2.2] 58))
                have HX8 := Lib.hid (show (w3.alloc (.cells #[.string (txt s.1), .int .i64 s.2.1, .bool s.2.2] 58)).heap[w.heap.size]? = _ from (Below.heap_alloc _ _ _ (lt_of_row' HX3.out)).trans HX3.out)
                have HG3 := Lib.hid (show w.heap.size + 1 ≤ (w3.alloc (.cells #[.string (txt s.1), .int .i64 s.2.1, .bool s.2.2] 58)).heap.size from lt_of_row' HX8.out)
                rw [← HL.out] at HA1 hL64 hn ⊢
                have HG4 := Lib.hid (show l.length + 1 ≤ maxLen from by unfold maxLen; omega)
                have HG5 := Lib.hid (show (l.length + 1) * 32 ≤ 140737488355328 from by omega)
                go_wp2_with (first
                  | (at_builtin; refine wpList_appT rfl (.tmp 55) (.tmp 57) 59 rfl (w.heap.size + 1) 58 _ 32 rfl infoSym rfl (by omega) symC_len symC_one _ l rfl HA1.out w3.heap.size 1 rfl s HY1.out HG4.out HG5.out HG3.out ?_; intro g5 cap5 w8 hown5 hg5 hat5)
                  | fail)
                have HB9 := Lib.hid (HA1.out.grew HB8.out (by omega) HB8.out.size hg5)
                have HX9 := Lib.hid ((hg5.block w.heap.size (lt_of_row' HX8.out) (fun h => by have := (HA1.out.lt _ h.symm).1; omega)).trans HX8.out)
                have HO9 := Lib.hid hown5
                clear hown5 hg5 hat5
                go_roundw
                case rel => exact ⟨n, l ++ [s], some ⟨g5, 0, none⟩, cap5, by simp; omega, by simp; omega, by simp, by simpa using HO9.out, HB9.out, HX9.out, HRE3.out⟩
                case measure =>
                  show 66 - (l.length + 1) < 66 - L
                  have := HL.out
                  omega
          · rw [decide_eq_false c3] at HIN
            rw [if_neg (fun h => c3 h.1)] at hre
            subst hre
            clear c3
            go_wp2_with fail
            refine HU.out.mono ?_
            rintro e w' ⟨rfl, rfl⟩
            go_wp2_with fail
            refine HIN.out.mono ?_
            rintro e w' ⟨rfl, rfl⟩
            go_wp2_with fail
            go_ret2
            exact ⟨rfl, HB.out⟩
      · rw [if_neg c1] at hre
        subst hre
        rw [if_neg c1, decide_eq_false c1] at HU
        clear c1
        go_wp2_with fail
        refine HU.out.mono ?_
        rintro e w' ⟨rfl, rfl⟩
        go_wp2_with fail
        go_ret2
        exact ⟨rfl, HB.out⟩
  · rw [if_neg hx0] at hat
    have dx : ((xt : Int) == 0) = false := beq_eq_false_iff_ne.mpr (by omega)
    subst hat
    clear hx0 hatb
    go_wp2_with fail
    have HOM := Lib.hid (OwnT.made (C := symC) (sz := 3) w1 (w.heap.size + 1) (by rw [HS1.out]; omega) 58)
    have HBM := Lib.hid (HB1.out.alloc HB1.out.size (.cells #[] 58))
    have HXM := Lib.hid ((Below.heap_alloc w1 (.cells #[] 58) w.heap.size (lt_of_row' HX1.out)).trans HX1.out)
    go_loopw [7] (fun v7 wr => ∃ (n : Nat) (l : List SymV) (A' : Option Addr) (c' : Nat), l.length + n = 66 ∧ l.length ≤ 64 ∧ v7 = .slice A' l.length c' ∧ OwnT symC 3 wr (w.heap.size + 1) 58 (.slice A' l.length c') l ∧ Below w.heap.size w wr ∧ wr.heap[w.heap.size]? = some (.cells #[.int .i64 xt, .int .i64 xd, .int .i64 iat, .int .i64 xs, .bool xy, .int .i64 xa, .int .i64 xh] 219 (0, 0)) ∧ symsL bs xt iat n l = R) (fun v7 _ => 66 - lenV v7)
    case atStart => exact ⟨66, [], _, _, rfl, by simp, rfl, HOM.out, HBM.out, HXM.out, HR.out⟩
    case round =>
      obtain ⟨n, l, A', c', hn, hl64, rfl, hown, hbel, hxr, hR⟩ := hrel
      have HO := Lib.hid hown
      have HB := Lib.hid hbel
      have HX := Lib.hid hxr
      replace HR := Lib.hid hR
      clear hown hbel hxr hR HOM HBM HXM
      obtain ⟨n, rfl⟩ : ∃ q, n = q + 1 := ⟨n - 1, by omega⟩
      have hre := HR.out
      simp only [symsL] at hre
      obtain ⟨L, hL⟩ : ∃ L, l.length = L := ⟨_, rfl⟩
      rw [hL] at hre hn hl64 HO
      obtain ⟨m8, hm8⟩ : ∃ q, 8 * L = q := ⟨_, rfl⟩
      obtain ⟨o, ho⟩ : ∃ q, xt + m8 = q := ⟨_, rfl⟩
      obtain ⟨o2, ho2⟩ : ∃ q, iat + m8 = q := ⟨_, rfl⟩
      rw [hm8, ho, ho2] at hre
      have em : (8 : Int) * (L : Int) = (m8 : Int) := by omega
      have wm : IntKind.i64.wrap (m8 : Int) = (m8 : Int) := by rw [IntKind.wrap_i64]; omega
      have eo : (xt : Int) + (m8 : Int) = (o : Int) := by omega
      have wo : IntKind.i64.wrap (o : Int) = (o : Int) := by rw [IntKind.wrap_i64]; omega
      have eo2 : (iat : Int) + (m8 : Int) = (o2 : Int) := by omega
      have wo2 : IntKind.i64.wrap (o2 : Int) = (o2 : Int) := by rw [IntKind.wrap_i64]; omega
      have HL := Lib.hid hL
      have HU := Lib.hid (u64_list A cap bs o wr (by omega) HLB.out (HS.out wr HB.out))
      have HIN := Lib.hid (rowIn_any A bs.length cap o2 8 (decide (o2 + 8 ≤ bs.length)) wr (by omega) (by omega) (by omega) (by rw [decide_eq_true_iff]; omega))
      have hv := numL_lt (HLB.out.drop o) 8
      rw [show (256 : Nat) ^ 8 = 18446744073709551616 from rfl] at hv
      obtain ⟨v, hvv⟩ : ∃ v, numL (bs.drop o) 8 = v := ⟨_, rfl⟩
      rw [hvv] at HU hre hv
      have e2 : wr.cell? ⟨w.heap.size, 2, none⟩ = some (.int .i64 iat) := by rw [cell_of_row _ _ _ _ _ _ HX.out]; rfl
      have HSY := Lib.hid (fun W (hW : Below w.heap.size w W) => symbol_any A cap bs v W HCC.out.1 HCC.out.2 HLB.out (HS.out W hW) hv)
      have HVB := Lib.hid hv
      rw [hL]
      clear hm8 ho ho2 hvv hL hv
      by_cases c1 : o + 8 ≤ bs.length
      · rw [if_pos c1] at hre
        rw [if_pos c1, decide_eq_true c1] at HU
        clear c1
        by_cases c2 : v = 0
        · rw [if_pos c2] at hre
          have dv : ((v : Int) == 0) = true := by rw [beq_iff_eq]; omega
          have hre' := hre
          subst hre'
          clear c2 hre
          go_wp2_with fail
          refine HU.out.mono ?_
          rintro e w' ⟨rfl, rfl⟩
          go_wp2_with fail
          go_ret2
          refine ⟨⟨A', c', by rw [HL.out]; rfl, by rw [HL.out]; exact Joins.ownsRow_le HO.out (by omega)⟩, HB.out⟩
        · rw [if_neg c2] at hre
          have dv : ((v : Int) == 0) = false := beq_eq_false_iff_ne.mpr (by omega)
          clear c2
          by_cases c3 : o2 + 8 ≤ bs.length
          · rw [decide_eq_true c3] at HIN
            by_cases c4 : L = 64
            · rw [if_neg (by omega)] at hre
              subst hre
              have d4 : ((L : Int) == 64) = true := by rw [beq_iff_eq]; omega
              have HC4 := Lib.hid c4
              clear c4 c3
              go_wp2_with fail
              refine HU.out.mono ?_
              rintro e w' ⟨rfl, rfl⟩
              go_wp2_with fail
              refine HIN.out.mono ?_
              rintro e w' ⟨rfl, rfl⟩
              go_wp2_with fail
              go_ret2
              exact ⟨rfl, HB.out⟩
            · rw [if_pos ⟨c3, c4⟩] at hre
              have d4 : ((L : Int) == 64) = false := beq_eq_false_iff_ne.mpr (by omega)
              have hL64 : L < 64 := by omega
              have HRE2 := Lib.hid hre
              clear c3 c4 hre
              go_wp2_with fail
              refine HU.out.mono ?_
              rintro e w' ⟨rfl, rfl⟩
              go_wp2_with fail
              refine HIN.out.mono ?_
              rintro e w' ⟨rfl, rfl⟩
              go_wp2_with fail
              refine (HSY.out _ HB.out).mono ?_
              rintro e w2 ⟨⟨T, O, B, ok, rfl, hq1, hq2⟩, hw2⟩
              obtain ⟨w3, hw3⟩ : ∃ w3, w2.alloc (.cells #[.string T, .int .i64 O, .bool B] 58) = w3 := ⟨_, rfl⟩
              have HE3 := Lib.hid hw3
              have h23 : Below wr.heap.size wr w3 := by rw [← hw3]; exact hw2.alloc hw2.size _
              have HB3 := Lib.hid (HB.out.trans (h23.mono HB.out.size))
              have HO3 := Lib.hid (HO.out.below h23)
              have HX3 := Lib.hid ((h23.block _ (lt_of_row' HX.out)).trans HX.out)
              have HT3 := Lib.hid (show w3.heap[w2.heap.size]? = some (.cells #[.string T, .int .i64 O, .bool B] 58 (0, 0)) from by rw [← hw3]; exact heap_alloc_new w2 _)
              clear hw2 hw3 h23 e2
              go_upto_region 14 with (fail)
              refine (congrArg _ HE3.out).mpr ?_
              rcases hrd : symbolL bs v with _ | s
              · obtain rfl := hq1 hrd
                have hre := HRE2.out
                rw [hrd] at hre
                simp only at hre
                subst hre
                clear hq1 hq2 hrd
                go_wp2_with fail
                go_ret2
                exact ⟨rfl, HB3.out⟩
              · obtain ⟨rfl, rfl, rfl, rfl⟩ := hq2 _ hrd
                have hre := HRE2.out
                rw [hrd] at hre
                simp only at hre
                have HRE3 := Lib.hid hre
                clear hq1 hq2 hrd hre
                have t0 : w3.cell? ⟨w2.heap.size, 0, none⟩ = some (.string (txt s.1)) := by rw [cell_of_row _ _ _ _ _ _ HT3.out]; rfl
                have t1 : w3.cell? ⟨w2.heap.size, 1, none⟩ = some (.int .i64 s.2.1) := by rw [cell_of_row _ _ _ _ _ _ HT3.out]; rfl
                have t2 : w3.cell? ⟨w2.heap.size, 2, none⟩ = some (.bool s.2.2) := by rw [cell_of_row _ _ _ _ _ _ HT3.out]; rfl
                have HA1 := Lib.hid (HO3.out.alloc (.cells #[.string (txt s.1), .int .i64 s.2.1, .bool s.2.2] 58))
                have HY1 := Lib.hid (symCells s w3)
                have HB8 := Lib.hid (HB3.out.alloc HB3.out.size (.cells #[.string (txt s.1), .int .i64 s.2.1, .bool s.2.2] 58))
                have HX8 := Lib.hid (show (w3.alloc (.cells #[.string (txt s.1), .int .i64 s.2.1, .bool s.2.2] 58)).heap[w.heap.size]? = _ from (Below.heap_alloc _ _ _ (lt_of_row' HX3.out)).trans HX3.out)
                have HG3 := Lib.hid (show w.heap.size + 1 ≤ (w3.alloc (.cells #[.string (txt s.1), .int .i64 s.2.1, .bool s.2.2] 58)).heap.size from lt_of_row' HX8.out)
                rw [← HL.out] at HA1 hL64 hn ⊢
                have HG4 := Lib.hid (show l.length + 1 ≤ maxLen from by unfold maxLen; omega)
                have HG5 := Lib.hid (show (l.length + 1) * 32 ≤ 140737488355328 from by omega)
                go_wp2_with (first
                  | (at_builtin; refine wpList_appT rfl (.tmp 55) (.tmp 57) 59 rfl (w.heap.size + 1) 58 _ 32 rfl infoSym rfl (by omega) symC_len symC_one _ l rfl HA1.out w3.heap.size 1 rfl s HY1.out HG4.out HG5.out HG3.out ?_; intro g5 cap5 w8 hown5 hg5 hat5)
                  | fail)
                have HB9 := Lib.hid (HA1.out.grew HB8.out (by omega) HB8.out.size hg5)
                have HX9 := Lib.hid ((hg5.block w.heap.size (lt_of_row' HX8.out) (fun h => by have := (HA1.out.lt _ h.symm).1; omega)).trans HX8.out)
                have HO9 := Lib.hid hown5
                clear hown5 hg5 hat5
                go_roundw
                case rel => exact ⟨n, l ++ [s], some ⟨g5, 0, none⟩, cap5, by simp; omega, by simp; omega, by simp, by simpa using HO9.out, HB9.out, HX9.out, HRE3.out⟩
                case measure =>
                  show 66 - (l.length + 1) < 66 - L
                  have := HL.out
                  omega
          · rw [decide_eq_false c3] at HIN
            rw [if_neg (fun h => c3 h.1)] at hre
            subst hre
            clear c3
            go_wp2_with fail
            refine HU.out.mono ?_
            rintro e w' ⟨rfl, rfl⟩
            go_wp2_with fail
            refine HIN.out.mono ?_
            rintro e w' ⟨rfl, rfl⟩
            go_wp2_with fail
            go_ret2
            exact ⟨rfl, HB.out⟩
      · rw [if_neg c1] at hre
        subst hre
        rw [if_neg c1, decide_eq_false c1] at HU
        clear c1
        go_wp2_with fail
        refine HU.out.mono ?_
        rintro e w' ⟨rfl, rfl⟩
        go_wp2_with fail
        go_ret2
        exact ⟨rfl, HB.out⟩
structure ImpV where
  dll : List Nat
  iat : Nat
  stamp : Nat
  handle : Nat
  syms : List SymV
def oneL (b : List Nat) (x : Ds) : Option ImpV :=
  match textL b x.dll 40 with
  | none => none
  | some t => if okNm t = true then
      (if x.delay = true ∧ (x.attrs ≠ 1 ∨ ¬ x.handle + 8 ≤ b.length) then none
       else match symsD b x with
        | none => none
        | some l => some ⟨t, x.iat, x.stamp, x.handle, l⟩)
    else none
def OneQ (base : Nat) (w' : World) (r : Option ImpV) (e : Ending) : Prop := ∃ (T : ByteArray) (i s h : Nat) (A : Option Addr) (n c : Nat) (ok : Bool), e = .returned (.tuple #[.agg #[.string T, .int .i64 i, .int .i64 s, .int .i64 h, .slice A n c], .bool ok]) ∧
  (r = none → ok = false) ∧ (∀ v, r = some v → ok = true ∧ T = txt v.dll ∧ i = v.iat ∧ s = v.stamp ∧ h = v.handle ∧ n = v.syms.length ∧ SlT symC 3 w' A v.syms ∧ ∀ b, A.map (·.block) = some b → base ≤ b)
theorem imOne {T : ByteArray} {a b c : Int} {A : Option Addr} {n m : Nat} : (#[.string T, .int .i64 a, .int .i64 b, .int .i64 c, .slice A n m] : Array Value).all (·.oneCell') = true := by simp [Value.oneCell']
theorem imInfo {a b c d e : Value} : (Tryz.prog.info? 78).map (·.size) = some (#[a, b, c, d, e] : Array Value).size := by kernel_rfl
set_option maxRecDepth 100000 in
set_option maxHeartbeats 4000000 in
theorem one_any (A : Option Addr) (cap : Nat) (bs : List Nat) (x : Ds) (w : World) (hl : bs.length ≤ cap) (hc : cap ≤ 9223372036854775807) (hlen : bs.length ≤ 1000000) (hb : Lb bs) (hs : SlB w A bs.length (lF bs)) (ht : x.thunks < 4294967296) (hi : x.iat < 4294967296) (hd : x.dll < 4294967296) (hh : x.handle < 4294967296) :
    Calls Tryz.prog 136 #[.slice A bs.length cap, .agg x.cells] w fun e w' => OneQ w.heap.size w' (oneL bs x) e ∧ Below w.heap.size w w' := by
  obtain ⟨R, hR⟩ : ∃ R, oneL bs x = R := ⟨_, rfl⟩
  rw [hR]
  unfold oneL at hR
  obtain ⟨SD, hSD⟩ : ∃ q, symsD bs x = q := ⟨_, rfl⟩
  rw [hSD] at hR
  have HY := Lib.hid (fun W (hW : Below w.heap.size w W) => symbols_any A cap bs x W hl hc hlen hb (SlB.below hs hW) ht hi)
  rw [hSD] at HY
  clear hSD
  obtain ⟨xt, xd, xi, xs, xy, xa, xh⟩ := x
  simp only [Ds.cells] at HY ⊢
  simp only at hR hd hh
  obtain ⟨w1, hw1⟩ : ∃ w1, (w.alloc (.cells #[.int .i64 xt, .int .i64 xd, .int .i64 xi, .int .i64 xs, .bool xy, .int .i64 xa, .int .i64 xh] 219)).alloc (.cells #[.string ⟨#[]⟩, .int .i64 0, .int .i64 0, .int .i64 0, .slice none 0 0] 78) = w1 := ⟨_, rfl⟩
  have hs1 : (w.alloc (.cells #[.int .i64 xt, .int .i64 xd, .int .i64 xi, .int .i64 xs, .bool xy, .int .i64 xa, .int .i64 xh] 219)).heap.size = w.heap.size + 1 := by simp
  have hb1 : Below w.heap.size w w1 := by rw [← hw1]; exact ((Below.refl w.heap.size w).alloc (Nat.le_refl _) _).alloc (by rw [hs1]; omega) _
  have HB := Lib.hid hb1
  have H0 := Lib.hid (show w1.heap[w.heap.size]? = some (.cells #[.int .i64 xt, .int .i64 xd, .int .i64 xi, .int .i64 xs, .bool xy, .int .i64 xa, .int .i64 xh] 219 (0, 0)) from by
    rw [← hw1]
    exact (Below.heap_alloc _ _ w.heap.size (by rw [hs1]; omega)).trans (heap_alloc_new w _))
  have H1 := Lib.hid (show w1.heap[w.heap.size + 1]? = some (.cells #[.string ⟨#[]⟩, .int .i64 0, .int .i64 0, .int .i64 0, .slice none 0 0] 78 (0, 0)) from by
    rw [← hw1]
    have h := heap_alloc_new (w.alloc (.cells #[.int .i64 xt, .int .i64 xd, .int .i64 xi, .int .i64 xs, .bool xy, .int .i64 xa, .int .i64 xh] 219)) (.cells #[.string ⟨#[]⟩, .int .i64 0, .int .i64 0, .int .i64 0, .slice none 0 0] 78)
    rwa [hs1] at h)
  have HE1 := Lib.hid hw1
  have HTX := Lib.hid (text_list A cap bs xd 40 w1 hc hl (SlB.below hs hb1))
  have HIN := Lib.hid (fun W => rowIn_any A bs.length cap xh 8 (decide (xh + 8 ≤ bs.length)) W (by omega) (by omega) (by omega) (by rw [decide_eq_true_iff]; omega))
  have q0 : w1.cell? ⟨w.heap.size, 0, none⟩ = some (.int .i64 xt) := by rw [cell_of_row _ _ _ _ _ _ H0.out]; rfl
  have q1 : w1.cell? ⟨w.heap.size, 1, none⟩ = some (.int .i64 xd) := by rw [cell_of_row _ _ _ _ _ _ H0.out]; rfl
  have q2 : w1.cell? ⟨w.heap.size, 2, none⟩ = some (.int .i64 xi) := by rw [cell_of_row _ _ _ _ _ _ H0.out]; rfl
  have q3 : w1.cell? ⟨w.heap.size, 3, none⟩ = some (.int .i64 xs) := by rw [cell_of_row _ _ _ _ _ _ H0.out]; rfl
  have q4 : w1.cell? ⟨w.heap.size, 4, none⟩ = some (.bool xy) := by rw [cell_of_row _ _ _ _ _ _ H0.out]; rfl
  have q5 : w1.cell? ⟨w.heap.size, 5, none⟩ = some (.int .i64 xa) := by rw [cell_of_row _ _ _ _ _ _ H0.out]; rfl
  have q6 : w1.cell? ⟨w.heap.size, 6, none⟩ = some (.int .i64 xh) := by rw [cell_of_row _ _ _ _ _ _ H0.out]; rfl
  clear hw1 hs1 hb1 hs ht hi hd hh
  rcases hte : textL bs xd 40 with _ | t
  · rw [hte] at HTX hR
    simp only at HTX hR
    have HR := Lib.hid hR
    clear hR hte
    go_enter Tryz.func136, Tryz.ntmps136
    go_upto_region 1 with (fail)
    refine (congrArg _ HE1.out).mpr ?_
    go_wp2_with fail
    refine HTX.out.mono ?_
    rintro e w' ⟨rfl, rfl⟩
    obtain ⟨w9, hw9⟩ : ∃ w9, w1.setRow (w.heap.size + 1) #[.string ⟨#[]⟩, .int .i64 0, .int .i64 0, .int .i64 0, .slice none 0 0] = w9 := ⟨_, rfl⟩
    have HE9 := Lib.hid hw9
    have HR9 := Lib.hid (show w9.heap[w.heap.size + 1]? = some (.cells #[.string ⟨#[]⟩, .int .i64 0, .int .i64 0, .int .i64 0, .slice none 0 0] 78 (0, 0)) from by rw [← hw9]; exact setRow_heap _ _ _ _ _ _ H1.out)
    have HB9 := Lib.hid (show Below w.heap.size w w9 from by rw [← hw9]; exact below_setRow HB.out (Nat.le_succ _) _)
    have k0 : w9.cell? ⟨w.heap.size + 1, 0, none⟩ = some (.string ⟨#[]⟩) := by rw [cell_of_row _ _ _ _ _ _ HR9.out]; rfl
    have k1 : w9.cell? ⟨w.heap.size + 1, 1, none⟩ = some (.int .i64 0) := by rw [cell_of_row _ _ _ _ _ _ HR9.out]; rfl
    have k2 : w9.cell? ⟨w.heap.size + 1, 2, none⟩ = some (.int .i64 0) := by rw [cell_of_row _ _ _ _ _ _ HR9.out]; rfl
    have k3 : w9.cell? ⟨w.heap.size + 1, 3, none⟩ = some (.int .i64 0) := by rw [cell_of_row _ _ _ _ _ _ HR9.out]; rfl
    have k4 : w9.cell? ⟨w.heap.size + 1, 4, none⟩ = some (.slice none 0 0) := by rw [cell_of_row _ _ _ _ _ _ HR9.out]; rfl
    clear hw9
    go_upto_region 3 with (fail)
    go_wp2_with (first | (refine wpList_store_row rfl 78 _ _ rfl (w.heap.size + 1) #[.string ⟨#[]⟩, .int .i64 0, .int .i64 0, .int .i64 0, .slice none 0 0] rfl rfl 78 #[.string ⟨#[]⟩, .int .i64 0, .int .i64 0, .int .i64 0, .slice none 0 0] H1.out imInfo rfl imOne ?_; refine (congrArg _ HE9.out).mpr ?_) | fail)
    refine bodyPost_ret (v := .tuple #[.agg #[.string ⟨#[]⟩, .int .i64 0, .int .i64 0, .int .i64 0, .slice none 0 0], .bool false]) (by simp [results, Tryz.results136, go_sem, k0, k1, k2, k3, k4]) rfl ⟨⟨_, 0, 0, 0, _, _, _, _, rfl, fun _ => rfl, fun v hv => absurd (HR.out.trans hv) (by simp)⟩, HB9.out⟩
  · have hlt := textL_lb' hb hte
    have HNM := Lib.hid (fun W => okNm_any t W hlt.1 (by have := hlt.2; omega))
    rw [hte] at HTX hR
    simp only at HTX hR
    clear hte hlt
    by_cases hok : okNm t = true
    · rw [if_pos hok] at hR
      rw [hok] at HNM
      clear hok
      by_cases hbad : xy = true ∧ (xa ≠ 1 ∨ ¬ xh + 8 ≤ bs.length)
      · rw [if_pos hbad] at hR
        have HR := Lib.hid hR
        clear hR
        obtain ⟨rfl, hbad⟩ := hbad
        by_cases hxa : xa = 1
        · have hnin : ¬ xh + 8 ≤ bs.length := by omega
          rw [decide_eq_false hnin] at HIN
          have HXA := Lib.hid hxa
          clear hbad hnin hxa
          go_enter Tryz.func136, Tryz.ntmps136
          go_upto_region 1 with (fail)
          refine (congrArg _ HE1.out).mpr ?_
          go_wp2_with fail
          refine HTX.out.mono ?_
          rintro e w' ⟨rfl, rfl⟩
          have da : (xa : Int) = 1 := by have := HXA.out; omega
          go_wp2_with fail
          refine (HNM.out _).mono ?_
          rintro e w' ⟨rfl, rfl⟩
          go_wp2_with fail
          clear da
          refine (HIN.out _).mono ?_
          rintro e w' ⟨rfl, rfl⟩
          obtain ⟨w9, hw9⟩ : ∃ w9, w1.setRow (w.heap.size + 1) #[.string ⟨#[]⟩, .int .i64 0, .int .i64 0, .int .i64 0, .slice none 0 0] = w9 := ⟨_, rfl⟩
          have HE9 := Lib.hid hw9
          have HR9 := Lib.hid (show w9.heap[w.heap.size + 1]? = some (.cells #[.string ⟨#[]⟩, .int .i64 0, .int .i64 0, .int .i64 0, .slice none 0 0] 78 (0, 0)) from by rw [← hw9]; exact setRow_heap _ _ _ _ _ _ H1.out)
          have HB9 := Lib.hid (show Below w.heap.size w w9 from by rw [← hw9]; exact below_setRow HB.out (Nat.le_succ _) _)
          have k0 : w9.cell? ⟨w.heap.size + 1, 0, none⟩ = some (.string ⟨#[]⟩) := by rw [cell_of_row _ _ _ _ _ _ HR9.out]; rfl
          have k1 : w9.cell? ⟨w.heap.size + 1, 1, none⟩ = some (.int .i64 0) := by rw [cell_of_row _ _ _ _ _ _ HR9.out]; rfl
          have k2 : w9.cell? ⟨w.heap.size + 1, 2, none⟩ = some (.int .i64 0) := by rw [cell_of_row _ _ _ _ _ _ HR9.out]; rfl
          have k3 : w9.cell? ⟨w.heap.size + 1, 3, none⟩ = some (.int .i64 0) := by rw [cell_of_row _ _ _ _ _ _ HR9.out]; rfl
          have k4 : w9.cell? ⟨w.heap.size + 1, 4, none⟩ = some (.slice none 0 0) := by rw [cell_of_row _ _ _ _ _ _ HR9.out]; rfl
          clear hw9
          go_upto_region 5 with (fail)
          go_wp2_with (first | (refine wpList_store_row rfl 78 _ _ rfl (w.heap.size + 1) #[.string ⟨#[]⟩, .int .i64 0, .int .i64 0, .int .i64 0, .slice none 0 0] rfl rfl 78 #[.string ⟨#[]⟩, .int .i64 0, .int .i64 0, .int .i64 0, .slice none 0 0] H1.out imInfo rfl imOne ?_; refine (congrArg _ HE9.out).mpr ?_) | fail)
          refine bodyPost_ret (v := .tuple #[.agg #[.string ⟨#[]⟩, .int .i64 0, .int .i64 0, .int .i64 0, .slice none 0 0], .bool false]) (by simp [results, Tryz.results136, go_sem, k0, k1, k2, k3, k4]) rfl ⟨⟨_, 0, 0, 0, _, _, _, _, rfl, fun _ => rfl, fun v hv => absurd (HR.out.trans hv) (by simp)⟩, HB9.out⟩
        · have da : ((xa : Int) == 1) = false := beq_eq_false_iff_ne.mpr (by omega)
          have db : ¬ (xa : Int) = 1 := by omega
          clear hbad hxa
          go_enter Tryz.func136, Tryz.ntmps136
          go_upto_region 1 with (fail)
          refine (congrArg _ HE1.out).mpr ?_
          go_wp2_with fail
          refine HTX.out.mono ?_
          rintro e w' ⟨rfl, rfl⟩
          go_wp2_with fail
          refine (HNM.out _).mono ?_
          rintro e w' ⟨rfl, rfl⟩
          obtain ⟨w9, hw9⟩ : ∃ w9, w1.setRow (w.heap.size + 1) #[.string ⟨#[]⟩, .int .i64 0, .int .i64 0, .int .i64 0, .slice none 0 0] = w9 := ⟨_, rfl⟩
          have HE9 := Lib.hid hw9
          have HR9 := Lib.hid (show w9.heap[w.heap.size + 1]? = some (.cells #[.string ⟨#[]⟩, .int .i64 0, .int .i64 0, .int .i64 0, .slice none 0 0] 78 (0, 0)) from by rw [← hw9]; exact setRow_heap _ _ _ _ _ _ H1.out)
          have HB9 := Lib.hid (show Below w.heap.size w w9 from by rw [← hw9]; exact below_setRow HB.out (Nat.le_succ _) _)
          have k0 : w9.cell? ⟨w.heap.size + 1, 0, none⟩ = some (.string ⟨#[]⟩) := by rw [cell_of_row _ _ _ _ _ _ HR9.out]; rfl
          have k1 : w9.cell? ⟨w.heap.size + 1, 1, none⟩ = some (.int .i64 0) := by rw [cell_of_row _ _ _ _ _ _ HR9.out]; rfl
          have k2 : w9.cell? ⟨w.heap.size + 1, 2, none⟩ = some (.int .i64 0) := by rw [cell_of_row _ _ _ _ _ _ HR9.out]; rfl
          have k3 : w9.cell? ⟨w.heap.size + 1, 3, none⟩ = some (.int .i64 0) := by rw [cell_of_row _ _ _ _ _ _ HR9.out]; rfl
          have k4 : w9.cell? ⟨w.heap.size + 1, 4, none⟩ = some (.slice none 0 0) := by rw [cell_of_row _ _ _ _ _ _ HR9.out]; rfl
          clear hw9
          go_upto_region 5 with (fail)
          go_wp2_with (first | (refine wpList_store_row rfl 78 _ _ rfl (w.heap.size + 1) #[.string ⟨#[]⟩, .int .i64 0, .int .i64 0, .int .i64 0, .slice none 0 0] rfl rfl 78 #[.string ⟨#[]⟩, .int .i64 0, .int .i64 0, .int .i64 0, .slice none 0 0] H1.out imInfo rfl imOne ?_; refine (congrArg _ HE9.out).mpr ?_) | fail)
          refine bodyPost_ret (v := .tuple #[.agg #[.string ⟨#[]⟩, .int .i64 0, .int .i64 0, .int .i64 0, .slice none 0 0], .bool false]) (by simp [results, Tryz.results136, go_sem, k0, k1, k2, k3, k4]) rfl ⟨⟨_, 0, 0, 0, _, _, _, _, rfl, fun _ => rfl, fun v hv => absurd (HR.out.trans hv) (by simp)⟩, HB9.out⟩
      · rw [if_neg hbad] at hR
        have HRE := Lib.hid hR
        clear hR
        rcases xy with _ | _
        · clear hbad
          go_enter Tryz.func136, Tryz.ntmps136
          go_upto_region 1 with (fail)
          refine (congrArg _ HE1.out).mpr ?_
          go_wp2_with fail
          refine HTX.out.mono ?_
          rintro e w' ⟨rfl, rfl⟩
          go_wp2_with fail
          refine (HNM.out _).mono ?_
          rintro e w' ⟨rfl, rfl⟩
          go_wp2_with fail
          refine (HY.out w1 HB.out).mono ?_
          rintro e w2 ⟨hq, hw2⟩
          have HB2 := Lib.hid (HB.out.trans (hw2.mono HB.out.size))
          have H02 := Lib.hid ((hw2.block _ (lt_of_row' H0.out)).trans H0.out)
          have H12 := Lib.hid ((hw2.block _ (lt_of_row' H1.out)).trans H1.out)
          clear hw2 q0 q1 q2 q3 q4 q5 q6
          rcases SD with _ | l
          · have hq' : e = .returned (.tuple #[.slice none 0 0, .bool false]) := hq
            subst hq'
            have HR := HRE
            simp only at HR
            clear hq
            obtain ⟨w9, hw9⟩ : ∃ w9, w2.setRow (w.heap.size + 1) #[.string ⟨#[]⟩, .int .i64 0, .int .i64 0, .int .i64 0, .slice none 0 0] = w9 := ⟨_, rfl⟩
            have HE9 := Lib.hid hw9
            have HR9 := Lib.hid (show w9.heap[w.heap.size + 1]? = some (.cells #[.string ⟨#[]⟩, .int .i64 0, .int .i64 0, .int .i64 0, .slice none 0 0] 78 (0, 0)) from by rw [← hw9]; exact setRow_heap _ _ _ _ _ _ H12.out)
            have HB9 := Lib.hid (show Below w.heap.size w w9 from by rw [← hw9]; exact below_setRow HB2.out (Nat.le_succ _) _)
            have k0 : w9.cell? ⟨w.heap.size + 1, 0, none⟩ = some (.string ⟨#[]⟩) := by rw [cell_of_row _ _ _ _ _ _ HR9.out]; rfl
            have k1 : w9.cell? ⟨w.heap.size + 1, 1, none⟩ = some (.int .i64 0) := by rw [cell_of_row _ _ _ _ _ _ HR9.out]; rfl
            have k2 : w9.cell? ⟨w.heap.size + 1, 2, none⟩ = some (.int .i64 0) := by rw [cell_of_row _ _ _ _ _ _ HR9.out]; rfl
            have k3 : w9.cell? ⟨w.heap.size + 1, 3, none⟩ = some (.int .i64 0) := by rw [cell_of_row _ _ _ _ _ _ HR9.out]; rfl
            have k4 : w9.cell? ⟨w.heap.size + 1, 4, none⟩ = some (.slice none 0 0) := by rw [cell_of_row _ _ _ _ _ _ HR9.out]; rfl
            clear hw9
            go_upto_region 8 with (fail)
            go_wp2_with (first | (refine wpList_store_row rfl 78 _ _ rfl (w.heap.size + 1) #[.string ⟨#[]⟩, .int .i64 0, .int .i64 0, .int .i64 0, .slice none 0 0] rfl rfl 78 #[.string ⟨#[]⟩, .int .i64 0, .int .i64 0, .int .i64 0, .slice none 0 0] H12.out imInfo rfl imOne ?_; refine (congrArg _ HE9.out).mpr ?_) | fail)
            refine bodyPost_ret (v := .tuple #[.agg #[.string ⟨#[]⟩, .int .i64 0, .int .i64 0, .int .i64 0, .slice none 0 0], .bool false]) (by simp [results, Tryz.results136, go_sem, k0, k1, k2, k3, k4]) rfl ⟨⟨_, 0, 0, 0, _, _, _, _, rfl, fun _ => rfl, fun v hv => absurd (HR.out.trans hv) (by simp)⟩, HB9.out⟩
          · obtain ⟨A2, c2, rfl, hown⟩ := hq
            have HO := Lib.hid hown
            have HOB := Lib.hid (show ∀ b, A2.map (·.block) = some b → w.heap.size ≤ b from fun b hb => by
              have h1 := (hown.lt b (by cases A2 with
                | none => simp at hb
                | some y => simpa [Value.ownBlock] using hb)).1
              exact Nat.le_trans HB.out.size h1)
            have HR := HRE
            simp only at HR
            clear hown
            have q0 : w2.cell? ⟨w.heap.size, 0, none⟩ = some (.int .i64 xt) := by rw [cell_of_row _ _ _ _ _ _ H02.out]; rfl
            have q1 : w2.cell? ⟨w.heap.size, 1, none⟩ = some (.int .i64 xd) := by rw [cell_of_row _ _ _ _ _ _ H02.out]; rfl
            have q2 : w2.cell? ⟨w.heap.size, 2, none⟩ = some (.int .i64 xi) := by rw [cell_of_row _ _ _ _ _ _ H02.out]; rfl
            have q3 : w2.cell? ⟨w.heap.size, 3, none⟩ = some (.int .i64 xs) := by rw [cell_of_row _ _ _ _ _ _ H02.out]; rfl
            have q4 : w2.cell? ⟨w.heap.size, 4, none⟩ = some (.bool false) := by rw [cell_of_row _ _ _ _ _ _ H02.out]; rfl
            have q5 : w2.cell? ⟨w.heap.size, 5, none⟩ = some (.int .i64 xa) := by rw [cell_of_row _ _ _ _ _ _ H02.out]; rfl
            have q6 : w2.cell? ⟨w.heap.size, 6, none⟩ = some (.int .i64 xh) := by rw [cell_of_row _ _ _ _ _ _ H02.out]; rfl
            obtain ⟨w9, hw9⟩ : ∃ w9, w2.setRow (w.heap.size + 1) #[.string (txt t), .int .i64 xi, .int .i64 xs, .int .i64 xh, .slice A2 l.length c2] = w9 := ⟨_, rfl⟩
            have HE9 := Lib.hid hw9
            have HR9 := Lib.hid (show w9.heap[w.heap.size + 1]? = some (.cells #[.string (txt t), .int .i64 xi, .int .i64 xs, .int .i64 xh, .slice A2 l.length c2] 78 (0, 0)) from by rw [← hw9]; exact setRow_heap _ _ _ _ _ _ H12.out)
            have HB9 := Lib.hid (show Below w.heap.size w w9 from by rw [← hw9]; exact below_setRow HB2.out (Nat.le_succ _) _)
            have k0 : w9.cell? ⟨w.heap.size + 1, 0, none⟩ = some (.string (txt t)) := by rw [cell_of_row _ _ _ _ _ _ HR9.out]; rfl
            have k1 : w9.cell? ⟨w.heap.size + 1, 1, none⟩ = some (.int .i64 xi) := by rw [cell_of_row _ _ _ _ _ _ HR9.out]; rfl
            have k2 : w9.cell? ⟨w.heap.size + 1, 2, none⟩ = some (.int .i64 xs) := by rw [cell_of_row _ _ _ _ _ _ HR9.out]; rfl
            have k3 : w9.cell? ⟨w.heap.size + 1, 3, none⟩ = some (.int .i64 xh) := by rw [cell_of_row _ _ _ _ _ _ HR9.out]; rfl
            have k4 : w9.cell? ⟨w.heap.size + 1, 4, none⟩ = some (.slice A2 l.length c2) := by rw [cell_of_row _ _ _ _ _ _ HR9.out]; rfl
            have HX9 := Lib.hid (show SlT symC 3 w9 A2 l from by rw [← hw9]; exact (ownT_setRowBelow HO.out (lt_of_row' H1.out) _).sl symC_len)
            clear hw9
            go_upto_region 9 with (fail)
            go_wp2_with (first | (refine wpList_store_row rfl 78 _ _ rfl (w.heap.size + 1) #[.string (txt t), .int .i64 xi, .int .i64 xs, .int .i64 xh, .slice A2 l.length c2] rfl rfl 78 #[.string ⟨#[]⟩, .int .i64 0, .int .i64 0, .int .i64 0, .slice none 0 0] H12.out imInfo rfl imOne ?_; refine (congrArg _ HE9.out).mpr ?_) | fail)
            have HO9 := HX9
            refine bodyPost_ret (v := .tuple #[.agg #[.string (txt t), .int .i64 xi, .int .i64 xs, .int .i64 xh, .slice A2 l.length c2], .bool true]) (by simp [results, Tryz.results136, go_sem, k0, k1, k2, k3, k4]) rfl ⟨⟨_, xi, xs, xh, _, _, _, _, rfl, fun h => absurd (HR.out.trans h) (by simp), fun v hv => by have := HR.out.trans hv; injection this with this; subst this; exact ⟨rfl, rfl, rfl, rfl, rfl, rfl, HO9.out, HOB.out⟩⟩, HB9.out⟩
        · have hxa : xa = 1 := by
            rcases Nat.decEq xa 1 with h | h
            · exact absurd ⟨rfl, .inl h⟩ hbad
            · exact h
          have hin : xh + 8 ≤ bs.length := by
            rcases Nat.lt_or_ge bs.length (xh + 8) with h | h
            · exact absurd ⟨rfl, .inr (by omega)⟩ hbad
            · exact h
          rw [decide_eq_true hin] at HIN
          have HXA := Lib.hid hxa
          clear hbad hin hxa
          go_enter Tryz.func136, Tryz.ntmps136
          go_upto_region 1 with (fail)
          refine (congrArg _ HE1.out).mpr ?_
          go_wp2_with fail
          refine HTX.out.mono ?_
          rintro e w' ⟨rfl, rfl⟩
          have da : (xa : Int) = 1 := by have := HXA.out; omega
          go_wp2_with fail
          refine (HNM.out _).mono ?_
          rintro e w' ⟨rfl, rfl⟩
          go_wp2_with fail
          clear da
          refine (HIN.out _).mono ?_
          rintro e w' ⟨rfl, rfl⟩
          go_wp2_with fail
          refine (HY.out w1 HB.out).mono ?_
          rintro e w2 ⟨hq, hw2⟩
          have HB2 := Lib.hid (HB.out.trans (hw2.mono HB.out.size))
          have H02 := Lib.hid ((hw2.block _ (lt_of_row' H0.out)).trans H0.out)
          have H12 := Lib.hid ((hw2.block _ (lt_of_row' H1.out)).trans H1.out)
          clear hw2 q0 q1 q2 q3 q4 q5 q6
          rcases SD with _ | l
          · have hq' : e = .returned (.tuple #[.slice none 0 0, .bool false]) := hq
            subst hq'
            have HR := HRE
            simp only at HR
            clear hq
            obtain ⟨w9, hw9⟩ : ∃ w9, w2.setRow (w.heap.size + 1) #[.string ⟨#[]⟩, .int .i64 0, .int .i64 0, .int .i64 0, .slice none 0 0] = w9 := ⟨_, rfl⟩
            have HE9 := Lib.hid hw9
            have HR9 := Lib.hid (show w9.heap[w.heap.size + 1]? = some (.cells #[.string ⟨#[]⟩, .int .i64 0, .int .i64 0, .int .i64 0, .slice none 0 0] 78 (0, 0)) from by rw [← hw9]; exact setRow_heap _ _ _ _ _ _ H12.out)
            have HB9 := Lib.hid (show Below w.heap.size w w9 from by rw [← hw9]; exact below_setRow HB2.out (Nat.le_succ _) _)
            have k0 : w9.cell? ⟨w.heap.size + 1, 0, none⟩ = some (.string ⟨#[]⟩) := by rw [cell_of_row _ _ _ _ _ _ HR9.out]; rfl
            have k1 : w9.cell? ⟨w.heap.size + 1, 1, none⟩ = some (.int .i64 0) := by rw [cell_of_row _ _ _ _ _ _ HR9.out]; rfl
            have k2 : w9.cell? ⟨w.heap.size + 1, 2, none⟩ = some (.int .i64 0) := by rw [cell_of_row _ _ _ _ _ _ HR9.out]; rfl
            have k3 : w9.cell? ⟨w.heap.size + 1, 3, none⟩ = some (.int .i64 0) := by rw [cell_of_row _ _ _ _ _ _ HR9.out]; rfl
            have k4 : w9.cell? ⟨w.heap.size + 1, 4, none⟩ = some (.slice none 0 0) := by rw [cell_of_row _ _ _ _ _ _ HR9.out]; rfl
            clear hw9
            go_upto_region 8 with (fail)
            go_wp2_with (first | (refine wpList_store_row rfl 78 _ _ rfl (w.heap.size + 1) #[.string ⟨#[]⟩, .int .i64 0, .int .i64 0, .int .i64 0, .slice none 0 0] rfl rfl 78 #[.string ⟨#[]⟩, .int .i64 0, .int .i64 0, .int .i64 0, .slice none 0 0] H12.out imInfo rfl imOne ?_; refine (congrArg _ HE9.out).mpr ?_) | fail)
            refine bodyPost_ret (v := .tuple #[.agg #[.string ⟨#[]⟩, .int .i64 0, .int .i64 0, .int .i64 0, .slice none 0 0], .bool false]) (by simp [results, Tryz.results136, go_sem, k0, k1, k2, k3, k4]) rfl ⟨⟨_, 0, 0, 0, _, _, _, _, rfl, fun _ => rfl, fun v hv => absurd (HR.out.trans hv) (by simp)⟩, HB9.out⟩
          · obtain ⟨A2, c2, rfl, hown⟩ := hq
            have HO := Lib.hid hown
            have HOB := Lib.hid (show ∀ b, A2.map (·.block) = some b → w.heap.size ≤ b from fun b hb => by
              have h1 := (hown.lt b (by cases A2 with
                | none => simp at hb
                | some y => simpa [Value.ownBlock] using hb)).1
              exact Nat.le_trans HB.out.size h1)
            have HR := HRE
            simp only at HR
            clear hown
            have q0 : w2.cell? ⟨w.heap.size, 0, none⟩ = some (.int .i64 xt) := by rw [cell_of_row _ _ _ _ _ _ H02.out]; rfl
            have q1 : w2.cell? ⟨w.heap.size, 1, none⟩ = some (.int .i64 xd) := by rw [cell_of_row _ _ _ _ _ _ H02.out]; rfl
            have q2 : w2.cell? ⟨w.heap.size, 2, none⟩ = some (.int .i64 xi) := by rw [cell_of_row _ _ _ _ _ _ H02.out]; rfl
            have q3 : w2.cell? ⟨w.heap.size, 3, none⟩ = some (.int .i64 xs) := by rw [cell_of_row _ _ _ _ _ _ H02.out]; rfl
            have q4 : w2.cell? ⟨w.heap.size, 4, none⟩ = some (.bool true) := by rw [cell_of_row _ _ _ _ _ _ H02.out]; rfl
            have q5 : w2.cell? ⟨w.heap.size, 5, none⟩ = some (.int .i64 xa) := by rw [cell_of_row _ _ _ _ _ _ H02.out]; rfl
            have q6 : w2.cell? ⟨w.heap.size, 6, none⟩ = some (.int .i64 xh) := by rw [cell_of_row _ _ _ _ _ _ H02.out]; rfl
            obtain ⟨w9, hw9⟩ : ∃ w9, w2.setRow (w.heap.size + 1) #[.string (txt t), .int .i64 xi, .int .i64 xs, .int .i64 xh, .slice A2 l.length c2] = w9 := ⟨_, rfl⟩
            have HE9 := Lib.hid hw9
            have HR9 := Lib.hid (show w9.heap[w.heap.size + 1]? = some (.cells #[.string (txt t), .int .i64 xi, .int .i64 xs, .int .i64 xh, .slice A2 l.length c2] 78 (0, 0)) from by rw [← hw9]; exact setRow_heap _ _ _ _ _ _ H12.out)
            have HB9 := Lib.hid (show Below w.heap.size w w9 from by rw [← hw9]; exact below_setRow HB2.out (Nat.le_succ _) _)
            have k0 : w9.cell? ⟨w.heap.size + 1, 0, none⟩ = some (.string (txt t)) := by rw [cell_of_row _ _ _ _ _ _ HR9.out]; rfl
            have k1 : w9.cell? ⟨w.heap.size + 1, 1, none⟩ = some (.int .i64 xi) := by rw [cell_of_row _ _ _ _ _ _ HR9.out]; rfl
            have k2 : w9.cell? ⟨w.heap.size + 1, 2, none⟩ = some (.int .i64 xs) := by rw [cell_of_row _ _ _ _ _ _ HR9.out]; rfl
            have k3 : w9.cell? ⟨w.heap.size + 1, 3, none⟩ = some (.int .i64 xh) := by rw [cell_of_row _ _ _ _ _ _ HR9.out]; rfl
            have k4 : w9.cell? ⟨w.heap.size + 1, 4, none⟩ = some (.slice A2 l.length c2) := by rw [cell_of_row _ _ _ _ _ _ HR9.out]; rfl
            have HX9 := Lib.hid (show SlT symC 3 w9 A2 l from by rw [← hw9]; exact (ownT_setRowBelow HO.out (lt_of_row' H1.out) _).sl symC_len)
            clear hw9
            go_upto_region 9 with (fail)
            go_wp2_with (first | (refine wpList_store_row rfl 78 _ _ rfl (w.heap.size + 1) #[.string (txt t), .int .i64 xi, .int .i64 xs, .int .i64 xh, .slice A2 l.length c2] rfl rfl 78 #[.string ⟨#[]⟩, .int .i64 0, .int .i64 0, .int .i64 0, .slice none 0 0] H12.out imInfo rfl imOne ?_; refine (congrArg _ HE9.out).mpr ?_) | fail)
            have HO9 := HX9
            refine bodyPost_ret (v := .tuple #[.agg #[.string (txt t), .int .i64 xi, .int .i64 xs, .int .i64 xh, .slice A2 l.length c2], .bool true]) (by simp [results, Tryz.results136, go_sem, k0, k1, k2, k3, k4]) rfl ⟨⟨_, xi, xs, xh, _, _, _, _, rfl, fun h => absurd (HR.out.trans h) (by simp), fun v hv => by have := HR.out.trans hv; injection this with this; subst this; exact ⟨rfl, rfl, rfl, rfl, rfl, rfl, HO9.out, HOB.out⟩⟩, HB9.out⟩
    · rw [if_neg hok] at hR
      rw [show okNm t = false by simpa using hok] at HNM
      have HR := Lib.hid hR
      clear hR hok
      go_enter Tryz.func136, Tryz.ntmps136
      go_upto_region 1 with (fail)
      refine (congrArg _ HE1.out).mpr ?_
      go_wp2_with fail
      refine HTX.out.mono ?_
      rintro e w' ⟨rfl, rfl⟩
      go_wp2_with fail
      refine (HNM.out _).mono ?_
      rintro e w' ⟨rfl, rfl⟩
      obtain ⟨w9, hw9⟩ : ∃ w9, w1.setRow (w.heap.size + 1) #[.string ⟨#[]⟩, .int .i64 0, .int .i64 0, .int .i64 0, .slice none 0 0] = w9 := ⟨_, rfl⟩
      have HE9 := Lib.hid hw9
      have HR9 := Lib.hid (show w9.heap[w.heap.size + 1]? = some (.cells #[.string ⟨#[]⟩, .int .i64 0, .int .i64 0, .int .i64 0, .slice none 0 0] 78 (0, 0)) from by rw [← hw9]; exact setRow_heap _ _ _ _ _ _ H1.out)
      have HB9 := Lib.hid (show Below w.heap.size w w9 from by rw [← hw9]; exact below_setRow HB.out (Nat.le_succ _) _)
      have k0 : w9.cell? ⟨w.heap.size + 1, 0, none⟩ = some (.string ⟨#[]⟩) := by rw [cell_of_row _ _ _ _ _ _ HR9.out]; rfl
      have k1 : w9.cell? ⟨w.heap.size + 1, 1, none⟩ = some (.int .i64 0) := by rw [cell_of_row _ _ _ _ _ _ HR9.out]; rfl
      have k2 : w9.cell? ⟨w.heap.size + 1, 2, none⟩ = some (.int .i64 0) := by rw [cell_of_row _ _ _ _ _ _ HR9.out]; rfl
      have k3 : w9.cell? ⟨w.heap.size + 1, 3, none⟩ = some (.int .i64 0) := by rw [cell_of_row _ _ _ _ _ _ HR9.out]; rfl
      have k4 : w9.cell? ⟨w.heap.size + 1, 4, none⟩ = some (.slice none 0 0) := by rw [cell_of_row _ _ _ _ _ _ HR9.out]; rfl
      clear hw9
      go_upto_region 3 with (fail)
      go_wp2_with (first | (refine wpList_store_row rfl 78 _ _ rfl (w.heap.size + 1) #[.string ⟨#[]⟩, .int .i64 0, .int .i64 0, .int .i64 0, .slice none 0 0] rfl rfl 78 #[.string ⟨#[]⟩, .int .i64 0, .int .i64 0, .int .i64 0, .slice none 0 0] H1.out imInfo rfl imOne ?_; refine (congrArg _ HE9.out).mpr ?_) | fail)
      refine bodyPost_ret (v := .tuple #[.agg #[.string ⟨#[]⟩, .int .i64 0, .int .i64 0, .int .i64 0, .slice none 0 0], .bool false]) (by simp [results, Tryz.results136, go_sem, k0, k1, k2, k3, k4]) rfl ⟨⟨_, 0, 0, 0, _, _, _, _, rfl, fun _ => rfl, fun v hv => absurd (HR.out.trans hv) (by simp)⟩, HB9.out⟩
structure ImpA where
  v : ImpV
  A : Option Addr
  c : Nat
def impC (y : ImpA) : List Value := [.string (txt y.v.dll), .int .i64 y.v.iat, .int .i64 y.v.stamp, .int .i64 y.v.handle, .slice y.A y.v.syms.length y.c]
theorem impC_len (y : ImpA) : (impC y).length = 5 := rfl
theorem impC_one (y : ImpA) : ∀ u ∈ impC y, u.oneCell' = true := by
  intro u hu
  simp [impC] at hu
  rcases hu with rfl | rfl | rfl | rfl | rfl <;> rfl
theorem infoImp : (Tryz.prog.info? 78).map (fun i => (i.zero, i.size, i.bytes)) = some (some (.agg #[.string ByteArray.empty, .int .i64 0, .int .i64 0, .int .i64 0, .slice none 0 0]), 5, 64) := by kernel_rfl
theorem impCells (y : ImpA) (w : World) : ∀ j u, (impC y)[j]? = some u → (w.alloc (.cells #[.string (txt y.v.dll), .int .i64 y.v.iat, .int .i64 y.v.stamp, .int .i64 y.v.handle, .slice y.A y.v.syms.length y.c] 78)).cell? ⟨w.heap.size, j, none⟩ = some u := by
  intro j u hu
  rcases j with _ | _ | _ | _ | _ | j
  · simp [impC] at hu; subst hu; simp [go_sem]
  · simp [impC] at hu; subst hu; simp [go_sem]
  · simp [impC] at hu; subst hu; simp [go_sem]
  · simp [impC] at hu; subst hu; simp [go_sem]
  · simp [impC] at hu; subst hu; simp [go_sem]
  · simp [impC] at hu
def impsL (b : List Nat) (n : Nat) (rd : List Nat → Nat → Ds) : Nat → Nat → List ImpV → Option (List ImpV)
  | 0, _, _ => none
  | k + 1, o, acc =>
    if noughtsL b o n = true then some acc
    else if o + n ≤ b.length ∧ acc.length ≠ 16 then
      match oneL b (rd b o) with
      | none => none
      | some v => impsL b n rd k (o + n) (acc ++ [v])
    else none
def parseI (b : List Nat) (rva n : Nat) (rd : List Nat → Nat → Ds) : Option (List ImpV) := if rva = 0 then some [] else impsL b n rd 18 rva []
def ImpRows (w : World) (base : Nat) (A : Option Addr) (c : Nat) (l : List ImpA) : Prop :=
  OwnT impC 5 w base 78 (.slice A l.length c) l ∧ ∀ y ∈ l, SlT symC 3 w y.A y.v.syms ∧ ∀ b, y.A.map (·.block) = some b → base ≤ b
def ImpQ (w w' : World) (r : Option (List ImpV)) (e : Ending) : Prop := match r with
  | none => e = .returned (.tuple #[.slice none 0 0, .int .i64 10])
  | some vs => ∃ A c l, e = .returned (.tuple #[.slice A l.length c, .int .i64 0]) ∧ ImpRows w' w.heap.size A c l ∧ l.map (·.v) = vs
set_option maxRecDepth 100000 in
set_option maxHeartbeats 4000000 in
theorem parseIm_any (A : Option Addr) (cap : Nat) (bs : List Nat) (rva : Nat) (sz : Int) (w : World) (hl : bs.length ≤ cap) (hc : cap ≤ 9223372036854775807) (hlen : bs.length ≤ 1000000) (hb : Lb bs) (hs : SlB w A bs.length (lF bs)) (hrva : rva ≤ 1000000) :
    Calls Tryz.prog 111 #[.slice A bs.length cap, .agg #[.int .i64 rva, .int .i64 sz], .int .i64 20, .func (.func 112) #[] #[]] w fun e w' => ImpQ w w' (parseI bs rva 20 importD) e ∧ Below w.heap.size w w' := by
  obtain ⟨R, hR⟩ : ∃ R, parseI bs rva 20 importD = R := ⟨_, rfl⟩
  rw [hR]
  unfold parseI at hR
  have hrd : ∀ o W, Below w.heap.size w W → o + 20 ≤ bs.length → Calls Tryz.prog 112 #[.slice A bs.length cap, .int .i64 o] W fun e w' => e = .returned (.agg (importD bs o).cells) ∧ Below W.heap.size W w' := fun o W hW h => importAt_any A cap bs o W hlen hb h (SlB.below hs hW)
  have hrb : ∀ o, (importD bs o).thunks < 4294967296 ∧ (importD bs o).iat < 4294967296 ∧ (importD bs o).dll < 4294967296 ∧ (importD bs o).handle < 4294967296 := fun o => by
    have e4 : (256 : Nat) ^ 4 = 4294967296 := rfl
    have h := fun k => numL_lt (hb.drop k) 4
    rw [e4] at h
    exact ⟨by first | exact h _ | (simp [importD]; done), by first | exact h _ | (simp [importD]; done), by first | exact h _ | (simp [importD]; done), by first | exact h _ | (simp [importD]; done)⟩
  have eg : ∀ args w, (callFunc 112 args).run Tryz.prog w = .ok (.enter 112 args) w := enters_of Tryz.func112 (by kernel_rfl) rfl
  obtain ⟨w1, hw1⟩ : ∃ w1, w.alloc (.cells #[.int .i64 rva, .int .i64 sz] 37) = w1 := ⟨_, rfl⟩
  have HE1 := Lib.hid hw1
  have HB1 := Lib.hid (show Below w.heap.size w w1 from by rw [← hw1]; exact (Below.refl _ _).alloc (Nat.le_refl _) _)
  have HX1 := Lib.hid (show w1.heap[w.heap.size]? = some (.cells #[.int .i64 rva, .int .i64 sz] 37 (0, 0)) from by rw [← hw1]; exact heap_alloc_new w _)
  have HS1 := Lib.hid (show w1.heap.size = w.heap.size + 1 from by rw [← hw1]; simp)
  clear hw1
  have q0 : w1.cell? ⟨w.heap.size, 0, none⟩ = some (.int .i64 rva) := by rw [cell_of_row _ _ _ _ _ _ HX1.out]; rfl
  by_cases c0 : rva = 0
  · rw [if_pos c0] at hR
    subst hR
    have d0 : ((rva : Int) == 0) = true := by rw [beq_iff_eq]; omega
    have HC0 := Lib.hid c0
    clear c0 hs hrd hrb
    go_enter Tryz.func111, Tryz.ntmps111
    go_upto_region 1 with (fail)
    refine (congrArg _ HE1.out).mpr ?_
    go_wp2_with fail
    go_ret2
    exact ⟨⟨none, 0, [], rfl, ⟨OwnT.nil _ _ _, fun y hy => by simp at hy⟩, rfl⟩, HB1.out⟩
  rw [if_neg c0] at hR
  have d0 : ((rva : Int) == 0) = false := beq_eq_false_iff_ne.mpr (by omega)
  have HR := Lib.hid hR
  have HLB := Lib.hid hb
  have HS := Lib.hid (fun W (hW : Below w.heap.size w W) => SlB.below hs hW)
  have HCC := Lib.hid (And.intro hl hc)
  have HRD := Lib.hid hrd
  have HRB := Lib.hid hrb
  clear hR hs hl hc hb hrd hrb c0
  go_enter Tryz.func111, Tryz.ntmps111
  go_upto_region 1 with (fail)
  refine (congrArg _ HE1.out).mpr ?_
  have hw1s : w.heap.size < w1.heap.size := by rw [HS1.out]; omega
  go_wp2_with fail
  have HOM := Lib.hid (OwnT.made (C := impC) (sz := 5) w1 (w.heap.size + 1) (by rw [HS1.out]; omega) 78)
  have HBM := Lib.hid (HB1.out.alloc HB1.out.size (.cells #[] 78))
  go_loopw [10, 11] (fun v10 v11 wr => ∃ (k o : Nat) (l : List ImpA) (A' : Option Addr) (c' : Nat), l.length + k = 18 ∧ l.length ≤ 16 ∧ o = rva + 20 * l.length ∧ v10 = .slice A' l.length c' ∧ v11 = .int .i64 o ∧ OwnT impC 5 wr (w.heap.size + 1) 78 (.slice A' l.length c') l ∧ (∀ y ∈ l, SlT symC 3 wr y.A y.v.syms) ∧ (∀ y ∈ l, y.v.syms.length ≠ 0 → ∀ b, y.A.map (·.block) = some b → (Value.slice A' l.length c').ownBlock ≠ some b) ∧ (∀ y ∈ l, ∀ b, y.A.map (·.block) = some b → w.heap.size ≤ b) ∧ w.heap.size + 1 ≤ wr.heap.size ∧ Below w.heap.size w wr ∧ impsL bs 20 importD k o (l.map (·.v)) = R) (fun v10 _ _ => 18 - lenV v10)
  case atStart => exact ⟨18, rva, [], _, _, rfl, by simp, by simp, rfl, rfl, HOM.out, fun y hy => by simp at hy, fun y hy => by simp at hy, fun y hy => by simp at hy, by have h1 := HS1.out; simp; omega, HBM.out, HR.out⟩
  case round =>
    obtain ⟨k, o, l, A', c', hk, hl16, hoo, rfl, rfl, hown, hsl, hnb, hlo, hsz1, hbel, hre0⟩ := hrel
    have HLO := Lib.hid hlo
    clear hlo
    have HBX := Lib.hid hsz1
    clear hsz1
    have HO := Lib.hid hown
    have HSL := Lib.hid hsl
    have HNB := Lib.hid hnb
    have HB := Lib.hid hbel
    clear hown hsl hnb hbel HOM HBM
    obtain ⟨k, rfl⟩ : ∃ q, k = q + 1 := ⟨k - 1, by omega⟩
    have hre := hre0
    simp only [impsL] at hre
    rw [List.length_map] at hre
    have hob : o ≤ 1002000 := by
      omega
    have HNX := Lib.hid (show o + 20 = rva + 20 * (l.length + 1) from by omega)
    have HK := Lib.hid hk
    clear hre0 hoo hk
    obtain ⟨L, hL⟩ : ∃ L, l.length = L := ⟨_, rfl⟩
    have HNO := Lib.hid (noughts_any A cap bs o 20 wr HCC.out.1 HCC.out.2 (HS.out wr HB.out) (by omega) (by omega) (by omega))
    have HIN := Lib.hid (rowIn_any A bs.length cap o 20 (decide (o + 20 ≤ bs.length)) wr (by omega) (by omega) (by omega) (by rw [decide_eq_true_iff]; omega))
    obtain ⟨NO, hNO⟩ : ∃ q, noughtsL bs o 20 = q := ⟨_, rfl⟩
    rw [hNO] at HNO hre
    rw [hL] at hre hl16 HO HNB ⊢
    have HL := Lib.hid hL
    clear hNO hL
    rcases NO with _ | _
    · rw [if_neg (by simp)] at hre
      by_cases c1 : o + 20 ≤ bs.length
      · rw [decide_eq_true c1] at HIN
        by_cases c2 : L = 16
        · rw [if_neg (by omega)] at hre
          subst hre
          have d2 : ((L : Int) == 16) = true := by rw [beq_iff_eq]; omega
          have HC2 := Lib.hid c2
          clear c1 c2
          go_wp2_with fail
          refine HNO.out.mono ?_
          rintro e w' ⟨rfl, rfl⟩
          go_wp2_with fail
          refine HIN.out.mono ?_
          rintro e w' ⟨rfl, rfl⟩
          go_wp2_with fail
          go_ret2
          exact ⟨rfl, HB.out⟩
        · rw [if_pos ⟨c1, c2⟩] at hre
          have d2 : ((L : Int) == 16) = false := beq_eq_false_iff_ne.mpr (by omega)
          have hL16 : L < 16 := by omega
          have HRE := Lib.hid hre
          have HC1 := Lib.hid c1
          clear c1 c2 hre
          go_wp2_with fail
          refine HNO.out.mono ?_
          rintro e w' ⟨rfl, rfl⟩
          go_wp2_with fail
          refine HIN.out.mono ?_
          rintro e w' ⟨rfl, rfl⟩
          have HRD1 := Lib.hid (HRD.out o wr HB.out HC1.out)
          obtain ⟨X, hX⟩ : ∃ X, importD bs o = X := ⟨_, rfl⟩
          have hx := HRB.out o
          have hre := HRE.out
          rw [hX] at HRD1 hre hx
          obtain ⟨ON, hON⟩ : ∃ q, oneL bs X = q := ⟨_, rfl⟩
          have HONX := Lib.hid (fun W (hW : Below w.heap.size w W) => one_any A cap bs X W HCC.out.1 HCC.out.2 hlen HLB.out (HS.out W hW) hx.1 hx.2.1 hx.2.2.1 hx.2.2.2)
          rw [hON] at HONX hre
          have HRE2 := Lib.hid hre
          obtain ⟨XC, hXC⟩ : ∃ q, X.cells = q := ⟨_, rfl⟩
          rw [hXC] at HRD1 HONX
          obtain ⟨o', ho'⟩ : ∃ q, o + 20 = q := ⟨_, rfl⟩
          have eo' : (o : Int) + 20 = (o' : Int) := by omega
          have wo' : IntKind.i64.wrap (o' : Int) = (o' : Int) := by rw [IntKind.wrap_i64]; omega
          have HO' := Lib.hid ho'
          clear hX hON hx hre HRE hXC ho'
          go_wp2_with (go_at_fn 112; refine HRD1.out.mono ?_; rintro e w2 ⟨rfl, hw2⟩)
          have HB2 := Lib.hid (HB.out.trans (hw2.mono HB.out.size))
          have HB2 := Lib.hid (HB.out.trans (hw2.mono HB.out.size))
          refine (HONX.out w2 HB2.out).mono ?_
          rintro e w3 ⟨⟨T, i1, i2, i3, A3, n3, c3, ok, rfl, hq1, hq2⟩, hw3⟩
          obtain ⟨w4, hw4⟩ : ∃ w4, w3.alloc (.cells #[.string T, .int .i64 i1, .int .i64 i2, .int .i64 i3, .slice A3 n3 c3] 78) = w4 := ⟨_, rfl⟩
          have HE4 := Lib.hid hw4
          have h34 : Below w3.heap.size w3 w4 := by rw [← hw4]; exact (Below.refl _ _).alloc (Nat.le_refl _) _
          have h14 : Below wr.heap.size wr w4 := hw2.trans ((hw3.trans (h34.mono hw3.size)).mono hw2.size)
          have HB4 := Lib.hid (HB.out.trans (h14.mono HB.out.size))
          have HO4 := Lib.hid (HO.out.below h14)
          have HSL4 := Lib.hid (show ∀ y ∈ l, SlT symC 3 w4 y.A y.v.syms from fun y hy => (HSL.out y hy).below h14)
          have HT4 := Lib.hid (show w4.heap[w3.heap.size]? = some (.cells #[.string T, .int .i64 i1, .int .i64 i2, .int .i64 i3, .slice A3 n3 c3] 78 (0, 0)) from by rw [← hw4]; exact heap_alloc_new w3 _)
          have H34 := Lib.hid h34
          have H14S := Lib.hid h14.size
          have HLT := Lib.hid (show ∀ k, (Value.slice A' L c').ownBlock = some k → k < w2.heap.size from fun k hk => Nat.lt_of_lt_of_le (HO.out.lt k hk).2 hw2.size)
          clear hw2 hw3 hw4 h34 h14
          go_upto_region 10 with (fail)
          refine (congrArg _ HE4.out).mpr ?_
          rcases ON with _ | v
          · obtain rfl := hq1 rfl
            have hre := HRE2.out
            simp only at hre
            subst hre
            clear hq1 hq2
            go_wp2_with fail
            go_ret2
            exact ⟨rfl, HB4.out⟩
          · obtain ⟨rfl, rfl, rfl, rfl, rfl, rfl, hs3, hb3⟩ := hq2 v rfl
            have hre := HRE2.out
            simp only at hre
            have HRE3 := Lib.hid hre
            have HS3 := Lib.hid (hs3.below H34.out)
            have HB3 := Lib.hid hb3
            have HLO9 := Lib.hid (show ∀ y ∈ l ++ [(⟨v, A3, c3⟩ : ImpA)], ∀ b, y.A.map (·.block) = some b → w.heap.size ≤ b from fun y hy b hb => by
              rcases List.mem_append.mp hy with h | h
              · exact HLO.out y h b hb
              · simp at h
                subst h
                exact Nat.le_trans HB2.out.size (hb3 b hb))
            clear hq1 hq2 hre hs3 hb3
            have t0 : w4.cell? ⟨w3.heap.size, 0, none⟩ = some (.string (txt v.dll)) := by rw [cell_of_row _ _ _ _ _ _ HT4.out]; rfl
            have t1 : w4.cell? ⟨w3.heap.size, 1, none⟩ = some (.int .i64 v.iat) := by rw [cell_of_row _ _ _ _ _ _ HT4.out]; rfl
            have t2 : w4.cell? ⟨w3.heap.size, 2, none⟩ = some (.int .i64 v.stamp) := by rw [cell_of_row _ _ _ _ _ _ HT4.out]; rfl
            have t3 : w4.cell? ⟨w3.heap.size, 3, none⟩ = some (.int .i64 v.handle) := by rw [cell_of_row _ _ _ _ _ _ HT4.out]; rfl
            have t4 : w4.cell? ⟨w3.heap.size, 4, none⟩ = some (.slice A3 v.syms.length c3) := by rw [cell_of_row _ _ _ _ _ _ HT4.out]; rfl
            have HA1 := Lib.hid (HO4.out.alloc (.cells #[.string (txt v.dll), .int .i64 v.iat, .int .i64 v.stamp, .int .i64 v.handle, .slice A3 v.syms.length c3] 78))
            have HY1 := Lib.hid (impCells ⟨v, A3, c3⟩ w4)
            have HB8 := Lib.hid (HB4.out.alloc HB4.out.size (.cells #[.string (txt v.dll), .int .i64 v.iat, .int .i64 v.stamp, .int .i64 v.handle, .slice A3 v.syms.length c3] 78))
            have HSZ8 := Lib.hid (show w4.heap.size ≤ (w4.alloc (.cells #[.string (txt v.dll), .int .i64 v.iat, .int .i64 v.stamp, .int .i64 v.handle, .slice A3 v.syms.length c3] 78)).heap.size from by simp)
            have HSL8 := Lib.hid (show ∀ y ∈ l ++ [(⟨v, A3, c3⟩ : ImpA)], SlT symC 3 (w4.alloc (.cells #[.string (txt v.dll), .int .i64 v.iat, .int .i64 v.stamp, .int .i64 v.handle, .slice A3 v.syms.length c3] 78)) y.A y.v.syms from fun y hy => by
              have hal : Below w4.heap.size w4 (w4.alloc (.cells #[.string (txt v.dll), .int .i64 v.iat, .int .i64 v.stamp, .int .i64 v.handle, .slice A3 v.syms.length c3] 78)) := (Below.refl _ _).alloc (Nat.le_refl _) _
              rcases List.mem_append.mp hy with h | h
              · exact (HSL4.out y h).below hal
              · simp at h; subst h; exact HS3.out.below hal)
            have HNB8 := Lib.hid (show ∀ y ∈ l ++ [(⟨v, A3, c3⟩ : ImpA)], y.v.syms.length ≠ 0 → ∀ b, y.A.map (·.block) = some b → (Value.slice A' L c').ownBlock ≠ some b from fun y hy hne b hb => by
              rcases List.mem_append.mp hy with h | h
              · exact HNB.out y h hne b hb
              · simp at h
                subst h
                intro hk
                have h1 := HB3.out b hb
                have h2 := HLT.out b hk
                omega)
            rw [← HL.out] at HA1 hL16 ⊢
            have HG3 := Lib.hid (show w.heap.size + 1 ≤ (w4.alloc (.cells #[.string (txt v.dll), .int .i64 v.iat, .int .i64 v.stamp, .int .i64 v.handle, .slice A3 v.syms.length c3] 78)).heap.size from Nat.le_trans (Nat.le_trans HBX.out H14S.out) HSZ8.out)
            have HG4 := Lib.hid (show l.length + 1 ≤ maxLen from by unfold maxLen; omega)
            have HG5 := Lib.hid (show (l.length + 1) * 64 ≤ 140737488355328 from by omega)
            go_wp2_with (first
              | (at_builtin; refine wpList_appT rfl (.tmp 49) (.tmp 51) 46 rfl (w.heap.size + 1) 78 _ 64 rfl infoImp rfl (by omega) impC_len impC_one _ l rfl HA1.out w4.heap.size 1 rfl ⟨v, A3, c3⟩ HY1.out HG4.out HG5.out HG3.out ?_; intro g5 cap5 w8 hown5 hg5 hat5
                 have HAT5 := Lib.hid (show (Value.slice A' l.length c').ownBlock = some g5 ∨ g5 = (w4.alloc (.cells #[.string (txt v.dll), .int .i64 v.iat, .int .i64 v.stamp, .int .i64 v.handle, .slice A3 v.syms.length c3] 78)).heap.size from hat5)
                 have HG6 := Lib.hid (show (w4.alloc (.cells #[.string (txt v.dll), .int .i64 v.iat, .int .i64 v.stamp, .int .i64 v.handle, .slice A3 v.syms.length c3] 78)).grownBy w8 (Value.slice A' l.length c').ownBlock from hg5)
                 have HN8 := Lib.hid hown5
                 clear hat5 hg5 hown5)
              | fail)
            have HB9 := Lib.hid (HA1.out.grew HB8.out (by omega) HB8.out.size HG6.out)
            rw [← HL.out] at HNB8
            have HSL9 := Lib.hid (show ∀ y ∈ l ++ [(⟨v, A3, c3⟩ : ImpA)], SlT symC 3 w8 y.A y.v.syms from fun y hy => by
              rcases HSL8.out y hy with h0 | ⟨b, off, hA, hlt, hc⟩
              · exact .inl h0
              · by_cases h0 : y.v.syms = []
                · exact .inl h0
                · refine SlT.keep (.inr ⟨b, off, hA, hlt, hc⟩) HG6.out.size fun b' hb' => ?_
                  have hbb : b = b' := by rw [hA] at hb'; simpa using hb'
                  exact HG6.out.block b' (by omega) (fun e => HNB8.out y hy (fun q => h0 (List.eq_nil_of_length_eq_zero q)) b' hb' e.symm))
            have HNB9 := Lib.hid (show ∀ y ∈ l ++ [(⟨v, A3, c3⟩ : ImpA)], y.v.syms.length ≠ 0 → ∀ b, y.A.map (·.block) = some b → (Value.slice (some ⟨g5, 0, none⟩) (l.length + 1) cap5).ownBlock ≠ some b from fun y hy hne b hb hk => by
              have hgb : g5 = b := by simpa [Value.ownBlock] using hk
              rcases HAT5.out with h | h
              · exact HNB8.out y hy hne b hb (by rw [h, hgb])
              · rcases HSL8.out y hy with h0 | ⟨b', off, hA, hlt, hc⟩
                · exact hne (by rw [h0]; rfl)
                · have hbb : b' = b := by rw [hA] at hb; simpa using hb
                  omega)
            go_roundw
            case rel => exact ⟨k, o', l ++ [⟨v, A3, c3⟩], some ⟨g5, 0, none⟩, cap5, by have := HK.out; simp; omega, by simp; omega, by rw [← HO'.out]; have := HNX.out; simp; omega, by simp, rfl, by simpa using HN8.out, HSL9.out, by simpa using HNB9.out, HLO9.out, Nat.le_trans HG3.out HG6.out.size, HB9.out, by rw [List.map_append, ← HO'.out]; exact HRE3.out⟩
            case measure =>
              show 18 - (l.length + 1) < 18 - L
              have := HL.out
              omega
      · rw [decide_eq_false c1] at HIN
        rw [if_neg (fun h => c1 h.1)] at hre
        subst hre
        clear c1
        go_wp2_with fail
        refine HNO.out.mono ?_
        rintro e w' ⟨rfl, rfl⟩
        go_wp2_with fail
        refine HIN.out.mono ?_
        rintro e w' ⟨rfl, rfl⟩
        go_wp2_with fail
        go_ret2
        exact ⟨rfl, HB.out⟩
    · rw [if_pos rfl] at hre
      subst hre
      go_wp2_with fail
      refine HNO.out.mono ?_
      rintro e w' ⟨rfl, rfl⟩
      go_wp2_with fail
      go_ret2
      exact ⟨⟨A', c', l, by rw [HL.out]; rfl, ⟨by rw [HL.out]; exact Joins.ownsRow_le HO.out (by omega), fun y hy => ⟨HSL.out y hy, HLO.out y hy⟩⟩, rfl⟩, HB.out⟩
set_option maxRecDepth 100000 in
set_option maxHeartbeats 4000000 in
theorem parseDe_any (A : Option Addr) (cap : Nat) (bs : List Nat) (rva : Nat) (sz : Int) (w : World) (hl : bs.length ≤ cap) (hc : cap ≤ 9223372036854775807) (hlen : bs.length ≤ 1000000) (hb : Lb bs) (hs : SlB w A bs.length (lF bs)) (hrva : rva ≤ 1000000) :
    Calls Tryz.prog 111 #[.slice A bs.length cap, .agg #[.int .i64 rva, .int .i64 sz], .int .i64 32, .func (.func 120) #[] #[]] w fun e w' => ImpQ w w' (parseI bs rva 32 delayD) e ∧ Below w.heap.size w w' := by
  obtain ⟨R, hR⟩ : ∃ R, parseI bs rva 32 delayD = R := ⟨_, rfl⟩
  rw [hR]
  unfold parseI at hR
  have hrd : ∀ o W, Below w.heap.size w W → o + 32 ≤ bs.length → Calls Tryz.prog 120 #[.slice A bs.length cap, .int .i64 o] W fun e w' => e = .returned (.agg (delayD bs o).cells) ∧ Below W.heap.size W w' := fun o W hW h => delayAt_any A cap bs o W hlen hb h (SlB.below hs hW)
  have hrb : ∀ o, (delayD bs o).thunks < 4294967296 ∧ (delayD bs o).iat < 4294967296 ∧ (delayD bs o).dll < 4294967296 ∧ (delayD bs o).handle < 4294967296 := fun o => by
    have e4 : (256 : Nat) ^ 4 = 4294967296 := rfl
    have h := fun k => numL_lt (hb.drop k) 4
    rw [e4] at h
    exact ⟨by first | exact h _ | (simp [delayD]; done), by first | exact h _ | (simp [delayD]; done), by first | exact h _ | (simp [delayD]; done), by first | exact h _ | (simp [delayD]; done)⟩
  have eg : ∀ args w, (callFunc 120 args).run Tryz.prog w = .ok (.enter 120 args) w := enters_of Tryz.func120 (by kernel_rfl) rfl
  obtain ⟨w1, hw1⟩ : ∃ w1, w.alloc (.cells #[.int .i64 rva, .int .i64 sz] 37) = w1 := ⟨_, rfl⟩
  have HE1 := Lib.hid hw1
  have HB1 := Lib.hid (show Below w.heap.size w w1 from by rw [← hw1]; exact (Below.refl _ _).alloc (Nat.le_refl _) _)
  have HX1 := Lib.hid (show w1.heap[w.heap.size]? = some (.cells #[.int .i64 rva, .int .i64 sz] 37 (0, 0)) from by rw [← hw1]; exact heap_alloc_new w _)
  have HS1 := Lib.hid (show w1.heap.size = w.heap.size + 1 from by rw [← hw1]; simp)
  clear hw1
  have q0 : w1.cell? ⟨w.heap.size, 0, none⟩ = some (.int .i64 rva) := by rw [cell_of_row _ _ _ _ _ _ HX1.out]; rfl
  by_cases c0 : rva = 0
  · rw [if_pos c0] at hR
    subst hR
    have d0 : ((rva : Int) == 0) = true := by rw [beq_iff_eq]; omega
    have HC0 := Lib.hid c0
    clear c0 hs hrd hrb
    go_enter Tryz.func111, Tryz.ntmps111
    go_upto_region 1 with (fail)
    refine (congrArg _ HE1.out).mpr ?_
    go_wp2_with fail
    go_ret2
    exact ⟨⟨none, 0, [], rfl, ⟨OwnT.nil _ _ _, fun y hy => by simp at hy⟩, rfl⟩, HB1.out⟩
  rw [if_neg c0] at hR
  have d0 : ((rva : Int) == 0) = false := beq_eq_false_iff_ne.mpr (by omega)
  have HR := Lib.hid hR
  have HLB := Lib.hid hb
  have HS := Lib.hid (fun W (hW : Below w.heap.size w W) => SlB.below hs hW)
  have HCC := Lib.hid (And.intro hl hc)
  have HRD := Lib.hid hrd
  have HRB := Lib.hid hrb
  clear hR hs hl hc hb hrd hrb c0
  go_enter Tryz.func111, Tryz.ntmps111
  go_upto_region 1 with (fail)
  refine (congrArg _ HE1.out).mpr ?_
  have hw1s : w.heap.size < w1.heap.size := by rw [HS1.out]; omega
  go_wp2_with fail
  have HOM := Lib.hid (OwnT.made (C := impC) (sz := 5) w1 (w.heap.size + 1) (by rw [HS1.out]; omega) 78)
  have HBM := Lib.hid (HB1.out.alloc HB1.out.size (.cells #[] 78))
  go_loopw [10, 11] (fun v10 v11 wr => ∃ (k o : Nat) (l : List ImpA) (A' : Option Addr) (c' : Nat), l.length + k = 18 ∧ l.length ≤ 16 ∧ o = rva + 32 * l.length ∧ v10 = .slice A' l.length c' ∧ v11 = .int .i64 o ∧ OwnT impC 5 wr (w.heap.size + 1) 78 (.slice A' l.length c') l ∧ (∀ y ∈ l, SlT symC 3 wr y.A y.v.syms) ∧ (∀ y ∈ l, y.v.syms.length ≠ 0 → ∀ b, y.A.map (·.block) = some b → (Value.slice A' l.length c').ownBlock ≠ some b) ∧ (∀ y ∈ l, ∀ b, y.A.map (·.block) = some b → w.heap.size ≤ b) ∧ w.heap.size + 1 ≤ wr.heap.size ∧ Below w.heap.size w wr ∧ impsL bs 32 delayD k o (l.map (·.v)) = R) (fun v10 _ _ => 18 - lenV v10)
  case atStart => exact ⟨18, rva, [], _, _, rfl, by simp, by simp, rfl, rfl, HOM.out, fun y hy => by simp at hy, fun y hy => by simp at hy, fun y hy => by simp at hy, by have h1 := HS1.out; simp; omega, HBM.out, HR.out⟩
  case round =>
    obtain ⟨k, o, l, A', c', hk, hl16, hoo, rfl, rfl, hown, hsl, hnb, hlo, hsz1, hbel, hre0⟩ := hrel
    have HLO := Lib.hid hlo
    clear hlo
    have HBX := Lib.hid hsz1
    clear hsz1
    have HO := Lib.hid hown
    have HSL := Lib.hid hsl
    have HNB := Lib.hid hnb
    have HB := Lib.hid hbel
    clear hown hsl hnb hbel HOM HBM
    obtain ⟨k, rfl⟩ : ∃ q, k = q + 1 := ⟨k - 1, by omega⟩
    have hre := hre0
    simp only [impsL] at hre
    rw [List.length_map] at hre
    have hob : o ≤ 1002000 := by
      omega
    have HNX := Lib.hid (show o + 32 = rva + 32 * (l.length + 1) from by omega)
    have HK := Lib.hid hk
    clear hre0 hoo hk
    obtain ⟨L, hL⟩ : ∃ L, l.length = L := ⟨_, rfl⟩
    have HNO := Lib.hid (noughts_any A cap bs o 32 wr HCC.out.1 HCC.out.2 (HS.out wr HB.out) (by omega) (by omega) (by omega))
    have HIN := Lib.hid (rowIn_any A bs.length cap o 32 (decide (o + 32 ≤ bs.length)) wr (by omega) (by omega) (by omega) (by rw [decide_eq_true_iff]; omega))
    obtain ⟨NO, hNO⟩ : ∃ q, noughtsL bs o 32 = q := ⟨_, rfl⟩
    rw [hNO] at HNO hre
    rw [hL] at hre hl16 HO HNB ⊢
    have HL := Lib.hid hL
    clear hNO hL
    rcases NO with _ | _
    · rw [if_neg (by simp)] at hre
      by_cases c1 : o + 32 ≤ bs.length
      · rw [decide_eq_true c1] at HIN
        by_cases c2 : L = 16
        · rw [if_neg (by omega)] at hre
          subst hre
          have d2 : ((L : Int) == 16) = true := by rw [beq_iff_eq]; omega
          have HC2 := Lib.hid c2
          clear c1 c2
          go_wp2_with fail
          refine HNO.out.mono ?_
          rintro e w' ⟨rfl, rfl⟩
          go_wp2_with fail
          refine HIN.out.mono ?_
          rintro e w' ⟨rfl, rfl⟩
          go_wp2_with fail
          go_ret2
          exact ⟨rfl, HB.out⟩
        · rw [if_pos ⟨c1, c2⟩] at hre
          have d2 : ((L : Int) == 16) = false := beq_eq_false_iff_ne.mpr (by omega)
          have hL16 : L < 16 := by omega
          have HRE := Lib.hid hre
          have HC1 := Lib.hid c1
          clear c1 c2 hre
          go_wp2_with fail
          refine HNO.out.mono ?_
          rintro e w' ⟨rfl, rfl⟩
          go_wp2_with fail
          refine HIN.out.mono ?_
          rintro e w' ⟨rfl, rfl⟩
          have HRD1 := Lib.hid (HRD.out o wr HB.out HC1.out)
          obtain ⟨X, hX⟩ : ∃ X, delayD bs o = X := ⟨_, rfl⟩
          have hx := HRB.out o
          have hre := HRE.out
          rw [hX] at HRD1 hre hx
          obtain ⟨ON, hON⟩ : ∃ q, oneL bs X = q := ⟨_, rfl⟩
          have HONX := Lib.hid (fun W (hW : Below w.heap.size w W) => one_any A cap bs X W HCC.out.1 HCC.out.2 hlen HLB.out (HS.out W hW) hx.1 hx.2.1 hx.2.2.1 hx.2.2.2)
          rw [hON] at HONX hre
          have HRE2 := Lib.hid hre
          obtain ⟨XC, hXC⟩ : ∃ q, X.cells = q := ⟨_, rfl⟩
          rw [hXC] at HRD1 HONX
          obtain ⟨o', ho'⟩ : ∃ q, o + 32 = q := ⟨_, rfl⟩
          have eo' : (o : Int) + 32 = (o' : Int) := by omega
          have wo' : IntKind.i64.wrap (o' : Int) = (o' : Int) := by rw [IntKind.wrap_i64]; omega
          have HO' := Lib.hid ho'
          clear hX hON hx hre HRE hXC ho'
          go_wp2_with (go_at_fn 120; refine HRD1.out.mono ?_; rintro e w2 ⟨rfl, hw2⟩)
          have HB2 := Lib.hid (HB.out.trans (hw2.mono HB.out.size))
          have HB2 := Lib.hid (HB.out.trans (hw2.mono HB.out.size))
          refine (HONX.out w2 HB2.out).mono ?_
          rintro e w3 ⟨⟨T, i1, i2, i3, A3, n3, c3, ok, rfl, hq1, hq2⟩, hw3⟩
          obtain ⟨w4, hw4⟩ : ∃ w4, w3.alloc (.cells #[.string T, .int .i64 i1, .int .i64 i2, .int .i64 i3, .slice A3 n3 c3] 78) = w4 := ⟨_, rfl⟩
          have HE4 := Lib.hid hw4
          have h34 : Below w3.heap.size w3 w4 := by rw [← hw4]; exact (Below.refl _ _).alloc (Nat.le_refl _) _
          have h14 : Below wr.heap.size wr w4 := hw2.trans ((hw3.trans (h34.mono hw3.size)).mono hw2.size)
          have HB4 := Lib.hid (HB.out.trans (h14.mono HB.out.size))
          have HO4 := Lib.hid (HO.out.below h14)
          have HSL4 := Lib.hid (show ∀ y ∈ l, SlT symC 3 w4 y.A y.v.syms from fun y hy => (HSL.out y hy).below h14)
          have HT4 := Lib.hid (show w4.heap[w3.heap.size]? = some (.cells #[.string T, .int .i64 i1, .int .i64 i2, .int .i64 i3, .slice A3 n3 c3] 78 (0, 0)) from by rw [← hw4]; exact heap_alloc_new w3 _)
          have H34 := Lib.hid h34
          have H14S := Lib.hid h14.size
          have HLT := Lib.hid (show ∀ k, (Value.slice A' L c').ownBlock = some k → k < w2.heap.size from fun k hk => Nat.lt_of_lt_of_le (HO.out.lt k hk).2 hw2.size)
          clear hw2 hw3 hw4 h34 h14
          go_upto_region 10 with (fail)
          refine (congrArg _ HE4.out).mpr ?_
          rcases ON with _ | v
          · obtain rfl := hq1 rfl
            have hre := HRE2.out
            simp only at hre
            subst hre
            clear hq1 hq2
            go_wp2_with fail
            go_ret2
            exact ⟨rfl, HB4.out⟩
          · obtain ⟨rfl, rfl, rfl, rfl, rfl, rfl, hs3, hb3⟩ := hq2 v rfl
            have hre := HRE2.out
            simp only at hre
            have HRE3 := Lib.hid hre
            have HS3 := Lib.hid (hs3.below H34.out)
            have HB3 := Lib.hid hb3
            have HLO9 := Lib.hid (show ∀ y ∈ l ++ [(⟨v, A3, c3⟩ : ImpA)], ∀ b, y.A.map (·.block) = some b → w.heap.size ≤ b from fun y hy b hb => by
              rcases List.mem_append.mp hy with h | h
              · exact HLO.out y h b hb
              · simp at h
                subst h
                exact Nat.le_trans HB2.out.size (hb3 b hb))
            clear hq1 hq2 hre hs3 hb3
            have t0 : w4.cell? ⟨w3.heap.size, 0, none⟩ = some (.string (txt v.dll)) := by rw [cell_of_row _ _ _ _ _ _ HT4.out]; rfl
            have t1 : w4.cell? ⟨w3.heap.size, 1, none⟩ = some (.int .i64 v.iat) := by rw [cell_of_row _ _ _ _ _ _ HT4.out]; rfl
            have t2 : w4.cell? ⟨w3.heap.size, 2, none⟩ = some (.int .i64 v.stamp) := by rw [cell_of_row _ _ _ _ _ _ HT4.out]; rfl
            have t3 : w4.cell? ⟨w3.heap.size, 3, none⟩ = some (.int .i64 v.handle) := by rw [cell_of_row _ _ _ _ _ _ HT4.out]; rfl
            have t4 : w4.cell? ⟨w3.heap.size, 4, none⟩ = some (.slice A3 v.syms.length c3) := by rw [cell_of_row _ _ _ _ _ _ HT4.out]; rfl
            have HA1 := Lib.hid (HO4.out.alloc (.cells #[.string (txt v.dll), .int .i64 v.iat, .int .i64 v.stamp, .int .i64 v.handle, .slice A3 v.syms.length c3] 78))
            have HY1 := Lib.hid (impCells ⟨v, A3, c3⟩ w4)
            have HB8 := Lib.hid (HB4.out.alloc HB4.out.size (.cells #[.string (txt v.dll), .int .i64 v.iat, .int .i64 v.stamp, .int .i64 v.handle, .slice A3 v.syms.length c3] 78))
            have HSZ8 := Lib.hid (show w4.heap.size ≤ (w4.alloc (.cells #[.string (txt v.dll), .int .i64 v.iat, .int .i64 v.stamp, .int .i64 v.handle, .slice A3 v.syms.length c3] 78)).heap.size from by simp)
            have HSL8 := Lib.hid (show ∀ y ∈ l ++ [(⟨v, A3, c3⟩ : ImpA)], SlT symC 3 (w4.alloc (.cells #[.string (txt v.dll), .int .i64 v.iat, .int .i64 v.stamp, .int .i64 v.handle, .slice A3 v.syms.length c3] 78)) y.A y.v.syms from fun y hy => by
              have hal : Below w4.heap.size w4 (w4.alloc (.cells #[.string (txt v.dll), .int .i64 v.iat, .int .i64 v.stamp, .int .i64 v.handle, .slice A3 v.syms.length c3] 78)) := (Below.refl _ _).alloc (Nat.le_refl _) _
              rcases List.mem_append.mp hy with h | h
              · exact (HSL4.out y h).below hal
              · simp at h; subst h; exact HS3.out.below hal)
            have HNB8 := Lib.hid (show ∀ y ∈ l ++ [(⟨v, A3, c3⟩ : ImpA)], y.v.syms.length ≠ 0 → ∀ b, y.A.map (·.block) = some b → (Value.slice A' L c').ownBlock ≠ some b from fun y hy hne b hb => by
              rcases List.mem_append.mp hy with h | h
              · exact HNB.out y h hne b hb
              · simp at h
                subst h
                intro hk
                have h1 := HB3.out b hb
                have h2 := HLT.out b hk
                omega)
            rw [← HL.out] at HA1 hL16 ⊢
            have HG3 := Lib.hid (show w.heap.size + 1 ≤ (w4.alloc (.cells #[.string (txt v.dll), .int .i64 v.iat, .int .i64 v.stamp, .int .i64 v.handle, .slice A3 v.syms.length c3] 78)).heap.size from Nat.le_trans (Nat.le_trans HBX.out H14S.out) HSZ8.out)
            have HG4 := Lib.hid (show l.length + 1 ≤ maxLen from by unfold maxLen; omega)
            have HG5 := Lib.hid (show (l.length + 1) * 64 ≤ 140737488355328 from by omega)
            go_wp2_with (first
              | (at_builtin; refine wpList_appT rfl (.tmp 49) (.tmp 51) 46 rfl (w.heap.size + 1) 78 _ 64 rfl infoImp rfl (by omega) impC_len impC_one _ l rfl HA1.out w4.heap.size 1 rfl ⟨v, A3, c3⟩ HY1.out HG4.out HG5.out HG3.out ?_; intro g5 cap5 w8 hown5 hg5 hat5
                 have HAT5 := Lib.hid (show (Value.slice A' l.length c').ownBlock = some g5 ∨ g5 = (w4.alloc (.cells #[.string (txt v.dll), .int .i64 v.iat, .int .i64 v.stamp, .int .i64 v.handle, .slice A3 v.syms.length c3] 78)).heap.size from hat5)
                 have HG6 := Lib.hid (show (w4.alloc (.cells #[.string (txt v.dll), .int .i64 v.iat, .int .i64 v.stamp, .int .i64 v.handle, .slice A3 v.syms.length c3] 78)).grownBy w8 (Value.slice A' l.length c').ownBlock from hg5)
                 have HN8 := Lib.hid hown5
                 clear hat5 hg5 hown5)
              | fail)
            have HB9 := Lib.hid (HA1.out.grew HB8.out (by omega) HB8.out.size HG6.out)
            rw [← HL.out] at HNB8
            have HSL9 := Lib.hid (show ∀ y ∈ l ++ [(⟨v, A3, c3⟩ : ImpA)], SlT symC 3 w8 y.A y.v.syms from fun y hy => by
              rcases HSL8.out y hy with h0 | ⟨b, off, hA, hlt, hc⟩
              · exact .inl h0
              · by_cases h0 : y.v.syms = []
                · exact .inl h0
                · refine SlT.keep (.inr ⟨b, off, hA, hlt, hc⟩) HG6.out.size fun b' hb' => ?_
                  have hbb : b = b' := by rw [hA] at hb'; simpa using hb'
                  exact HG6.out.block b' (by omega) (fun e => HNB8.out y hy (fun q => h0 (List.eq_nil_of_length_eq_zero q)) b' hb' e.symm))
            have HNB9 := Lib.hid (show ∀ y ∈ l ++ [(⟨v, A3, c3⟩ : ImpA)], y.v.syms.length ≠ 0 → ∀ b, y.A.map (·.block) = some b → (Value.slice (some ⟨g5, 0, none⟩) (l.length + 1) cap5).ownBlock ≠ some b from fun y hy hne b hb hk => by
              have hgb : g5 = b := by simpa [Value.ownBlock] using hk
              rcases HAT5.out with h | h
              · exact HNB8.out y hy hne b hb (by rw [h, hgb])
              · rcases HSL8.out y hy with h0 | ⟨b', off, hA, hlt, hc⟩
                · exact hne (by rw [h0]; rfl)
                · have hbb : b' = b := by rw [hA] at hb; simpa using hb
                  omega)
            go_roundw
            case rel => exact ⟨k, o', l ++ [⟨v, A3, c3⟩], some ⟨g5, 0, none⟩, cap5, by have := HK.out; simp; omega, by simp; omega, by rw [← HO'.out]; have := HNX.out; simp; omega, by simp, rfl, by simpa using HN8.out, HSL9.out, by simpa using HNB9.out, HLO9.out, Nat.le_trans HG3.out HG6.out.size, HB9.out, by rw [List.map_append, ← HO'.out]; exact HRE3.out⟩
            case measure =>
              show 18 - (l.length + 1) < 18 - L
              have := HL.out
              omega
      · rw [decide_eq_false c1] at HIN
        rw [if_neg (fun h => c1 h.1)] at hre
        subst hre
        clear c1
        go_wp2_with fail
        refine HNO.out.mono ?_
        rintro e w' ⟨rfl, rfl⟩
        go_wp2_with fail
        refine HIN.out.mono ?_
        rintro e w' ⟨rfl, rfl⟩
        go_wp2_with fail
        go_ret2
        exact ⟨rfl, HB.out⟩
    · rw [if_pos rfl] at hre
      subst hre
      go_wp2_with fail
      refine HNO.out.mono ?_
      rintro e w' ⟨rfl, rfl⟩
      go_wp2_with fail
      go_ret2
      exact ⟨⟨A', c', l, by rw [HL.out]; rfl, ⟨by rw [HL.out]; exact Joins.ownsRow_le HO.out (by omega), fun y hy => ⟨HSL.out y hy, HLO.out y hy⟩⟩, rfl⟩, HB.out⟩
end Go.Proofs.YtplgdpjbkdagfaaGreat
