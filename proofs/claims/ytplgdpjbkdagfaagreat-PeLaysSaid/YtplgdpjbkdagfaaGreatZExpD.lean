import Derived.Test.YtplgdpjbkdagfaaGreatZExpC
import Derived.Laws.Cover1
import Derived.Test.YtplgdpjbkdagfaaGreatZExpM
import Derived.Test.YtplgdpjbkdagfaaGreatRef1
import Derived.Test.YtplgdpjbkdagfaaGreatPieces
namespace Go.Proofs.YtplgdpjbkdagfaaGreat
set_option maxRecDepth 100000
open Go.ChangeShapes Go.WideShapes Go.ChangeAt Go.RowKit
set_option linter.unusedVariables false
set_option linter.unusedSimpArgs false
def lessL : List Nat → List Nat → Bool
  | _, [] => false
  | [], _ :: _ => true
  | a :: x, b :: y => decide (a < b) || (a == b && lessL x y)
def leqL (t s : List Nat) : Bool := lessL t s || t == s
theorem u8_lt {a b : Nat} (ha : a ≤ 255) (hb : b ≤ 255) : decide (UInt8.ofNat a < UInt8.ofNat b) = decide (a < b) := by
  rw [decide_eq_decide, UInt8.lt_iff_toNat_lt, UInt8.toNat_ofNat_of_lt' (by simp [UInt8.size]; omega), UInt8.toNat_ofNat_of_lt' (by simp [UInt8.size]; omega)]
theorem u8_inj {a b : Nat} (ha : a ≤ 255) (hb : b ≤ 255) : UInt8.ofNat a = UInt8.ofNat b ↔ a = b := by
  constructor
  · intro h
    have := congrArg UInt8.toNat h
    rwa [UInt8.toNat_ofNat_of_lt' (by simp [UInt8.size]; omega), UInt8.toNat_ofNat_of_lt' (by simp [UInt8.size]; omega)] at this
  · intro h; rw [h]
theorem less_map : ∀ (t s : List Nat), Lb t → Lb s → Op.bytesLess (t.map UInt8.ofNat) (s.map UInt8.ofNat) = lessL t s
  | t, [], _, _ => by cases t <;> rfl
  | [], b :: y, _, _ => rfl
  | a :: x, b :: y, ht, hs => by
    have ha := ht a (by simp)
    have hb := hs b (by simp)
    simp only [List.map_cons, Op.bytesLess, lessL, u8_lt ha hb, less_map x y (fun v hv => ht v (List.mem_cons_of_mem _ hv)) (fun v hv => hs v (List.mem_cons_of_mem _ hv))]
    congr 2
    rw [Bool.eq_iff_iff]
    simp [u8_inj ha hb]
theorem map_inj {t s : List Nat} (ht : Lb t) (hs : Lb s) : (t.map UInt8.ofNat == s.map UInt8.ofNat) = (t == s) := by
  rw [Bool.eq_iff_iff, beq_iff_eq, beq_iff_eq]
  refine ⟨fun h => ?_, fun h => by rw [h]⟩
  apply List.ext_getElem?
  intro i
  have hi := congrArg (·[i]?) h
  simp only [List.getElem?_map] at hi
  rcases h1 : t[i]? with _ | a <;> rcases h2 : s[i]? with _ | b <;> rw [h1, h2] at hi <;> simp at hi
  rw [(u8_inj (ht a (List.mem_of_getElem? h1)) (hs b (List.mem_of_getElem? h2))).1 hi]
theorem txt_list {t : List Nat} (h : Lb t) : (txt t).toList = t.map UInt8.ofNat := by
  rw [ByteArray.toList_eq]
  unfold txt strF
  rw [strOfNums_data, List.map_map]
  apply List.ext_getElem?
  intro i
  rw [List.getElem?_map, List.getElem?_map]
  rcases Nat.lt_or_ge i t.length with hi | hi
  · rw [List.getElem?_range hi, List.getElem?_eq_getElem hi]
    simp [lF, List.getD, hi]
  · rw [List.getElem?_eq_none (by simpa using hi), List.getElem?_eq_none hi]
    rfl
theorem leq_txt {t s : List Nat} (ht : Lb t) (hs : Lb s) : (Op.bytesLess (txt t).toList (txt s).toList || (txt t).toList == (txt s).toList) = leqL t s := by
  rw [txt_list ht, txt_list hs, less_map t s ht hs, map_inj ht hs]; rfl
abbrev NmV := List Nat × Nat
def nC (x : NmV) : List Value := [.string (txt x.1), .int .i64 x.2]
theorem nC_len (x : NmV) : (nC x).length = 2 := rfl
theorem nC_one (x : NmV) : ∀ u ∈ nC x, u.oneCell' = true := by
  intro u hu
  simp [nC] at hu
  rcases hu with rfl | rfl <;> rfl
theorem infoNamed : (Tryz.prog.info? 76).map (fun i => (i.zero, i.size, i.bytes)) = some (some (.agg #[.string ByteArray.empty, .int .i64 0]), 2, 24) := by kernel_rfl
theorem namedCells (x : Nat) (t : List Nat) (w : World) : ∀ j u, (nC (t, x))[j]? = some u → (w.alloc (.cells #[.string (txt t), .int .i64 x] 76)).cell? ⟨w.heap.size, j, none⟩ = some u := by
  intro j u hu
  rcases j with _ | _ | j
  · simp [nC] at hu; subst hu; simp [go_sem]
  · simp [nC] at hu; subst hu; simp [go_sem]
  · simp [nC] at hu
def namesL (b : List Nat) (atN atI funcs : Nat) : Nat → Nat → List Nat → List NmV → Option (List NmV)
  | 0, _, _, acc => some acc
  | k + 1, i, last, acc => match textL b (numL (b.drop (atN + 4 * i)) 4) 64 with
    | none => none
    | some t => if okSymL t = true then
        if leqL t last = true then none
        else if numL (b.drop (atI + 2 * i)) 2 < funcs then namesL b atN atI funcs k (i + 1) t (acc ++ [(t, numL (b.drop (atI + 2 * i)) 2)]) else none
      else none
def NamesQ (w w' : World) (r : Option (List NmV)) (e : Ending) : Prop := match r with
  | none => e = .returned (.tuple #[.slice none 0 0, .bool false])
  | some l => ∃ A cap, e = .returned (.tuple #[.slice A l.length cap, .bool true]) ∧ OwnT nC 2 w' w.heap.size 76 (.slice A l.length cap) l
set_option maxRecDepth 100000 in
set_option maxHeartbeats 4000000 in
theorem readNames_any (A : Option Addr) (cap : Nat) (bs : List Nat) (b0 b1 b2 b3 b4 b5 : Nat) (w : World) (hb : Lb bs) (hl : bs.length ≤ cap) (hc : cap ≤ 9223372036854775807) (hlen : bs.length ≤ 1099511627776) (hs : SlB w A bs.length (lF bs))
    (hn : b2 ≤ 256) (hin : b2 = 0 ∨ (b4 + 4 * b2 ≤ bs.length ∧ b5 + 2 * b2 ≤ bs.length)) :
    Calls Tryz.prog 110 #[.slice A bs.length cap, .agg #[.int .i64 b0, .int .i64 b1, .int .i64 b2, .int .i64 b3, .int .i64 b4, .int .i64 b5]] w fun e w' => NamesQ w w' (namesL bs b4 b5 b1 b2 0 [] []) e ∧ Below w.heap.size w w' := by
  have HS := Lib.hid (fun W (hW : Below w.heap.size w W) => SlB.below hs hW)
  have HLB := Lib.hid hb
  have HIN := Lib.hid hin
  have HLC := Lib.hid (And.intro hl (And.intro hc hlen))
  obtain ⟨R, hR⟩ : ∃ R, namesL bs b4 b5 b1 b2 0 [] [] = R := ⟨_, rfl⟩
  rw [hR]
  have HR := Lib.hid hR
  clear hR hs hin
  go_enter Tryz.func110, Tryz.ntmps110
  have HRW := Lib.hid (heap_alloc_new w (.cells #[.int .i64 b0, .int .i64 b1, .int .i64 b2, .int .i64 b3, .int .i64 b4, .int .i64 b5] 187))
  have HW0 := Lib.hid (show Below w.heap.size w (w.alloc (.cells #[.int .i64 b0, .int .i64 b1, .int .i64 b2, .int .i64 b3, .int .i64 b4, .int .i64 b5] 187)) from (Below.refl w.heap.size w).alloc (Nat.le_refl _) _)
  have hsz : (w.alloc (.cells #[.int .i64 b0, .int .i64 b1, .int .i64 b2, .int .i64 b3, .int .i64 b4, .int .i64 b5] 187)).heap.size = w.heap.size + 1 := by simp
  have HSZ := Lib.hid hsz
  have HM1 := Lib.hid (show 24 * b2 ≤ 281474976710656 from by omega)
  have HM2 := Lib.hid (show b2 ≤ maxLen from by unfold maxLen; omega)
  have HM3 := Lib.hid (show w.heap.size + 1 ≤ (w.alloc (.cells #[.int .i64 b0, .int .i64 b1, .int .i64 b2, .int .i64 b3, .int .i64 b4, .int .i64 b5] 187)).heap.size from by rw [hsz]; exact Nat.le_refl _)
  clear hsz
  go_upto_region 3 with (first
    | (refine wpList_makeT (C := nC) (sz := 2) rfl _ _ 43 rfl (w.heap.size + 1) 76 _ 24 rfl infoNamed .i64 .i64 b2 rfl rfl HM1.out HM2.out HM3.out ?_; intro w1 hown1 hw1; have HO1 := Lib.hid hown1; have HW1 := Lib.hid hw1; clear hown1 hw1)
    | fail)
  have HRW1 := Lib.hid ((HW1.out.block w.heap.size (by rw [HSZ.out]; omega)).trans HRW.out)
  have HB1 := Lib.hid (HW0.out.trans (HW1.out.mono HW0.out.size))
  have hO1 := HO1.out
  rw [HSZ.out] at hO1
  have HOO := Lib.hid hO1
  clear HRW HW0 HM1 HM2 HM3 HO1 HW1 HSZ hO1
  have hc1 : w1.cell? ⟨w.heap.size, 2, none⟩ = some (.int .i64 b2) := by rw [cell_of_row _ _ _ _ _ _ HRW1.out]; rfl
  go_wp2_with fail
  go_loopw [6, 7, 18] (fun v6 v7 v18 wr => ∃ (i k : Nat) (l : List NmV) (last : List Nat) (A' : Option Addr) (c' : Nat), i + k = b2 ∧ l.length = i ∧ Lb last ∧ last.length ≤ 64 ∧ v18 = .int .i64 i ∧ v6 = .slice A' i c' ∧ v7 = .string (txt last) ∧ OwnT nC 2 wr (w.heap.size + 1) 76 (.slice A' i c') l ∧ Below w.heap.size w wr ∧ wr.heap[w.heap.size]? = some (.cells #[.int .i64 b0, .int .i64 b1, .int .i64 b2, .int .i64 b3, .int .i64 b4, .int .i64 b5] 187 (0, 0)) ∧ namesL bs b4 b5 b1 k i last l = R) (fun _ _ v18 _ => b2 - (intOf v18).toNat)
  case atStart => exact ⟨0, b2, [], [], _, _, by omega, rfl, by intro v hv; simp at hv, by simp, rfl, rfl, rfl, HOO.out, HB1.out, HRW1.out, HR.out⟩
  case round =>
    obtain ⟨i, k, l, last, A', c', hik, hli, hlb, hl64, rfl, rfl, rfl, hown, hbel, hrr, hR⟩ := hrel
    have HO := Lib.hid hown
    have HBW := Lib.hid hbel
    have HRR := Lib.hid hrr
    have HRE := Lib.hid hR
    have HLI := Lib.hid hli
    have HLA := Lib.hid hlb
    clear hown hbel hrr hR hli hlb
    by_cases hlt : i < b2
    · obtain ⟨k, rfl⟩ : ∃ q, k = q + 1 := ⟨k - 1, by omega⟩
      obtain ⟨m4, hm4⟩ : ∃ m, 4 * i = m := ⟨_, rfl⟩
      obtain ⟨m2, hm2⟩ : ∃ m, 2 * i = m := ⟨_, rfl⟩
      obtain ⟨o, ho⟩ : ∃ o, b4 + m4 = o := ⟨_, rfl⟩
      obtain ⟨q, hq⟩ : ∃ q, b5 + m2 = q := ⟨_, rfl⟩
      have hob : o + 4 ≤ bs.length := by have := HIN.out; omega
      have hqb : q + 2 ≤ bs.length := by have := HIN.out; omega
      have em : (4 : Int) * (i : Int) = (m4 : Int) := by omega
      have wm : IntKind.i64.wrap (m4 : Int) = (m4 : Int) := by rw [IntKind.wrap_i64]; omega
      have eo : (b4 : Int) + (m4 : Int) = (o : Int) := by omega
      have wo : IntKind.i64.wrap (o : Int) = (o : Int) := by have := HLC.out; rw [IntKind.wrap_i64]; omega
      have em2 : (2 : Int) * (i : Int) = (m2 : Int) := by omega
      have wm2 : IntKind.i64.wrap (m2 : Int) = (m2 : Int) := by rw [IntKind.wrap_i64]; omega
      have eq2 : (b5 : Int) + (m2 : Int) = (q : Int) := by omega
      have wq2 : IntKind.i64.wrap (q : Int) = (q : Int) := by have := HLC.out; rw [IntKind.wrap_i64]; omega
      have HU := Lib.hid (fun W (hW : Below w.heap.size w W) => u32e_any A cap bs o W (by have := HLC.out; omega) HLB.out hob (HS.out W hW))
      have H16 := Lib.hid (fun W (hW : Below w.heap.size w W) => u16_list A cap bs q W (by have := HLC.out; omega) HLB.out hqb (HS.out W hW))
      have hre := HRE.out
      simp only [namesL] at hre
      rw [hm4, ho, hm2, hq] at hre
      obtain ⟨v, hvv⟩ : ∃ v, numL (bs.drop o) 4 = v := ⟨_, rfl⟩
      obtain ⟨ix, hix⟩ : ∃ v, numL (bs.drop q) 2 = v := ⟨_, rfl⟩
      rw [hvv] at HU hre
      rw [hix] at H16 hre
      have HTX := Lib.hid (fun W (hW : Below w.heap.size w W) => text_list A cap bs v 64 W (by have := HLC.out; omega) HLC.out.1 (HS.out W hW))
      have hc4 : wr.cell? ⟨w.heap.size, 4, none⟩ = some (.int .i64 b4) := by rw [cell_of_row _ _ _ _ _ _ HRR.out]; rfl
      have hc5 : wr.cell? ⟨w.heap.size, 5, none⟩ = some (.int .i64 b5) := by rw [cell_of_row _ _ _ _ _ _ HRR.out]; rfl
      have hc1' : wr.cell? ⟨w.heap.size, 1, none⟩ = some (.int .i64 b1) := by rw [cell_of_row _ _ _ _ _ _ HRR.out]; rfl
      have HRE2 := Lib.hid hre
      clear hre hvv hix hm4 hm2 ho hq hob hqb hc1
      go_wp2_with fail
      refine (HU.out _ HBW.out).mono ?_
      rintro e w' ⟨rfl, rfl⟩
      go_wp2_with fail
      refine (HTX.out _ HBW.out).mono ?_
      rintro e w' ⟨rfl, rfl⟩
      rcases htx : textL bs v 64 with _ | t
      · have hre := HRE2.out
        rw [htx] at hre
        simp only at hre ⊢
        subst hre
        go_wp2_with fail
        go_ret2
        exact ⟨rfl, HBW.out⟩
      · have hlt' := textL_lb' HLB.out htx
        have hre := HRE2.out
        rw [htx] at hre
        simp only at hre ⊢
        have HSY := Lib.hid (fun W => symOk_any t W hlt'.1 (by have := hlt'.2; omega))
        have hleq := leq_txt hlt'.1 HLA.out
        have HLT := Lib.hid hlt'
        clear hlt' htx HRE2 HTX
        by_cases hok : okSymL t = true
        · rw [if_pos hok] at hre
          rw [hok] at HSY
          by_cases hle : leqL t last = true
          · rw [if_pos hle] at hre
            subst hre
            rw [hle] at hleq
            go_wp2_with fail
            refine (HSY.out _).mono ?_
            rintro e w' ⟨rfl, rfl⟩
            go_wp2_with fail
            go_ret2
            exact ⟨rfl, HBW.out⟩
          · rw [if_neg hle] at hre
            rw [show leqL t last = false by simpa using hle] at hleq
            by_cases hfn : ix < b1
            · rw [if_pos hfn] at hre
              have HRE3 := Lib.hid hre
              have hfn' : ¬ (b1 : Int) ≤ (ix : Int) := by omega
              clear hre hfn
              have HA1 := Lib.hid (HO.out.alloc (.cells #[.string (txt t), .int .i64 ix] 76))
              have HY1 := Lib.hid (namedCells ix t wr)
              have HB8 := Lib.hid (HBW.out.alloc HBW.out.size (.cells #[.string (txt t), .int .i64 ix] 76))
              have HR8 := Lib.hid (show (wr.alloc (.cells #[.string (txt t), .int .i64 ix] 76)).heap[w.heap.size]? = _ from (Below.heap_alloc _ _ _ (lt_of_row' HRR.out)).trans HRR.out)
              have H3 := Lib.hid (show w.heap.size + 1 ≤ (wr.alloc (.cells #[.string (txt t), .int .i64 ix] 76)).heap.size from lt_of_row' HR8.out)
              have H4 := Lib.hid (show l.length + 1 ≤ maxLen from by rw [HLI.out]; unfold maxLen; omega)
              have H5 := Lib.hid (show (l.length + 1) * 24 ≤ 140737488355328 from by rw [HLI.out]; omega)
              have hll : l.length < 256 := by have := HLI.out; omega
              have hll2 : l.length + 1 ≤ b2 := by have := HLI.out; omega
              go_wp2_with fail
              refine (HSY.out _).mono ?_
              rintro e w' ⟨rfl, rfl⟩
              go_wp2_with fail
              refine (H16.out _ HBW.out).mono ?_
              rintro e w' ⟨rfl, rfl⟩
              rw [← HLI.out] at HA1 ⊢
              go_wp2_with (first
                | (at_builtin; refine wpList_appT rfl (.tmp 59) (.tmp 63) 43 rfl (w.heap.size + 1) 76 _ 24 rfl infoNamed rfl (by omega) nC_len nC_one _ l rfl HA1.out wr.heap.size 1 rfl (t, ix) HY1.out H4.out H5.out H3.out ?_; intro g5 cap5 w8 hown5 hg5 hat5)
                | fail)
              have HB9 := Lib.hid (HA1.out.grew HB8.out (by omega) HB8.out.size hg5)
              have HR9 := Lib.hid ((hg5.block w.heap.size (lt_of_row' HR8.out) (fun h => by have := (HA1.out.lt _ h.symm).1; omega)).trans HR8.out)
              have HO9 := Lib.hid hown5
              clear hown5 hg5 hat5
              go_roundw
              case rel => exact ⟨l.length + 1, k, l ++ [(t, ix)], t, _, cap5, by have := HLI.out; omega, by simp, HLT.out.1, HLT.out.2, by go_num, rfl, rfl, HO9.out, HB9.out, HR9.out, by rw [HLI.out]; exact HRE3.out⟩
              case measure => simp [intOf]; have := HLI.out; omega
            · rw [if_neg hfn] at hre
              subst hre
              have hfn' : (b1 : Int) ≤ (ix : Int) := by omega
              go_wp2_with fail
              refine (HSY.out _).mono ?_
              rintro e w' ⟨rfl, rfl⟩
              go_wp2_with fail
              refine (H16.out _ HBW.out).mono ?_
              rintro e w' ⟨rfl, rfl⟩
              go_wp2_with fail
              go_ret2
              exact ⟨rfl, HBW.out⟩
        · rw [if_neg hok] at hre
          subst hre
          rw [show okSymL t = false by simpa using hok] at HSY
          go_wp2_with fail
          refine (HSY.out _).mono ?_
          rintro e w' ⟨rfl, rfl⟩
          go_wp2_with fail
          go_ret2
          exact ⟨rfl, HBW.out⟩
    · obtain rfl : k = 0 := by omega
      have hre := HRE.out
      simp only [namesL] at hre
      subst hre
      go_wp2_with fail
      go_ret2
      refine ⟨⟨A', c', ?_, ?_⟩, HBW.out⟩
      · rw [HLI.out]; rfl
      · rw [HLI.out]; exact Joins.ownsRow_le HO.out (by omega)
theorem u64_list (A : Option Addr) (cap : Nat) (bs : List Nat) (o : Nat) (w : World) (hl : bs.length ≤ 9223372036854775807) (hb : Lb bs) (hs : SlB w A bs.length (lF bs)) :
    Calls Tryz.prog 103 #[.slice A bs.length cap, .int .i64 o] w fun e w' => e = .returned (.tuple #[.int .u64 (if o + 8 ≤ bs.length then numL (bs.drop o) 8 else 0 : Nat), .bool (decide (o + 8 ≤ bs.length))]) ∧ w = w' := by
  have H : Hid (Calls Tryz.prog 130 #[.slice A bs.length cap, .int .i64 o, .int .i64 8] w fun e w' => e = .returned (.tuple #[.int .u64 (if o + 8 ≤ bs.length then numL (bs.drop o) 8 else 0 : Nat), .bool (decide (o + 8 ≤ bs.length))]) ∧ w = w') := by
    by_cases c : o + 8 ≤ bs.length
    · rw [if_pos c, decide_eq_true c]
      rcases hs with h' | ⟨b, off, rfl, _, hr⟩
      · omega
      · rw [← rdF_numL]
        exact Lib.hid (number_yes b off _ cap _ o 8 w hl (by omega) c hb.b255 hr)
    · rw [if_neg c, decide_eq_false c]
      exact Lib.hid (number_no A _ cap o 8 w hl (by omega) (by omega) (by omega))
  generalize (if o + 8 ≤ bs.length then numL (bs.drop o) 8 else 0 : Nat) = x at *
  generalize decide (o + 8 ≤ bs.length) = y at *
  clear hs hb
  go_enter Tryz.func103, Tryz.ntmps103
  go_wp2_with fail
  refine H.out.mono ?_
  rintro e w' ⟨rfl, rfl⟩
  go_wp2
  go_ret2
  exact ⟨rfl, rfl⟩
theorem u32i_any (A : Option Addr) (cap : Nat) (bs : List Nat) (o : Nat) (w : World) (hl : bs.length ≤ 9223372036854775807) (hb : Lb bs) (h : o + 4 ≤ bs.length) (hs : SlB w A bs.length (lF bs)) :
    Calls Tryz.prog 137 #[.slice A bs.length cap, .int .i64 o] w fun e w' => e = .returned (.int .i64 (numL (bs.drop o) 4)) ∧ w = w' := by
  have H := Lib.hid (u32_list A cap bs o w hl hb h hs)
  clear hs hb
  go_enter Tryz.func137, Tryz.ntmps137
  go_wp2_with fail
  refine H.out.mono ?_
  rintro e w' ⟨rfl, rfl⟩
  go_wp2_with fail
  go_ret
  exact ⟨rfl, rfl⟩
structure Ds where
  thunks : Nat
  dll : Nat
  iat : Nat
  stamp : Nat
  delay : Bool
  attrs : Nat
  handle : Nat
def Ds.cells (x : Ds) : Array Value := #[.int .i64 x.thunks, .int .i64 x.dll, .int .i64 x.iat, .int .i64 x.stamp, .bool x.delay, .int .i64 x.attrs, .int .i64 x.handle]
def importD (b : List Nat) (o : Nat) : Ds := ⟨numL (b.drop o) 4, numL (b.drop (o + 12)) 4, numL (b.drop (o + 16)) 4, numL (b.drop (o + 4)) 4, false, 0, 0⟩
def delayD (b : List Nat) (o : Nat) : Ds := ⟨numL (b.drop (o + 16)) 4, numL (b.drop (o + 4)) 4, numL (b.drop (o + 12)) 4, numL (b.drop (o + 28)) 4, true, numL (b.drop o) 4, numL (b.drop (o + 8)) 4⟩
theorem dsOne {a b c d e f : Int} {g : Bool} : (#[.int .i64 a, .int .i64 b, .int .i64 c, .int .i64 d, .bool g, .int .i64 e, .int .i64 f] : Array Value).all (·.oneCell') = true := by simp [Value.oneCell']
theorem dsInfo {a b c d e f g : Value} : (Tryz.prog.info? 219).map (·.size) = some (#[a, b, c, d, e, f, g] : Array Value).size := by kernel_rfl
set_option maxHeartbeats 2000000 in
theorem importAt_any (A : Option Addr) (cap : Nat) (bs : List Nat) (o : Nat) (w : World) (hl : bs.length ≤ 1000000) (hb : Lb bs) (h : o + 20 ≤ bs.length) (hs : SlB w A bs.length (lF bs)) :
    Calls Tryz.prog 112 #[.slice A bs.length cap, .int .i64 o] w fun e w' => e = .returned (.agg (importD bs o).cells) ∧ Below w.heap.size w w' := by
  obtain ⟨w1, hw1⟩ : ∃ w1, w.alloc (.cells #[.int .i64 0, .int .i64 0, .int .i64 0, .int .i64 0, .bool false, .int .i64 0, .int .i64 0] 219) = w1 := ⟨_, rfl⟩
  have HE1 := Lib.hid hw1
  have HB := Lib.hid (show Below w.heap.size w w1 from by rw [← hw1]; exact (Below.refl _ _).alloc (Nat.le_refl _) _)
  have H1 := Lib.hid (show w1.heap[w.heap.size]? = some (.cells #[.int .i64 0, .int .i64 0, .int .i64 0, .int .i64 0, .bool false, .int .i64 0, .int .i64 0] 219 (0, 0)) from by rw [← hw1]; exact heap_alloc_new w _)
  clear hw1
  obtain ⟨R, hR⟩ : ∃ R, (importD bs o).cells = R := ⟨_, rfl⟩
  rw [hR]
  unfold importD Ds.cells at hR
  simp only at hR
  have HU0 := Lib.hid (u32i_any A cap bs o w1 (by omega) hb (by omega) (SlB.below hs HB.out))
  obtain ⟨x0, hx0⟩ : ∃ v, numL (bs.drop o) 4 = v := ⟨_, rfl⟩
  rw [hx0] at HU0 hR
  clear hx0
  obtain ⟨o4, ho4⟩ : ∃ q, o + 4 = q := ⟨_, rfl⟩
  have eo4 : (o : Int) + 4 = (o4 : Int) := by omega
  have wo4 : IntKind.i64.wrap (o4 : Int) = (o4 : Int) := by rw [IntKind.wrap_i64]; omega
  rw [ho4] at hR
  have HU4 := Lib.hid (u32i_any A cap bs o4 w1 (by omega) hb (by omega) (SlB.below hs HB.out))
  obtain ⟨x4, hx4⟩ : ∃ v, numL (bs.drop o4) 4 = v := ⟨_, rfl⟩
  rw [hx4] at HU4 hR
  clear hx4 ho4
  obtain ⟨o12, ho12⟩ : ∃ q, o + 12 = q := ⟨_, rfl⟩
  have eo12 : (o : Int) + 12 = (o12 : Int) := by omega
  have wo12 : IntKind.i64.wrap (o12 : Int) = (o12 : Int) := by rw [IntKind.wrap_i64]; omega
  rw [ho12] at hR
  have HU12 := Lib.hid (u32i_any A cap bs o12 w1 (by omega) hb (by omega) (SlB.below hs HB.out))
  obtain ⟨x12, hx12⟩ : ∃ v, numL (bs.drop o12) 4 = v := ⟨_, rfl⟩
  rw [hx12] at HU12 hR
  clear hx12 ho12
  obtain ⟨o16, ho16⟩ : ∃ q, o + 16 = q := ⟨_, rfl⟩
  have eo16 : (o : Int) + 16 = (o16 : Int) := by omega
  have wo16 : IntKind.i64.wrap (o16 : Int) = (o16 : Int) := by rw [IntKind.wrap_i64]; omega
  rw [ho16] at hR
  have HU16 := Lib.hid (u32i_any A cap bs o16 w1 (by omega) hb (by omega) (SlB.below hs HB.out))
  obtain ⟨x16, hx16⟩ : ∃ v, numL (bs.drop o16) 4 = v := ⟨_, rfl⟩
  rw [hx16] at HU16 hR
  clear hx16 ho16
  subst hR
  clear hb hs h
  go_enter Tryz.func112, Tryz.ntmps112
  go_upto_region 1 with (fail)
  refine (congrArg _ HE1.out).mpr ?_
  go_wp2_with fail
  refine HU0.out.mono ?_
  rintro e w' ⟨rfl, rfl⟩
  go_wp2_with fail
  refine HU4.out.mono ?_
  rintro e w' ⟨rfl, rfl⟩
  go_wp2_with fail
  refine HU12.out.mono ?_
  rintro e w' ⟨rfl, rfl⟩
  go_wp2_with fail
  refine HU16.out.mono ?_
  rintro e w' ⟨rfl, rfl⟩
  obtain ⟨w9, hw9⟩ : ∃ w9, w1.setRow (w.heap.size) #[.int .i64 x0, .int .i64 x12, .int .i64 x16, .int .i64 x4, .bool false, .int .i64 0, .int .i64 0] = w9 := ⟨_, rfl⟩
  have HE9 := Lib.hid hw9
  have HR9 := Lib.hid (show w9.heap[w.heap.size]? = some (.cells #[.int .i64 x0, .int .i64 x12, .int .i64 x16, .int .i64 x4, .bool false, .int .i64 0, .int .i64 0] 219 (0, 0)) from by rw [← hw9]; exact setRow_heap _ _ _ _ _ _ H1.out)
  have HB9 := Lib.hid (show Below w.heap.size w w9 from by rw [← hw9]; exact below_setRow HB.out (Nat.le_refl _) _)
  have k0 : w9.cell? ⟨w.heap.size, 0, none⟩ = some (.int .i64 x0) := by rw [cell_of_row _ _ _ _ _ _ HR9.out]; rfl
  have k1 : w9.cell? ⟨w.heap.size, 1, none⟩ = some (.int .i64 x12) := by rw [cell_of_row _ _ _ _ _ _ HR9.out]; rfl
  have k2 : w9.cell? ⟨w.heap.size, 2, none⟩ = some (.int .i64 x16) := by rw [cell_of_row _ _ _ _ _ _ HR9.out]; rfl
  have k3 : w9.cell? ⟨w.heap.size, 3, none⟩ = some (.int .i64 x4) := by rw [cell_of_row _ _ _ _ _ _ HR9.out]; rfl
  have k4 : w9.cell? ⟨w.heap.size, 4, none⟩ = some (.bool false) := by rw [cell_of_row _ _ _ _ _ _ HR9.out]; rfl
  have k5 : w9.cell? ⟨w.heap.size, 5, none⟩ = some (.int .i64 0) := by rw [cell_of_row _ _ _ _ _ _ HR9.out]; rfl
  have k6 : w9.cell? ⟨w.heap.size, 6, none⟩ = some (.int .i64 0) := by rw [cell_of_row _ _ _ _ _ _ HR9.out]; rfl
  clear hw9
  go_wp2_with (first | (refine wpList_store_row rfl 219 _ _ rfl (w.heap.size) #[.int .i64 x0, .int .i64 x12, .int .i64 x16, .int .i64 x4, .bool false, .int .i64 0, .int .i64 0] rfl rfl 219 #[.int .i64 0, .int .i64 0, .int .i64 0, .int .i64 0, .bool false, .int .i64 0, .int .i64 0] H1.out dsInfo rfl dsOne ?_; refine (congrArg _ HE9.out).mpr ?_) | fail)
  refine bodyPost_ret (v := .agg #[.int .i64 x0, .int .i64 x12, .int .i64 x16, .int .i64 x4, .bool false, .int .i64 0, .int .i64 0]) (by simp [results, Tryz.results112, go_sem, k0, k1, k2, k3, k4, k5, k6]) rfl ⟨rfl, HB9.out⟩
set_option maxHeartbeats 2000000 in
theorem delayAt_any (A : Option Addr) (cap : Nat) (bs : List Nat) (o : Nat) (w : World) (hl : bs.length ≤ 1000000) (hb : Lb bs) (h : o + 32 ≤ bs.length) (hs : SlB w A bs.length (lF bs)) :
    Calls Tryz.prog 120 #[.slice A bs.length cap, .int .i64 o] w fun e w' => e = .returned (.agg (delayD bs o).cells) ∧ Below w.heap.size w w' := by
  obtain ⟨w1, hw1⟩ : ∃ w1, w.alloc (.cells #[.int .i64 0, .int .i64 0, .int .i64 0, .int .i64 0, .bool false, .int .i64 0, .int .i64 0] 219) = w1 := ⟨_, rfl⟩
  have HE1 := Lib.hid hw1
  have HB := Lib.hid (show Below w.heap.size w w1 from by rw [← hw1]; exact (Below.refl _ _).alloc (Nat.le_refl _) _)
  have H1 := Lib.hid (show w1.heap[w.heap.size]? = some (.cells #[.int .i64 0, .int .i64 0, .int .i64 0, .int .i64 0, .bool false, .int .i64 0, .int .i64 0] 219 (0, 0)) from by rw [← hw1]; exact heap_alloc_new w _)
  clear hw1
  obtain ⟨R, hR⟩ : ∃ R, (delayD bs o).cells = R := ⟨_, rfl⟩
  rw [hR]
  unfold delayD Ds.cells at hR
  simp only at hR
  have HU0 := Lib.hid (u32i_any A cap bs o w1 (by omega) hb (by omega) (SlB.below hs HB.out))
  obtain ⟨x0, hx0⟩ : ∃ v, numL (bs.drop o) 4 = v := ⟨_, rfl⟩
  rw [hx0] at HU0 hR
  clear hx0
  obtain ⟨o4, ho4⟩ : ∃ q, o + 4 = q := ⟨_, rfl⟩
  have eo4 : (o : Int) + 4 = (o4 : Int) := by omega
  have wo4 : IntKind.i64.wrap (o4 : Int) = (o4 : Int) := by rw [IntKind.wrap_i64]; omega
  rw [ho4] at hR
  have HU4 := Lib.hid (u32i_any A cap bs o4 w1 (by omega) hb (by omega) (SlB.below hs HB.out))
  obtain ⟨x4, hx4⟩ : ∃ v, numL (bs.drop o4) 4 = v := ⟨_, rfl⟩
  rw [hx4] at HU4 hR
  clear hx4 ho4
  obtain ⟨o8, ho8⟩ : ∃ q, o + 8 = q := ⟨_, rfl⟩
  have eo8 : (o : Int) + 8 = (o8 : Int) := by omega
  have wo8 : IntKind.i64.wrap (o8 : Int) = (o8 : Int) := by rw [IntKind.wrap_i64]; omega
  rw [ho8] at hR
  have HU8 := Lib.hid (u32i_any A cap bs o8 w1 (by omega) hb (by omega) (SlB.below hs HB.out))
  obtain ⟨x8, hx8⟩ : ∃ v, numL (bs.drop o8) 4 = v := ⟨_, rfl⟩
  rw [hx8] at HU8 hR
  clear hx8 ho8
  obtain ⟨o12, ho12⟩ : ∃ q, o + 12 = q := ⟨_, rfl⟩
  have eo12 : (o : Int) + 12 = (o12 : Int) := by omega
  have wo12 : IntKind.i64.wrap (o12 : Int) = (o12 : Int) := by rw [IntKind.wrap_i64]; omega
  rw [ho12] at hR
  have HU12 := Lib.hid (u32i_any A cap bs o12 w1 (by omega) hb (by omega) (SlB.below hs HB.out))
  obtain ⟨x12, hx12⟩ : ∃ v, numL (bs.drop o12) 4 = v := ⟨_, rfl⟩
  rw [hx12] at HU12 hR
  clear hx12 ho12
  obtain ⟨o16, ho16⟩ : ∃ q, o + 16 = q := ⟨_, rfl⟩
  have eo16 : (o : Int) + 16 = (o16 : Int) := by omega
  have wo16 : IntKind.i64.wrap (o16 : Int) = (o16 : Int) := by rw [IntKind.wrap_i64]; omega
  rw [ho16] at hR
  have HU16 := Lib.hid (u32i_any A cap bs o16 w1 (by omega) hb (by omega) (SlB.below hs HB.out))
  obtain ⟨x16, hx16⟩ : ∃ v, numL (bs.drop o16) 4 = v := ⟨_, rfl⟩
  rw [hx16] at HU16 hR
  clear hx16 ho16
  obtain ⟨o28, ho28⟩ : ∃ q, o + 28 = q := ⟨_, rfl⟩
  have eo28 : (o : Int) + 28 = (o28 : Int) := by omega
  have wo28 : IntKind.i64.wrap (o28 : Int) = (o28 : Int) := by rw [IntKind.wrap_i64]; omega
  rw [ho28] at hR
  have HU28 := Lib.hid (u32i_any A cap bs o28 w1 (by omega) hb (by omega) (SlB.below hs HB.out))
  obtain ⟨x28, hx28⟩ : ∃ v, numL (bs.drop o28) 4 = v := ⟨_, rfl⟩
  rw [hx28] at HU28 hR
  clear hx28 ho28
  subst hR
  clear hb hs h
  go_enter Tryz.func120, Tryz.ntmps120
  go_upto_region 1 with (fail)
  refine (congrArg _ HE1.out).mpr ?_
  go_wp2_with fail
  refine HU0.out.mono ?_
  rintro e w' ⟨rfl, rfl⟩
  go_wp2_with fail
  refine HU4.out.mono ?_
  rintro e w' ⟨rfl, rfl⟩
  go_wp2_with fail
  refine HU8.out.mono ?_
  rintro e w' ⟨rfl, rfl⟩
  go_wp2_with fail
  refine HU12.out.mono ?_
  rintro e w' ⟨rfl, rfl⟩
  go_wp2_with fail
  refine HU16.out.mono ?_
  rintro e w' ⟨rfl, rfl⟩
  go_wp2_with fail
  refine HU28.out.mono ?_
  rintro e w' ⟨rfl, rfl⟩
  obtain ⟨w9, hw9⟩ : ∃ w9, w1.setRow (w.heap.size) #[.int .i64 x16, .int .i64 x4, .int .i64 x12, .int .i64 x28, .bool true, .int .i64 x0, .int .i64 x8] = w9 := ⟨_, rfl⟩
  have HE9 := Lib.hid hw9
  have HR9 := Lib.hid (show w9.heap[w.heap.size]? = some (.cells #[.int .i64 x16, .int .i64 x4, .int .i64 x12, .int .i64 x28, .bool true, .int .i64 x0, .int .i64 x8] 219 (0, 0)) from by rw [← hw9]; exact setRow_heap _ _ _ _ _ _ H1.out)
  have HB9 := Lib.hid (show Below w.heap.size w w9 from by rw [← hw9]; exact below_setRow HB.out (Nat.le_refl _) _)
  have k0 : w9.cell? ⟨w.heap.size, 0, none⟩ = some (.int .i64 x16) := by rw [cell_of_row _ _ _ _ _ _ HR9.out]; rfl
  have k1 : w9.cell? ⟨w.heap.size, 1, none⟩ = some (.int .i64 x4) := by rw [cell_of_row _ _ _ _ _ _ HR9.out]; rfl
  have k2 : w9.cell? ⟨w.heap.size, 2, none⟩ = some (.int .i64 x12) := by rw [cell_of_row _ _ _ _ _ _ HR9.out]; rfl
  have k3 : w9.cell? ⟨w.heap.size, 3, none⟩ = some (.int .i64 x28) := by rw [cell_of_row _ _ _ _ _ _ HR9.out]; rfl
  have k4 : w9.cell? ⟨w.heap.size, 4, none⟩ = some (.bool true) := by rw [cell_of_row _ _ _ _ _ _ HR9.out]; rfl
  have k5 : w9.cell? ⟨w.heap.size, 5, none⟩ = some (.int .i64 x0) := by rw [cell_of_row _ _ _ _ _ _ HR9.out]; rfl
  have k6 : w9.cell? ⟨w.heap.size, 6, none⟩ = some (.int .i64 x8) := by rw [cell_of_row _ _ _ _ _ _ HR9.out]; rfl
  clear hw9
  go_wp2_with (first | (refine wpList_store_row rfl 219 _ _ rfl (w.heap.size) #[.int .i64 x16, .int .i64 x4, .int .i64 x12, .int .i64 x28, .bool true, .int .i64 x0, .int .i64 x8] rfl rfl 219 #[.int .i64 0, .int .i64 0, .int .i64 0, .int .i64 0, .bool false, .int .i64 0, .int .i64 0] H1.out dsInfo rfl dsOne ?_; refine (congrArg _ HE9.out).mpr ?_) | fail)
  refine bodyPost_ret (v := .agg #[.int .i64 x16, .int .i64 x4, .int .i64 x12, .int .i64 x28, .bool true, .int .i64 x0, .int .i64 x8]) (by simp [results, Tryz.results120, go_sem, k0, k1, k2, k3, k4, k5, k6]) rfl ⟨rfl, HB9.out⟩
abbrev SymV := List Nat × Nat × Bool
def symC (x : SymV) : List Value := [.string (txt x.1), .int .i64 x.2.1, .bool x.2.2]
theorem symC_len (x : SymV) : (symC x).length = 3 := rfl
theorem symC_one (x : SymV) : ∀ u ∈ symC x, u.oneCell' = true := by
  intro u hu
  simp [symC] at hu
  rcases hu with rfl | rfl | rfl <;> rfl
def symbolL (b : List Nat) (v : Nat) : Option SymV :=
  if 9223372036854775808 ≤ v then (if 65535 < v - 9223372036854775808 then none else some ([], v - 9223372036854775808, true))
  else if 2147483647 < v then none
  else match textL b (v + 2) 64 with
    | none => none
    | some t => if okSymL t = true then some (t, 0, false) else none
def SymQ (r : Option SymV) (e : Ending) : Prop := ∃ (T : ByteArray) (O : Nat) (B ok : Bool), e = .returned (.tuple #[.agg #[.string T, .int .i64 O, .bool B], .bool ok]) ∧ (r = none → ok = false) ∧ (∀ s, r = some s → ok = true ∧ T = txt s.1 ∧ O = s.2.1 ∧ B = s.2.2)
theorem and_top (v : Nat) (h : v < 18446744073709551616) : bits .and .u64 (v : Int) 9223372036854775808 = if 9223372036854775808 ≤ v then 9223372036854775808 else 0 := by
  have e := u64_and (v : Int) 9223372036854775808 (by omega) (by omega) (by omega) (by omega)
  rw [e, Int.toNat_natCast, show (9223372036854775808 : Int).toNat = 2 ^ 63 from rfl]
  have hb : v.testBit 63 = decide (9223372036854775808 ≤ v) := by
    rw [Nat.testBit_eq_decide_div_mod_eq, decide_eq_decide]
    omega
  by_cases c : 9223372036854775808 ≤ v
  · rw [decide_eq_true c] at hb
    rw [if_pos c]
    have : v &&& 2 ^ 63 = 2 ^ 63 := by
      apply Nat.eq_of_testBit_eq
      intro i
      rw [Nat.testBit_and, Nat.testBit_two_pow]
      by_cases e : 63 = i
      · subst e; simp [hb]
      · simp [e]
    rw [this]; rfl
  · rw [decide_eq_false c] at hb
    rw [if_neg c]
    have : v &&& 2 ^ 63 = 0 := by
      apply Nat.eq_of_testBit_eq
      intro i
      rw [Nat.testBit_and, Nat.testBit_two_pow, Nat.zero_testBit]
      by_cases e : 63 = i
      · subst e; simp [hb]
      · simp [e]
    rw [this]; rfl
theorem syOneI {n : Int} {S : ByteArray} {b : Bool} : (#[.string S, .int .i64 n, .bool b] : Array Value).all (·.oneCell') = true := by simp [Value.oneCell']
theorem syInfoI {x y z : Value} : (Tryz.prog.info? 58).map (·.size) = some (#[x, y, z] : Array Value).size := by kernel_rfl
set_option maxRecDepth 100000 in
set_option maxHeartbeats 4000000 in
theorem symbol_any (A : Option Addr) (cap : Nat) (bs : List Nat) (v : Nat) (w : World) (hl : bs.length ≤ cap) (hc : cap ≤ 9223372036854775807) (hb : Lb bs) (hs : SlB w A bs.length (lF bs)) (hv : v < 18446744073709551616) :
    Calls Tryz.prog 147 #[.slice A bs.length cap, .int .u64 v] w fun e w' => SymQ (symbolL bs v) e ∧ Below w.heap.size w w' := by
  obtain ⟨w1, hw1⟩ : ∃ w1, w.alloc (.cells #[.string ⟨#[]⟩, .int .i64 0, .bool false] 58) = w1 := ⟨_, rfl⟩
  have HE1 := Lib.hid hw1
  have HB := Lib.hid (show Below w.heap.size w w1 from by rw [← hw1]; exact (Below.refl _ _).alloc (Nat.le_refl _) _)
  have H1 := Lib.hid (show w1.heap[w.heap.size]? = some (.cells #[.string ⟨#[]⟩, .int .i64 0, .bool false] 58 (0, 0)) from by rw [← hw1]; exact heap_alloc_new w _)
  clear hw1
  obtain ⟨R, hR⟩ : ∃ R, symbolL bs v = R := ⟨_, rfl⟩
  rw [hR]
  unfold symbolL at hR
  have hand := and_top v hv
  by_cases c63 : 9223372036854775808 ≤ v
  · rw [if_pos c63] at hR hand
    obtain ⟨y, hy⟩ : ∃ y, v - 9223372036854775808 = y := ⟨_, rfl⟩
    have hvy : (v : Int) - 9223372036854775808 = (y : Int) := by omega
    have hyb : y < 9223372036854775808 := by omega
    have hwy : IntKind.u64.wrap (y : Int) = (y : Int) := by rw [IntKind.wrap_u64]; omega
    have hwi : IntKind.i64.wrap (y : Int) = (y : Int) := by rw [IntKind.wrap_i64]; omega
    rw [hy] at hR
    clear hy c63 hs hb
    by_cases cy : 65535 < y
    · rw [if_pos cy] at hR
      have HR := Lib.hid hR
      have dy : (65535 : Int) < (y : Int) := by omega
      clear hR cy
      go_enter Tryz.func147, Tryz.ntmps147
      go_upto_region 1 with (fail)
      refine (congrArg _ HE1.out).mpr ?_
      obtain ⟨w9, hw9⟩ : ∃ w9, w1.setRow (w.heap.size) #[.string ⟨#[]⟩, .int .i64 0, .bool false] = w9 := ⟨_, rfl⟩
      have HE9 := Lib.hid hw9
      have HR9 := Lib.hid (show w9.heap[w.heap.size]? = some (.cells #[.string ⟨#[]⟩, .int .i64 0, .bool false] 58 (0, 0)) from by rw [← hw9]; exact setRow_heap _ _ _ _ _ _ H1.out)
      have HB9 := Lib.hid (show Below w.heap.size w w9 from by rw [← hw9]; exact below_setRow HB.out (Nat.le_refl _) _)
      have k0 : w9.cell? ⟨w.heap.size, 0, none⟩ = some (.string ⟨#[]⟩) := by rw [cell_of_row _ _ _ _ _ _ HR9.out]; rfl
      have k1 : w9.cell? ⟨w.heap.size, 1, none⟩ = some (.int .i64 0) := by rw [cell_of_row _ _ _ _ _ _ HR9.out]; rfl
      have k2 : w9.cell? ⟨w.heap.size, 2, none⟩ = some (.bool false) := by rw [cell_of_row _ _ _ _ _ _ HR9.out]; rfl
      clear hw9
      go_upto_region 4 with (fail)
      go_wp2_with (first | (refine wpList_store_row rfl 58 _ _ rfl (w.heap.size) #[.string ⟨#[]⟩, .int .i64 0, .bool false] rfl rfl 58 #[.string ⟨#[]⟩, .int .i64 0, .bool false] H1.out syInfoI rfl syOneI ?_; refine (congrArg _ HE9.out).mpr ?_) | fail)
      refine bodyPost_ret (v := .tuple #[.agg #[.string ⟨#[]⟩, .int .i64 0, .bool false], .bool false]) (by simp [results, Tryz.results147, go_sem, k0, k1, k2]) rfl ⟨⟨_, 0, _, _, rfl, fun _ => rfl, fun s hs => absurd (HR.out.trans hs) (by simp)⟩, HB9.out⟩
    · rw [if_neg cy] at hR
      have HR := Lib.hid hR
      have dy : ¬ (65535 : Int) < (y : Int) := by omega
      clear hR cy
      go_enter Tryz.func147, Tryz.ntmps147
      go_upto_region 1 with (fail)
      refine (congrArg _ HE1.out).mpr ?_
      obtain ⟨w9, hw9⟩ : ∃ w9, w1.setRow (w.heap.size) #[.string ⟨#[]⟩, .int .i64 y, .bool true] = w9 := ⟨_, rfl⟩
      have HE9 := Lib.hid hw9
      have HR9 := Lib.hid (show w9.heap[w.heap.size]? = some (.cells #[.string ⟨#[]⟩, .int .i64 y, .bool true] 58 (0, 0)) from by rw [← hw9]; exact setRow_heap _ _ _ _ _ _ H1.out)
      have HB9 := Lib.hid (show Below w.heap.size w w9 from by rw [← hw9]; exact below_setRow HB.out (Nat.le_refl _) _)
      have k0 : w9.cell? ⟨w.heap.size, 0, none⟩ = some (.string ⟨#[]⟩) := by rw [cell_of_row _ _ _ _ _ _ HR9.out]; rfl
      have k1 : w9.cell? ⟨w.heap.size, 1, none⟩ = some (.int .i64 y) := by rw [cell_of_row _ _ _ _ _ _ HR9.out]; rfl
      have k2 : w9.cell? ⟨w.heap.size, 2, none⟩ = some (.bool true) := by rw [cell_of_row _ _ _ _ _ _ HR9.out]; rfl
      clear hw9
      go_upto_region 5 with (fail)
      go_wp2_with (first | (refine wpList_store_row rfl 58 _ _ rfl (w.heap.size) #[.string ⟨#[]⟩, .int .i64 y, .bool true] rfl rfl 58 #[.string ⟨#[]⟩, .int .i64 0, .bool false] H1.out syInfoI rfl syOneI ?_; refine (congrArg _ HE9.out).mpr ?_) | fail)
      refine bodyPost_ret (v := .tuple #[.agg #[.string ⟨#[]⟩, .int .i64 y, .bool true], .bool true]) (by simp [results, Tryz.results147, go_sem, k0, k1, k2]) rfl ⟨⟨_, y, _, _, rfl, fun h => absurd (HR.out.trans h) (by simp), fun s hs => by have := HR.out.trans hs; injection this with this; subst this; exact ⟨rfl, rfl, rfl, rfl⟩⟩, HB9.out⟩
  · rw [if_neg c63] at hR hand
    by_cases c31 : 2147483647 < v
    · rw [if_pos c31] at hR
      have HR := Lib.hid hR
      have dv : (2147483647 : Int) < (v : Int) := by omega
      clear hR c31 c63 hs hb
      go_enter Tryz.func147, Tryz.ntmps147
      go_upto_region 1 with (fail)
      refine (congrArg _ HE1.out).mpr ?_
      obtain ⟨w9, hw9⟩ : ∃ w9, w1.setRow (w.heap.size) #[.string ⟨#[]⟩, .int .i64 0, .bool false] = w9 := ⟨_, rfl⟩
      have HE9 := Lib.hid hw9
      have HR9 := Lib.hid (show w9.heap[w.heap.size]? = some (.cells #[.string ⟨#[]⟩, .int .i64 0, .bool false] 58 (0, 0)) from by rw [← hw9]; exact setRow_heap _ _ _ _ _ _ H1.out)
      have HB9 := Lib.hid (show Below w.heap.size w w9 from by rw [← hw9]; exact below_setRow HB.out (Nat.le_refl _) _)
      have k0 : w9.cell? ⟨w.heap.size, 0, none⟩ = some (.string ⟨#[]⟩) := by rw [cell_of_row _ _ _ _ _ _ HR9.out]; rfl
      have k1 : w9.cell? ⟨w.heap.size, 1, none⟩ = some (.int .i64 0) := by rw [cell_of_row _ _ _ _ _ _ HR9.out]; rfl
      have k2 : w9.cell? ⟨w.heap.size, 2, none⟩ = some (.bool false) := by rw [cell_of_row _ _ _ _ _ _ HR9.out]; rfl
      clear hw9
      go_upto_region 7 with (fail)
      go_wp2_with (first | (refine wpList_store_row rfl 58 _ _ rfl (w.heap.size) #[.string ⟨#[]⟩, .int .i64 0, .bool false] rfl rfl 58 #[.string ⟨#[]⟩, .int .i64 0, .bool false] H1.out syInfoI rfl syOneI ?_; refine (congrArg _ HE9.out).mpr ?_) | fail)
      refine bodyPost_ret (v := .tuple #[.agg #[.string ⟨#[]⟩, .int .i64 0, .bool false], .bool false]) (by simp [results, Tryz.results147, go_sem, k0, k1, k2]) rfl ⟨⟨_, 0, _, _, rfl, fun _ => rfl, fun s hs => absurd (HR.out.trans hs) (by simp)⟩, HB9.out⟩
    · rw [if_neg c31] at hR
      have dv : ¬ (2147483647 : Int) < (v : Int) := by omega
      obtain ⟨y, hy⟩ : ∃ y, v + 2 = y := ⟨_, rfl⟩
      have hvy : (v : Int) + 2 = (y : Int) := by omega
      have hwv : IntKind.i64.wrap (v : Int) = (v : Int) := by rw [IntKind.wrap_i64]; omega
      have hwy : IntKind.i64.wrap (y : Int) = (y : Int) := by rw [IntKind.wrap_i64]; omega
      rw [hy] at hR
      have HTX := Lib.hid (text_list A cap bs y 64 w1 hc hl (SlB.below hs HB.out))
      clear hy c63 c31 hs hl hc hv
      rcases ht : textL bs y 64 with _ | t
      · rw [ht] at HTX hR
        simp only at HTX hR
        have HR := Lib.hid hR
        clear hR ht hb
        go_enter Tryz.func147, Tryz.ntmps147
        go_upto_region 1 with (fail)
        refine (congrArg _ HE1.out).mpr ?_
        go_wp2_with fail
        refine HTX.out.mono ?_
        rintro e w' ⟨rfl, rfl⟩
        obtain ⟨w9, hw9⟩ : ∃ w9, w1.setRow (w.heap.size) #[.string ⟨#[]⟩, .int .i64 0, .bool false] = w9 := ⟨_, rfl⟩
        have HE9 := Lib.hid hw9
        have HR9 := Lib.hid (show w9.heap[w.heap.size]? = some (.cells #[.string ⟨#[]⟩, .int .i64 0, .bool false] 58 (0, 0)) from by rw [← hw9]; exact setRow_heap _ _ _ _ _ _ H1.out)
        have HB9 := Lib.hid (show Below w.heap.size w w9 from by rw [← hw9]; exact below_setRow HB.out (Nat.le_refl _) _)
        have k0 : w9.cell? ⟨w.heap.size, 0, none⟩ = some (.string ⟨#[]⟩) := by rw [cell_of_row _ _ _ _ _ _ HR9.out]; rfl
        have k1 : w9.cell? ⟨w.heap.size, 1, none⟩ = some (.int .i64 0) := by rw [cell_of_row _ _ _ _ _ _ HR9.out]; rfl
        have k2 : w9.cell? ⟨w.heap.size, 2, none⟩ = some (.bool false) := by rw [cell_of_row _ _ _ _ _ _ HR9.out]; rfl
        clear hw9
        go_upto_region 10 with (fail)
        go_wp2_with (first | (refine wpList_store_row rfl 58 _ _ rfl (w.heap.size) #[.string ⟨#[]⟩, .int .i64 0, .bool false] rfl rfl 58 #[.string ⟨#[]⟩, .int .i64 0, .bool false] H1.out syInfoI rfl syOneI ?_; refine (congrArg _ HE9.out).mpr ?_) | fail)
        refine bodyPost_ret (v := .tuple #[.agg #[.string ⟨#[]⟩, .int .i64 0, .bool false], .bool false]) (by simp [results, Tryz.results147, go_sem, k0, k1, k2]) rfl ⟨⟨_, 0, _, _, rfl, fun _ => rfl, fun s hs => absurd (HR.out.trans hs) (by simp)⟩, HB9.out⟩
      · rw [ht] at HTX hR
        have hlt := textL_lb' hb ht
        have HSY := Lib.hid (fun W => symOk_any t W hlt.1 (by have := hlt.2; omega))
        simp only at HTX hR
        clear ht hlt hb
        by_cases hok : okSymL t = true
        · rw [if_pos hok] at hR
          rw [hok] at HSY
          have HR := Lib.hid hR
          clear hR hok
          go_enter Tryz.func147, Tryz.ntmps147
          go_upto_region 1 with (fail)
          refine (congrArg _ HE1.out).mpr ?_
          go_wp2_with fail
          refine HTX.out.mono ?_
          rintro e w' ⟨rfl, rfl⟩
          go_wp2_with fail
          refine (HSY.out _).mono ?_
          rintro e w' ⟨rfl, rfl⟩
          obtain ⟨w9, hw9⟩ : ∃ w9, w1.setRow (w.heap.size) #[.string (txt t), .int .i64 0, .bool false] = w9 := ⟨_, rfl⟩
          have HE9 := Lib.hid hw9
          have HR9 := Lib.hid (show w9.heap[w.heap.size]? = some (.cells #[.string (txt t), .int .i64 0, .bool false] 58 (0, 0)) from by rw [← hw9]; exact setRow_heap _ _ _ _ _ _ H1.out)
          have HB9 := Lib.hid (show Below w.heap.size w w9 from by rw [← hw9]; exact below_setRow HB.out (Nat.le_refl _) _)
          have k0 : w9.cell? ⟨w.heap.size, 0, none⟩ = some (.string (txt t)) := by rw [cell_of_row _ _ _ _ _ _ HR9.out]; rfl
          have k1 : w9.cell? ⟨w.heap.size, 1, none⟩ = some (.int .i64 0) := by rw [cell_of_row _ _ _ _ _ _ HR9.out]; rfl
          have k2 : w9.cell? ⟨w.heap.size, 2, none⟩ = some (.bool false) := by rw [cell_of_row _ _ _ _ _ _ HR9.out]; rfl
          clear hw9
          go_upto_region 11 with (fail)
          go_wp2_with (first | (refine wpList_store_row rfl 58 _ _ rfl (w.heap.size) #[.string (txt t), .int .i64 0, .bool false] rfl rfl 58 #[.string ⟨#[]⟩, .int .i64 0, .bool false] H1.out syInfoI rfl syOneI ?_; refine (congrArg _ HE9.out).mpr ?_) | fail)
          refine bodyPost_ret (v := .tuple #[.agg #[.string (txt t), .int .i64 0, .bool false], .bool true]) (by simp [results, Tryz.results147, go_sem, k0, k1, k2]) rfl ⟨⟨_, 0, _, _, rfl, fun h => absurd (HR.out.trans h) (by simp), fun s hs => by have := HR.out.trans hs; injection this with this; subst this; exact ⟨rfl, rfl, rfl, rfl⟩⟩, HB9.out⟩
        · rw [if_neg hok] at hR
          rw [show okSymL t = false by simpa using hok] at HSY
          have HR := Lib.hid hR
          clear hR hok
          go_enter Tryz.func147, Tryz.ntmps147
          go_upto_region 1 with (fail)
          refine (congrArg _ HE1.out).mpr ?_
          go_wp2_with fail
          refine HTX.out.mono ?_
          rintro e w' ⟨rfl, rfl⟩
          go_wp2_with fail
          refine (HSY.out _).mono ?_
          rintro e w' ⟨rfl, rfl⟩
          obtain ⟨w9, hw9⟩ : ∃ w9, w1.setRow (w.heap.size) #[.string ⟨#[]⟩, .int .i64 0, .bool false] = w9 := ⟨_, rfl⟩
          have HE9 := Lib.hid hw9
          have HR9 := Lib.hid (show w9.heap[w.heap.size]? = some (.cells #[.string ⟨#[]⟩, .int .i64 0, .bool false] 58 (0, 0)) from by rw [← hw9]; exact setRow_heap _ _ _ _ _ _ H1.out)
          have HB9 := Lib.hid (show Below w.heap.size w w9 from by rw [← hw9]; exact below_setRow HB.out (Nat.le_refl _) _)
          have k0 : w9.cell? ⟨w.heap.size, 0, none⟩ = some (.string ⟨#[]⟩) := by rw [cell_of_row _ _ _ _ _ _ HR9.out]; rfl
          have k1 : w9.cell? ⟨w.heap.size, 1, none⟩ = some (.int .i64 0) := by rw [cell_of_row _ _ _ _ _ _ HR9.out]; rfl
          have k2 : w9.cell? ⟨w.heap.size, 2, none⟩ = some (.bool false) := by rw [cell_of_row _ _ _ _ _ _ HR9.out]; rfl
          clear hw9
          go_upto_region 10 with (fail)
          go_wp2_with (first | (refine wpList_store_row rfl 58 _ _ rfl (w.heap.size) #[.string ⟨#[]⟩, .int .i64 0, .bool false] rfl rfl 58 #[.string ⟨#[]⟩, .int .i64 0, .bool false] H1.out syInfoI rfl syOneI ?_; refine (congrArg _ HE9.out).mpr ?_) | fail)
          refine bodyPost_ret (v := .tuple #[.agg #[.string ⟨#[]⟩, .int .i64 0, .bool false], .bool false]) (by simp [results, Tryz.results147, go_sem, k0, k1, k2]) rfl ⟨⟨_, 0, _, _, rfl, fun _ => rfl, fun s hs => absurd (HR.out.trans hs) (by simp)⟩, HB9.out⟩
abbrev ExpV := Nat × List FnV × List NmV
def parseE (b : List Nat) (rva size : Int) : Option ExpV :=
  if rva = 0 then some (0, [], [])
  else match findE b rva size with
    | none => none
    | some r => match funcsL b rva.toNat size.toNat r.atF r.funcs 0 [] with
      | none => none
      | some f => match namesL b r.atN r.atI r.funcs r.names 0 [] [] with
        | none => none
        | some n => some (r.base, f, n)
def ParseE (w w' : World) (r : Option ExpV) (e : Ending) : Prop := match r with
  | none => e = .returned (.tuple #[.agg #[.int .i64 0, .slice none 0 0, .slice none 0 0], .int .i64 11])
  | some x => ∃ A c A' c', e = .returned (.tuple #[.agg #[.int .i64 x.1, .slice A x.2.1.length c, .slice A' x.2.2.length c'], .int .i64 0]) ∧ OwnT gC 2 w' w.heap.size 74 (.slice A x.2.1.length c) x.2.1 ∧ OwnT nC 2 w' w.heap.size 76 (.slice A' x.2.2.length c') x.2.2
theorem findE_some {b : List Nat} {rva size : Int} {r : Rw} (h : findE b rva size = some r) : 0 ≤ rva ∧ 40 ≤ size ∧ rva ≤ b.length - size ∧ r.funcs ≤ 256 ∧ r.names ≤ 256 ∧ (r.funcs = 0 ∨ r.atF + 4 * r.funcs ≤ b.length) ∧ (r.names = 0 ∨ (r.atN + 4 * r.names ≤ b.length ∧ r.atI + 2 * r.names ≤ b.length)) := by
  unfold findE at h
  by_cases c : 40 ≤ size ∧ 0 ≤ rva ∧ rva ≤ b.length - size
  · rw [if_pos c] at h
    by_cases k : (rowsL b rva.toNat).ok b.length = true
    · rw [if_pos k] at h
      injection h with h
      subst h
      simp only [Rw.ok, inL, Bool.and_eq_true, Bool.or_eq_true, decide_eq_true_eq] at k
      omega
    · rw [if_neg k] at h; exact absurd h (by simp)
  · rw [if_neg c] at h; exact absurd h (by simp)
theorem expOne {n : Int} {A A' : Option Addr} {a b c d : Nat} : (#[.int .i64 n, .slice A a b, .slice A' c d] : Array Value).all (·.oneCell') = true := by simp [Value.oneCell']
theorem expInfo {x y z : Value} : (Tryz.prog.info? 45).map (·.size) = some (#[x, y, z] : Array Value).size := by kernel_rfl
set_option maxRecDepth 100000 in
set_option maxHeartbeats 4000000 in
theorem parseE_any (A : Option Addr) (cap : Nat) (bs : List Nat) (rva size : Int) (w : World) (hb : Lb bs) (hl : bs.length ≤ cap) (hc : cap ≤ 9223372036854775807) (hlen : bs.length ≤ 1099511627776) (hs : SlB w A bs.length (lF bs)) (hr : -9223372036854775808 ≤ rva) (hr' : rva ≤ 9223372036854775807) (hz : -9223372036854775808 ≤ size) (hz' : size ≤ 9223372036854775807) :
    Calls Tryz.prog 79 #[.slice A bs.length cap, .agg #[.int .i64 rva, .int .i64 size]] w fun e w' => ParseE w w' (parseE bs rva size) e ∧ Below w.heap.size w w' := by
  obtain ⟨R, hR⟩ : ∃ R, parseE bs rva size = R := ⟨_, rfl⟩
  rw [hR]
  unfold parseE at hR
  by_cases c0 : rva = 0
  · subst c0
    rw [if_pos rfl] at hR
    subst hR
    clear hs
    go_enter Tryz.func79, Tryz.ntmps79
    go_wp2_with fail
    refine bodyPost_ret (v := .tuple #[.agg #[.int .i64 0, .slice none 0 0, .slice none 0 0], .int .i64 0]) (by simp [results, Tryz.results79, go_sem]) rfl ⟨⟨none, 0, none, 0, rfl, OwnT.nil _ _ _, OwnT.nil _ _ _⟩, by go_grown⟩
  rw [if_neg c0] at hR
  have d0 : (rva == 0) = false := beq_eq_false_iff_ne.mpr c0
  have HS := Lib.hid (fun W (hW : Below w.heap.size w W) => SlB.below hs hW)
  have HLB := Lib.hid hb
  have HFD := Lib.hid (fun W (hW : Below w.heap.size w W) => find_any A cap bs rva size W hb hl hc hlen (HS.out W hW) hr hr' hz hz')
  have HLC := Lib.hid (And.intro hl (And.intro hc hlen))
  have HRZ := Lib.hid (And.intro hr' hz')
  have HRE := Lib.hid hR
  clear hs c0 hR
  go_enter Tryz.func79, Tryz.ntmps79
  go_wp2_with fail
  refine (HFD.out _ (by go_grown)).mono ?_
  rintro e w1 ⟨hq, hw1⟩
  have hd1 : w1.heap[w.heap.size]? = some (.cells #[.int .i64 rva, .int .i64 size] 37 (0, 0)) :=
    (hw1.block w.heap.size (by simp; omega)).trans ((Below.heap_alloc _ _ w.heap.size (by simp)).trans (heap_alloc_new w _))
  have hx1 : w1.heap[w.heap.size + 1]? = some (.cells #[.int .i64 0, .slice none 0 0, .slice none 0 0] 45 (0, 0)) := (hw1.block (w.heap.size + 1) (by simp)).trans (by
    have h := heap_alloc_new (w.alloc (.cells #[.int .i64 rva, .int .i64 size] 37)) (.cells #[.int .i64 0, .slice none 0 0, .slice none 0 0] 45)
    rwa [show (w.alloc (.cells #[.int .i64 rva, .int .i64 size] 37)).heap.size = w.heap.size + 1 by simp] at h)
  have hb1 : Below w.heap.size w w1 := (((Below.refl w.heap.size w).alloc (Nat.le_refl _) _).alloc (by simp) _).trans (hw1.mono (by simp; omega))
  have HD1 := Lib.hid hd1
  have HX1 := Lib.hid hx1
  have HB1 := Lib.hid hb1
  clear hd1 hx1 hb1 hw1 HFD
  obtain ⟨r, ok, rfl, hq1, hq2⟩ : ∃ (r : Rw) (ok : Bool), e = .returned (.tuple #[.agg r.cells, .bool ok]) ∧ (findE bs rva size = none → ok = false) ∧ (∀ r', findE bs rva size = some r' → ok = true ∧ r' = r) := by
    unfold FindQ at hq
    rcases hf : findE bs rva size with _ | r
    · rw [hf] at hq
      obtain ⟨r, rfl⟩ := hq
      exact ⟨r, false, rfl, fun _ => rfl, fun r' h => absurd h (by simp)⟩
    · rw [hf] at hq
      exact ⟨r, true, hq, fun h => absurd h (by simp), fun r' h => ⟨rfl, by injection h with h; exact h.symm⟩⟩
  obtain ⟨b0, b1, b2, b3, b4, b5⟩ := r
  obtain ⟨w2, hw2⟩ : ∃ w2, (w1.alloc (.cells #[.int .i64 0, .int .i64 0, .int .i64 0, .int .i64 0, .int .i64 0, .int .i64 0] 187)).setRow w1.heap.size (Rw.cells ⟨b0, b1, b2, b3, b4, b5⟩) = w2 := ⟨_, rfl⟩
  have hle : w.heap.size + 2 ≤ w1.heap.size := lt_of_row' HX1.out
  have ha := ((Below.refl w1.heap.size w1).alloc (Nat.le_refl _) (.cells #[.int .i64 0, .int .i64 0, .int .i64 0, .int .i64 0, .int .i64 0, .int .i64 0] 187))
  have hs2 : Below w1.heap.size w1 w2 := by rw [← hw2]; exact below_setRow ha (Nat.le_refl _) _
  have HB2 := Lib.hid (HB1.out.trans (hs2.mono HB1.out.size))
  have HD2 := Lib.hid ((hs2.block w.heap.size (by omega)).trans HD1.out)
  have HX2 := Lib.hid ((hs2.block (w.heap.size + 1) (by omega)).trans HX1.out)
  have HR2 := Lib.hid (show w2.heap[w1.heap.size]? = some (.cells (Rw.cells ⟨b0, b1, b2, b3, b4, b5⟩) 187 (0, 0)) from by rw [← hw2]; exact setRow_heap _ _ _ _ _ _ (heap_alloc_new w1 _))
  have HE2 := Lib.hid hw2
  have HLE := Lib.hid hle
  clear hw2 hle ha hs2 hq
  go_upto_region 4 with (first | (refine wpList_store_row rfl 187 _ _ rfl w1.heap.size (Rw.cells ⟨b0, b1, b2, b3, b4, b5⟩) rfl rfl 187 _ (heap_alloc_new w1 _) (Rw.info _) rfl (Rw.one _) ?_; refine (congrArg _ HE2.out).mpr ?_) | fail)
  -- END
  generalize w1.heap.size = b6 at *
  clear HD1 HX1 HB1 HE2
  rcases hf : findE bs rva size with _ | r
  · obtain rfl := hq1 hf
    have hre := HRE.out
    rw [hf] at hre
    simp only at hre
    subst hre
    clear hq1 hq2 hf
    obtain ⟨w9, hw9⟩ : ∃ w9, w2.setRow (w.heap.size + 1) #[.int .i64 0, .slice none 0 0, .slice none 0 0] = w9 := ⟨_, rfl⟩
    have HE9 := Lib.hid hw9
    have HR9 := Lib.hid (show w9.heap[w.heap.size + 1]? = some (.cells #[.int .i64 0, .slice none 0 0, .slice none 0 0] 45 (0, 0)) from by rw [← hw9]; exact setRow_heap _ _ _ _ _ _ HX2.out)
    have HB9 := Lib.hid (show Below w.heap.size w w9 from by rw [← hw9]; exact below_setRow HB2.out (Nat.le_succ _) _)
    have k0 : w9.cell? ⟨w.heap.size + 1, 0, none⟩ = some (.int .i64 0) := by rw [cell_of_row _ _ _ _ _ _ HR9.out]; rfl
    have k1 : w9.cell? ⟨w.heap.size + 1, 1, none⟩ = some (.slice none 0 0) := by rw [cell_of_row _ _ _ _ _ _ HR9.out]; rfl
    have k2 : w9.cell? ⟨w.heap.size + 1, 2, none⟩ = some (.slice none 0 0) := by rw [cell_of_row _ _ _ _ _ _ HR9.out]; rfl
    clear hw9
    go_wp2_with (first | (refine wpList_store_row rfl 45 _ _ rfl (w.heap.size + 1) #[.int .i64 0, .slice none 0 0, .slice none 0 0] rfl rfl 45 #[.int .i64 0, .slice none 0 0, .slice none 0 0] HX2.out expInfo rfl expOne ?_; refine (congrArg _ HE9.out).mpr ?_) | fail)
    refine bodyPost_ret (v := .tuple #[.agg #[.int .i64 0, .slice none 0 0, .slice none 0 0], .int .i64 11]) (by simp [results, Tryz.results79, go_sem, k0, k1, k2]) rfl ⟨?_, HB9.out⟩
    exact rfl
  · obtain ⟨rfl, hr0⟩ := hq2 _ hf
    subst hr0
    obtain ⟨g1, g2, g3, g4, g5, g6, g7⟩ := findE_some hf
    simp only at g4 g5 g6 g7
    have hre := HRE.out
    rw [hf] at hre
    simp only at hre
    obtain ⟨o, rfl⟩ : ∃ o : Nat, rva = (o : Int) := ⟨rva.toNat, by omega⟩
    obtain ⟨z, rfl⟩ : ∃ z : Nat, size = (z : Int) := ⟨size.toNat, by omega⟩
    rw [Int.toNat_natCast, Int.toNat_natCast] at hre
    have HRE2 := Lib.hid hre
    have HF := Lib.hid (fun W (hW : Below w.heap.size w W) => readFuncs_any A cap bs o z b0 b1 b2 b3 b4 b5 W HLB.out HLC.out.1 HLC.out.2.1 HLC.out.2.2 (HS.out W hW) (by omega) (by omega) g4 g6)
    have HN := Lib.hid (fun W (hW : Below w.heap.size w W) => readNames_any A cap bs b0 b1 b2 b3 b4 b5 W HLB.out HLC.out.1 HLC.out.2.1 HLC.out.2.2 (HS.out W hW) g5 g7)
    clear hq1 hq2 hf hre g1 g2 g3 g4 g5 g6 g7 HRE hr hr' hz hz'
    have c0 : w2.cell? ⟨b6, 0, none⟩ = some (.int .i64 b0) := by rw [cell_of_row _ _ _ _ _ _ HR2.out]; rfl
    have c1 : w2.cell? ⟨b6, 1, none⟩ = some (.int .i64 b1) := by rw [cell_of_row _ _ _ _ _ _ HR2.out]; rfl
    have c2 : w2.cell? ⟨b6, 2, none⟩ = some (.int .i64 b2) := by rw [cell_of_row _ _ _ _ _ _ HR2.out]; rfl
    have c3 : w2.cell? ⟨b6, 3, none⟩ = some (.int .i64 b3) := by rw [cell_of_row _ _ _ _ _ _ HR2.out]; rfl
    have c4 : w2.cell? ⟨b6, 4, none⟩ = some (.int .i64 b4) := by rw [cell_of_row _ _ _ _ _ _ HR2.out]; rfl
    have c5 : w2.cell? ⟨b6, 5, none⟩ = some (.int .i64 b5) := by rw [cell_of_row _ _ _ _ _ _ HR2.out]; rfl
    have e0 : w2.cell? ⟨w.heap.size, 0, none⟩ = some (.int .i64 o) := by rw [cell_of_row _ _ _ _ _ _ HD2.out]; rfl
    have e1 : w2.cell? ⟨w.heap.size, 1, none⟩ = some (.int .i64 z) := by rw [cell_of_row _ _ _ _ _ _ HD2.out]; rfl
    simp only [Rw.cells]
    go_wp2_with fail
    refine (HF.out w2 HB2.out).mono ?_
    rintro e w3 ⟨hq, hw3⟩
    have HB3 := Lib.hid (HB2.out.trans (hw3.mono HB2.out.size))
    have HD3 := Lib.hid ((hw3.block w.heap.size (lt_of_row' HD2.out)).trans HD2.out)
    have HX3 := Lib.hid ((hw3.block (w.heap.size + 1) (lt_of_row' HX2.out)).trans HX2.out)
    have HR3 := Lib.hid ((hw3.block b6 (lt_of_row' HR2.out)).trans HR2.out)
    have HG3 := Lib.hid (lt_of_row' HX2.out)
    clear hw3 c0 c1 c2 c3 c4 c5 e0 e1 HF
    rcases hfl : funcsL bs o z b3 b1 0 [] with _ | f
    · rw [hfl] at hq
      have hq' : e = .returned (.tuple #[.slice none 0 0, .bool false]) := hq
      subst hq'
      have hre := HRE2.out
      rw [hfl] at hre
      simp only at hre
      subst hre
      clear hq hfl
      obtain ⟨w9, hw9⟩ : ∃ w9, w3.setRow (w.heap.size + 1) #[.int .i64 0, .slice none 0 0, .slice none 0 0] = w9 := ⟨_, rfl⟩
      have HE9 := Lib.hid hw9
      have HR9 := Lib.hid (show w9.heap[w.heap.size + 1]? = some (.cells #[.int .i64 0, .slice none 0 0, .slice none 0 0] 45 (0, 0)) from by rw [← hw9]; exact setRow_heap _ _ _ _ _ _ HX3.out)
      have HB9 := Lib.hid (show Below w.heap.size w w9 from by rw [← hw9]; exact below_setRow HB3.out (Nat.le_succ _) _)
      have k0 : w9.cell? ⟨w.heap.size + 1, 0, none⟩ = some (.int .i64 0) := by rw [cell_of_row _ _ _ _ _ _ HR9.out]; rfl
      have k1 : w9.cell? ⟨w.heap.size + 1, 1, none⟩ = some (.slice none 0 0) := by rw [cell_of_row _ _ _ _ _ _ HR9.out]; rfl
      have k2 : w9.cell? ⟨w.heap.size + 1, 2, none⟩ = some (.slice none 0 0) := by rw [cell_of_row _ _ _ _ _ _ HR9.out]; rfl
      clear hw9
      go_wp2_with (first | (refine wpList_store_row rfl 45 _ _ rfl (w.heap.size + 1) #[.int .i64 0, .slice none 0 0, .slice none 0 0] rfl rfl 45 #[.int .i64 0, .slice none 0 0, .slice none 0 0] HX3.out expInfo rfl expOne ?_; refine (congrArg _ HE9.out).mpr ?_) | fail)
      refine bodyPost_ret (v := .tuple #[.agg #[.int .i64 0, .slice none 0 0, .slice none 0 0], .int .i64 11]) (by simp [results, Tryz.results79, go_sem, k0, k1, k2]) rfl ⟨?_, HB9.out⟩
      exact rfl
    · rw [hfl] at hq
      obtain ⟨A1, c1, rfl, ho1⟩ := hq
      have HO1 := Lib.hid ho1
      have hre := HRE2.out
      rw [hfl] at hre
      simp only at hre
      have HRE3 := Lib.hid hre
      clear hfl hre ho1 HRE2
      have c0 : w3.cell? ⟨b6, 0, none⟩ = some (.int .i64 b0) := by rw [cell_of_row _ _ _ _ _ _ HR3.out]; rfl
      have cc1 : w3.cell? ⟨b6, 1, none⟩ = some (.int .i64 b1) := by rw [cell_of_row _ _ _ _ _ _ HR3.out]; rfl
      have c2 : w3.cell? ⟨b6, 2, none⟩ = some (.int .i64 b2) := by rw [cell_of_row _ _ _ _ _ _ HR3.out]; rfl
      have c3 : w3.cell? ⟨b6, 3, none⟩ = some (.int .i64 b3) := by rw [cell_of_row _ _ _ _ _ _ HR3.out]; rfl
      have c4 : w3.cell? ⟨b6, 4, none⟩ = some (.int .i64 b4) := by rw [cell_of_row _ _ _ _ _ _ HR3.out]; rfl
      have c5 : w3.cell? ⟨b6, 5, none⟩ = some (.int .i64 b5) := by rw [cell_of_row _ _ _ _ _ _ HR3.out]; rfl
      have e0 : w3.cell? ⟨w.heap.size, 0, none⟩ = some (.int .i64 o) := by rw [cell_of_row _ _ _ _ _ _ HD3.out]; rfl
      have e1 : w3.cell? ⟨w.heap.size, 1, none⟩ = some (.int .i64 z) := by rw [cell_of_row _ _ _ _ _ _ HD3.out]; rfl
      simp only
      go_wp2_with fail
      refine (HN.out w3 HB3.out).mono ?_
      rintro e w4 ⟨hq, hw4⟩
      have HB4 := Lib.hid (HB3.out.trans (hw4.mono HB3.out.size))
      have HX4 := Lib.hid ((hw4.block (w.heap.size + 1) (lt_of_row' HX3.out)).trans HX3.out)
      have HR4 := Lib.hid ((hw4.block b6 (lt_of_row' HR3.out)).trans HR3.out)
      have HG4 := Lib.hid (lt_of_row' HX3.out)
      replace HO1 := Lib.hid (HO1.out.below hw4)
      clear hw4 c0 cc1 c2 c3 c4 c5 e0 e1 HN
      rcases hnl : namesL bs b4 b5 b1 b2 0 [] [] with _ | n
      · rw [hnl] at hq
        have hq' : e = .returned (.tuple #[.slice none 0 0, .bool false]) := hq
        subst hq'
        have hre := HRE3.out
        rw [hnl] at hre
        simp only at hre
        subst hre
        clear hq hnl
        obtain ⟨w9, hw9⟩ : ∃ w9, w4.setRow (w.heap.size + 1) #[.int .i64 0, .slice none 0 0, .slice none 0 0] = w9 := ⟨_, rfl⟩
        have HE9 := Lib.hid hw9
        have HR9 := Lib.hid (show w9.heap[w.heap.size + 1]? = some (.cells #[.int .i64 0, .slice none 0 0, .slice none 0 0] 45 (0, 0)) from by rw [← hw9]; exact setRow_heap _ _ _ _ _ _ HX4.out)
        have HB9 := Lib.hid (show Below w.heap.size w w9 from by rw [← hw9]; exact below_setRow HB4.out (Nat.le_succ _) _)
        have k0 : w9.cell? ⟨w.heap.size + 1, 0, none⟩ = some (.int .i64 0) := by rw [cell_of_row _ _ _ _ _ _ HR9.out]; rfl
        have k1 : w9.cell? ⟨w.heap.size + 1, 1, none⟩ = some (.slice none 0 0) := by rw [cell_of_row _ _ _ _ _ _ HR9.out]; rfl
        have k2 : w9.cell? ⟨w.heap.size + 1, 2, none⟩ = some (.slice none 0 0) := by rw [cell_of_row _ _ _ _ _ _ HR9.out]; rfl
        clear hw9
        go_wp2_with (first | (refine wpList_store_row rfl 45 _ _ rfl (w.heap.size + 1) #[.int .i64 0, .slice none 0 0, .slice none 0 0] rfl rfl 45 #[.int .i64 0, .slice none 0 0, .slice none 0 0] HX4.out expInfo rfl expOne ?_; refine (congrArg _ HE9.out).mpr ?_) | fail)
        refine bodyPost_ret (v := .tuple #[.agg #[.int .i64 0, .slice none 0 0, .slice none 0 0], .int .i64 11]) (by simp [results, Tryz.results79, go_sem, k0, k1, k2]) rfl ⟨?_, HB9.out⟩
        exact rfl
      · rw [hnl] at hq
        obtain ⟨A2, c2, rfl, ho2⟩ := hq
        have HO2 := Lib.hid ho2
        have hre := HRE3.out
        rw [hnl] at hre
        simp only at hre
        subst hre
        clear hnl ho2
        have cc0 : w4.cell? ⟨b6, 0, none⟩ = some (.int .i64 b0) := by rw [cell_of_row _ _ _ _ _ _ HR4.out]; rfl
        obtain ⟨w9, hw9⟩ : ∃ w9, w4.setRow (w.heap.size + 1) #[.int .i64 b0, .slice A1 f.length c1, .slice A2 n.length c2] = w9 := ⟨_, rfl⟩
        have HE9 := Lib.hid hw9
        have HR9 := Lib.hid (show w9.heap[w.heap.size + 1]? = some (.cells #[.int .i64 b0, .slice A1 f.length c1, .slice A2 n.length c2] 45 (0, 0)) from by rw [← hw9]; exact setRow_heap _ _ _ _ _ _ HX4.out)
        have HB9 := Lib.hid (show Below w.heap.size w w9 from by rw [← hw9]; exact below_setRow HB4.out (Nat.le_succ _) _)
        have k0 : w9.cell? ⟨w.heap.size + 1, 0, none⟩ = some (.int .i64 b0) := by rw [cell_of_row _ _ _ _ _ _ HR9.out]; rfl
        have k1 : w9.cell? ⟨w.heap.size + 1, 1, none⟩ = some (.slice A1 f.length c1) := by rw [cell_of_row _ _ _ _ _ _ HR9.out]; rfl
        have k2 : w9.cell? ⟨w.heap.size + 1, 2, none⟩ = some (.slice A2 n.length c2) := by rw [cell_of_row _ _ _ _ _ _ HR9.out]; rfl
        have HP1 := Lib.hid (show OwnT gC 2 w9 w.heap.size 74 (.slice A1 f.length c1) f from by
          rw [← hw9]
          refine OwnT.of_block (Joins.ownsRow_le HO1.out HB2.out.size) fun k hk => setRow_other _ _ _ _ ?_
          have := (HO1.out.lt k hk).1
          have := HG3.out
          omega)
        have HP2 := Lib.hid (show OwnT nC 2 w9 w.heap.size 76 (.slice A2 n.length c2) n from by
          rw [← hw9]
          refine OwnT.of_block (Joins.ownsRow_le HO2.out HB3.out.size) fun k hk => setRow_other _ _ _ _ ?_
          have := (HO2.out.lt k hk).1
          have := HG4.out
          omega)
        clear hw9
        go_wp2_with (first | (refine wpList_store_row rfl 45 _ _ rfl (w.heap.size + 1) #[.int .i64 b0, .slice A1 f.length c1, .slice A2 n.length c2] rfl rfl 45 #[.int .i64 0, .slice none 0 0, .slice none 0 0] HX4.out expInfo rfl expOne ?_; refine (congrArg _ HE9.out).mpr ?_) | fail)
        refine bodyPost_ret (v := .tuple #[.agg #[.int .i64 b0, .slice A1 f.length c1, .slice A2 n.length c2], .int .i64 0]) (by simp [results, Tryz.results79, go_sem, k0, k1, k2]) rfl ⟨?_, HB9.out⟩
        exact ⟨A1, c1, A2, c2, rfl, HP1.out, HP2.out⟩
end Go.Proofs.YtplgdpjbkdagfaaGreat
namespace Go.Proofs.YtplgdpjbkdagfaaGreat
open Go.ChangeShapes Go.WideShapes Go.ChangeAt Go.RowKit
set_option linter.unusedVariables false
set_option linter.unusedSimpArgs false
theorem ownT_setRowBelow {α : Type} {C : α → List Value} {sz : Nat} {w : World} {base : Nat} {e : TypeId} {v : Value} {l : List α} (h : OwnT C sz w base e v l) {g : Nat} (hg : g < base) (cs : Array Value) : OwnT C sz (w.setRow g cs) base e v l :=
  h.of_block fun k hk => setRow_other w _ _ _ (by have := (h.lt k hk).1; omega)
set_option maxRecDepth 100000
end Go.Proofs.YtplgdpjbkdagfaaGreat
