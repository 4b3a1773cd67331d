/- package exps: the names. -/
import Derived.Test.YtbjabncefhgefaaExpC
import Derived.Laws.Cover1
namespace Go.Proofs.Ytbjabncefhgefaa
open Go.ChangeShapes Go.WideShapes Go.ChangeAt Go.RowKit
set_option linter.unusedVariables false
set_option linter.unusedSimpArgs false

def lessL : List Nat → List Nat → Bool
  | _, [] => false
  | [], _ :: _ => true
  | a :: x, b :: y => decide (a < b) || (a == b && lessL x y)
def leqL (t s : List Nat) : Bool := lessL t s || t == s
theorem u8_lt {a b : Nat} (ha : a ≤ 255) (hb : b ≤ 255) : decide (UInt8.ofNat a < UInt8.ofNat b) = decide (a < b) := by
  rw [decide_eq_decide, UInt8.lt_iff_toNat_lt, UInt8.toNat_ofNat_of_lt' (by simp [UInt8.size]; omega), UInt8.toNat_ofNat_of_lt' (by simp [UInt8.size]; omega)]
theorem u8_inj {a b : Nat} (ha : a ≤ 255) (hb : b ≤ 255) : UInt8.ofNat a = UInt8.ofNat b ↔ a = b := by
  constructor
  · intro h
    have := congrArg UInt8.toNat h
    rwa [UInt8.toNat_ofNat_of_lt' (by simp [UInt8.size]; omega), UInt8.toNat_ofNat_of_lt' (by simp [UInt8.size]; omega)] at this
  · intro h; rw [h]
theorem less_map : ∀ (t s : List Nat), Lb t → Lb s → Op.bytesLess (t.map UInt8.ofNat) (s.map UInt8.ofNat) = lessL t s
  | t, [], _, _ => by cases t <;> rfl
  | [], b :: y, _, _ => rfl
  | a :: x, b :: y, ht, hs => by
    have ha := ht a (by simp)
    have hb := hs b (by simp)
    simp only [List.map_cons, Op.bytesLess, lessL, u8_lt ha hb, less_map x y (fun v hv => ht v (List.mem_cons_of_mem _ hv)) (fun v hv => hs v (List.mem_cons_of_mem _ hv))]
    congr 2
    rw [Bool.eq_iff_iff]
    simp [u8_inj ha hb]
theorem map_inj {t s : List Nat} (ht : Lb t) (hs : Lb s) : (t.map UInt8.ofNat == s.map UInt8.ofNat) = (t == s) := by
  rw [Bool.eq_iff_iff, beq_iff_eq, beq_iff_eq]
  refine ⟨fun h => ?_, fun h => by rw [h]⟩
  apply List.ext_getElem?
  intro i
  have hi := congrArg (·[i]?) h
  simp only [List.getElem?_map] at hi
  rcases h1 : t[i]? with _ | a <;> rcases h2 : s[i]? with _ | b <;> rw [h1, h2] at hi <;> simp at hi
  rw [(u8_inj (ht a (List.mem_of_getElem? h1)) (hs b (List.mem_of_getElem? h2))).1 hi]
theorem txt_list {t : List Nat} (h : Lb t) : (txt t).toList = t.map UInt8.ofNat := by
  rw [ByteArray.toList_eq]
  unfold txt strF
  rw [strOfNums_data, List.map_map]
  apply List.ext_getElem?
  intro i
  rw [List.getElem?_map, List.getElem?_map]
  rcases Nat.lt_or_ge i t.length with hi | hi
  · rw [List.getElem?_range hi, List.getElem?_eq_getElem hi]
    simp [lF, List.getD, hi]
  · rw [List.getElem?_eq_none (by simpa using hi), List.getElem?_eq_none hi]
    rfl
theorem leq_txt {t s : List Nat} (ht : Lb t) (hs : Lb s) : (Op.bytesLess (txt t).toList (txt s).toList || (txt t).toList == (txt s).toList) = leqL t s := by
  rw [txt_list ht, txt_list hs, less_map t s ht hs, map_inj ht hs]; rfl
theorem txt_eq {t s : List Nat} (ht : Lb t) (hs : Lb s) : ((txt t).toList == (txt s).toList) = (t == s) := by
  rw [txt_list ht, txt_list hs, map_inj ht hs]

abbrev NmV := List Nat × Nat
def nC (x : NmV) : List Value := [.string (txt x.1), .int .i64 x.2]
theorem nC_len (x : NmV) : (nC x).length = 2 := rfl
theorem nC_one (x : NmV) : ∀ u ∈ nC x, u.oneCell' = true := by
  intro u hu
  simp [nC] at hu
  rcases hu with rfl | rfl <;> rfl
theorem infoNamed : (Try.prog.info? 42).map (fun i => (i.zero, i.size, i.bytes)) = some (some (.agg #[.string ByteArray.empty, .int .i64 0]), 2, 24) := by kernel_rfl
theorem namedCells (x : Nat) (t : List Nat) (w : World) : ∀ j u, (nC (t, x))[j]? = some u → (w.alloc (.cells #[.string (txt t), .int .i64 x] 42)).cell? ⟨w.heap.size, j, none⟩ = some u := by
  intro j u hu
  rcases j with _ | _ | j
  · simp [nC] at hu; subst hu; simp [go_sem]
  · simp [nC] at hu; subst hu; simp [go_sem]
  · simp [nC] at hu

/-- The names from the i-th on, with so many left, behind a last one. -/
def namesL (b : List Nat) (atN atI funcs : Nat) : Nat → Nat → List Nat → List NmV → Option (List NmV)
  | 0, _, _, acc => some acc
  | k + 1, i, last, acc => match textL b (numL (b.drop (atN + 4 * i)) 4) 64 with
    | none => none
    | some t => if okSymL t = true then
        if leqL t last = true then none
        else if numL (b.drop (atI + 2 * i)) 2 < funcs then namesL b atN atI funcs k (i + 1) t (acc ++ [(t, numL (b.drop (atI + 2 * i)) 2)]) else none
      else none

/-- What readNames tells. -/
def NamesQ (w w' : World) (r : Option (List NmV)) (e : Ending) : Prop := match r with
  | none => e = .returned (.tuple #[.slice none 0 0, .bool false])
  | some l => ∃ A cap, e = .returned (.tuple #[.slice A l.length cap, .bool true]) ∧ OwnT nC 2 w' w.heap.size 42 (.slice A l.length cap) l

set_option maxRecDepth 100000 in
set_option maxHeartbeats 4000000 in
theorem readNames_any (A : Option Addr) (cap : Nat) (bs : List Nat) (b0 b1 b2 b3 b4 b5 : Nat) (w : World) (hb : Lb bs) (hl : bs.length ≤ cap) (hc : cap ≤ 9223372036854775807) (hlen : bs.length ≤ 1099511627776) (hs : SlB w A bs.length (lF bs))
    (hn : b2 ≤ 256) (hin : b2 = 0 ∨ (b4 + 4 * b2 ≤ bs.length ∧ b5 + 2 * b2 ≤ bs.length)) :
    Calls Try.prog 31 #[.slice A bs.length cap, .agg #[.int .i64 b0, .int .i64 b1, .int .i64 b2, .int .i64 b3, .int .i64 b4, .int .i64 b5]] w fun e w' => NamesQ w w' (namesL bs b4 b5 b1 b2 0 [] []) e ∧ Below w.heap.size w w' := by
  have HS := Lib.hid (fun W (hW : Below w.heap.size w W) => SlB.below hs hW)
  have HLB := Lib.hid hb
  have HIN := Lib.hid hin
  have HLC := Lib.hid (And.intro hl (And.intro hc hlen))
  obtain ⟨R, hR⟩ : ∃ R, namesL bs b4 b5 b1 b2 0 [] [] = R := ⟨_, rfl⟩
  rw [hR]
  have HR := Lib.hid hR
  clear hR hs hin
  go_enter Try.func31, Try.ntmps31
  have HRW := Lib.hid (heap_alloc_new w (.cells #[.int .i64 b0, .int .i64 b1, .int .i64 b2, .int .i64 b3, .int .i64 b4, .int .i64 b5] 83))
  have HW0 := Lib.hid (show Below w.heap.size w (w.alloc (.cells #[.int .i64 b0, .int .i64 b1, .int .i64 b2, .int .i64 b3, .int .i64 b4, .int .i64 b5] 83)) from (Below.refl w.heap.size w).alloc (Nat.le_refl _) _)
  have hsz : (w.alloc (.cells #[.int .i64 b0, .int .i64 b1, .int .i64 b2, .int .i64 b3, .int .i64 b4, .int .i64 b5] 83)).heap.size = w.heap.size + 1 := by simp
  have HSZ := Lib.hid hsz
  have HM1 := Lib.hid (show 24 * b2 ≤ 281474976710656 from by omega)
  have HM2 := Lib.hid (show b2 ≤ maxLen from by unfold maxLen; omega)
  have HM3 := Lib.hid (show w.heap.size + 1 ≤ (w.alloc (.cells #[.int .i64 b0, .int .i64 b1, .int .i64 b2, .int .i64 b3, .int .i64 b4, .int .i64 b5] 83)).heap.size from by rw [hsz]; exact Nat.le_refl _)
  clear hsz
  go_upto_region 3 with (first
    | (refine wpList_makeT (C := nC) (sz := 2) rfl _ _ 30 rfl (w.heap.size + 1) 42 _ 24 rfl infoNamed .i64 .i64 b2 rfl rfl HM1.out HM2.out HM3.out ?_; intro w1 hown1 hw1; have HO1 := Lib.hid hown1; have HW1 := Lib.hid hw1; clear hown1 hw1)
    | fail)
  have HRW1 := Lib.hid ((HW1.out.block w.heap.size (by rw [HSZ.out]; omega)).trans HRW.out)
  have HB1 := Lib.hid (HW0.out.trans (HW1.out.mono HW0.out.size))
  have hO1 := HO1.out
  rw [HSZ.out] at hO1
  have HOO := Lib.hid hO1
  clear HRW HW0 HM1 HM2 HM3 HO1 HW1 HSZ hO1
  have hc1 : w1.cell? ⟨w.heap.size, 2, none⟩ = some (.int .i64 b2) := by rw [cell_of_row _ _ _ _ _ _ HRW1.out]; rfl
  go_wp2_with fail
  go_loopw [6, 7, 18] (fun v6 v7 v18 wr => ∃ (i k : Nat) (l : List NmV) (last : List Nat) (A' : Option Addr) (c' : Nat), i + k = b2 ∧ l.length = i ∧ Lb last ∧ last.length ≤ 64 ∧ v18 = .int .i64 i ∧ v6 = .slice A' i c' ∧ v7 = .string (txt last) ∧ OwnT nC 2 wr (w.heap.size + 1) 42 (.slice A' i c') l ∧ Below w.heap.size w wr ∧ wr.heap[w.heap.size]? = some (.cells #[.int .i64 b0, .int .i64 b1, .int .i64 b2, .int .i64 b3, .int .i64 b4, .int .i64 b5] 83 (0, 0)) ∧ namesL bs b4 b5 b1 k i last l = R) (fun _ _ v18 _ => b2 - (intOf v18).toNat)
  case atStart => exact ⟨0, b2, [], [], _, _, by omega, rfl, by intro v hv; simp at hv, by simp, rfl, rfl, rfl, HOO.out, HB1.out, HRW1.out, HR.out⟩
  case round =>
    obtain ⟨i, k, l, last, A', c', hik, hli, hlb, hl64, rfl, rfl, rfl, hown, hbel, hrr, hR⟩ := hrel
    have HO := Lib.hid hown
    have HBW := Lib.hid hbel
    have HRR := Lib.hid hrr
    have HRE := Lib.hid hR
    have HLI := Lib.hid hli
    have HLA := Lib.hid hlb
    clear hown hbel hrr hR hli hlb
    by_cases hlt : i < b2
    · obtain ⟨k, rfl⟩ : ∃ q, k = q + 1 := ⟨k - 1, by omega⟩
      obtain ⟨m4, hm4⟩ : ∃ m, 4 * i = m := ⟨_, rfl⟩
      obtain ⟨m2, hm2⟩ : ∃ m, 2 * i = m := ⟨_, rfl⟩
      obtain ⟨o, ho⟩ : ∃ o, b4 + m4 = o := ⟨_, rfl⟩
      obtain ⟨q, hq⟩ : ∃ q, b5 + m2 = q := ⟨_, rfl⟩
      have hob : o + 4 ≤ bs.length := by have := HIN.out; omega
      have hqb : q + 2 ≤ bs.length := by have := HIN.out; omega
      have em : (4 : Int) * (i : Int) = (m4 : Int) := by omega
      have wm : IntKind.i64.wrap (m4 : Int) = (m4 : Int) := by rw [IntKind.wrap_i64]; omega
      have eo : (b4 : Int) + (m4 : Int) = (o : Int) := by omega
      have wo : IntKind.i64.wrap (o : Int) = (o : Int) := by have := HLC.out; rw [IntKind.wrap_i64]; omega
      have em2 : (2 : Int) * (i : Int) = (m2 : Int) := by omega
      have wm2 : IntKind.i64.wrap (m2 : Int) = (m2 : Int) := by rw [IntKind.wrap_i64]; omega
      have eq2 : (b5 : Int) + (m2 : Int) = (q : Int) := by omega
      have wq2 : IntKind.i64.wrap (q : Int) = (q : Int) := by have := HLC.out; rw [IntKind.wrap_i64]; omega
      have HU := Lib.hid (fun W (hW : Below w.heap.size w W) => u32e_any A cap bs o W (by have := HLC.out; omega) HLB.out hob (HS.out W hW))
      have H16 := Lib.hid (fun W (hW : Below w.heap.size w W) => u16_list A cap bs q W (by have := HLC.out; omega) HLB.out hqb (HS.out W hW))
      have hre := HRE.out
      simp only [namesL] at hre
      rw [hm4, ho, hm2, hq] at hre
      obtain ⟨v, hvv⟩ : ∃ v, numL (bs.drop o) 4 = v := ⟨_, rfl⟩
      obtain ⟨ix, hix⟩ : ∃ v, numL (bs.drop q) 2 = v := ⟨_, rfl⟩
      rw [hvv] at HU hre
      rw [hix] at H16 hre
      have HTX := Lib.hid (fun W (hW : Below w.heap.size w W) => text_list A cap bs v 64 W (by have := HLC.out; omega) HLC.out.1 (HS.out W hW))
      have hc4 : wr.cell? ⟨w.heap.size, 4, none⟩ = some (.int .i64 b4) := by rw [cell_of_row _ _ _ _ _ _ HRR.out]; rfl
      have hc5 : wr.cell? ⟨w.heap.size, 5, none⟩ = some (.int .i64 b5) := by rw [cell_of_row _ _ _ _ _ _ HRR.out]; rfl
      have hc1' : wr.cell? ⟨w.heap.size, 1, none⟩ = some (.int .i64 b1) := by rw [cell_of_row _ _ _ _ _ _ HRR.out]; rfl
      have HRE2 := Lib.hid hre
      clear hre hvv hix hm4 hm2 ho hq hob hqb hc1
      go_wp2_with fail
      refine (HU.out _ HBW.out).mono ?_
      rintro e w' ⟨rfl, rfl⟩
      go_wp2_with fail
      refine (HTX.out _ HBW.out).mono ?_
      rintro e w' ⟨rfl, rfl⟩
      rcases htx : textL bs v 64 with _ | t
      · have hre := HRE2.out
        rw [htx] at hre
        simp only at hre ⊢
        subst hre
        go_wp2_with fail
        go_ret2
        exact ⟨rfl, HBW.out⟩
      · have hlt' := textL_lb' HLB.out htx
        have hre := HRE2.out
        rw [htx] at hre
        simp only at hre ⊢
        have HSY := Lib.hid (fun W => symOk_any t W hlt'.1 (by have := hlt'.2; omega))
        have hleq := leq_txt hlt'.1 HLA.out
        have HLT := Lib.hid hlt'
        clear hlt' htx HRE2 HTX
        by_cases hok : okSymL t = true
        · rw [if_pos hok] at hre
          rw [hok] at HSY
          by_cases hle : leqL t last = true
          · rw [if_pos hle] at hre
            subst hre
            rw [hle] at hleq
            go_wp2_with fail
            refine (HSY.out _).mono ?_
            rintro e w' ⟨rfl, rfl⟩
            go_wp2_with fail
            go_ret2
            exact ⟨rfl, HBW.out⟩
          · rw [if_neg hle] at hre
            rw [show leqL t last = false by simpa using hle] at hleq
            by_cases hfn : ix < b1
            · rw [if_pos hfn] at hre
              have HRE3 := Lib.hid hre
              have hfn' : ¬ (b1 : Int) ≤ (ix : Int) := by omega
              clear hre hfn
              have HA1 := Lib.hid (HO.out.alloc (.cells #[.string (txt t), .int .i64 ix] 42))
              have HY1 := Lib.hid (namedCells ix t wr)
              have HB8 := Lib.hid (HBW.out.alloc HBW.out.size (.cells #[.string (txt t), .int .i64 ix] 42))
              have HR8 := Lib.hid (show (wr.alloc (.cells #[.string (txt t), .int .i64 ix] 42)).heap[w.heap.size]? = _ from (Below.heap_alloc _ _ _ (lt_of_row' HRR.out)).trans HRR.out)
              have H3 := Lib.hid (show w.heap.size + 1 ≤ (wr.alloc (.cells #[.string (txt t), .int .i64 ix] 42)).heap.size from lt_of_row' HR8.out)
              have H4 := Lib.hid (show l.length + 1 ≤ maxLen from by rw [HLI.out]; unfold maxLen; omega)
              have H5 := Lib.hid (show (l.length + 1) * 24 ≤ 140737488355328 from by rw [HLI.out]; omega)
              have hll : l.length < 256 := by have := HLI.out; omega
              have hll2 : l.length + 1 ≤ b2 := by have := HLI.out; omega
              go_wp2_with fail
              refine (HSY.out _).mono ?_
              rintro e w' ⟨rfl, rfl⟩
              go_wp2_with fail
              refine (H16.out _ HBW.out).mono ?_
              rintro e w' ⟨rfl, rfl⟩
              rw [← HLI.out] at HA1 ⊢
              go_wp2_with (first
                | (at_builtin; refine wpList_appT rfl (.tmp 59) (.tmp 63) 30 rfl (w.heap.size + 1) 42 _ 24 rfl infoNamed rfl (by omega) nC_len nC_one _ l rfl HA1.out wr.heap.size 1 rfl (t, ix) HY1.out H4.out H5.out H3.out ?_; intro g5 cap5 w8 hown5 hg5 hat5)
                | fail)
              have HB9 := Lib.hid (HA1.out.grew HB8.out (by omega) HB8.out.size hg5)
              have HR9 := Lib.hid ((hg5.block w.heap.size (lt_of_row' HR8.out) (fun h => by have := (HA1.out.lt _ h.symm).1; omega)).trans HR8.out)
              have HO9 := Lib.hid hown5
              clear hown5 hg5 hat5
              go_roundw
              case rel => exact ⟨l.length + 1, k, l ++ [(t, ix)], t, _, cap5, by have := HLI.out; omega, by simp, HLT.out.1, HLT.out.2, by go_num, rfl, rfl, HO9.out, HB9.out, HR9.out, by rw [HLI.out]; exact HRE3.out⟩
              case measure => simp [intOf]; have := HLI.out; omega
            · rw [if_neg hfn] at hre
              subst hre
              have hfn' : (b1 : Int) ≤ (ix : Int) := by omega
              go_wp2_with fail
              refine (HSY.out _).mono ?_
              rintro e w' ⟨rfl, rfl⟩
              go_wp2_with fail
              refine (H16.out _ HBW.out).mono ?_
              rintro e w' ⟨rfl, rfl⟩
              go_wp2_with fail
              go_ret2
              exact ⟨rfl, HBW.out⟩
        · rw [if_neg hok] at hre
          subst hre
          rw [show okSymL t = false by simpa using hok] at HSY
          go_wp2_with fail
          refine (HSY.out _).mono ?_
          rintro e w' ⟨rfl, rfl⟩
          go_wp2_with fail
          go_ret2
          exact ⟨rfl, HBW.out⟩
    · obtain rfl : k = 0 := by omega
      have hre := HRE.out
      simp only [namesL] at hre
      subst hre
      go_wp2_with fail
      go_ret2
      refine ⟨⟨A', c', ?_, ?_⟩, HBW.out⟩
      · rw [HLI.out]; rfl
      · rw [HLI.out]; exact Joins.ownsRow_le HO.out (by omega)
end Go.Proofs.Ytbjabncefhgefaa
