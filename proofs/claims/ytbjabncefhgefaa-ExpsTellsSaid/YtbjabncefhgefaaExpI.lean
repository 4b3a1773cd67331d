/- law 7's At: an image's bytes with a directory of what it offers. -/
import Derived.Test.YtbjabncefhgefaaExpT
namespace Go.Proofs.Ytbjabncefhgefaa
open Go.ChangeShapes Go.WideShapes Go.ChangeAt Go.RowKit
set_option linter.unusedVariables false
set_option linter.unusedSimpArgs false

set_option maxRecDepth 100000 in
set_option maxHeartbeats 8000000 in
theorem at7_gen (start base : Nat) (fs ns : List (List Nat)) (lf ln : Nat) (F N : Option Addr) (fc nc : Nat) (w : World) (hst : start ≤ 4096) (hF : SlT sC 1 w F fs) (hN : SlT sC 1 w N ns) (hfs : ∀ s ∈ fs, TxOk s) (hns : ∀ s ∈ ns, TxOk s) (hb : base < 4294967296) (hLf : min lf 12 = min fs.length 12) (hLn : min ln 12 = min ns.length 12) (hfl : lf ≤ 9223372036854775807) (hnl : ln ≤ 9223372036854775807)
    (B2 B3 : List Nat) (hB2 : atB start (fs.take 12) (min ln 12) base = B2) (hB3 : atE start (fs.take 12) (ns.take 12) base = B3) :
    Calls Try.prog 28 #[.int .i64 start, .slice F lf fc, .slice N ln nc, .int .i64 base] w fun e w' =>
      ∃ g c, e = .returned (.tuple #[.slice (some ⟨g, 0, none⟩) B3.length c, .agg #[.int .i64 start, .int .i64 ((B2.length : Int) - (start : Int))]]) ∧ OwnD w' w.heap.size g c B3 ∧ Below w.heap.size w w' := by
  obtain ⟨n, hn⟩ : ∃ n, min lf 12 = n := ⟨_, rfl⟩
  obtain ⟨m, hm⟩ : ∃ m, min ln 12 = m := ⟨_, rfl⟩
  have hmin1 : min (lf : Int) 12 = (n : Int) := by omega
  have hmin2 : min (ln : Int) 12 = (m : Int) := by omega
  have hn12 : n ≤ 12 := by omega
  have hm12 : m ≤ 12 := by omega
  have hlf : (fs.take 12).length = n := by rw [List.length_take]; omega
  have hln : (ns.take 12).length = m := by rw [List.length_take]; omega
  unfold atE at hB3
  rw [hln, hlf] at hB3
  rw [hm] at hB2
  rw [hB2] at hB3
  unfold atB at hB2
  rw [hlf] at hB2
  unfold atH at hB2
  have HFT := Lib.hid (fun W (hW : Below w.heap.size w W) => hF.below hW)
  have HNT := Lib.hid (fun W (hW : Below w.heap.size w W) => hN.below hW)
  have HFS := Lib.hid hfs
  have HNS := Lib.hid hns
  have HNF := Lib.hid (show n ≤ fs.length ∧ n ≤ lf by omega)
  have HMN := Lib.hid (show m ≤ ns.length ∧ m ≤ ln by omega)
  have HLF := Lib.hid hlf
  have HLN := Lib.hid hln
  obtain ⟨rows, hrows⟩ : ∃ q, start + 40 = q := ⟨_, rfl⟩
  obtain ⟨n4, hn4⟩ : ∃ q, 4 * n = q := ⟨_, rfl⟩
  obtain ⟨r1, hr1⟩ : ∃ q, rows + n4 = q := ⟨_, rfl⟩
  obtain ⟨m6, hm6⟩ : ∃ q, 6 * m = q := ⟨_, rfl⟩
  obtain ⟨m4, hm4⟩ : ∃ q, 4 * m = q := ⟨_, rfl⟩
  obtain ⟨r2, hr2⟩ : ∃ q, r1 + m4 = q := ⟨_, rfl⟩
  obtain ⟨Z, hZ⟩ : ∃ q, r1 + m6 = q := ⟨_, rfl⟩
  rw [hrows, hn4, hr1, hm6, hm4, hr2, hZ] at hB2
  rw [hrows, hn4, hr1, hm4, hr2] at hB3
  have er : (start : Int) + 40 = (rows : Int) := by omega
  have en4 : (4 : Int) * (n : Int) = (n4 : Int) := by omega
  have er1 : (rows : Int) + (n4 : Int) = (r1 : Int) := by omega
  have em6 : (6 : Int) * (m : Int) = (m6 : Int) := by omega
  have em4 : (4 : Int) * (m : Int) = (m4 : Int) := by omega
  have er2 : (r1 : Int) + (m4 : Int) = (r2 : Int) := by omega
  have eZ : (r1 : Int) + (m6 : Int) = (Z : Int) := by omega
  have hZb : Z ≤ 4300 := by omega
  obtain ⟨o16, ho16⟩ : ∃ q, start + 16 = q := ⟨_, rfl⟩
  have eo16 : (start : Int) + 16 = (o16 : Int) := by omega
  obtain ⟨o20, ho20⟩ : ∃ q, start + 20 = q := ⟨_, rfl⟩
  have eo20 : (start : Int) + 20 = (o20 : Int) := by omega
  obtain ⟨o24, ho24⟩ : ∃ q, start + 24 = q := ⟨_, rfl⟩
  have eo24 : (start : Int) + 24 = (o24 : Int) := by omega
  obtain ⟨o28, ho28⟩ : ∃ q, start + 28 = q := ⟨_, rfl⟩
  have eo28 : (start : Int) + 28 = (o28 : Int) := by omega
  obtain ⟨o32, ho32⟩ : ∃ q, start + 32 = q := ⟨_, rfl⟩
  have eo32 : (start : Int) + 32 = (o32 : Int) := by omega
  obtain ⟨o36, ho36⟩ : ∃ q, start + 36 = q := ⟨_, rfl⟩
  have eo36 : (start : Int) + 36 = (o36 : Int) := by omega
  rw [ho16, ho20, ho24, ho28, ho32, ho36] at hB2
  have HQ := Lib.hid (And.intro hrows (And.intro hn4 (And.intro hr1 (And.intro hm6 (And.intro hm4 (And.intro hr2 hZ))))))
  have HO36 := Lib.hid (show o36 + 4 ≤ rows ∧ rows ≤ Z ∧ o16 + 4 ≤ Z ∧ o20 + 4 ≤ Z ∧ o24 + 4 ≤ Z ∧ o28 + 4 ≤ Z ∧ o32 + 4 ≤ Z ∧ o36 + 4 ≤ Z from by omega)
  have HB2 := Lib.hid hB2
  have HB3 := Lib.hid hB3
  clear hLf hLn hrows hn4 hr1 hm6 hm4 hr2 hZ ho16 ho20 ho24 ho28 ho32 ho36 hn hm hF hN hfs hns hlf hln hB2 hB3
  go_enter Try.func28, Try.ntmps28
  go_upto_region 5 with (first
    | (at_make; refine wpList_make_bytes _ rfl (.tmp 36) (.tmp 36) 24 rfl 5 (.int .u8 0) 1 (by kernel_rfl) (by kernel_rfl) rfl .i64 .i64 Z (by simp [Act.eval, Act.put]) (by simp [Act.eval, Act.put]) (by omega) (by omega) ?_; intro w1 hw1 ho1; have HW1 := Lib.hid hw1; have HO1 := Lib.hid ho1; clear hw1 ho1)
    | fail)
  have hsz0 : ((w.alloc (.cells #[.int .i64 0, .int .i64 0] 26)).alloc (.cells #[.int .i64 start, .int .i64 0] 26)).heap.size = w.heap.size + 2 := by simp
  have hw1 := HW1.out
  have ho1 := HO1.out
  rw [hsz0] at hw1 ho1
  have HX := Lib.hid (show w1.heap[w.heap.size]? = some (.cells #[.int .i64 0, .int .i64 0] 26 (0, 0)) from (hw1.block w.heap.size (by omega)).trans ((Below.heap_alloc _ _ w.heap.size (by simp)).trans (heap_alloc_new w _)))
  have HY := Lib.hid (show w1.heap[w.heap.size + 1]? = some (.cells #[.int .i64 start, .int .i64 0] 26 (0, 0)) from (hw1.block (w.heap.size + 1) (by omega)).trans (by
    have h := heap_alloc_new (w.alloc (.cells #[.int .i64 0, .int .i64 0] 26)) (.cells #[.int .i64 start, .int .i64 0] 26)
    rwa [show (w.alloc (.cells #[.int .i64 0, .int .i64 0] 26)).heap.size = w.heap.size + 1 by simp] at h))
  have HB := Lib.hid (show Below w.heap.size w w1 from (((Below.refl w.heap.size w).alloc (Nat.le_refl _) _).alloc (by simp) _).trans (hw1.mono (by omega)))
  have HO := Lib.hid (OwnD.noughts (base := w.heap.size + 2) ho1 (Nat.le_refl _) (by omega))
  have hl0 : (List.replicate Z 0).length = Z := List.length_replicate
  clear hw1 ho1 HW1 HO1 hsz0
  generalize List.replicate Z 0 = b0 at *
  have hp := put7_any (some ⟨(w.heap.size + 2), 0, none⟩) Z b0 o16 4 (base : Nat) base w1 HO.out.lb (by omega) HO.out.slB (by omega) (by omega) (by have := HO36.out; omega) (u64_nat (by omega)) (by omega)
  have hl1 := putL_len (b := b0) (o := o16) (n := 4) (by have := HO36.out; omega) base
  obtain ⟨b1, hb1⟩ : ∃ q, putL b0 o16 4 base = q := ⟨_, rfl⟩
  rw [hb1] at hp hl1
  rw [hl0] at hp hl1
  have h := HB2.out
  rw [hb1] at h
  replace HB2 := Lib.hid h
  clear h hb1 hl0
  go_wp2_with fail
  refine hp.mono ?_
  rintro e w2 ⟨g1, c1, rfl, ho, hw⟩
  replace HO := Lib.hid (ho.weaken (base' := w.heap.size + 2) (lt_of_row' HY.out))
  replace HX := Lib.hid ((hw.block w.heap.size (lt_of_row' HX.out)).trans HX.out)
  replace HY := Lib.hid ((hw.block (w.heap.size + 1) (lt_of_row' HY.out)).trans HY.out)
  replace HB := Lib.hid (HB.out.trans (hw.mono HB.out.size))
  clear hp ho hw
  have hp := put7_any (some ⟨g1, 0, none⟩) c1 b1 o20 4 (n : Nat) n w2 HO.out.lb (by omega) HO.out.slB (by omega) (by omega) (by have := HO36.out; omega) (u64_nat (by omega)) (by omega)
  have hl2 := putL_len (b := b1) (o := o20) (n := 4) (by have := HO36.out; omega) n
  obtain ⟨b2, hb2⟩ : ∃ q, putL b1 o20 4 n = q := ⟨_, rfl⟩
  rw [hb2] at hp hl2
  rw [hl1] at hp hl2
  have h := HB2.out
  rw [hb2] at h
  replace HB2 := Lib.hid h
  clear h hb2 hl1
  go_wp2_with fail
  refine hp.mono ?_
  rintro e w3 ⟨g2, c2, rfl, ho, hw⟩
  replace HO := Lib.hid (ho.weaken (base' := w.heap.size + 2) (lt_of_row' HY.out))
  replace HX := Lib.hid ((hw.block w.heap.size (lt_of_row' HX.out)).trans HX.out)
  replace HY := Lib.hid ((hw.block (w.heap.size + 1) (lt_of_row' HY.out)).trans HY.out)
  replace HB := Lib.hid (HB.out.trans (hw.mono HB.out.size))
  clear hp ho hw
  have hp := put7_any (some ⟨g2, 0, none⟩) c2 b2 o24 4 (m : Nat) m w3 HO.out.lb (by omega) HO.out.slB (by omega) (by omega) (by have := HO36.out; omega) (u64_nat (by omega)) (by omega)
  have hl3 := putL_len (b := b2) (o := o24) (n := 4) (by have := HO36.out; omega) m
  obtain ⟨b3, hb3⟩ : ∃ q, putL b2 o24 4 m = q := ⟨_, rfl⟩
  rw [hb3] at hp hl3
  rw [hl2] at hp hl3
  have h := HB2.out
  rw [hb3] at h
  replace HB2 := Lib.hid h
  clear h hb3 hl2
  go_wp2_with fail
  refine hp.mono ?_
  rintro e w4 ⟨g3, c3, rfl, ho, hw⟩
  replace HO := Lib.hid (ho.weaken (base' := w.heap.size + 2) (lt_of_row' HY.out))
  replace HX := Lib.hid ((hw.block w.heap.size (lt_of_row' HX.out)).trans HX.out)
  replace HY := Lib.hid ((hw.block (w.heap.size + 1) (lt_of_row' HY.out)).trans HY.out)
  replace HB := Lib.hid (HB.out.trans (hw.mono HB.out.size))
  clear hp ho hw
  have hp := put7_any (some ⟨g3, 0, none⟩) c3 b3 o28 4 (rows : Nat) rows w4 HO.out.lb (by omega) HO.out.slB (by omega) (by omega) (by have := HO36.out; omega) (u64_nat (by omega)) (by omega)
  have hl4 := putL_len (b := b3) (o := o28) (n := 4) (by have := HO36.out; omega) rows
  obtain ⟨b4, hb4⟩ : ∃ q, putL b3 o28 4 rows = q := ⟨_, rfl⟩
  rw [hb4] at hp hl4
  rw [hl3] at hp hl4
  have h := HB2.out
  rw [hb4] at h
  replace HB2 := Lib.hid h
  clear h hb4 hl3
  go_wp2_with fail
  refine hp.mono ?_
  rintro e w5 ⟨g4, c4, rfl, ho, hw⟩
  replace HO := Lib.hid (ho.weaken (base' := w.heap.size + 2) (lt_of_row' HY.out))
  replace HX := Lib.hid ((hw.block w.heap.size (lt_of_row' HX.out)).trans HX.out)
  replace HY := Lib.hid ((hw.block (w.heap.size + 1) (lt_of_row' HY.out)).trans HY.out)
  replace HB := Lib.hid (HB.out.trans (hw.mono HB.out.size))
  clear hp ho hw
  have hp := put7_any (some ⟨g4, 0, none⟩) c4 b4 o32 4 (r1 : Nat) r1 w5 HO.out.lb (by omega) HO.out.slB (by omega) (by omega) (by have := HO36.out; omega) (u64_nat (by omega)) (by omega)
  have hl5 := putL_len (b := b4) (o := o32) (n := 4) (by have := HO36.out; omega) r1
  obtain ⟨b5, hb5⟩ : ∃ q, putL b4 o32 4 r1 = q := ⟨_, rfl⟩
  rw [hb5] at hp hl5
  rw [hl4] at hp hl5
  have h := HB2.out
  rw [hb5] at h
  replace HB2 := Lib.hid h
  clear h hb5 hl4
  go_wp2_with fail
  refine hp.mono ?_
  rintro e w6 ⟨g5, c5, rfl, ho, hw⟩
  replace HO := Lib.hid (ho.weaken (base' := w.heap.size + 2) (lt_of_row' HY.out))
  replace HX := Lib.hid ((hw.block w.heap.size (lt_of_row' HX.out)).trans HX.out)
  replace HY := Lib.hid ((hw.block (w.heap.size + 1) (lt_of_row' HY.out)).trans HY.out)
  replace HB := Lib.hid (HB.out.trans (hw.mono HB.out.size))
  clear hp ho hw
  have hp := put7_any (some ⟨g5, 0, none⟩) c5 b5 o36 4 (r2 : Nat) r2 w6 HO.out.lb (by omega) HO.out.slB (by omega) (by omega) (by have := HO36.out; omega) (u64_nat (by omega)) (by omega)
  have hl6 := putL_len (b := b5) (o := o36) (n := 4) (by have := HO36.out; omega) r2
  obtain ⟨b6, hb6⟩ : ∃ q, putL b5 o36 4 r2 = q := ⟨_, rfl⟩
  rw [hb6] at hp hl6
  rw [hl5] at hp hl6
  have h := HB2.out
  rw [hb6] at h
  replace HB2 := Lib.hid h
  clear h hb6 hl5
  go_wp2_with fail
  refine hp.mono ?_
  rintro e w7 ⟨g6, c6, rfl, ho, hw⟩
  replace HO := Lib.hid (ho.weaken (base' := w.heap.size + 2) (lt_of_row' HY.out))
  replace HX := Lib.hid ((hw.block w.heap.size (lt_of_row' HX.out)).trans HX.out)
  replace HY := Lib.hid ((hw.block (w.heap.size + 1) (lt_of_row' HY.out)).trans HY.out)
  replace HB := Lib.hid (HB.out.trans (hw.mono HB.out.size))
  clear hp ho hw
  go_upto_region 11 with (fail)
  rename_i K2 hK2 K1 hK1
  have HK2 := Lib.hid hK2
  clear hK2
  go_wp2_with fail
  go_loopw [13, 15] (fun v13 v15 wr => ∃ (i g c : Nat) (b : List Nat), i ≤ n ∧ v15 = .int .i64 i ∧ v13 = .slice (some ⟨g, 0, none⟩) b.length c ∧ OwnD wr (w.heap.size + 2) g c b ∧ Z ≤ b.length ∧ b.length ≤ 4300 + 201 * i ∧ Below w.heap.size w wr ∧ wr.heap[w.heap.size]? = some (.cells #[.int .i64 0, .int .i64 0] 26 (0, 0)) ∧ wr.heap[w.heap.size + 1]? = some (.cells #[.int .i64 start, .int .i64 0] 26 (0, 0)) ∧ atF rows ((fs.take 12).drop i) i b = B2) (fun _ v15 _ => n - (intOf v15).toNat)
  case atStart => exact ⟨0, g6, c6, b6, Nat.zero_le _, rfl, by rw [hl6], HO.out, by omega, by omega, HB.out, HX.out, HY.out, HB2.out⟩
  case round =>
    obtain ⟨i, g, c, b, hi, rfl, rfl, ho, hbz, hbm, hbel, hx, hy, hat⟩ := hrel
    replace HO := Lib.hid ho
    replace HB := Lib.hid hbel
    replace HX := Lib.hid hx
    replace HY := Lib.hid hy
    replace HB2 := Lib.hid hat
    have HBZ := Lib.hid hbz
    clear ho hbel hx hy hat
    by_cases hlt : i < n
    · have hif : i < fs.length := by have := HNF.out; omega
      have hifl : i < lf := by have := HNF.out; omega
      obtain ⟨bf, off, rfl, hbl, q0⟩ := (HFT.out wr HB.out).st hif
      have hok := HFS.out fs[i] (List.getElem_mem hif)
      have hat := HB2.out
      rw [List.drop_eq_getElem_cons (by have := HLF.out; omega), List.getElem_take] at hat
      obtain ⟨s, hse⟩ : ∃ s, fs[i] = s := ⟨_, rfl⟩
      rw [hse] at hat hok q0
      simp only [atF] at hat
      replace HB2 := Lib.hid hat
      have hpall := pointK_all hok.1
      have hnil := txt_nil' hok.1
      have htz := txt_size s
      obtain ⟨i4, hi4⟩ : ∃ q, 4 * i = q := ⟨_, rfl⟩
      obtain ⟨o, ho⟩ : ∃ q, rows + i4 = q := ⟨_, rfl⟩
      have ei4 : (4 : Int) * (i : Int) = (i4 : Int) := by omega
      have eo : (rows : Int) + (i4 : Int) = (o : Int) := by omega
      have HOB := Lib.hid (show o + 4 ≤ Z from by have := HQ.out; omega)
      have HSX := Lib.hid (fun W => src_txt (w := W) s hok.1)
      obtain ⟨T, hT⟩ : ∃ T, txt s = T := ⟨_, rfl⟩
      rw [hT] at q0 hpall hnil htz HSX
      have HOK := Lib.hid hok
      have HPA := Lib.hid hpall
      have HNI := Lib.hid hnil
      have HTZ := Lib.hid htz
      have HIO := Lib.hid (And.intro hi4 ho)
      have hTs : T.size ≤ 200 := by rw [htz]; exact hok.2
      clear hat hok hpall hnil htz hi4 ho hse hT
      have gb := PlainAid.get_bt T
      go_wp2_with fail
      go_loop [17, 18] (fun v17 v18 => ∃ k : Nat, k ≤ T.size ∧ v18 = .int .i64 k ∧ v17 = .bool (pointK T k)) (fun _ v18 => T.size - (intOf v18).toNat)
      case atStart => exact ⟨0, Nat.zero_le _, rfl, rfl⟩
      case round =>
        obtain ⟨k, hk, rfl, rfl⟩ := hrel
        by_cases hlk : k < T.size
        · have HD := Lib.hid (pointK_succ T k)
          cases hp : pointK T k
          all_goals
            rw [hp] at HD
            clear hp
            go_wp2_with fail
            go_round
            case rel => exact ⟨k + 1, by omega, by go_num, by rw [HD.out]; simp⟩
            case measure => simp [intOf]; omega
        · obtain rfl : k = T.size := by omega
          rw [HPA.out]
          clear gb
          have hat := HB2.out
          unfold fStep at hat
          obtain ⟨hio1, hio2⟩ := HIO.out
          rw [hio1, hio2] at hat
          clear hio1 hio2
          cases hP : s.contains 46
          · rw [hP] at hat
            simp only [Bool.false_eq_true, if_false] at hat
            by_cases hsn : s = []
            · rw [if_pos hsn] at hat
              have hnil := HNI.out
              rw [decide_eq_true hsn] at hnil
              have hp := put7_any (some ⟨g, 0, none⟩) c b o 4 (0 : Nat) 0 wr HO.out.lb (by omega) HO.out.slB (by omega) (by omega) (by have := HOB.out; omega) (u64_nat (by omega)) (by omega)
              have hl := putL_len (b := b) (o := o) (n := 4) (by have := HOB.out; omega) 0
              obtain ⟨b', hb'⟩ : ∃ q, putL b o 4 0 = q := ⟨_, rfl⟩
              rw [hb'] at hp hl hat
              replace HB2 := Lib.hid hat
              clear hb' hat hP hsn
              go_wp2_with fail
              refine hp.mono ?_
              rintro e w8 ⟨g', c', rfl, ho, hw⟩
              replace HO := Lib.hid (ho.weaken (base' := w.heap.size + 2) (lt_of_row' HY.out))
              replace HX := Lib.hid ((hw.block w.heap.size (lt_of_row' HX.out)).trans HX.out)
              replace HY := Lib.hid ((hw.block (w.heap.size + 1) (lt_of_row' HY.out)).trans HY.out)
              replace HB := Lib.hid (HB.out.trans (hw.mono HB.out.size))
              clear hp ho hw
              go_wp2_with fail
              go_roundw
              case rel => exact ⟨i + 1, g', c', b', by omega, by go_num, by rw [hl], HO.out, by omega, by omega, HB.out, HX.out, HY.out, HB2.out⟩
              case measure => simp [intOf]; omega
            · rw [if_neg hsn] at hat
              have hnil := HNI.out
              rw [decide_eq_false hsn] at hnil
              obtain ⟨v, hv⟩ : ∃ v, 64 + i = v := ⟨_, rfl⟩
              rw [hv] at hat
              have ev : (64 : Int) + (i : Int) = (v : Int) := by omega
              have hp := put7_any (some ⟨g, 0, none⟩) c b o 4 (v : Nat) v wr HO.out.lb (by omega) HO.out.slB (by omega) (by omega) (by have := HOB.out; omega) (u64_nat (by omega)) (by omega)
              have hl := putL_len (b := b) (o := o) (n := 4) (by have := HOB.out; omega) v
              obtain ⟨b', hb'⟩ : ∃ q, putL b o 4 v = q := ⟨_, rfl⟩
              rw [hb'] at hp hl hat
              replace HB2 := Lib.hid hat
              clear hb' hat hP hsn hv
              go_wp2_with fail
              refine hp.mono ?_
              rintro e w8 ⟨g', c', rfl, ho, hw⟩
              replace HO := Lib.hid (ho.weaken (base' := w.heap.size + 2) (lt_of_row' HY.out))
              replace HX := Lib.hid ((hw.block w.heap.size (lt_of_row' HX.out)).trans HX.out)
              replace HY := Lib.hid ((hw.block (w.heap.size + 1) (lt_of_row' HY.out)).trans HY.out)
              replace HB := Lib.hid (HB.out.trans (hw.mono HB.out.size))
              clear hp ho hw
              go_wp2_with fail
              go_roundw
              case rel => exact ⟨i + 1, g', c', b', by omega, by go_num, by rw [hl], HO.out, by omega, by omega, HB.out, HX.out, HY.out, HB2.out⟩
              case measure => simp [intOf]; omega
          · rw [hP] at hat
            simp only [if_true] at hat
            have hsn : s ≠ [] := by intro q; rw [q] at hP; simp at hP
            have hnil := HNI.out
            rw [decide_eq_false hsn] at hnil
            have HSZ := Lib.hid HTZ.out
            have hbs : b.length ≤ 6600 := by omega
            clear hP hsn
            go_wp2_with (first
              | (at_builtin; refine wpList_appD rfl (.tmp 108) (.tmp 109) 9 rfl (.string T) HO.out rfl rfl (HSX.out _) HOK.out.1 (by have := HOK.out.2; omega) (lt_of_row' HY.out) rfl rfl ?_; intro g5 c5 w5 hown5 hbel5; have HO5 := Lib.hid hown5; have HB5 := Lib.hid hbel5; clear hown5 hbel5)
              | (at_builtin; refine wpList_appD rfl (.tmp 110) (.tmp 111) 24 rfl (.slice (some ⟨w5.heap.size, 0, none⟩) 1 1) (HO5.out.alloc _) (by rw [List.length_append]) (show 1 = [0].length from rfl) (src_zero' w5) (fun v hv => by simp at hv; omega) (by have := HOK.out.2; omega) (Nat.le_trans (Nat.le_trans (lt_of_row' HY.out) HB5.out.size) (by simp)) rfl rfl ?_; intro g6 c6 w6 hown6 hbel6; have HO6 := Lib.hid hown6; have HB6 := Lib.hid hbel6; clear hown6 hbel6)
              | fail)
            have hlen : (b ++ s ++ [0]).length = b.length + s.length + 1 := by simp only [List.length_append, List.length_singleton]
            have hsl := HOK.out.2
            have hp := put7_any (some ⟨g6, 0, none⟩) c6 (b ++ s ++ [0]) o 4 (b.length : Nat) b.length w6 HO6.out.lb (by omega) HO6.out.slB (by omega) (by omega) (by have := HOB.out; omega) (u64_nat (by omega)) (by omega)
            have hl := putL_len (b := b ++ s ++ [0]) (o := o) (n := 4) (by have := HOB.out; omega) b.length
            obtain ⟨b', hb'⟩ : ∃ q, putL (b ++ s ++ [0]) o 4 b.length = q := ⟨_, rfl⟩
            rw [hb'] at hp hl hat
            rw [hlen] at hp hl
            replace HB2 := Lib.hid hat
            have hs5 : w.heap.size + 2 ≤ w5.heap.size := Nat.le_trans (lt_of_row' HY.out) HB5.out.size
            have hch : Below (w.heap.size + 2) wr w6 := (HB5.out.alloc hs5 _).trans HB6.out
            replace HX := Lib.hid ((hch.block w.heap.size (by omega)).trans HX.out)
            replace HY := Lib.hid ((hch.block (w.heap.size + 1) (by omega)).trans HY.out)
            replace HB := Lib.hid (HB.out.trans (hch.mono (by omega)))
            clear hb' hat hs5 hch hlen
            refine hp.mono ?_
            rintro e w8 ⟨g', c', rfl, ho, hw⟩
            replace HO := Lib.hid (ho.weaken (base' := w.heap.size + 2) (lt_of_row' HY.out))
            replace HX := Lib.hid ((hw.block w.heap.size (lt_of_row' HX.out)).trans HX.out)
            replace HY := Lib.hid ((hw.block (w.heap.size + 1) (lt_of_row' HY.out)).trans HY.out)
            replace HB := Lib.hid (HB.out.trans (hw.mono HB.out.size))
            clear hp ho hw
            go_wp2_with fail
            go_roundw
            case rel => exact ⟨i + 1, g', c', b', by omega, by go_num, by rw [hl], HO.out, by omega, by omega, HB.out, HX.out, HY.out, HB2.out⟩
            case measure => simp [intOf]; omega
    · obtain rfl : i = n := by omega
      have hat := HB2.out
      rw [List.drop_eq_nil_of_le (by have := HLF.out; omega)] at hat
      have hat' : b = B2 := hat
      subst hat'
      clear hat
      go_wp2_with fail
      refine HK2.out _ _ ?_
      exact at7_tail start i m rows n4 r1 m4 r2 Z ns ln N nc w wr hst hm12 hn12 B3 b g c HNT HNS HMN HLN er en4 er1 em4 er2 (Lib.hid (by have := HQ.out; omega)) hZb HO HBZ (by omega) HB HX HY HB3 _ ⟨rfl, rfl, rfl⟩
end Go.Proofs.Ytbjabncefhgefaa
