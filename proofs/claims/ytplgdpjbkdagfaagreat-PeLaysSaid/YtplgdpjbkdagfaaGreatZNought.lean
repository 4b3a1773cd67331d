import Derived.Test.YtplgdpjbkdagfaaGreatZFold
import Derived.Test.YtplgdpjbkdagfaaGreatZAwake1
import Derived.Test.YtplgdpjbkdagfaaGreatZHdrD
import Derived.Lib.SmallJoins
namespace Go.Proofs.YtplgdpjbkdagfaaGreat
set_option maxRecDepth 100000
open Go.ChangeShapes Go.WideShapes Go.ChangeAt Go.RowKit
set_option linter.unusedVariables false
set_option linter.unusedSimpArgs false
def noughtsL (b : List Nat) (o n : Nat) : Bool := decide (o + n ≤ b.length) && ((b.drop o).take n).all (· == 0)
theorem noughtsL_out {b : List Nat} {o n : Nat} (h : ¬ o + n ≤ b.length) : noughtsL b o n = false := by unfold noughtsL; rw [decide_eq_false h]; rfl
theorem noughtsL_iff {b : List Nat} {o n : Nat} (h : o + n ≤ b.length) : noughtsL b o n = true ↔ ∀ i, i < n → lF b (o + i) = 0 := by
  unfold noughtsL
  rw [decide_eq_true h, Bool.true_and, List.all_eq_true]
  constructor
  · intro k i hi
    have hb : o + i < b.length := by omega
    have hm : b[o + i] ∈ (b.drop o).take n := by
      rw [List.mem_iff_getElem]
      exact ⟨i, by rw [List.length_take, List.length_drop]; omega, by rw [List.getElem_take, List.getElem_drop]⟩
    have := k _ hm
    unfold lF
    simp only [List.getD, List.getElem?_eq_getElem hb, Option.getD_some]
    simpa using this
  · intro k v hv
    obtain ⟨i, hi, rfl⟩ := List.mem_iff_getElem.mp hv
    rw [List.length_take, List.length_drop] at hi
    have := k i (by omega)
    have hb : o + i < b.length := by omega
    unfold lF at this
    simp only [List.getD, List.getElem?_eq_getElem hb, Option.getD_some] at this
    rw [List.getElem_take, List.getElem_drop]
    simpa using this
set_option maxHeartbeats 1000000 in
theorem noughts_any (A : Option Addr) (cap : Nat) (bs : List Nat) (o n : Nat) (w : World) (hl : bs.length ≤ cap) (hc : cap ≤ 9223372036854775807) (hs : SlB w A bs.length (lF bs)) (ho : o ≤ 4611686018427387904) (hn : 1 ≤ n) (hn' : n ≤ 1000) :
    Calls Tryz.prog 118 #[.slice A bs.length cap, .int .i64 o, .int .i64 n] w fun e w' => e = .returned (.bool (noughtsL bs o n)) ∧ w = w' := by
  by_cases h : o + n ≤ bs.length
  · rcases hs with h' | ⟨b, off, rfl, hlt, hr⟩
    · omega
    have HIN := Lib.hid (fun W => rowIn_any (some ⟨b, off, none⟩) bs.length cap o n true W (by omega) (by omega) (by omega) ⟨fun _ => ⟨by omega, by omega, by omega⟩, fun _ => rfl⟩)
    have HB := Lib.hid (noughtsL_iff h)
    have HC := Lib.hid hr
    have HBS := Lib.hid h
    have hcap : ¬ cap = o := by omega
    obtain ⟨q, hq⟩ : ∃ q, o + n = q := ⟨_, rfl⟩
    have e1 : (o : Int) + (n : Int) = (q : Int) := by omega
    have hle : (q : Int) ≤ (cap : Int) := by omega
    have hlo : (o : Int) ≤ (q : Int) := by omega
    have h63 : (q : Int) < 9223372036854775808 := by omega
    have HQ := Lib.hid hq
    have hqo : q - o = n := by omega
    clear hr hl h hq
    go_enter Tryz.func118, Tryz.ntmps118
    go_wp2_with (first | (refine (HIN.out _).mono ?_; rintro e w' ⟨rfl, rfl⟩) | fail)
    go_loop [8, 21] (fun _ i => ∃ k : Nat, k ≤ n ∧ i = .int .i64 k ∧ ∀ j, j < k → lF bs (o + j) = 0) (fun _ i => n - (intOf i).toNat)
    case atStart => exact ⟨0, Nat.zero_le _, rfl, fun j hj => by omega⟩
    case round =>
      obtain ⟨k, hk, rfl, hz⟩ := hrel
      have HZ := Lib.hid hz
      clear hz
      by_cases hlt : k < n
      · have hcell : w.cell? ⟨b, off + o + k, none⟩ = some (.int .u8 (lF bs (o + k))) := by have := HC.out (o + k) (by have := HBS.out; omega); rwa [Nat.add_assoc]
        have hn63 : n ≤ 1000 := hn'
        by_cases h0 : lF bs (o + k) = 0
        · rw [h0] at hcell
          have hz' : ∀ j, j < k + 1 → lF bs (o + j) = 0 := fun j hj => by
            rcases (by omega : j < k ∨ j = k) with h | rfl
            · exact HZ.out j h
            · exact h0
          have HZ' := Lib.hid hz'
          clear h0 hz'
          go_wp2
          refine ⟨⟨k + 1, by omega, by go_num, HZ'.out⟩, by simp [intOf]; omega⟩
        · have hne : (lF bs (o + k) != 0) = true := by simpa using h0
          have HF := Lib.hid (show noughtsL bs o n = false from by
            rcases hb : noughtsL bs o n
            · rfl
            · exact absurd (HB.out.1 hb k hlt) h0)
          clear h0
          go_wp2
          go_ret
          exact ⟨by rw [HF.out]; rfl, rfl⟩
      · obtain rfl : k = n := by omega
        have HT := Lib.hid (show noughtsL bs o k = true from HB.out.2 HZ.out)
        have hnl : ¬ ((k : Int) < ((q - o : Nat) : Int)) := by omega
        have hnl2 : ¬ (k < q - o) := by omega
        clear hqo hlt
        go_wp2
        go_ret
        exact ⟨by rw [HT.out]; rfl, rfl⟩
  · have HIN := Lib.hid (fun W => rowIn_any A bs.length cap o n false W (by omega) (by omega) (by omega) ⟨fun q => by simp at q, fun q => by omega⟩)
    rw [noughtsL_out h]
    clear hl hs h
    go_enter Tryz.func118, Tryz.ntmps118
    go_wp2_with (first | (refine (HIN.out _).mono ?_; rintro e w' ⟨rfl, rfl⟩) | fail)
    go_ret
    exact ⟨rfl, rfl⟩
def readL (b : List Nat) (rva o : Nat) : Option (List Nat × Nat) :=
  match textL b (rva + numL (b.drop (o + 4)) 2) 40 with
  | some t => if okNm t then some (t, numL (b.drop o) 4) else none
  | none => none
def ReadQ (b : List Nat) (rva o : Nat) (e : Ending) : Prop := ∃ (S : ByteArray) (ok : Bool), e = .returned (.tuple #[.agg #[.string S, .int .i64 (numL (b.drop o) 4)], .bool ok]) ∧
  (readL b rva o = none → ok = false) ∧ (∀ x, readL b rva o = some x → ok = true ∧ S = txt x.1 ∧ numL (b.drop o) 4 = x.2)
theorem textL_lb {b : List Nat} (h : Lb b) {o most : Nat} {t : List Nat} (ht : textL b o most = some t) : Lb t ∧ t.length ≤ most := by
  obtain ⟨_, h2, _, _, h5⟩ := textL_some ht
  exact ⟨by rw [h5]; exact (h.drop o).take _, h2⟩
set_option maxHeartbeats 1000000 in
theorem bread_any (A : Option Addr) (cap : Nat) (bs : List Nat) (rva o : Nat) (sz : Int) (w : World) (hb : Lb bs) (hl : bs.length ≤ cap) (hc : cap ≤ 9223372036854775807) (hs : SlB w A bs.length (lF bs)) (h : o + 8 ≤ bs.length) (hr : rva ≤ 1099511627776) (ho : o ≤ 1099511627776) :
    Calls Tryz.prog 119 #[.slice A bs.length cap, .agg #[.int .i64 rva, .int .i64 sz], .int .i64 o] w fun e w' => ReadQ bs rva o e ∧ Below w.heap.size w w' := by
  have n2 := numL_lt (hb.drop (o + 4)) 2
  have n4 := numL_lt (hb.drop o) 4
  have HS := Lib.hid (fun W (hW : Below w.heap.size w W) => SlB.below hs hW)
  have H32 := Lib.hid (fun W (hW : Below w.heap.size w W) => u32_list A cap bs o W (by omega) hb (by omega) (HS.out W hW))
  have H16 := Lib.hid (fun W (hW : Below w.heap.size w W) => u16_list A cap bs (o + 4) W (by omega) hb (by omega) (HS.out W hW))
  have HTX := Lib.hid (fun W (hW : Below w.heap.size w W) => text_list A cap bs (rva + numL (bs.drop (o + 4)) 2) 40 W hc hl (HS.out W hW))
  have HOK := Lib.hid (fun t (ht : textL bs (rva + numL (bs.drop (o + 4)) 2) 40 = some t) W => okNm_any t W (textL_lb hb ht).1 (by have := (textL_lb hb ht).2; omega))
  obtain ⟨P, hP⟩ : ∃ P, numL (bs.drop (o + 4)) 2 = P := ⟨_, rfl⟩
  obtain ⟨V, hV⟩ : ∃ V, numL (bs.drop o) 4 = V := ⟨_, rfl⟩
  have HRD := Lib.hid (show readL bs rva o = match textL bs (rva + P) 40 with | some t => if okNm t then some (t, V) else none | none => none by unfold readL; rw [hP, hV])
  unfold ReadQ
  rw [hP] at H16 HTX HOK n2
  rw [hV] at H32 n4 ⊢
  obtain ⟨o4, ho4⟩ : ∃ q, o + 4 = q := ⟨_, rfl⟩
  obtain ⟨rp, hrp⟩ : ∃ q, rva + P = q := ⟨_, rfl⟩
  rw [ho4] at H16
  rw [hrp] at HTX HOK HRD
  have e4 : (o : Int) + 4 = (o4 : Int) := by omega
  have erp : (rva : Int) + (P : Int) = (rp : Int) := by omega
  have l4 : (o4 : Int) < 9223372036854775808 := by omega
  have lrp : (rp : Int) < 9223372036854775808 := by omega
  have e16 : (256 : Nat) ^ 2 = 65536 := rfl
  have e32 : (256 : Nat) ^ 4 = 4294967296 := rfl
  rw [e16] at n2
  rw [e32] at n4
  clear hP hV ho4 hrp e16 e32 hs
  rcases ht : textL bs rp 40 with _ | t
  · rw [ht] at HTX HRD
    simp only at HTX HRD
    go_enter Tryz.func119, Tryz.ntmps119
    go_wp2_with (first | (refine (H32.out _ (by go_grown)).mono ?_; rintro e w' ⟨rfl, rfl⟩) | (refine (H16.out _ (by go_grown)).mono ?_; rintro e w' ⟨rfl, rfl⟩) | (refine (HTX.out _ (by go_grown)).mono ?_; rintro e w' ⟨rfl, rfl⟩) | fail)
    refine bodyPost_ret (v := .tuple #[.agg #[.string ByteArray.empty, .int .i64 V], .bool false]) (by simp [results, Tryz.results119, go_sem]) rfl ⟨⟨_, _, rfl, fun _ => rfl, fun x hx => ?_⟩, by go_grown⟩
    rw [HRD.out] at hx
    exact absurd hx (by simp)
  · rw [ht] at HTX HRD
    have HO := Lib.hid (HOK.out t ht)
    simp only at HTX HRD
    go_enter Tryz.func119, Tryz.ntmps119
    go_wp2_with (first | (refine (H32.out _ (by go_grown)).mono ?_; rintro e w' ⟨rfl, rfl⟩) | (refine (H16.out _ (by go_grown)).mono ?_; rintro e w' ⟨rfl, rfl⟩) | (refine (HTX.out _ (by go_grown)).mono ?_; rintro e w' ⟨rfl, rfl⟩) | (refine (HO.out _).mono ?_; rintro e w' ⟨rfl, rfl⟩) | fail)
    refine bodyPost_ret (v := .tuple #[.agg #[.string (txt t), .int .i64 V], .bool (okNm t)]) (by simp [results, Tryz.results119, go_sem]) rfl ⟨⟨_, _, rfl, fun hx => ?_, fun x hx => ?_⟩, by go_grown⟩
    · rw [HRD.out] at hx
      by_cases k : okNm t = true
      · rw [if_pos k] at hx; exact absurd hx (by simp)
      · simpa using k
    · rw [HRD.out] at hx
      by_cases k : okNm t = true
      · rw [if_pos k] at hx; injection hx with hx; subst hx; exact ⟨k, rfl, rfl⟩
      · rw [if_neg k] at hx; exact absurd hx (by simp)
abbrev BRow := List Nat × Nat
def bC (x : BRow) : List Value := [.string (txt x.1), .int .i64 x.2]
theorem bC_len (x : BRow) : (bC x).length = 2 := rfl
theorem bC_one (x : BRow) : ∀ u ∈ bC x, u.oneCell' = true := by
  intro u hu
  simp [bC] at hu
  rcases hu with rfl | rfl <;> rfl
theorem infoBound : (Tryz.prog.info? 80).map (fun i => (i.zero, i.size, i.bytes)) = some (some (.agg #[.string ByteArray.empty, .int .i64 0]), 2, 24) := by kernel_rfl
def parseL (b : List Nat) (rva : Nat) : Nat → Nat → Nat → List BRow → Option (List BRow)
  | 0, _, _, _ => none
  | k + 1, o, bl, acc =>
    if bl = 0 ∧ noughtsL b o 8 = true then some acc
    else if ¬ o + 8 ≤ b.length ∨ noughtsL b o 8 = true ∨ acc.length = 32 then none
    else match readL b rva o with
      | none => none
      | some x => parseL b rva k (o + 8) (if 0 < bl then bl - 1 else numL (b.drop (o + 6)) 2) (acc ++ [x])
def ParseB (w w' : World) (r : Option (List BRow)) (e : Ending) : Prop :=
  (match r with
   | none => e = .returned (.tuple #[.slice none 0 0, .int .i64 8])
   | some l => ∃ A cap, e = .returned (.tuple #[.slice A l.length cap, .int .i64 0]) ∧ OwnT bC 2 w' w.heap.size 80 (.slice A l.length cap) l) ∧ Below w.heap.size w w'
theorem boundCells (t : List Nat) (v : Nat) (w : World) : ∀ j u, (bC (t, v))[j]? = some u → (w.alloc (.cells #[.string (txt t), .int .i64 v] 80)).cell? ⟨w.heap.size, j, none⟩ = some u := by
  intro j u hu
  rcases j with _ | _ | j
  · simp [bC] at hu; subst hu; simp [go_sem]
  · simp [bC] at hu; subst hu; simp [go_sem]
  · simp [bC] at hu
theorem lt_of_row {w : World} {b : Nat} {c : Obj} (h : w.heap[b]? = some c) : b < w.heap.size := by
  rcases Nat.lt_or_ge b w.heap.size with h' | h'
  · exact h'
  · simp [Array.getElem?_eq_none h'] at h
set_option maxRecDepth 100000 in
set_option maxHeartbeats 4000000 in
theorem bparse_any (A : Option Addr) (cap : Nat) (bs : List Nat) (rva : Nat) (sz : Int) (w : World) (hb : Lb bs) (hl : bs.length ≤ cap) (hc : cap ≤ 9223372036854775807) (hs : SlB w A bs.length (lF bs)) (hr1 : 1 ≤ rva) (hr : rva ≤ 1073741824) :
    Calls Tryz.prog 83 #[.slice A bs.length cap, .agg #[.int .i64 rva, .int .i64 sz]] w fun e w' => ParseB w w' (parseL bs rva 33 rva 0 []) e := by
  have HS := Lib.hid (fun W (hW : Below w.heap.size w W) => SlB.below hs hW)
  have HLB := Lib.hid hb
  have HL := Lib.hid (show bs.length ≤ cap ∧ cap ≤ 9223372036854775807 from ⟨hl, hc⟩)
  have e0 : ((rva : Int) == 0) = false := beq_eq_false_iff_ne.mpr (by omega)
  obtain ⟨res, hres⟩ : ∃ res, parseL bs rva 33 rva 0 [] = res := ⟨_, rfl⟩
  rw [hres]
  have HRS := Lib.hid hres
  clear hres hs hb hl hc
  go_enter Tryz.func83, Tryz.ntmps83
  go_wp2_with fail
  have hO := (OwnT.made (C := bC) (sz := 2) (w.alloc (.cells #[.int .i64 rva, .int .i64 sz] 37)) (w.heap.size + 1) (by simp) 80)
  have hB : Below w.heap.size w ((w.alloc (.cells #[.int .i64 rva, .int .i64 sz] 37)).alloc (.cells #[] 80)) := ((Below.refl _ _).alloc (Nat.le_refl _) _).alloc (by simp) _
  have hD : ((w.alloc (.cells #[.int .i64 rva, .int .i64 sz] 37)).alloc (.cells #[] 80)).heap[w.heap.size]? = some (.cells #[.int .i64 rva, .int .i64 sz] 37 (0, 0)) :=
    (((Below.refl _ _).alloc (Nat.le_refl _) _).block _ (by simp)).trans (heap_alloc_new _ _)
  rw [show (w.alloc (.cells #[.int .i64 rva, .int .i64 sz] 37)).heap.size = w.heap.size + 1 by simp] at hO
  have HO := Lib.hid hO
  have HB := Lib.hid hB
  have HD := Lib.hid hD
  clear hO hB hD
  generalize ((w.alloc (.cells #[.int .i64 rva, .int .i64 sz] 37)).alloc (.cells #[] 80)) = w1 at *
  go_loopw [6, 7, 8] (fun v6 v7 v8 wr => ∃ (k bl : Nat) (l : List BRow) (A' : Option Addr) (cap' : Nat), l.length + k = 33 ∧ 1 ≤ k ∧ bl ≤ 65535 ∧ v8 = .int .i64 ((rva + 8 * l.length : Nat) : Int) ∧ v7 = .int .i64 bl ∧ v6 = .slice A' l.length cap' ∧ OwnT bC 2 wr (w.heap.size + 1) 80 (.slice A' l.length cap') l ∧ Below w.heap.size w wr ∧ wr.heap[w.heap.size]? = some (.cells #[.int .i64 rva, .int .i64 sz] 37 (0, 0)) ∧ parseL bs rva k (rva + 8 * l.length) bl l = res) (fun _ _ v8 _ => rva + 264 - (intOf v8).toNat)
  case atStart => exact ⟨33, 0, [], _, _, rfl, by omega, by omega, rfl, rfl, rfl, HO.out, HB.out, HD.out, HRS.out⟩
  case round =>
    obtain ⟨k, bl, l, A', cap', hk, hk1, hbl, rfl, rfl, rfl, hown, hbel, hd, hp⟩ := hrel
    replace HO := Lib.hid hown
    have HBW := Lib.hid hbel
    replace HD := Lib.hid hd
    obtain ⟨k, rfl⟩ : ∃ k', k = k' + 1 := ⟨k - 1, by omega⟩
    have hl32 : l.length ≤ 32 := by omega
    have HK := Lib.hid hk
    obtain ⟨o, ho⟩ : ∃ o, rva + 8 * l.length = o := ⟨_, rfl⟩
    rw [ho] at hp ⊢
    have HOO := Lib.hid ho
    have ho1 : o ≤ 1073742088 := by omega
    unfold parseL at hp
    obtain ⟨N, hN⟩ : ∃ N, noughtsL bs o 8 = N := ⟨_, rfl⟩
    have HN := Lib.hid (fun W (hW : Below w.heap.size w W) => noughts_any A cap bs o 8 W HL.out.1 HL.out.2 (HS.out W hW) (by omega) (by omega) (by omega))
    have HI := Lib.hid (fun W (hW : Below w.heap.size w W) => rowIn_any A bs.length cap o 8 (decide (o + 8 ≤ bs.length)) W (by have := HL.out; omega) (by omega) (by omega) ⟨fun q => by have := of_decide_eq_true q; omega, fun q => decide_eq_true (by omega)⟩)
    rw [hN] at hp HN
    have HP := Lib.hid hp
    have HNN := Lib.hid hN
    clear hk hk1 hp hN ho hown hbel hd HRS
    by_cases hz : bl = 0
    · subst hz
      have dbl : decide ((0 : Int) > 0) = false := by decide
      by_cases cN : N = true
      · subst cN
        have hp := HP.out
        rw [if_pos ⟨rfl, rfl⟩] at hp
        subst hp
        go_wp2_with (first | (refine (HN.out _ (HBW.out)).mono ?_; rintro e w' ⟨rfl, rfl⟩) | (refine (HI.out _ (HBW.out)).mono ?_; rintro e w' ⟨rfl, rfl⟩) | fail)
        go_ret2
        exact ⟨⟨_, _, rfl, Joins.ownsRow_le HO.out (Nat.le_succ _)⟩, HBW.out⟩
      have cN : N = false := by simpa using cN
      subst cN
      by_cases cI : o + 8 ≤ bs.length
      · have hI : decide (o + 8 ≤ bs.length) = true := decide_eq_true cI
        rw [hI] at HI
        clear hI
        by_cases c32 : l.length = 32
        · have hp := HP.out
          rw [if_neg (fun h => Bool.noConfusion h.2), if_pos (.inr (.inr c32))] at hp
          subst hp
          have d32 : ((l.length : Int) == 32) = true := by rw [c32]; rfl
          clear cI c32
          go_wp2_with (first | (refine (HN.out _ (HBW.out)).mono ?_; rintro e w' ⟨rfl, rfl⟩) | (refine (HI.out _ (HBW.out)).mono ?_; rintro e w' ⟨rfl, rfl⟩) | fail)
          go_ret2
          exact ⟨rfl, HBW.out⟩
        · have d32 : ((l.length : Int) == 32) = false := beq_eq_false_iff_ne.mpr (by omega)
          have hp := HP.out
          rw [if_neg (fun h => Bool.noConfusion h.2), if_neg (fun h => by rcases h with h | h | h; exact h cI; exact Bool.noConfusion h; exact c32 h)] at hp
          have HRD := Lib.hid (fun W (hW : Below w.heap.size w W) => bread_any A cap bs rva o sz W HLB.out HL.out.1 HL.out.2 (HS.out W hW) cI (by omega) (by omega))
          have H16 := Lib.hid (fun W (hW : Below w.heap.size w W) => u16_list A cap bs (o + 6) W (by have := HL.out; omega) HLB.out (by omega) (HS.out W hW))
          have hu16 := numL_lt (HLB.out.drop (o + 6)) 2
          rw [show (256 : Nat) ^ 2 = 65536 from rfl] at hu16
          obtain ⟨B2, hB2⟩ : ∃ B2, numL (bs.drop (o + 6)) 2 = B2 := ⟨_, rfl⟩
          rw [hB2] at H16 hu16 hp
          obtain ⟨o6, ho6⟩ : ∃ o6, o + 6 = o6 := ⟨_, rfl⟩
          rw [ho6] at H16
          have e6 : (o : Int) + 6 = (o6 : Int) := by omega
          have l6 : (o6 : Int) < 9223372036854775808 := by omega
          clear hB2 ho6
          have hk2 := HK.out
          have hkk : 1 ≤ k := by omega
          have hd0 : wr.cell? ⟨w.heap.size, 0, none⟩ = some (.int .i64 rva) := by rw [cell_of_row _ _ _ _ _ _ HD.out]; rfl
          have hd1 : wr.cell? ⟨w.heap.size, 1, none⟩ = some (.int .i64 sz) := by rw [cell_of_row _ _ _ _ _ _ HD.out]; rfl
          replace HP := Lib.hid hp
          clear hp cI hk2
          go_wp2_with (first | (refine (HN.out _ (HBW.out)).mono ?_; rintro e w' ⟨rfl, rfl⟩) | (refine (HI.out _ (HBW.out)).mono ?_; rintro e w' ⟨rfl, rfl⟩) | fail)
          refine (HRD.out _ HBW.out).mono ?_
          rintro e w4 ⟨⟨S, ok, rfl, hq1, hq2⟩, hw4⟩
          replace HO := Lib.hid (HO.out.below hw4)
          replace HD := Lib.hid (show w4.heap[w.heap.size]? = _ from (hw4.block _ (by
            have h := HD.out
            rcases Nat.lt_or_ge w.heap.size wr.heap.size with h' | h'
            · exact h'
            · simp [Array.getElem?_eq_none h'] at h)).trans HD.out)
          replace HBW := Lib.hid (HBW.out.trans (hw4.mono HBW.out.size))
          clear hw4 hd0 hd1
          rcases hrd : readL bs rva o with _ | x
          · obtain rfl := hq1 hrd
            have hp := HP.out
            rw [hrd] at hp
            subst hp
            clear hq1 hq2 hrd
            go_wp2_with (first | (refine (HN.out _ (HBW.out)).mono ?_; rintro e w' ⟨rfl, rfl⟩) | (refine (HI.out _ (HBW.out)).mono ?_; rintro e w' ⟨rfl, rfl⟩) | fail)
            go_ret2
            exact ⟨rfl, HBW.out.alloc HBW.out.size _⟩
          · obtain ⟨rfl, rfl, hv⟩ := hq2 x hrd
            have hp := HP.out
            rw [hrd] at hp
            replace HP := Lib.hid hp
            clear hq1 hq2 hrd hp
            rw [hv]
            obtain ⟨t, v⟩ := x
            simp only at hv ⊢
            clear hv
            have HY := Lib.hid (show ∀ j u, (bC (t, v))[j]? = some u → ((w4.alloc (.cells #[.string (txt t), .int .i64 v] 80)).alloc (.cells #[.string (txt t), .int .i64 v] 80)).cell? ⟨w4.heap.size + 1, j, none⟩ = some u from by
              have h := boundCells t v (w4.alloc (.cells #[.string (txt t), .int .i64 v] 80))
              rwa [show (w4.alloc (.cells #[.string (txt t), .int .i64 v] 80)).heap.size = w4.heap.size + 1 by simp] at h)
            have HOA := Lib.hid ((HO.out.alloc (.cells #[.string (txt t), .int .i64 v] 80)).alloc (.cells #[.string (txt t), .int .i64 v] 80))
            have HBA := Lib.hid ((HBW.out.alloc HBW.out.size (.cells #[.string (txt t), .int .i64 v] 80)).alloc (HBW.out.alloc HBW.out.size (.cells #[.string (txt t), .int .i64 v] 80)).size (.cells #[.string (txt t), .int .i64 v] 80))
            have HDA := Lib.hid (show ((w4.alloc (.cells #[.string (txt t), .int .i64 v] 80)).alloc (.cells #[.string (txt t), .int .i64 v] 80)).heap[w.heap.size]? = some (.cells #[.int .i64 rva, .int .i64 sz] 37 (0, 0)) from by
              have h0 : w.heap.size < w4.heap.size := lt_of_row HD.out
              exact ((((Below.refl _ _).alloc (Nat.le_refl _) _).alloc (by simp) _).block _ h0).trans HD.out)
            go_wp2_with (first
              | (at_builtin; refine wpList_appT rfl (.tmp 50) (.tmp 52) 30 rfl (w.heap.size + 1) 80 _ 24 rfl infoBound rfl (by omega) bC_len bC_one _ l rfl HOA.out (w4.heap.size + 1) 1 rfl (t, v) HY.out (by unfold maxLen; omega) (by omega) (lt_of_row HDA.out) ?_; intro g5 cap5 w5 hown5 hg5 hat5)
              | fail)
            have HB5 := Lib.hid (HOA.out.grew HBA.out (Nat.le_succ _) HBA.out.size hg5)
            have HD5 := Lib.hid ((hg5.block w.heap.size (lt_of_row HDA.out) (fun h => by have := (HOA.out.lt _ h.symm).1; omega)).trans HDA.out)
            have HO5 := Lib.hid hown5
            clear hown5 hg5 hat5
            refine (H16.out _ HB5.out).mono ?_
            rintro e w' ⟨rfl, rfl⟩
            go_wp2_with fail
            go_roundw
            case rel =>
              have hlen : (l ++ [(t, v)]).length = l.length + 1 := by simp
              refine ⟨k, B2, l ++ [(t, v)], _, cap5, by have := HK.out; omega, hkk, by omega, ?_, ?_, by rw [hlen], ?_, HB5.out, HD5.out, ?_⟩
              · have := HOO.out; rw [show ((rva + 8 * (l ++ [(t, v)]).length : Nat) : Int) = (o : Int) + 8 by omega]
              · rfl
              · rw [hlen]; exact HO5.out
              · have hp := HP.out
                try simp only at hp
                rw [if_neg (by omega)] at hp
                rw [show rva + 8 * (l ++ [(t, v)]).length = o + 8 by have := HOO.out; omega]
                exact hp
            case measure => simp [intOf]; have := HOO.out; omega
      · have hI : decide (o + 8 ≤ bs.length) = false := decide_eq_false cI
        rw [hI] at HI
        have hp := HP.out
        rw [if_neg (fun h => Bool.noConfusion h.2), if_pos (.inl cI)] at hp
        subst hp
        clear hI cI
        go_wp2_with (first | (refine (HN.out _ (HBW.out)).mono ?_; rintro e w' ⟨rfl, rfl⟩) | (refine (HI.out _ (HBW.out)).mono ?_; rintro e w' ⟨rfl, rfl⟩) | fail)
        go_ret2
        exact ⟨rfl, HBW.out⟩
    · skip
      have dbl : decide ((bl : Int) > 0) = true := decide_eq_true (by omega)
      have hbl0 : (0 : Int) < (bl : Int) := by omega
      by_cases cI : o + 8 ≤ bs.length
      · have hI : decide (o + 8 ≤ bs.length) = true := decide_eq_true cI
        rw [hI] at HI
        clear hI
        by_cases cN : N = true
        · subst cN
          have hp := HP.out
          rw [if_neg (fun h => by have := h.1; omega), if_pos (.inr (.inl rfl))] at hp
          subst hp
          clear cI
          go_wp2_with (first | (refine (HN.out _ (HBW.out)).mono ?_; rintro e w' ⟨rfl, rfl⟩) | (refine (HI.out _ (HBW.out)).mono ?_; rintro e w' ⟨rfl, rfl⟩) | fail)
          go_ret2
          exact ⟨rfl, HBW.out⟩
        have cN : N = false := by simpa using cN
        subst cN
        by_cases c32 : l.length = 32
        · have hp := HP.out
          rw [if_neg (fun h => by have := h.1; omega), if_pos (.inr (.inr c32))] at hp
          subst hp
          have d32 : ((l.length : Int) == 32) = true := by rw [c32]; rfl
          clear cI c32
          go_wp2_with (first | (refine (HN.out _ (HBW.out)).mono ?_; rintro e w' ⟨rfl, rfl⟩) | (refine (HI.out _ (HBW.out)).mono ?_; rintro e w' ⟨rfl, rfl⟩) | fail)
          go_ret2
          exact ⟨rfl, HBW.out⟩
        · have d32 : ((l.length : Int) == 32) = false := beq_eq_false_iff_ne.mpr (by omega)
          have hp := HP.out
          rw [if_neg (fun h => by have := h.1; omega), if_neg (fun h => by rcases h with h | h | h; exact h cI; exact Bool.noConfusion h; exact c32 h)] at hp
          have HRD := Lib.hid (fun W (hW : Below w.heap.size w W) => bread_any A cap bs rva o sz W HLB.out HL.out.1 HL.out.2 (HS.out W hW) cI (by omega) (by omega))
          have H16 := Lib.hid (fun W (hW : Below w.heap.size w W) => u16_list A cap bs (o + 6) W (by have := HL.out; omega) HLB.out (by omega) (HS.out W hW))
          have hu16 := numL_lt (HLB.out.drop (o + 6)) 2
          rw [show (256 : Nat) ^ 2 = 65536 from rfl] at hu16
          obtain ⟨B2, hB2⟩ : ∃ B2, numL (bs.drop (o + 6)) 2 = B2 := ⟨_, rfl⟩
          rw [hB2] at H16 hu16 hp
          obtain ⟨o6, ho6⟩ : ∃ o6, o + 6 = o6 := ⟨_, rfl⟩
          rw [ho6] at H16
          have e6 : (o : Int) + 6 = (o6 : Int) := by omega
          have l6 : (o6 : Int) < 9223372036854775808 := by omega
          clear hB2 ho6
          have hk2 := HK.out
          have hkk : 1 ≤ k := by omega
          have hd0 : wr.cell? ⟨w.heap.size, 0, none⟩ = some (.int .i64 rva) := by rw [cell_of_row _ _ _ _ _ _ HD.out]; rfl
          have hd1 : wr.cell? ⟨w.heap.size, 1, none⟩ = some (.int .i64 sz) := by rw [cell_of_row _ _ _ _ _ _ HD.out]; rfl
          replace HP := Lib.hid hp
          clear hp cI hk2 H16 hu16 e6 l6
          go_wp2_with (first | (refine (HN.out _ (HBW.out)).mono ?_; rintro e w' ⟨rfl, rfl⟩) | (refine (HI.out _ (HBW.out)).mono ?_; rintro e w' ⟨rfl, rfl⟩) | fail)
          refine (HRD.out _ HBW.out).mono ?_
          rintro e w4 ⟨⟨S, ok, rfl, hq1, hq2⟩, hw4⟩
          replace HO := Lib.hid (HO.out.below hw4)
          replace HD := Lib.hid (show w4.heap[w.heap.size]? = _ from (hw4.block _ (by
            have h := HD.out
            rcases Nat.lt_or_ge w.heap.size wr.heap.size with h' | h'
            · exact h'
            · simp [Array.getElem?_eq_none h'] at h)).trans HD.out)
          replace HBW := Lib.hid (HBW.out.trans (hw4.mono HBW.out.size))
          clear hw4 hd0 hd1
          rcases hrd : readL bs rva o with _ | x
          · obtain rfl := hq1 hrd
            have hp := HP.out
            rw [hrd] at hp
            subst hp
            clear hq1 hq2 hrd
            go_wp2_with (first | (refine (HN.out _ (HBW.out)).mono ?_; rintro e w' ⟨rfl, rfl⟩) | (refine (HI.out _ (HBW.out)).mono ?_; rintro e w' ⟨rfl, rfl⟩) | fail)
            go_ret2
            exact ⟨rfl, HBW.out.alloc HBW.out.size _⟩
          · obtain ⟨rfl, rfl, hv⟩ := hq2 x hrd
            have hp := HP.out
            rw [hrd] at hp
            replace HP := Lib.hid hp
            clear hq1 hq2 hrd hp
            rw [hv]
            obtain ⟨t, v⟩ := x
            simp only at hv ⊢
            clear hv
            have HY := Lib.hid (show ∀ j u, (bC (t, v))[j]? = some u → ((w4.alloc (.cells #[.string (txt t), .int .i64 v] 80)).alloc (.cells #[.string (txt t), .int .i64 v] 80)).cell? ⟨w4.heap.size + 1, j, none⟩ = some u from by
              have h := boundCells t v (w4.alloc (.cells #[.string (txt t), .int .i64 v] 80))
              rwa [show (w4.alloc (.cells #[.string (txt t), .int .i64 v] 80)).heap.size = w4.heap.size + 1 by simp] at h)
            have HOA := Lib.hid ((HO.out.alloc (.cells #[.string (txt t), .int .i64 v] 80)).alloc (.cells #[.string (txt t), .int .i64 v] 80))
            have HBA := Lib.hid ((HBW.out.alloc HBW.out.size (.cells #[.string (txt t), .int .i64 v] 80)).alloc (HBW.out.alloc HBW.out.size (.cells #[.string (txt t), .int .i64 v] 80)).size (.cells #[.string (txt t), .int .i64 v] 80))
            have HDA := Lib.hid (show ((w4.alloc (.cells #[.string (txt t), .int .i64 v] 80)).alloc (.cells #[.string (txt t), .int .i64 v] 80)).heap[w.heap.size]? = some (.cells #[.int .i64 rva, .int .i64 sz] 37 (0, 0)) from by
              have h0 : w.heap.size < w4.heap.size := lt_of_row HD.out
              exact ((((Below.refl _ _).alloc (Nat.le_refl _) _).alloc (by simp) _).block _ h0).trans HD.out)
            go_wp2_with (first
              | (at_builtin; refine wpList_appT rfl (.tmp 50) (.tmp 52) 30 rfl (w.heap.size + 1) 80 _ 24 rfl infoBound rfl (by omega) bC_len bC_one _ l rfl HOA.out (w4.heap.size + 1) 1 rfl (t, v) HY.out (by unfold maxLen; omega) (by omega) (lt_of_row HDA.out) ?_; intro g5 cap5 w5 hown5 hg5 hat5)
              | fail)
            have HB5 := Lib.hid (HOA.out.grew HBA.out (Nat.le_succ _) HBA.out.size hg5)
            have HD5 := Lib.hid ((hg5.block w.heap.size (lt_of_row HDA.out) (fun h => by have := (HOA.out.lt _ h.symm).1; omega)).trans HDA.out)
            have HO5 := Lib.hid hown5
            clear hown5 hg5 hat5
            go_roundw
            case rel =>
              have hlen : (l ++ [(t, v)]).length = l.length + 1 := by simp
              refine ⟨k, (bl - 1), l ++ [(t, v)], _, cap5, by have := HK.out; omega, hkk, by omega, ?_, ?_, by rw [hlen], ?_, HB5.out, HD5.out, ?_⟩
              · have := HOO.out; rw [show ((rva + 8 * (l ++ [(t, v)]).length : Nat) : Int) = (o : Int) + 8 by omega]
              · rw [show ((bl - 1 : Nat) : Int) = (bl : Int) - 1 by omega]
              · rw [hlen]; exact HO5.out
              · have hp := HP.out
                try simp only at hp
                rw [if_pos (by omega)] at hp
                rw [show rva + 8 * (l ++ [(t, v)]).length = o + 8 by have := HOO.out; omega]
                exact hp
            case measure => simp [intOf]; have := HOO.out; omega
      · have hI : decide (o + 8 ≤ bs.length) = false := decide_eq_false cI
        rw [hI] at HI
        have hp := HP.out
        rw [if_neg (fun h => by have := h.1; omega), if_pos (.inl cI)] at hp
        subst hp
        clear hI cI
        cases N
        all_goals
          go_wp2_with (first | (refine (HN.out _ (HBW.out)).mono ?_; rintro e w' ⟨rfl, rfl⟩) | (refine (HI.out _ (HBW.out)).mono ?_; rintro e w' ⟨rfl, rfl⟩) | fail)
          go_ret2
          exact ⟨rfl, HBW.out⟩
end Go.Proofs.YtplgdpjbkdagfaaGreat
