import Derived.Test.YtplgdpjbkdagfaaGreatZNought
import Derived.Test.YtplgdpjbkdagfaaGreatZDec
import Derived.Test.YtplgdpjbkdagfaaGreatZHdrD
import Derived.Test.YtplgdpjbkdagfaaGreatZRegK
import Derived.Laws.MakeOwn
import Derived.Deep.Cut
namespace Go.Proofs.YtplgdpjbkdagfaaGreat
set_option maxRecDepth 100000
open Go.ChangeShapes Go.WideShapes Go.ChangeAt Go.RowKit
set_option linter.unusedVariables false
set_option linter.unusedSimpArgs false
theorem bt_txt {t : List Nat} (h : Lb t) {i : Nat} (hi : i < t.length) : PlainAid.bt (txt t) i = lF t i := txt_bt h hi
theorem lF_get {t : List Nat} {i : Nat} (hi : i < t.length) : lF t i = (t[i] : Int) := by simp [lF, List.getD, hi]
theorem lF_head {t : List Nat} (h : 0 < t.length) : lF t 0 = (t.headD 0 : Nat) := by
  cases t with
  | nil => simp at h
  | cons a r => rfl
def okSymL (t : List Nat) : Bool := decide (1 ≤ t.length) && decide (t.length ≤ 60) && (t.headD 0 != 35) && t.all fun c => decide (33 ≤ c) && decide (c ≤ 126)
theorem okSym_iff {t : List Nat} (h : Lb t) : OkSym (txt t) ↔ okSymL t = true := by
  unfold OkSym okSymL
  rw [txt_size]
  simp only [Bool.and_eq_true, decide_eq_true_eq, List.all_eq_true, and_assoc, bne_iff_ne, ne_eq]
  refine and_congr_right fun h1 => and_congr_right fun _ => and_congr ?_ ⟨fun k v hv => ?_, fun k i hi => ?_⟩
  · rw [bt_txt h (by omega), lF_head (by omega)]; omega
  · obtain ⟨i, hi, rfl⟩ := List.mem_iff_getElem.mp hv
    have := k i hi
    rw [bt_txt h hi, lF_get hi] at this
    omega
  · rw [bt_txt h hi, lF_get hi]
    have := k t[i] (List.getElem_mem hi)
    omega
theorem symOk_any (t : List Nat) (w : World) (h : Lb t) (hl : t.length ≤ 9223372036854775807) : Calls Tryz.prog 125 #[.string (txt t)] w fun e w' => e = .returned (.bool (okSymL t)) ∧ w = w' := by
  by_cases k : okSymL t = true
  · rw [k]; exact symok_yes _ w ((okSym_iff h).2 k)
  · rw [show okSymL t = false by simpa using k]
    exact symok_no _ w (by rw [txt_size]; exact hl) (fun q => k ((okSym_iff h).1 q))
def ordOkL (t : List Nat) : Bool := decide (1 ≤ t.length) && decide (t.length ≤ 5) && (t.headD 0 != 48 || decide (t.length = 1)) && (t.all fun c => decide (48 ≤ c) && decide (c ≤ 57)) && decide (numV (lF t) t.length ≤ 65535)
theorem ordOk_iff {t : List Nat} (h : Lb t) : OrdOk (txt t) ↔ ordOkL t = true := by
  have hn : numV (PlainAid.bt (txt t)) (txt t).size = numV (lF t) t.length := by
    rw [txt_size]; exact numV_congr _ fun i hi => bt_txt h hi
  unfold ordOkL
  simp only [Bool.and_eq_true, decide_eq_true_eq, List.all_eq_true, Bool.or_eq_true, bne_iff_ne, ne_eq]
  constructor
  · rintro ⟨h1, h2, h3, h4, h5⟩
    rw [hn] at h5
    rw [txt_size] at h1 h2 h3 h4
    refine ⟨⟨⟨⟨h1, h2⟩, ?_⟩, fun v hv => ?_⟩, h5⟩
    · rw [bt_txt h (by omega), lF_head (by omega)] at h3
      by_cases c : t.headD 0 = 48
      · right; exact h3 (by omega)
      · left; exact c
    · obtain ⟨i, hi, rfl⟩ := List.mem_iff_getElem.mp hv
      have := h4 i hi
      rw [bt_txt h hi, lF_get hi] at this
      omega
  · rintro ⟨⟨⟨⟨h1, h2⟩, h3⟩, h4⟩, h5⟩
    refine ⟨by rw [txt_size]; exact h1, by rw [txt_size]; exact h2, fun q => ?_, fun i hi => ?_, by rw [hn]; exact h5⟩
    · rw [bt_txt h (by omega), lF_head (by omega)] at q
      rw [txt_size]
      exact h3.resolve_left (fun c => c (by omega))
    · rw [txt_size] at hi
      rw [bt_txt h hi, lF_get hi]
      have := h4 t[i] (List.getElem_mem hi)
      omega
def lastDot (t : List Nat) : Option Nat := (t.reverse.findIdx? (· == 46)).map fun k => t.length - 1 - k
theorem lastDot_none {t : List Nat} (h : lastDot t = none) : ∀ i, i < t.length → lF t i ≠ 46 := by
  intro i hi
  unfold lastDot at h
  rw [Option.map_eq_none_iff, List.findIdx?_eq_none_iff] at h
  have := h t[i] (by simp)
  rw [lF_get hi]
  simp at this
  omega
theorem lastDot_some {t : List Nat} {p : Nat} (h : lastDot t = some p) : p < t.length ∧ lF t p = 46 ∧ ∀ j, p < j → j < t.length → lF t j ≠ 46 := by
  unfold lastDot at h
  rw [Option.map_eq_some_iff] at h
  obtain ⟨k, hk, rfl⟩ := h
  rw [List.findIdx?_eq_some_iff_getElem] at hk
  obtain ⟨hkl, hk0, hkn⟩ := hk
  rw [List.length_reverse] at hkl
  rw [List.getElem_reverse] at hk0
  refine ⟨by omega, ?_, fun j h1 h2 => ?_⟩
  · rw [lF_get (by omega)]
    simp at hk0
    omega
  · have := hkn (t.length - 1 - j) (by omega)
    rw [List.getElem_reverse] at this
    rw [lF_get h2]
    simp only [show t.length - 1 - (t.length - 1 - j) = j by omega] at this
    simp at this
    omega
def splitOk (t : List Nat) : Bool :=
  match lastDot t with
  | none => false
  | some p => okNm (t.take p) && (okSymL (t.drop (p + 1)) || ((t.drop (p + 1)).headD 0 == 35 && ordOkL (t.drop (p + 1)).tail))
theorem txt_part {t : List Nat} (h : Lb t) (o n : Nat) (hn : o + n ≤ t.length) : (txt t).extract o (o + n) = txt ((t.drop o).take n) := by
  rw [extract_bt _ _ _ (by rw [txt_size]; exact hn), ← strF_txt _ _ _ hn]
  exact strF_congr fun i hi => bt_txt h (by omega)
theorem txt_hash (r : List Nat) : txt (35 :: r) = hashT ++ txt r := by
  unfold txt
  rw [List.length_cons, Nat.add_comm, ← strF_cat]
  congr 1
  exact strF_congr fun i hi => by
    rw [Nat.zero_add, Nat.zero_add, Nat.add_comm 1 i]
    rfl
theorem split_any (t : List Nat) (w : World) (h : Lb t) (hl : t.length ≤ 1000000) : Calls Tryz.prog 35 #[.string (txt t)] w fun e w' =>
    (∃ D S O B, e = .returned (.tuple #[.string D, .agg #[.string S, .int .i64 O, .bool B], .bool (splitOk t)])) ∧ Below w.heap.size w w' := by
  have hz : (txt t).size ≤ 140737488355300 := by rw [txt_size]; omega
  rcases hd : lastDot t with _ | p
  · have hs : splitOk t = false := by unfold splitOk; rw [hd]
    rw [hs]
    refine (split_none (txt t) w (by omega) (.inl ?_)).mono ?_
    · rintro ⟨i, hi, h46⟩
      rw [txt_size] at hi
      rw [bt_txt h hi] at h46
      exact lastDot_none hd i hi h46
    · rintro e w' ⟨rfl, hw⟩
      exact ⟨⟨_, _, _, _, rfl⟩, hw⟩
  · obtain ⟨hp, h46, hafter⟩ := lastDot_some hd
    have e1 : (txt t).extract 0 p = txt (t.take p) := by
      have := txt_part h 0 p (by omega)
      rwa [Nat.zero_add, List.drop_zero] at this
    have e2 : (txt t).extract (p + 1) (txt t).size = txt (t.drop (p + 1)) := by
      have := txt_part h (p + 1) (t.length - (p + 1)) (by omega)
      rw [show p + 1 + (t.length - (p + 1)) = t.length by omega] at this
      rw [txt_size, this, List.take_of_length_le (by simp)]
    have hld : LastDot (txt t) (txt (t.take p)) (txt (t.drop (p + 1))) p :=
      ⟨by rw [txt_size]; exact hp, by rw [bt_txt h hp]; exact h46, fun j h1 h2 => by rw [txt_size] at h2; rw [bt_txt h h2]; exact hafter j h1 h2, e1, e2⟩
    have hs : splitOk t = (okNm (t.take p) && (okSymL (t.drop (p + 1)) || ((t.drop (p + 1)).headD 0 == 35 && ordOkL (t.drop (p + 1)).tail))) := by unfold splitOk; rw [hd]
    by_cases hD : okNm (t.take p) = true
    · have hD' := (okNm_iff (h.take p)).2 hD
      by_cases hR : okSymL (t.drop (p + 1)) = true
      · rw [hs, hD, hR]
        refine (split_sym _ _ _ p w (by omega) hld hD' ((okSym_iff (h.drop _)).2 hR)).mono ?_
        rintro e w' ⟨rfl, hw⟩
        exact ⟨⟨_, _, _, _, rfl⟩, hw⟩
      · have hR' : ¬ OkSym (txt (t.drop (p + 1))) := fun q => hR ((okSym_iff (h.drop _)).1 q)
        have hRf : okSymL (t.drop (p + 1)) = false := by simpa using hR
        have hlb := h.drop (p + 1)
        rcases hr : t.drop (p + 1) with _ | ⟨c, r⟩
        · rw [hr] at hld hR' hRf
          rw [hs, hr, hD, hRf]
          refine (split_badsym _ _ _ p w (by omega) hld hD' hR' (.inl rfl)).mono ?_
          rintro e w' ⟨rfl, hw⟩
          exact ⟨⟨_, _, _, _, rfl⟩, hw⟩
        · rw [hr] at hld hR' hRf hlb
          rw [hs, hr, hD, hRf]
          by_cases hc : c = 35
          · subst hc
            have hlr : Lb r := fun v hv => hlb v (List.mem_cons_of_mem _ hv)
            rw [txt_hash] at hld
            by_cases hO : ordOkL r = true
            · have e3 : (true && (false || ((35 :: r).headD 0 == 35 && ordOkL (35 :: r).tail))) = true := by simp [hO]
              rw [e3]
              refine (split_ord _ _ _ p w (by omega) hld hD' ((ordOk_iff hlr).2 hO)).mono ?_
              rintro e w' ⟨rfl, hw⟩
              exact ⟨⟨_, _, _, _, rfl⟩, hw⟩
            · have e3 : (true && (false || ((35 :: r).headD 0 == 35 && ordOkL (35 :: r).tail))) = false := by simpa using hO
              rw [e3]
              refine (split_noord _ _ _ p w (by omega) hld hD' (fun q => hO ((ordOk_iff hlr).1 q))).mono ?_
              rintro e w' ⟨rfl, hw⟩
              exact ⟨⟨_, _, _, _, rfl⟩, hw⟩
          · have e3 : (true && (false || ((c :: r).headD 0 == 35 && ordOkL (c :: r).tail))) = false := by simp [hc]
            rw [e3]
            refine (split_badsym _ _ _ p w (by omega) hld hD' hR' (.inr ?_)).mono ?_
            · rw [bt_txt hlb (by simp), lF_head (by simp)]
              show (c : Int) ≠ 35
              omega
            · rintro e w' ⟨rfl, hw⟩
              exact ⟨⟨_, _, _, _, rfl⟩, hw⟩
    · have hDf : okNm (t.take p) = false := by simpa using hD
      rw [hs, hDf]
      refine (split_none (txt t) w (by omega) (.inr ⟨p, by rw [txt_size]; exact hp, by rw [bt_txt h hp]; exact h46, hld.last, fun q => ?_⟩)).mono ?_
      · have e4 : strF (PlainAid.bt (txt t)) 0 p = txt (t.take p) := by
          have := extract_bt (txt t) 0 p (by rw [txt_size]; omega)
          rw [Nat.zero_add] at this
          rw [← this, e1]
        rw [e4] at q
        exact hD ((okNm_iff (h.take p)).1 q)
      · rintro e w' ⟨rfl, hw⟩
        exact ⟨⟨_, _, _, _, rfl⟩, hw⟩
structure Rw where
  base : Nat
  funcs : Nat
  names : Nat
  atF : Nat
  atN : Nat
  atI : Nat
def Rw.cells (r : Rw) : Array Value := #[.int .i64 r.base, .int .i64 r.funcs, .int .i64 r.names, .int .i64 r.atF, .int .i64 r.atN, .int .i64 r.atI]
def inL (n at' len : Nat) : Bool := decide (len = 0) || decide (at' + len ≤ n)
def rowsL (b : List Nat) (o : Nat) : Rw := ⟨numL (b.drop (o + 16)) 4, numL (b.drop (o + 20)) 4, numL (b.drop (o + 24)) 4, numL (b.drop (o + 28)) 4, numL (b.drop (o + 32)) 4, numL (b.drop (o + 36)) 4⟩
def Rw.ok (r : Rw) (n : Nat) : Bool := decide (r.base < 65536) && decide (r.funcs ≤ 256) && decide (r.names ≤ 256) && decide (r.base + r.funcs ≤ 65536) && inL n r.atF (4 * r.funcs) && inL n r.atN (4 * r.names) && inL n r.atI (2 * r.names)
def findE (b : List Nat) (rva size : Int) : Option Rw :=
  if 40 ≤ size ∧ 0 ≤ rva ∧ rva ≤ b.length - size then
    if (rowsL b rva.toNat).ok b.length then some (rowsL b rva.toNat) else none
  else none
abbrev FnV := Nat × List Nat
def readFn (b : List Nat) (rva size v : Nat) : Option FnV :=
  if v < rva ∨ size ≤ v - rva then (if v < b.length then some (v, []) else none)
  else match textL b v 64 with
    | none => none
    | some t => if splitOk t then some (0, t) else none
theorem u32e_any (A : Option Addr) (cap : Nat) (bs : List Nat) (o : Nat) (w : World) (hl : bs.length ≤ 9223372036854775807) (hb : Lb bs) (h : o + 4 ≤ bs.length) (hs : SlB w A bs.length (lF bs)) :
    Calls Tryz.prog 132 #[.slice A bs.length cap, .int .i64 o] w fun e w' => e = .returned (.int .i64 (numL (bs.drop o) 4)) ∧ w = w' := by
  have H := Lib.hid (u32_list A cap bs o w hl hb h hs)
  clear hs hb
  go_enter Tryz.func132, Tryz.ntmps132
  go_wp2_with fail
  refine H.out.mono ?_
  rintro e w' ⟨rfl, rfl⟩
  go_wp2_with fail
  go_ret
  exact ⟨rfl, rfl⟩
theorem rowInE_any (A : Option Addr) (len cap at' n : Nat) (w : World) (hl : len ≤ 9223372036854775807) (hn : n ≤ 1000000) :
    Calls Tryz.prog 133 #[.slice A len cap, .int .i64 at', .int .i64 n] w fun e w' => e = .returned (.bool (inL len at' n)) ∧ w = w' := by
  have H := Lib.hid (rowIn_any A len cap at' n (decide (at' + n ≤ len)) w hl (by omega) (by omega) (by rw [decide_eq_true_iff]; omega))
  by_cases c : n = 0
  · subst c
    have : inL len at' 0 = true := by simp [inL]
    rw [this]
    clear H this
    go_enter Tryz.func133, Tryz.ntmps133
    go_wp2_with fail
    go_ret
    exact ⟨rfl, rfl⟩
  · have : inL len at' n = decide (at' + n ≤ len) := by simp [inL, c]
    rw [this]
    have d : ((n : Int) == 0) = false := beq_eq_false_iff_ne.mpr (by omega)
    generalize decide (at' + n ≤ len) = B at *
    clear this c
    go_enter Tryz.func133, Tryz.ntmps133
    go_wp2_with fail
    refine H.out.mono ?_
    rintro e w' ⟨rfl, rfl⟩
    go_wp2_with fail
    go_ret
    exact ⟨rfl, rfl⟩
def ReadF (r : Option FnV) (e : Ending) : Prop := ∃ (x : Nat) (S : ByteArray) (ok : Bool), e = .returned (.tuple #[.agg #[.int .i64 x, .string S], .bool ok]) ∧ (r = none → ok = false) ∧ (∀ f, r = some f → ok = true ∧ x = f.1 ∧ S = txt f.2)
theorem textL_lb' {b : List Nat} (h : Lb b) {o most : Nat} {t : List Nat} (ht : textL b o most = some t) : Lb t ∧ t.length ≤ most := by
  obtain ⟨_, h2, _, _, h5⟩ := textL_some ht
  exact ⟨by rw [h5]; exact (h.drop o).take _, h2⟩
set_option maxHeartbeats 1000000 in
theorem readFn_any (A : Option Addr) (cap : Nat) (bs : List Nat) (rva size v : Nat) (w : World) (hb : Lb bs) (hl : bs.length ≤ cap) (hc : cap ≤ 9223372036854775807) (hs : SlB w A bs.length (lF bs)) (hr : rva ≤ 9223372036854775807) (hz : size ≤ 9223372036854775807) (hv : v < 4294967296) :
    Calls Tryz.prog 134 #[.slice A bs.length cap, .agg #[.int .i64 rva, .int .i64 size], .int .i64 v] w fun e w' => ReadF (readFn bs rva size v) e ∧ Below w.heap.size w w' := by
  have HS := Lib.hid (fun W (hW : Below w.heap.size w W) => SlB.below hs hW)
  have HTX := Lib.hid (fun W (hW : Below w.heap.size w W) => text_list A cap bs v 64 W hc hl (HS.out W hW))
  have HSP := Lib.hid (fun t (ht : textL bs v 64 = some t) W => split_any t W (textL_lb' hb ht).1 (by have := (textL_lb' hb ht).2; omega))
  have hbl : bs.length ≤ 9223372036854775807 := by omega
  obtain ⟨R, hR⟩ : ∃ R, readFn bs rva size v = R := ⟨_, rfl⟩
  rw [hR]
  unfold readFn at hR
  have hvI : (v : Int) < 4294967296 := by omega
  by_cases hout : v < rva ∨ size ≤ v - rva
  · rw [if_pos hout] at hR
    have hlen : decide ((v : Int) < (bs.length : Int)) = decide (v < bs.length) := by rw [decide_eq_decide]; omega
    have hR' : (R = none → decide (v < bs.length) = false) ∧ (∀ f, R = some f → decide (v < bs.length) = true ∧ v = f.1 ∧ ByteArray.empty = txt f.2) := by
      by_cases c : v < bs.length
      · rw [if_pos c] at hR; subst hR
        exact ⟨fun h => absurd h (by simp), fun f hf => by injection hf with hf; subst hf; exact ⟨decide_eq_true c, rfl, rfl⟩⟩
      · rw [if_neg c] at hR; subst hR
        exact ⟨fun _ => decide_eq_false c, fun f hf => absurd hf (by simp)⟩
    have HRR := Lib.hid hR'
    clear hR hR' HTX HSP HS hs
    rcases hout with h1 | h1
    · have d1 : (v : Int) < (rva : Int) := by omega
      go_enter Tryz.func134, Tryz.ntmps134
      go_wp2_with fail
      refine bodyPost_ret (v := .tuple #[.agg #[.int .i64 v, .string ByteArray.empty], .bool (decide (v < bs.length))]) (by simp [results, Tryz.results134, go_sem]; rfl) rfl ⟨⟨_, _, _, rfl, HRR.out.1, HRR.out.2⟩, by go_grown⟩
    · by_cases h2 : v < rva
      · have d1 : (v : Int) < (rva : Int) := by omega
        go_enter Tryz.func134, Tryz.ntmps134
        go_wp2_with fail
        refine bodyPost_ret (v := .tuple #[.agg #[.int .i64 v, .string ByteArray.empty], .bool (decide (v < bs.length))]) (by simp [results, Tryz.results134, go_sem]; rfl) rfl ⟨⟨_, _, _, rfl, HRR.out.1, HRR.out.2⟩, by go_grown⟩
      · have d1 : ¬ (v : Int) < (rva : Int) := by omega
        have d2 : (size : Int) ≤ (v : Int) - (rva : Int) := by omega
        go_enter Tryz.func134, Tryz.ntmps134
        go_wp2_with fail
        refine bodyPost_ret (v := .tuple #[.agg #[.int .i64 v, .string ByteArray.empty], .bool (decide (v < bs.length))]) (by simp [results, Tryz.results134, go_sem]; rfl) rfl ⟨⟨_, _, _, rfl, HRR.out.1, HRR.out.2⟩, by go_grown⟩
  · rw [if_neg hout] at hR
    have d1 : ¬ (v : Int) < (rva : Int) := by omega
    have d2 : ¬ (size : Int) ≤ (v : Int) - (rva : Int) := by omega
    clear hout HS hs
    rcases ht : textL bs v 64 with _ | t
    · rw [ht] at HTX hR
      simp only at HTX hR
      subst hR
      clear HSP
      go_enter Tryz.func134, Tryz.ntmps134
      go_wp2_with (first | (refine (HTX.out _ (by go_grown)).mono ?_; rintro e w' ⟨rfl, rfl⟩) | fail)
      refine bodyPost_ret (v := .tuple #[.agg #[.int .i64 0, .string ByteArray.empty], .bool false]) (by simp [results, Tryz.results134, go_sem]; rfl) rfl ⟨⟨0, _, _, rfl, fun _ => rfl, fun f hf => absurd hf (by simp)⟩, by go_grown⟩
    · rw [ht] at HTX hR
      simp only at HTX hR
      have HP := Lib.hid (HSP.out t ht)
      have HR := Lib.hid hR
      clear HSP hR ht
      go_enter Tryz.func134, Tryz.ntmps134
      go_wp2_with fail
      refine (HTX.out _ (by go_grown)).mono ?_
      rintro e w' ⟨rfl, rfl⟩
      go_wp2_with fail
      refine (HP.out _).mono ?_
      rintro e w2 ⟨⟨D, S, O, B, rfl⟩, hw2⟩
      have HW2 := Lib.hid ((((Below.refl w.heap.size w).alloc (Nat.le_refl _) (.cells #[.int .i64 rva, .int .i64 size] 37)).alloc (by simp) (.cells #[.int .i64 0, .string ByteArray.empty] 74)).trans (hw2.mono (by simp; omega)))
      have hrow : w2.heap[w.heap.size + 1]? = some (.cells #[.int .i64 0, .string ByteArray.empty] 74 (0, 0)) := (hw2.block (w.heap.size + 1) (by simp)).trans (by
        have h := heap_alloc_new (w.alloc (.cells #[.int .i64 rva, .int .i64 size] 37)) (.cells #[.int .i64 0, .string ByteArray.empty] 74)
        rwa [show (w.alloc (.cells #[.int .i64 rva, .int .i64 size] 37)).heap.size = w.heap.size + 1 by simp] at h)
      have hc0 : w2.cell? ⟨w.heap.size + 1, 0, none⟩ = some (.int .i64 0) := by rw [cell_of_row _ _ _ _ _ _ hrow]; rfl
      have hc1 : w2.cell? ⟨w.heap.size + 1, 1, none⟩ = some (.string ByteArray.empty) := by rw [cell_of_row _ _ _ _ _ _ hrow]; rfl
      have hf0 : w2.frozen? ⟨w.heap.size + 1, 0, none⟩ = false := frozen_of_row _ _ _ _ _ hrow
      have hf1 : w2.frozen? ⟨w.heap.size + 1, 1, none⟩ = false := frozen_of_row _ _ _ _ _ hrow
      clear hw2 hrow
      go_wp2_with fail
      have k1 := World.cell?_setCell_same (w2.setCell ⟨w.heap.size + 1, 0, none⟩ (.int .i64 0)) _ (.string (txt t)) ((World.cell?_setCell_other w2 _ _ (.int .i64 0) (by intro q; injection q with _ q; cases q)).trans hc1)
      have k0 := (World.cell?_setCell_other (w2.setCell ⟨w.heap.size + 1, 0, none⟩ (.int .i64 0)) ⟨w.heap.size + 1, 1, none⟩ ⟨w.heap.size + 1, 0, none⟩ (.string (txt t)) (by intro q; injection q with _ q; cases q)).trans (World.cell?_setCell_same w2 _ (.int .i64 0) hc0)
      have HW3 := Lib.hid ((HW2.out.setCell (p := ⟨w.heap.size + 1, 0, none⟩) (Nat.le_succ _) (.int .i64 0)).setCell (p := ⟨w.heap.size + 1, 1, none⟩) (Nat.le_succ _) (.string (txt t)))
      clear hc0 hc1 hf0 hf1
      generalize (w2.setCell ⟨w.heap.size + 1, 0, none⟩ (.int .i64 0)).setCell ⟨w.heap.size + 1, 1, none⟩ (.string (txt t)) = w3 at *
      refine bodyPost_ret (v := .tuple #[.agg #[.int .i64 0, .string (txt t)], .bool (splitOk t)]) (by simp [results, Tryz.results134, go_sem, k0, k1]) rfl ⟨⟨0, _, _, rfl, fun h => ?_, fun f hf => ?_⟩, HW3.out⟩
      · have h1 := HR.out
        rw [h] at h1
        by_cases c : splitOk t = true
        · rw [if_pos c] at h1; exact absurd h1 (by simp)
        · simpa using c
      · have h1 := HR.out
        rw [hf] at h1
        by_cases c : splitOk t = true
        · rw [if_pos c] at h1; injection h1 with h1; subst h1; exact ⟨c, rfl, rfl⟩
        · rw [if_neg c] at h1; exact absurd h1 (by simp)
end Go.Proofs.YtplgdpjbkdagfaaGreat
