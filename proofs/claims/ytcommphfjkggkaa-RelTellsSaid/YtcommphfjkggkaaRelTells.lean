/- RelTells: the walk. -/
import Derived.Test.YtcommphfjkggkaaRRelB
import Derived.Test.YtcommphfjkggkaaRelTame
import Derived.Test.YtcommphfjkggkaaRelKinds
import Derived.Test.YtcommphfjkggkaaRelSame
import Derived.Test.YtcommphfjkggkaaRelAwake
import Derived.Test.YtcommphfjkggkaaBl2
import Derived.Deep.Cut
import Derived.Deep.CutRange
import Derived.Deep.RegionHeld3
namespace Go.Proofs.Ytcommphfjkggkaa
open Go.ChangeShapes Go.WideShapes Go.ChangeAt Go.RowKit
set_option linter.unusedVariables false

/-- The slice A of n bytes holds the text S. -/
def RowT (w : World) (A : Option Addr) (n cap : Nat) (S : ByteArray) : Prop := S.size = n ∧ n ≤ cap ∧ SlB w A n (PlainAid.bt S)
theorem RowT.below {w w' : World} {A : Option Addr} {n cap : Nat} {S : ByteArray} (h : RowT w A n cap S) (hb : Below w.heap.size w w') : RowT w' A n cap S := ⟨h.1, h.2.1, h.2.2.below hb⟩
theorem RowT.of {w : World} {A : Option Addr} {n cap : Nat} {f : Nat → Int} (h : SlB w A n f) (hb : Bytes255 f) (hc : n ≤ cap) : RowT w A n cap (strF f 0 n) := by
  refine ⟨strF_size _ _ _, hc, ?_⟩
  rcases h with h | ⟨b, off, rfl, hlt, hr⟩
  · exact .inl h
  · exact .inr ⟨b, off, rfl, hlt, fun i hi => by rw [bt_strF hb hi, Nat.zero_add]; exact hr i hi⟩
theorem RowT.str {w : World} {A : Option Addr} {n cap : Nat} {S : ByteArray} (h : RowT w A n cap S) : (convert 22 9 (.slice A n cap)).run Try.prog w = .ok (.string S) w := by
  obtain ⟨h1, _, h | ⟨b, off, rfl, hlt, hr⟩⟩ := h
  · subst h
    rw [run_str0]
    congr 2
    exact (ByteArray.ext (Array.eq_empty_of_size_eq_zero h1)).symm
  · rw [run_str hr, ← h1, strF_bt]

/-- What is told of sites: some, and by which error. -/
theorem ParseR.any {w w' : World} {res : Option (List Site)} {e : Ending} (h : ParseR w w' res e) : ∃ A c, e = .returned (.tuple #[.slice A (res.getD []).length c, .int .i64 (if res.isSome then 0 else 9)]) ∧ SlT relC 2 w' A (res.getD []) ∧ Below w.heap.size w w' := by
  obtain ⟨h, hb⟩ := h
  cases res with
  | none => exact ⟨none, 0, h, .inl rfl, hb⟩
  | some l =>
    obtain ⟨A, c, h1, h2⟩ := h
    exact ⟨A, c, h1, h2.sl relC_len, hb⟩
theorem RelsR.any {w w' : World} {res : Option (List Site)} {e : Ending} (h : RelsR w w' res e) : ∃ A c, e = .returned (.tuple #[.slice A (res.getD []).length c, .int .i64 (if res.isSome then 0 else 9)]) ∧ SlT relC 2 w' A (res.getD []) ∧ Below w.heap.size w w' := by
  obtain ⟨h, hb⟩ := h
  cases res with
  | none => exact ⟨none, 0, h, .inl rfl, hb⟩
  | some l =>
    obtain ⟨A, c, h1, h2⟩ := h
    exact ⟨A, c, h1, h2, hb⟩

theorem and_ffff' (n : Int) : bits .and .i64 n 65535 = n % 65536 := i64_mask n 16 (by omega)

theorem RowT.strK {w W : World} {A : Option Addr} {n cap : Nat} {S : ByteArray} (h : RowT w A n cap S) (hW : Keeps w W) : (convert 22 9 (.slice A n cap)).run Try.prog W = .ok (.string S) W := by
  obtain ⟨h1, _, h | ⟨b, off, rfl, hlt, hr⟩⟩ := h
  · subst h
    rw [run_str0]
    congr 2
    exact (ByteArray.ext (Array.eq_empty_of_size_eq_zero h1)).symm
  · rw [run_str (hW.row hr hlt), ← h1, strF_bt]

/-- A new slice of bytes, read as a text: of none, too. -/
theorem ResB.strA {w0 w W : World} {A : Option Addr} {n cap : Nat} {f : Nat → Int} (h : ResB w0 w A n cap f) (hW : Keeps w W) :
    (convert 22 9 (.slice A n cap)).run Try.prog W = .ok (.string (strF f 0 n)) W := by
  rcases h.2.2 with h | ⟨b, rfl, _, ho⟩
  · subst h
    rw [run_str0]
    congr 2
  · exact run_str (hW.row (own_row ho (fun i _ => rfl)) ho.1)

theorem SlT.span {w : World} {L : Option Addr} {l : List (Int × Int)} (h : SlT spanC 2 w L l) {i : Nat} (hi : i < l.length) : ∃ b off, L = some ⟨b, off, none⟩ ∧ b < w.heap.size ∧ w.cell? ⟨b, off + i * 2, none⟩ = some (.int .i64 l[i].1) ∧ w.cell? ⟨b, off + i * 2 + 1, none⟩ = some (.int .i64 l[i].2) := by
  rcases h with h | ⟨b, off, rfl, hlt, hc⟩
  · rw [h] at hi; simp at hi
  · exact ⟨b, off, rfl, hlt, by have := hc i hi 0 _ (by simp [spanC]; rfl); simpa using this, by have := hc i hi 1 _ (by simp [spanC]; rfl); rwa [← Nat.add_assoc] at this⟩

theorem good_any {n : Nat} {f : Nat → Int} {r s : Int} {res : Option (List Site)} {lst : List Site} (hf : Bytes255 f) (h : parseS n f r s = res) (hl : res.getD [] = lst) : lst.length ≤ 512 ∧ ∀ x ∈ lst, GoodS n x := by
  cases res with
  | none => subst hl; exact ⟨by simp, fun x hx => by simp at hx⟩
  | some l1 => subst hl; exact parse_good hf h

set_option maxRecDepth 100000 in
set_option maxHeartbeats 4000000 in
theorem rtells_walk (AR : Option Addr) (m mc : Nat) (R : Nat → Int) (r s : Int) (L : Option Addr) (l : List Site) (lc : Nat) (at' by' cut delta : Int) (w : World)
    (hR : SlB w AR m R) (hR255 : Bytes255 R) (hm : m ≤ mc) (hmc : mc ≤ 9223372036854775807) (r0 : -9223372036854775808 ≤ r) (r1 : r ≤ 9223372036854775807) (s0 : -9223372036854775808 ≤ s) (s1 : s ≤ 9223372036854775807)
    (hL : SlT relC 2 w L l) (hll : l.length ≤ 9223372036854775807) (y0 : 0 ≤ by') (y1 : by' ≤ 255) (d0 : 0 ≤ delta) (d1 : delta ≤ 18446744073709551615) :
    Calls Try.prog 7 #[.slice AR m mc, .agg #[.int .i64 r, .int .i64 s], .slice L l.length lc, .int .i64 at', .int .u8 by', .int .i64 cut, .int .u64 delta] w fun e w' => e = .returned (.bool true) ∧ Below w.heap.size w w' := by
  have hb1 := (Below.refl w.heap.size w).alloc (Nat.le_refl _) (.cells #[.int .i64 r, .int .i64 s] 24)
  have HB1 := Lib.hid hb1
  have HD1 := Lib.hid (own_two w (.int .i64 r) (.int .i64 s) 24)
  have HR1 := Lib.hid (hR.below hb1)
  have HL1 := Lib.hid (hL.below hb1)
  have H255 := Lib.hid hR255
  clear hR hR255 hL hb1
  by_cases hbig : 500 < m ∨ 80 < l.length
  · have HA := Lib.hid (awake10_any (w.alloc (.cells #[.int .i64 r, .int .i64 s] 24)))
    rcases (by omega : (500 < (m : Int)) ∨ (¬ 500 < (m : Int) ∧ 80 < (l.length : Int))) with h | ⟨h, h'⟩
    all_goals
      go_enter Try.func7, Try.ntmps7
      go_wp2_with fail
      go_fit HA.out
      rintro e w' ⟨rfl, hb⟩
      go_wp2_with fail
      go_ret
      exact ⟨rfl, HB1.out.trans (hb.mono HB1.out.size)⟩
  · have h1 : ¬ 500 < (m : Int) := by omega
    have h2 : ¬ 80 < (l.length : Int) := by omega
    have HM := Lib.hid (show m ≤ 500 ∧ l.length ≤ 80 by omega)
    clear hbig
    go_enter Try.func7, Try.ntmps7
    go_wp2_with fail
    generalize w.alloc (.cells #[.int .i64 r, .int .i64 s] 24) = w1 at *
    refine (tame_any L l lc 400 w1 HL1.out hll (by omega) (by omega)).mono ?_
    rintro e w2 ⟨own, A, cap, rfl, hown, hlen, hbd, hb2⟩
    have HMADE := Lib.hid (made_any A own cap 400 w2 (hown.sl relC_len) (by omega) (by omega) (fun x hx => by have := hbd x hx; omega))
    have HB2 := Lib.hid (HB1.out.trans (hb2.mono HB1.out.size))
    have HR2 := Lib.hid (HR1.out.below hb2)
    have HL2 := Lib.hid (HL1.out.below hb2)
    have HD2 := Lib.hid (HD1.out.below hb2 HD1.out.1)
    clear hown hb2 HR1 HL1 HD1 hbd
    go_wp2_with fail
    refine HMADE.out.mono ?_
    rintro e w3 ⟨A2, cap2, rfl, hbl, hb3⟩
    have hml := madeB_le own (own.length + 1) 0 (by omega)
    have HBS := Lib.hid (madeB_bs own (own.length + 1) 0)
    generalize madeB own (own.length + 1) 0 = M at *
    have HBL3 := Lib.hid hbl
    have HB3 := Lib.hid (HB2.out.trans (hb3.mono HB2.out.size))
    have HR3 := Lib.hid (HR2.out.below hb3)
    have HL3 := Lib.hid (HL2.out.below hb3)
    have HD3 := Lib.hid (HD2.out.below hb3 HD2.out.1)
    clear hbl hb3 HR2 HL2 HD2 HMADE
    have hlI : (aheadB 400 ++ M).length = 400 + M.length := by rw [List.length_append, aheadB_len]
    have HIB := Lib.hid ((aheadB_bs 400).append HBS.out)
    obtain ⟨I, hI⟩ : ∃ I, aheadB 400 ++ M = I := ⟨_, rfl⟩
    rw [hI] at hlI HBL3 HIB
    obtain ⟨N, hN⟩ : ∃ N, 400 + M.length = N := ⟨_, rfl⟩
    have hc400 : ((400 : Nat) : Int) = 400 := rfl
    have hMl : (M.length : Int) = (N : Int) - 400 := by omega
    rw [hN] at hlI HBL3 ⊢
    have HNL := Lib.hid hlI
    have hN0 : 400 ≤ N ∧ N ≤ 2000 := by omega
    have HML := Lib.hid hMl
    have HNN := Lib.hid hN
    clear hMl hN hc400 hml
    go_upto_region 4 with fail
    have hb4 := (Below.refl w3.heap.size w3).alloc (Nat.le_refl _) (.cells #[.int .i64 400, .int .i64 M.length] 24)
    have HBL4 := Lib.hid (HBL3.out.below hb4)
    have HO4 := Lib.hid (own_two w3 (.int .i64 400) (.int .i64 M.length) 24)
    have HB4 := Lib.hid (HB3.out.trans (hb4.mono HB3.out.size))
    have HR4 := Lib.hid (HR3.out.below hb4)
    have HL4 := Lib.hid (HL3.out.below hb4)
    have HD4 := Lib.hid (HD3.out.below hb4 HD3.out.1)
    have hlt4 : w3.heap.size < (w3.alloc (.cells #[.int .i64 400, .int .i64 M.length] 24)).heap.size := by simp
    clear hb4 HBL3 HR3 HL3 HD3 HB3 HB2 HB1 hlI hI
    generalize w3.alloc (.cells #[.int .i64 400, .int .i64 M.length] 24) = w4 at *
    generalize w3.heap.size = G16 at *
    have HBL4b := Lib.hid (HBL4.out.alloc (.cells #[] 5))
    have HS4 := Lib.hid (show (w4.alloc (.cells #[] 5)).heap.size = w4.heap.size + 1 by simp)
    go_upto_region 5 with (at_builtin; refine wpList_appBL rfl (.tmp 47) (.tmp 48) 22 rfl w4.heap.size (.slice (some ⟨w4.heap.size, 0, none⟩) 0 0) [] rfl (OwnBL.made0 w4 w4.heap.size (Nat.le_refl _)) _ rfl I (src_own HBL4b.out) (by have := HNL.out; simp; omega) (by have := HS4.out; omega) ?_; intro A5 cap5 w5 hown5 hg5 hat5; simp only [List.length_nil, Nat.zero_add, List.nil_append] at hown5 ⊢)
    have hb45 : Below w4.heap.size w4 w5 := OwnBL.grew (OwnBL.made0 w4 w4.heap.size (Nat.le_refl _)) ((Below.refl w4.heap.size w4).alloc (Nat.le_refl _) _) (Nat.le_refl _) (by have := HS4.out; omega) hg5
    have HB45 := Lib.hid hb45
    obtain ⟨_, hcl5, hcm5, hsl5, hg5'⟩ := hown5.slice
    obtain ⟨g5, rfl, hge5, hoo5⟩ : ∃ g, A5 = some ⟨g, 0, none⟩ ∧ w4.heap.size ≤ g ∧ Own w5 g I.length (fun i => .int .u8 (litF I i)) := by
      rcases hg5' with h | h
      · have := HNL.out; omega
      · exact h
    have HOO5 := Lib.hid hoo5
    have HOW5 := Lib.hid hown5
    have HGE5 := Lib.hid hge5
    have hnz : I.length ≠ 0 := by have := HNL.out; omega
    have mk := and_ffff' at'
    obtain ⟨K, hK⟩ : ∃ K : Nat, at' % 65536 % (I.length : Int) = K := ⟨(at' % 65536 % (I.length : Int)).toNat, by have := Int.emod_nonneg (at' % 65536) (show (I.length : Int) ≠ 0 by omega); omega⟩
    have hKN : K < I.length := by have := Int.emod_lt_of_pos (at' % 65536) (show (0 : Int) < (I.length : Int) by omega); omega
    have hKt : (at' % 65536).tmod (I.length : Int) = K := by rw [Int.tmod_eq_emod_of_nonneg (by omega)]; exact hK
    have kz : (0 : Int) ≤ (K : Int) := by omega
    have kl : (K : Int) < (I.length : Int) := by omega
    have ck := hoo5.cell hKN
    have fk := hoo5.frozen hKN
    have hv := HIB.out.lit K
    have hx := u8_xor (litF I K) by' (by omega) (by omega) (by omega) (by omega)
    obtain ⟨u, hu⟩ : ∃ u : Nat, ((litF I K).toNat ^^^ by'.toNat) = u := ⟨_, rfl⟩
    have hu2 : u < 2 ^ 8 := by rw [← hu]; exact Nat.xor_lt_two_pow (by omega) (by omega)
    rw [hu] at hx
    generalize litF I K = v at *
    clear hb45 hg5 hat5 hsl5 hg5' hoo5 hown5 HBL4b HS4 hu hge5
    go_upto_region 6 with fail
    have HOW6 := Lib.hid (HOW5.out.stored K u).1
    have hb46 := HB45.out.setCell (p := ⟨g5, K, none⟩) HGE5.out (.int .u8 u)
    clear ck fk HOW5 HOO5
    generalize w5.setCell ⟨g5, K, none⟩ (.int .u8 u) = w6 at *
    have hb7 := hb46.alloc hb46.size (.cells #[.int .i64 400, .int .i64 M.length] 24)
    have o0 := (HO4.out.below hb46 hlt4).cell (i := 0) (by omega)
    have o1 := (HO4.out.below hb46 hlt4).cell (i := 1) (by omega)
    simp only [if_pos, if_neg, Nat.one_ne_zero] at o0 o1
    have mk2 := and_ffff' cut
    obtain ⟨Z, hZ⟩ : ∃ Z : Nat, cut % 65536 % ((M.length : Int) + 9) = Z := ⟨(cut % 65536 % ((M.length : Int) + 9)).toNat, by have := Int.emod_nonneg (cut % 65536) (show (M.length : Int) + 9 ≠ 0 by omega); omega⟩
    have hZN : Z < M.length + 9 := by have := Int.emod_lt_of_pos (cut % 65536) (show (0 : Int) < (M.length : Int) + 9 by omega); omega
    have hZt : (cut % 65536).tmod ((M.length : Int) + 9) = Z := by rw [Int.tmod_eq_emod_of_nonneg (by omega)]; exact hZ
    have hq : (M.length : Int) + 9 ≠ 0 := by omega
    have hML := Lib.hid (show (M.length : Int) ≤ 2000 by have := HML.out; omega)
    have hmz := hML.out
    have hmz0 : (0 : Int) ≤ (M.length : Int) := by omega
    go_upto_region 7 with fail
    have HO18 := Lib.hid (own_two w6 (.int .i64 400) (.int .i64 M.length) 24)
    have o1b := (HO4.out.below hb7 hlt4).cell (i := 1) (by omega)
    simp only [if_neg, Nat.one_ne_zero] at o1b
    have HOW7 := Lib.hid (HOW6.out.alloc (.cells #[.int .i64 400, .int .i64 M.length] 24))
    have hlt6 : w4.heap.size ≤ w6.heap.size := hb46.size
    have hg5l : g5 < w6.heap.size := (HOW6.out.lt g5 rfl).2
    clear o0 o1 HOW6
    generalize w6.alloc (.cells #[.int .i64 400, .int .i64 M.length] 24) = w7 at *
    generalize w6.heap.size = G18 at *
    have p1 := HO18.out.cell (i := 1) (by omega)
    have f1 := HO18.out.frozen (i := 1) (by omega)
    simp only [if_neg, Nat.one_ne_zero] at p1
    go_upto_region 8 with fail
    have hb8 := hb7.setCell (p := ⟨G18, 1, none⟩) hlt6 (.int .i64 Z)
    have HD8 := Lib.hid ((HD4.out.below hb8 HD4.out.1))
    have HO8 := Lib.hid (HO4.out.below hb8 hlt4)
    have HT8 := Lib.hid ((HO18.out.set (i := 1) (by omega) (.int .i64 Z)).congr (f' := fun i => if i = 0 then .int .i64 400 else .int .i64 Z) (fun q hq => by
      rcases (by omega : q = 0 ∨ q = 1) with rfl | rfl <;> simp))
    have hne : ∀ q, (Value.slice (some ⟨g5, 0, none⟩) I.length cap5).ownBlock = some q → q ≠ G18 := fun q hq => by
      have hq2 : g5 = q := by simpa [Value.ownBlock] using hq
      omega
    have HOW8 := Lib.hid (HOW7.out.of_block (w' := w7.setCell ⟨G18, 1, none⟩ (.int .i64 Z)) (fun q hq => heap_setCell_other _ _ _ _ (hne q hq)))
    clear hne
    have hsi := (HBL4.out.below hb8).slice
    have hsc := HOW8.out.slice
    have hub : 0 ≤ (u : Int) ∧ (u : Int) ≤ 255 := by omega
    have HCB := Lib.hid (show Bs (I.set K u) from fun z hz => by
      rcases List.mem_or_eq_of_mem_set hz with hz | rfl
      · exact HIB.out z hz
      · exact hub)
    have HR8 := Lib.hid (RowT.of (HR4.out.below hb8) H255.out hm)
    have HI8 := Lib.hid (RowT.of hsi.2.2.2.1 HIB.out.lit hsi.2.1)
    have HC8 := Lib.hid (RowT.of hsc.2.2.2.1 HCB.out.lit hsc.2.1)
    have HB8 := Lib.hid (HB4.out.trans (hb8.mono HB4.out.size))
    have HL8 := Lib.hid (HL4.out.below hb8)
    clear hsi hsc hb8 hb7 hb46 p1 f1 o1b HOW7 HOW8 HBL4 HO4 HR4 HL4 HD4 HO18 mk mk2 hK hKN hKt kz kl hZt hq hx hu2 hcl5 hcm5 hlt4 hlt6 hg5l HB45
    have HUB := Lib.hid hub
    have HZN := Lib.hid hZN
    clear hub hZN
    generalize w7.setCell ⟨G18, 1, none⟩ (.int .i64 Z) = w8 at *
    go_wp2_with fail
    go_loopw [19] (fun o wr => ∃ i : Nat, i ≤ 4 ∧ o = .int .i64 i ∧ Below w8.heap.size w8 wr) (fun o _ => 4 - (intOf o).toNat)
    case atStart => exact ⟨0, by omega, rfl, Below.refl _ _⟩
    case round =>
      obtain ⟨i, hi, rfl, hbr⟩ := hrel
      have HBR := Lib.hid hbr
      clear hbr
      by_cases hlt : i < 4
      · have hlt' : (i : Int) < 4 := by omega
        go_upto_region 11 with fail
        go_cut [20] from 69 to 167 (fun v wx => ∃ A n cap S, v = .slice A n cap ∧ n ≤ 2000 ∧ RowT wx A n cap S ∧ Below w8.heap.size w8 wx)
        case first =>
          have hb := HBR.out.alloc HBR.out.size (.cells #[.slice AR m mc, .slice A2 N cap2, .slice (some ⟨g5, 0, none⟩) I.length cap5, .slice A2 N cap2] 22)
          have HH := Lib.hid hb
          clear hb
          rcases (by omega : i = 0 ∨ i = 1 ∨ i = 2 ∨ i = 3) with rfl | rfl | rfl | rfl
          · go_wp2_with fail
            go_meet
            case rel => exact ⟨_, _, _, _, rfl, by have := HM.out; omega, HR8.out.below HH.out, HH.out⟩
          · go_wp2_with fail
            go_meet
            case rel => exact ⟨_, _, _, _, rfl, by have := hN0; omega, HI8.out.below HH.out, HH.out⟩
          · go_wp2_with fail
            go_meet
            case rel => exact ⟨_, _, _, _, rfl, by have := HNL.out; omega, HC8.out.below HH.out, HH.out⟩
          · go_wp2_with fail
            go_meet
            case rel => exact ⟨_, _, _, _, rfl, by have := hN0; omega, HI8.out.below HH.out, HH.out⟩
        case rest =>
          obtain ⟨A20, n, capn, S, rfl, hn, hrt, hbw⟩ := hcut
          have HRT := Lib.hid hrt
          have HBW := Lib.hid hbw
          have d0 := (HD8.out.below hbw HD8.out.1).cell (i := 0) (by omega)
          have d1' := (HD8.out.below hbw HD8.out.1).cell (i := 1) (by omega)
          have e0 := (HO8.out.below hbw HO8.out.1).cell (i := 0) (by omega)
          have e1 := (HO8.out.below hbw HO8.out.1).cell (i := 1) (by omega)
          have k0 := (HT8.out.below hbw HT8.out.1).cell (i := 0) (by omega)
          have k1 := (HT8.out.below hbw HT8.out.1).cell (i := 1) (by omega)
          simp only [if_pos, if_neg, Nat.one_ne_zero] at d0 d1' e0 e1 k0 k1
          clear hrt hbw
          go_upto_region 12 with fail
          go_cut [21] from 69 to 167 (fun v wx => ∃ (g : Nat) (rr ss : Int), v = .pointer (some ⟨g, 0, none⟩) ∧ Own wx g 2 (fun i => if i = 0 then .int .i64 rr else .int .i64 ss) ∧ (-9223372036854775808 ≤ rr ∧ rr ≤ 9223372036854775807 ∧ -9223372036854775808 ≤ ss ∧ ss ≤ 9223372036854775807) ∧ Below wc.heap.size wc wx)
          case first =>
            have HW8 := Lib.hid ((Below.refl wc.heap.size wc).alloc (Nat.le_refl _) (.cells #[.int .i64 r, .int .i64 s, .int .i64 400, .int .i64 M.length, .int .i64 400, .int .i64 M.length, .int .i64 400, .int .i64 Z] 24))
            have HSZ := Lib.hid (show (wc.alloc (.cells #[.int .i64 r, .int .i64 s, .int .i64 400, .int .i64 M.length, .int .i64 400, .int .i64 M.length, .int .i64 400, .int .i64 Z] 24)).heap.size = wc.heap.size + 1 by simp)
            rcases (by omega : i = 0 ∨ i = 1 ∨ i = 2 ∨ i = 3) with rfl | rfl | rfl | rfl
            · go_wp2_with fail
              go_meet
              case rel => exact ⟨_, r, s, rfl, (by have h := own_two (wc.alloc (.cells #[.int .i64 r, .int .i64 s, .int .i64 400, .int .i64 M.length, .int .i64 400, .int .i64 M.length, .int .i64 400, .int .i64 Z] 24)) (.int .i64 (r)) (.int .i64 (s)) 24; rw [HSZ.out] at h; exact h), ⟨r0, r1, s0, s1⟩, HW8.out.alloc HW8.out.size _⟩
            · go_wp2_with fail
              go_meet
              case rel => exact ⟨_, 400, M.length, rfl, (by have h := own_two (wc.alloc (.cells #[.int .i64 r, .int .i64 s, .int .i64 400, .int .i64 M.length, .int .i64 400, .int .i64 M.length, .int .i64 400, .int .i64 Z] 24)) (.int .i64 (400)) (.int .i64 (M.length)) 24; rw [HSZ.out] at h; exact h), by have := hML.out; omega, HW8.out.alloc HW8.out.size _⟩
            · go_wp2_with fail
              go_meet
              case rel => exact ⟨_, 400, M.length, rfl, (by have h := own_two (wc.alloc (.cells #[.int .i64 r, .int .i64 s, .int .i64 400, .int .i64 M.length, .int .i64 400, .int .i64 M.length, .int .i64 400, .int .i64 Z] 24)) (.int .i64 (400)) (.int .i64 (M.length)) 24; rw [HSZ.out] at h; exact h), by have := hML.out; omega, HW8.out.alloc HW8.out.size _⟩
            · go_wp2_with fail
              go_meet
              case rel => exact ⟨_, 400, Z, rfl, (by have h := own_two (wc.alloc (.cells #[.int .i64 r, .int .i64 s, .int .i64 400, .int .i64 M.length, .int .i64 400, .int .i64 M.length, .int .i64 400, .int .i64 Z] 24)) (.int .i64 (400)) (.int .i64 (Z)) 24; rw [HSZ.out] at h; exact h), by have := hML.out; have := HZN.out; omega, HW8.out.alloc HW8.out.size _⟩
          case rest =>
            obtain ⟨g21, rr, ss, rfl, ho21, hbnd, hbw2⟩ := hcut
            have HB2 := Lib.hid (HBW.out.trans (hbw2.mono HBW.out.size))
            have HRT2 := Lib.hid (HRT.out.below hbw2)
            have b0 := ho21.cell (i := 0) (by omega)
            have b1 := ho21.cell (i := 1) (by omega)
            simp only [if_pos, if_neg, Nat.one_ne_zero] at b0 b1
            obtain ⟨bn0, bn1, bn2, bn3⟩ := hbnd
            have HSZ := Lib.hid HRT2.out.1
            obtain ⟨res, hres⟩ : ∃ res, parseS n (PlainAid.bt S) rr ss = res := ⟨_, rfl⟩
            have hp := parse_any A20 n capn (PlainAid.bt S) rr ss wc HRT2.out.2.1 (by omega) (bt255 S) HRT2.out.2.2 bn0 bn1 bn2 bn3
            have hr := fun W : World => rrels_any S rr ss W (by rw [HSZ.out]; omega) bn0 bn1 bn2 bn3
            rw [HSZ.out, hres] at hr
            rw [hres] at hp
            have HP := Lib.hid hp
            have HR := Lib.hid hr
            have HRES := Lib.hid hres
            have HO21 := Lib.hid ho21
            clear hp hr hres ho21 hbw2 d0 d1' e0 e1 k0 k1
            go_wp2_with fail
            refine HP.out.mono ?_
            rintro e wP hpr
            obtain ⟨A22, c22, rfl, hs22, hbP⟩ := hpr.any
            have HSP := Lib.hid hs22
            have HBP := Lib.hid (HB2.out.trans (hbP.mono HB2.out.size))
            have HOP := Lib.hid (HO21.out.below hbP HO21.out.1)
            have HRTP := Lib.hid (HRT2.out.below hbP)
            obtain ⟨lst, hlst⟩ : ∃ lst, res.getD [] = lst := ⟨_, rfl⟩
            obtain ⟨ec, hec⟩ : ∃ ec : Int, (if res.isSome then 0 else 9) = ec := ⟨_, rfl⟩
            have HLST := Lib.hid hlst
            have HEC := Lib.hid hec
            rw [hlst] at HSP
            rw [hlst, hec]
            clear hpr hs22 hbP b0 b1 hlst hec HP
            have b0 := HOP.out.cell (i := 0) (by omega)
            have b1 := HOP.out.cell (i := 1) (by omega)
            simp only [if_pos, if_neg, Nat.one_ne_zero] at b0 b1
            have hcv := HRTP.out.str
            go_wp2_with fail
            refine (HR.out wP).mono ?_
            rintro e wQ hqr
            obtain ⟨A24, c24, rfl, hs24, hbQ⟩ := hqr.any
            rw [HLST.out] at hs24
            rw [HLST.out, HEC.out]
            have HSQ := Lib.hid hs24
            have HSP2 := Lib.hid (HSP.out.below hbQ)
            have HBQ := Lib.hid (HBP.out.trans (hbQ.mono HBP.out.size))
            have HRTQ := Lib.hid (HRTP.out.below hbQ)
            clear hqr hs24 hbQ b0 b1 hcv
            have ee : (ec != ec) = false := by simp
            obtain ⟨hgood, hgd⟩ := good_any (bt255 S) HRES.out HLST.out
            have HGD := Lib.hid hgd
            clear hgd
            have HSS := Lib.hid (sameRels_eq A22 A24 lst c22 c24 wQ HSP2.out HSQ.out (by omega))
            go_wp2_with (go_fit HSS.out; rintro e wS ⟨rfl, ds, rfl⟩)
            have HBT := Lib.hid (show Below w8.heap.size w8 (wQ.drewN ds) from belD HBQ.out ds)
            have HST := Lib.hid (show SlT relC 2 (wQ.drewN ds) A24 lst from HSQ.out)
            have HRTT := Lib.hid (show RowT (wQ.drewN ds) A20 n capn S from HRTQ.out)
            clear HSS HSQ HSP2 HBQ HRTQ HSP HBP HOP HRTP HB2 HRT2 HO21 HR HRT HBW HRES HLST HEC
            generalize wQ.drewN ds = wT at *
            go_wp2_with fail
            go_loopw [26, 27] (fun v26 o W3 => ∃ (k : Nat) (A : Option Addr) (cap : Nat), k ≤ lst.length ∧ o = .int .i64 k ∧ v26 = .slice A (spansI (lst.take k)).length cap ∧ OwnT spanC 2 W3 wT.heap.size 53 (.slice A (spansI (lst.take k)).length cap) (spansI (lst.take k)) ∧ Below wT.heap.size wT W3) (fun _ o _ => lst.length - (intOf o).toNat)
            case atStart => exact ⟨0, none, 0, by omega, rfl, rfl, OwnT.nil _ _ _, Below.refl _ _⟩
            case round =>
              obtain ⟨k, A, cap, hk, rfl, rfl, hr, hbw3⟩ := hrel
              have HRR := Lib.hid hr
              have HBW3 := Lib.hid hbw3
              clear hr hbw3
              by_cases hlt3 : k < lst.length
              · obtain ⟨b, off, rfl, hbl, q0, q1⟩ := (HST.out.below HBW3.out).site hlt3
                have HSN := Lib.hid (spansI_snoc lst hlt3)
                have HLE := Lib.hid (spansI_le (lst.take k))
                have HLE2 := Lib.hid (show (lst.take k).length ≤ k from by simp; omega)
                have hlen : (spansI (lst.take k)).length ≤ k := Nat.le_trans HLE.out HLE2.out
                have hkd := good_kind (HGD.out _ (List.getElem_mem hlt3))
                have hzl : (k : Int) < (lst.length : Int) := by omega
                generalize lst[k] = x at *
                obtain ⟨kd, r'⟩ := x
                simp only at q0 q1 hkd
                rcases hkd with rfl | rfl
                · have HSN2 := Lib.hid (show spansI (lst.take (k + 1)) = spansI (lst.take k) ++ [(r', 4)] from HSN.out)
                  have HO3 := Lib.hid (own_two wr (.int .i64 r') (.int .i64 4) 53)
                  have HR3 := Lib.hid (HRR.out.alloc (.cells #[.int .i64 r', .int .i64 4] 53))
                  clear HSN HRR
                  generalize spansI (lst.take k) = sp at *
                  have hbase := Lib.hid HBW3.out.size
                  go_wp2_with (at_builtin; refine wpList_appT rfl (.tmp 123) (.tmp 131) 34 rfl wT.heap.size 53 (.agg #[.int .i64 0, .int .i64 0]) 16 (by kernel_rfl) infoSpan rfl (by omega) spanC_len spanC_one _ sp rfl HR3.out wr.heap.size 1 rfl (r', 4) ?ca (by unfold maxLen; omega) (by omega) (by have := hbase.out; simp; omega) ?_; rotate_left; intro g' cap2 w4' hown3 hg3 hat3)
                  case ca =>
                    intro j u hu
                    have h := HO3.out.cell (i := j) (by have := (List.getElem?_eq_some_iff.1 hu).1; simpa [spanC] using this)
                    rw [h]
                    rcases j with _ | _ | j
                    · simpa [spanC] using hu
                    · simpa [spanC] using hu
                    · simp [spanC] at hu
                  have HO4 := Lib.hid hown3
                  have HB4' := Lib.hid (HR3.out.grew (HBW3.out.alloc HBW3.out.size (.cells #[.int .i64 r', .int .i64 4] 53)) (Nat.le_refl _) (by have := HBW3.out.size; simp; omega) hg3)
                  clear hown3 hg3 hat3
                  go_roundw
                  case rel => exact ⟨k + 1, some ⟨g', 0, none⟩, cap2, by omega, by go_num, by rw [HSN2.out]; simp, by rw [HSN2.out, List.length_append]; exact HO4.out, HB4'.out⟩
                  case measure => simp [intOf]; omega
                · have HSN2 := Lib.hid (show spansI (lst.take (k + 1)) = spansI (lst.take k) ++ [(r', 8)] from HSN.out)
                  have HO3 := Lib.hid (own_two wr (.int .i64 r') (.int .i64 8) 53)
                  have HR3 := Lib.hid (HRR.out.alloc (.cells #[.int .i64 r', .int .i64 8] 53))
                  clear HSN HRR
                  generalize spansI (lst.take k) = sp at *
                  have hbase := Lib.hid HBW3.out.size
                  go_wp2_with (at_builtin; refine wpList_appT rfl (.tmp 123) (.tmp 131) 34 rfl wT.heap.size 53 (.agg #[.int .i64 0, .int .i64 0]) 16 (by kernel_rfl) infoSpan rfl (by omega) spanC_len spanC_one _ sp rfl HR3.out wr.heap.size 1 rfl (r', 8) ?ca (by unfold maxLen; omega) (by omega) (by have := hbase.out; simp; omega) ?_; rotate_left; intro g' cap2 w4' hown3 hg3 hat3)
                  case ca =>
                    intro j u hu
                    have h := HO3.out.cell (i := j) (by have := (List.getElem?_eq_some_iff.1 hu).1; simpa [spanC] using this)
                    rw [h]
                    rcases j with _ | _ | j
                    · simpa [spanC] using hu
                    · simpa [spanC] using hu
                    · simp [spanC] at hu
                  have HO4 := Lib.hid hown3
                  have HB4' := Lib.hid (HR3.out.grew (HBW3.out.alloc HBW3.out.size (.cells #[.int .i64 r', .int .i64 8] 53)) (Nat.le_refl _) (by have := HBW3.out.size; simp; omega) hg3)
                  clear hown3 hg3 hat3
                  go_roundw
                  case rel => exact ⟨k + 1, some ⟨g', 0, none⟩, cap2, by omega, by go_num, by rw [HSN2.out]; simp, by rw [HSN2.out, List.length_append]; exact HO4.out, HB4'.out⟩
                  case measure => simp [intOf]; omega
              · obtain rfl : k = lst.length := by omega
                have hzl : ¬ (lst.length : Int) < (lst.length : Int) := by omega
                have HLE := Lib.hid (spansI_le lst)
                have hspl : (spansI lst).length ≤ 512 := Nat.le_trans HLE.out hgood
                rw [List.take_length] at HRR
                rw [List.take_length]
                have HST3 := Lib.hid (HST.out.below HBW3.out)
                have HRT3 := Lib.hid (HRTT.out.below HBW3.out)
                have HB3' := Lib.hid (HBT.out.trans (HBW3.out.mono HBT.out.size))
                have HSI := Lib.hid (sites_any A24 lst c24 wr HST3.out (by omega))
                unfold SitesR at HSI
                obtain ⟨sp, hsp⟩ : ∃ sp, spansI lst = sp := ⟨_, rfl⟩
                rw [hsp] at HRR HSI hspl ⊢
                have HSPL := Lib.hid hsp
                clear HST HRTT HBT HBW3 HLE hsp
                go_upto_region 26 with (go_fit HSI.out; rintro e wV ⟨AS, capS, rfl, hos, hbV⟩)
                have HSA := Lib.hid ((HRR.out.below hbV).sl spanC_len)
                have HSB := Lib.hid (hos.sl spanC_len)
                have HSTV := Lib.hid (HST3.out.below hbV)
                have HRTV := Lib.hid (HRT3.out.below hbV)
                have HBV := Lib.hid (HB3'.out.trans (hbV.mono HB3'.out.size))
                have HKK := Lib.hid (show ∀ z ∈ lst, -9223372036854775808 ≤ z.2 ∧ z.2 ≤ 9223372036854775807 from fun z hz => by have h1 := HGD.out z hz; have h2 := relLen_bd z.1; unfold GoodS at h1; omega)
                clear hos hbV HSI HRR HST3 HRT3 HB3'
                have hrt := HRTV.out
                have HD := Lib.hid (apply_any A20 n capn (PlainAid.bt S) A24 lst c24 delta wV.drew hrt.2.1 (by omega) (bt255 S) hrt.2.2 HSTV.out (by omega) HKK.out d0 d1)
                have HE := Lib.hid (fun (W : World) (hs : SlT relC 2 W A24 lst) => rapply_any (PlainAid.bt S) n A24 lst c24 delta W (by omega) (bt255 S) hs (by omega) HKK.out d0 d1)
                have hSX : strF (PlainAid.bt S) 0 n = S := by rw [← hrt.1, strF_bt]
                obtain ⟨SR, hSR⟩ : ∃ SR, strF (applyI n delta (PlainAid.bt S) lst) 0 n = SR := ⟨_, rfl⟩
                rw [hSX, hSR] at HE
                have HSR := Lib.hid hSR
                have s2 : ∀ (W : World) (hW : Keeps wV W), (convert 22 9 (.slice A20 n capn)).run Try.prog W = .ok (.string S) W := fun W hW => HRTV.out.strK hW
                have k1 := Keeps.self wV
                have k2 := Keeps.drew wV
                have g1 : ((sp.length : Int) != (sp.length : Int)) = false := by simp
                have g2 : (SR.toList != SR.toList) = false := by simp
                clear hSX hSR hrt
                go_cut [152] from 69 to 167 (fun v wx => v = .bool false ∧ Below wV.heap.size wV wx)
                case first =>
                  refine wp_region_noPanic ?_
                  refine wp_region_held_drew (S := fun W' => Keeps wV W') (by kernel_rfl) ?_ (fun hHeld => ?_)
                  · (first | exact k6 | exact k4 | exact k2 | exact k1 | fail)
                  refine wpAnyH_take (i := 0) (oi := ?_) (v := ?_) ?_ (by kernel_rfl) (by kernel_rfl) (by kernel_rfl) (fun _ _ _ h => h) ?_ (by assumption) ?_
                  rotate_left 2
                  · (simp only [List.getElem?_toArray, List.getElem?_cons_succ, List.getElem?_cons_zero]; rfl)
                  · (refine Or.inl ⟨by rfl, ?_⟩; intro w hSw; (try dsimp only at hSw); go_simp; try with_reducible rfl)
                  try simp only [Act.put, List.setIfInBounds_toArray, List.set_cons_zero, List.set_cons_succ]
                  refine wpAnyH_take (i := 1) (oi := ?_) (v := ?_) ?_ (by kernel_rfl) (by kernel_rfl) (by kernel_rfl) (fun _ _ _ h => h) ?_ (by assumption) ?_
                  rotate_left 2
                  · (simp only [List.getElem?_toArray, List.getElem?_cons_succ, List.getElem?_cons_zero]; rfl)
                  · (refine Or.inl ⟨by rfl, ?_⟩; intro w hSw; (try dsimp only at hSw); go_simp; try with_reducible rfl)
                  try simp only [Act.put, List.setIfInBounds_toArray, List.set_cons_zero, List.set_cons_succ]
                  refine wpAnyH_take (i := 2) (oi := ?_) (v := ?_) ?_ (by kernel_rfl) (by kernel_rfl) (by kernel_rfl) (fun _ _ _ h => h) ?_ (by assumption) ?_
                  rotate_left 2
                  · (simp only [List.getElem?_toArray, List.getElem?_cons_succ, List.getElem?_cons_zero]; rfl)
                  · (refine Or.inl ⟨by rfl, ?_⟩; intro w hSw; (try dsimp only at hSw); go_simp; try with_reducible rfl)
                  try simp only [Act.put, List.setIfInBounds_toArray, List.set_cons_zero, List.set_cons_succ]
                  refine wpAnyH_take (i := 3) (oi := ?_) (v := ?_) ?_ (by kernel_rfl) (by kernel_rfl) (by kernel_rfl) (fun _ _ _ h => h) ?_ (by assumption) ?_
                  rotate_left 2
                  · (simp only [List.getElem?_toArray, List.getElem?_cons_succ, List.getElem?_cons_zero]; rfl)
                  · (refine Or.inl ⟨by rfl, ?_⟩; intro w hSw; (try dsimp only at hSw); go_simp; try with_reducible rfl)
                  try simp only [Act.put, List.setIfInBounds_toArray, List.set_cons_zero, List.set_cons_succ]
                  refine wpAnyH_take (i := 4) (oi := ?_) (v := ?_) ?_ (by kernel_rfl) (by kernel_rfl) (by kernel_rfl) (fun _ _ _ h => h) ?_ (by assumption) ?_
                  rotate_left 2
                  · (simp only [List.getElem?_toArray, List.getElem?_cons_succ, List.getElem?_cons_zero]; rfl)
                  · (refine Or.inl ⟨by rfl, ?_⟩; intro w hSw; (try dsimp only at hSw); go_simp; try with_reducible rfl)
                  try simp only [Act.put, List.setIfInBounds_toArray, List.set_cons_zero, List.set_cons_succ]
                  refine wpAnyH_take (i := 5) (oi := ?_) (v := ?_) ?_ (by kernel_rfl) (by kernel_rfl) (by kernel_rfl) (fun _ _ _ h => h) ?_ (by assumption) ?_
                  rotate_left 2
                  · (simp only [List.getElem?_toArray, List.getElem?_cons_succ, List.getElem?_cons_zero]; rfl)
                  · (refine Or.inl ⟨by rfl, ?_⟩; intro w hSw; (try dsimp only at hSw); go_simp; try with_reducible rfl)
                  try simp only [Act.put, List.setIfInBounds_toArray, List.set_cons_zero, List.set_cons_succ]
                  refine wpAnyH_take (i := 6) (oi := ?_) (v := ?_) ?_ (by kernel_rfl) (by kernel_rfl) (by kernel_rfl) (fun _ _ _ h => h) ?_ (by assumption) ?_
                  rotate_left 2
                  · (simp only [List.getElem?_toArray, List.getElem?_cons_succ, List.getElem?_cons_zero]; rfl)
                  · (refine Or.inl ⟨by rfl, ?_⟩; intro w hSw; (try dsimp only at hSw); go_simp; try with_reducible rfl)
                  try simp only [Act.put, List.setIfInBounds_toArray, List.set_cons_zero, List.set_cons_succ]
                  refine wpAnyH_take (i := 7) (oi := ?_) (v := ?_) ?_ (by kernel_rfl) (by kernel_rfl) (by kernel_rfl) (fun _ _ _ h => h) ?_ (by assumption) ?_
                  rotate_left 2
                  · (simp only [List.getElem?_toArray, List.getElem?_cons_succ, List.getElem?_cons_zero]; rfl)
                  · (refine Or.inl ⟨by rfl, ?_⟩; intro w hSw; (try dsimp only at hSw); go_simp; try with_reducible rfl)
                  try simp only [Act.put, List.setIfInBounds_toArray, List.set_cons_zero, List.set_cons_succ]
                  refine wpAnyH_take (i := 8) (oi := ?_) (v := ?_) ?_ (by kernel_rfl) (by kernel_rfl) (by kernel_rfl) (fun _ _ _ h => h) ?_ (by assumption) ?_
                  rotate_left 2
                  · (simp only [List.getElem?_toArray, List.getElem?_cons_succ, List.getElem?_cons_zero]; rfl)
                  · (refine Or.inl ⟨by rfl, ?_⟩; intro w hSw; (try dsimp only at hSw); go_simp; try with_reducible rfl)
                  try simp only [Act.put, List.setIfInBounds_toArray, List.set_cons_zero, List.set_cons_succ]
                  refine wpAnyH_take (i := 11) (oi := ?_) (v := ?_) ?_ (by kernel_rfl) (by kernel_rfl) (by kernel_rfl) (fun _ _ _ h => h) ?_ (by assumption) ?_
                  rotate_left 2
                  · (simp only [List.getElem?_toArray, List.getElem?_cons_succ, List.getElem?_cons_zero]; rfl)
                  · (refine Or.inl ⟨by rfl, ?_⟩; intro w hSw; (try dsimp only at hSw); go_simp; try with_reducible rfl)
                  try simp only [Act.put, List.setIfInBounds_toArray, List.set_cons_zero, List.set_cons_succ]
                  refine wpAnyH_take (i := 12) (oi := ?_) (v := ?_) ?_ (by kernel_rfl) (by kernel_rfl) (by kernel_rfl) (fun _ _ _ h => h) ?_ (by assumption) ?_
                  rotate_left 2
                  · (simp only [List.getElem?_toArray, List.getElem?_cons_succ, List.getElem?_cons_zero]; rfl)
                  · (refine Or.inl ⟨by rfl, ?_⟩; intro w hSw; (try dsimp only at hSw); go_simp; try with_reducible rfl)
                  try simp only [Act.put, List.setIfInBounds_toArray, List.set_cons_zero, List.set_cons_succ]
                  refine wpAnyH_take (i := 13) (oi := ?_) (v := ?_) ?_ (by kernel_rfl) (by kernel_rfl) (by kernel_rfl) (fun _ _ _ h => h) ?_ (by assumption) ?_
                  rotate_left 2
                  · (simp only [List.getElem?_toArray, List.getElem?_cons_succ, List.getElem?_cons_zero]; rfl)
                  · (refine Or.inl ⟨by rfl, ?_⟩; intro w hSw; (try dsimp only at hSw); go_simp; try with_reducible rfl)
                  try simp only [Act.put, List.setIfInBounds_toArray, List.set_cons_zero, List.set_cons_succ]
                  refine wpAnyH_take (i := 14) (oi := ?_) (v := ?_) ?_ (by kernel_rfl) (by kernel_rfl) (by kernel_rfl) (fun _ _ _ h => h) ?_ (by assumption) ?_
                  rotate_left 2
                  · (simp only [List.getElem?_toArray, List.getElem?_cons_succ, List.getElem?_cons_zero]; rfl)
                  · (refine Or.inl ⟨by rfl, ?_⟩; intro w hSw; (try dsimp only at hSw); go_simp; try with_reducible rfl)
                  try simp only [Act.put, List.setIfInBounds_toArray, List.set_cons_zero, List.set_cons_succ]
                  refine wpAnyH_ready (rs := [9]) (by kernel_rfl) (by simp) ?_
                  refine AllReadyH.cons (i := 9) rfl (fun K hK => ?_) ?_
                  · go_simp
                    (first | (go_at_call 13; refine HD.out.mono ?_; rintro e w5 ⟨A5, cap5, rfl, hr5, hb5⟩; have s3 : ∀ (W : World) (hW : Keeps w5 W), (convert 22 9 (.slice A5 n cap5)).run Try.prog W = .ok (.string SR) W := fun W hW => (by rw [← HSR.out]; exact hr5.strA hW); have k3 := Keeps.self w5; have k4 := Keeps.below k2 hb5; have HB5 := Lib.hid hb5; have HQ5 := Lib.hid ((show SlT relC 2 wV.drew A24 lst from HSTV.out).below hb5); clear hr5 hb5) | (go_at_call 19; refine (HE.out w5 HQ5.out).mono ?_; rintro e w6 ⟨rfl, hb6⟩; have k6 := Keeps.below k4 hb6; have k7 := Keeps.below k3 hb6; have HB6 := Lib.hid hb6; clear hb6))
                    refine hK.out _ _ ?_ (fun hHeld => ?_)
                    · (first | exact k6 | exact k4 | exact k2 | exact k1 | fail)
                    clear hK K
                    refine wpAnyH_ready (rs := [10, 15]) (by kernel_rfl) (by simp) ?_
                    refine AllReadyH.cons (i := 10) rfl (fun K hK => ?_) ?_
                    · go_simp
                      refine hK.out _ _ ?_ (fun hHeld => ?_)
                      · (first | exact k6 | exact k4 | exact k2 | exact k1 | fail)
                      clear hK K
                      refine wpAnyH_ready (rs := [15]) (by kernel_rfl) (by simp) ?_
                      refine AllReadyH.cons (i := 15) rfl (fun K hK => ?_) ?_
                      · go_simp
                        (first | (go_at_call 13; refine HD.out.mono ?_; rintro e w5 ⟨A5, cap5, rfl, hr5, hb5⟩; have s3 : ∀ (W : World) (hW : Keeps w5 W), (convert 22 9 (.slice A5 n cap5)).run Try.prog W = .ok (.string SR) W := fun W hW => (by rw [← HSR.out]; exact hr5.strA hW); have k3 := Keeps.self w5; have k4 := Keeps.below k2 hb5; have HB5 := Lib.hid hb5; have HQ5 := Lib.hid ((show SlT relC 2 wV.drew A24 lst from HSTV.out).below hb5); clear hr5 hb5) | (go_at_call 19; refine (HE.out w5 HQ5.out).mono ?_; rintro e w6 ⟨rfl, hb6⟩; have k6 := Keeps.below k4 hb6; have k7 := Keeps.below k3 hb6; have HB6 := Lib.hid hb6; clear hb6))
                        refine hK.out _ _ ?_ (fun hHeld => ?_)
                        · (first | exact k6 | exact k4 | exact k2 | exact k1 | fail)
                        clear hK K
                        refine wpAnyH_take (i := 16) (oi := ?_) (v := ?_) ?_ (by kernel_rfl) (by kernel_rfl) (by kernel_rfl) (fun _ _ _ h => h) ?_ (by assumption) ?_
                        rotate_left 2
                        · (simp only [List.getElem?_toArray, List.getElem?_cons_succ, List.getElem?_cons_zero]; rfl)
                        · (refine Or.inl ⟨by rfl, ?_⟩; intro w hSw; (try dsimp only at hSw); go_simp; try with_reducible rfl)
                        try simp only [Act.put, List.setIfInBounds_toArray, List.set_cons_zero, List.set_cons_succ]
                        refine wpAnyH_take (i := 17) (oi := ?_) (v := ?_) ?_ (by kernel_rfl) (by kernel_rfl) (by kernel_rfl) (fun _ _ _ h => h) ?_ (by assumption) ?_
                        rotate_left 2
                        · (simp only [List.getElem?_toArray, List.getElem?_cons_succ, List.getElem?_cons_zero]; rfl)
                        · (refine Or.inl ⟨by rfl, ?_⟩; intro w hSw; (try dsimp only at hSw); go_simp; try with_reducible rfl)
                        try simp only [Act.put, List.setIfInBounds_toArray, List.set_cons_zero, List.set_cons_succ]
                        refine wpAnyH_done (by kernel_rfl) ?_ _
                        refine NoPanic.normal ?_
                        (go_wp2_with fail; go_meet; case rel => exact ⟨rfl, (Below.refl _ wV).drew.trans (HB5.out.trans (HB6.out.mono HB5.out.size))⟩)
                      exact AllReadyH.nil
                    refine AllReadyH.cons (i := 15) rfl (fun K hK => ?_) ?_
                    · go_simp
                      (first | (go_at_call 13; refine HD.out.mono ?_; rintro e w5 ⟨A5, cap5, rfl, hr5, hb5⟩; have s3 : ∀ (W : World) (hW : Keeps w5 W), (convert 22 9 (.slice A5 n cap5)).run Try.prog W = .ok (.string SR) W := fun W hW => (by rw [← HSR.out]; exact hr5.strA hW); have k3 := Keeps.self w5; have k4 := Keeps.below k2 hb5; have HB5 := Lib.hid hb5; have HQ5 := Lib.hid ((show SlT relC 2 wV.drew A24 lst from HSTV.out).below hb5); clear hr5 hb5) | (go_at_call 19; refine (HE.out w5 HQ5.out).mono ?_; rintro e w6 ⟨rfl, hb6⟩; have k6 := Keeps.below k4 hb6; have k7 := Keeps.below k3 hb6; have HB6 := Lib.hid hb6; clear hb6))
                      refine hK.out _ _ ?_ (fun hHeld => ?_)
                      · (first | exact k6 | exact k4 | exact k2 | exact k1 | fail)
                      clear hK K
                      refine wpAnyH_ready (rs := [10]) (by kernel_rfl) (by simp) ?_
                      refine AllReadyH.cons (i := 10) rfl (fun K hK => ?_) ?_
                      · go_simp
                        refine hK.out _ _ ?_ (fun hHeld => ?_)
                        · (first | exact k6 | exact k4 | exact k2 | exact k1 | fail)
                        clear hK K
                        refine wpAnyH_take (i := 16) (oi := ?_) (v := ?_) ?_ (by kernel_rfl) (by kernel_rfl) (by kernel_rfl) (fun _ _ _ h => h) ?_ (by assumption) ?_
                        rotate_left 2
                        · (simp only [List.getElem?_toArray, List.getElem?_cons_succ, List.getElem?_cons_zero]; rfl)
                        · (refine Or.inl ⟨by rfl, ?_⟩; intro w hSw; (try dsimp only at hSw); go_simp; try with_reducible rfl)
                        try simp only [Act.put, List.setIfInBounds_toArray, List.set_cons_zero, List.set_cons_succ]
                        refine wpAnyH_take (i := 17) (oi := ?_) (v := ?_) ?_ (by kernel_rfl) (by kernel_rfl) (by kernel_rfl) (fun _ _ _ h => h) ?_ (by assumption) ?_
                        rotate_left 2
                        · (simp only [List.getElem?_toArray, List.getElem?_cons_succ, List.getElem?_cons_zero]; rfl)
                        · (refine Or.inl ⟨by rfl, ?_⟩; intro w hSw; (try dsimp only at hSw); go_simp; try with_reducible rfl)
                        try simp only [Act.put, List.setIfInBounds_toArray, List.set_cons_zero, List.set_cons_succ]
                        refine wpAnyH_done (by kernel_rfl) ?_ _
                        refine NoPanic.normal ?_
                        (go_wp2_with fail; go_meet; case rel => exact ⟨rfl, (Below.refl _ wV).drew.trans (HB5.out.trans (HB6.out.mono HB5.out.size))⟩)
                      exact AllReadyH.nil
                    exact AllReadyH.nil
                  exact AllReadyH.nil
                case rest =>
                  obtain ⟨rfl, hbw4⟩ := hcut
                  have HSA2 := Lib.hid (HSA.out.below hbw4)
                  have HSB2 := Lib.hid (HSB.out.below hbw4)
                  have HBW4 := Lib.hid (HBV.out.trans (hbw4.mono HBV.out.size))
                  clear hbw4 HSA HSB HBV HD HE HSR HSTV HRTV HKK s2 k1 k2 g1 g2
                  go_wp2_with fail
                  go_loopw [30] (fun o W4 => ∃ k : Nat, k ≤ sp.length ∧ o = .int .i64 k ∧ ∃ d, W4 = wc.drewN d) (fun o _ => sp.length - (intOf o).toNat)
                  case atStart => exact ⟨0, by omega, rfl, 0, rfl⟩
                  case round =>
                    obtain ⟨k, hk, rfl, hd⟩ := hrel
                    have HDD := Lib.hid hd
                    by_cases hlt4 : k < sp.length
                    · obtain ⟨b, off, rfl, _, q0, q1⟩ := (show SlT spanC 2 wr A sp by obtain ⟨d, rfl⟩ := hd; exact HSA2.out).span hlt4
                      obtain ⟨b2, off2, rfl, _, v0, v1⟩ := (show SlT spanC 2 wr AS sp by obtain ⟨d, rfl⟩ := hd; exact HSB2.out).span hlt4
                      generalize sp[k] = x at *
                      obtain ⟨p, r'⟩ := x
                      simp only at q0 q1 v0 v1
                      have hz : (0 : Int) ≤ (k : Int) := by omega
                      have hzl : (k : Int) < (sp.length : Int) := by omega
                      clear hd
                      go_wp2_with fail
                      go_quiet (fail)
                      go_wp2_with fail
                      go_roundw
                      case rel => exact ⟨k + 1, by omega, by go_num, by obtain ⟨d, rfl⟩ := HDD.out; exact ⟨_, by rw [World.drewN_drewN]⟩⟩
                      case measure => simp [intOf]; omega
                    · obtain rfl : k = sp.length := by omega
                      clear hd
                      go_wp2_with fail
                      have HBN := Lib.hid (show Below w8.heap.size w8 wr by obtain ⟨d, rfl⟩ := HDD.out; exact belD HBW4.out d)
                      go_roundw
                      case rel => exact ⟨i + 1, by omega, by go_num, HBN.out⟩
                      case measure => simp [intOf]; omega
      · obtain rfl : i = 4 := by omega
        have HRW := Lib.hid (HR8.out.below HBR.out)
        have HLW := Lib.hid (HL8.out.below HBR.out)
        obtain ⟨mm, hmm, hm1, hm2⟩ : ∃ mm : Nat, max (m : Int) 1 = mm ∧ 0 < mm ∧ mm ≤ 500 := ⟨max m 1, by omega, by omega, by have := HM.out; omega⟩
        have HAP := Lib.hid (apart_any L l lc mm wr HLW.out hll hm1 (by omega))
        go_upto_region 34 with (go_fit HAP.out; rintro e wA ⟨own, A31, cap31, rfl, hown, hapt, hbA⟩)
        have HOA := Lib.hid (hown.sl relC_len)
        have HBA := Lib.hid (HB8.out.trans ((HBR.out.trans (hbA.mono HBR.out.size)).mono HB8.out.size))
        have HRA := Lib.hid (HRW.out.below hbA)
        have HKK := Lib.hid (show ∀ z ∈ own, -9223372036854775808 ≤ z.2 ∧ z.2 ≤ 9223372036854775807 from fun z hz => by have h1 := hapt.kinds z hz; have h2 := hapt.low z hz; omega)
        have hol := hapt.len
        have hm5 := HM.out.1
        clear hown hapt hbA HAP hmm
        generalize strF R 0 m = S at *
        have hrt := HRA.out
        have HD := Lib.hid (apply_any AR m mc (PlainAid.bt S) A31 own cap31 delta wA.drew hrt.2.1 (by omega) (bt255 S) hrt.2.2 HOA.out (by omega) HKK.out d0 d1)
        have HE := Lib.hid (fun (W : World) (hs : SlT relC 2 W A31 own) => rapply_any (PlainAid.bt S) m A31 own cap31 delta W (by omega) (bt255 S) hs (by omega) HKK.out d0 d1)
        have HAW := Lib.hid (fun W : World => awake10_any W)
        have hSX : strF (PlainAid.bt S) 0 m = S := by rw [← hrt.1, strF_bt]
        obtain ⟨SR, hSR⟩ : ∃ SR, strF (applyI m delta (PlainAid.bt S) own) 0 m = SR := ⟨_, rfl⟩
        rw [hSX, hSR] at HE
        have HSR := Lib.hid hSR
        have s2 : ∀ (W : World) (hW : Keeps wA W), (convert 22 9 (.slice AR m mc)).run Try.prog W = .ok (.string S) W := fun W hW => HRA.out.strK hW
        have k1 := Keeps.self wA
        have k2 := Keeps.drew wA
        have g2 : (SR.toList == SR.toList) = true := by simp
        clear hSX hSR hrt hol hm5
        refine wp_region_noPanic ?_
        refine wp_region_held_drew (S := fun W' => Keeps wA W') (by kernel_rfl) ?_ (fun hHeld => ?_)
        · (first | exact k8 | exact k6 | exact k4 | exact k2 | exact k1 | fail)
        refine wpAnyH_take (i := 0) (oi := ?_) (v := ?_) ?_ (by kernel_rfl) (by kernel_rfl) (by kernel_rfl) (fun _ _ _ h => h) ?_ (by assumption) ?_
        rotate_left 2
        · (simp only [List.getElem?_toArray, List.getElem?_cons_succ, List.getElem?_cons_zero]; rfl)
        · (refine Or.inl ⟨by rfl, ?_⟩; intro w hSw; (try dsimp only at hSw); go_simp; try with_reducible rfl)
        try simp only [Act.put, List.setIfInBounds_toArray, List.set_cons_zero, List.set_cons_succ]
        refine wpAnyH_take (i := 1) (oi := ?_) (v := ?_) ?_ (by kernel_rfl) (by kernel_rfl) (by kernel_rfl) (fun _ _ _ h => h) ?_ (by assumption) ?_
        rotate_left 2
        · (simp only [List.getElem?_toArray, List.getElem?_cons_succ, List.getElem?_cons_zero]; rfl)
        · (refine Or.inl ⟨by rfl, ?_⟩; intro w hSw; (try dsimp only at hSw); go_simp; try with_reducible rfl)
        try simp only [Act.put, List.setIfInBounds_toArray, List.set_cons_zero, List.set_cons_succ]
        refine wpAnyH_take (i := 2) (oi := ?_) (v := ?_) ?_ (by kernel_rfl) (by kernel_rfl) (by kernel_rfl) (fun _ _ _ h => h) ?_ (by assumption) ?_
        rotate_left 2
        · (simp only [List.getElem?_toArray, List.getElem?_cons_succ, List.getElem?_cons_zero]; rfl)
        · (refine Or.inl ⟨by rfl, ?_⟩; intro w hSw; (try dsimp only at hSw); go_simp; try with_reducible rfl)
        try simp only [Act.put, List.setIfInBounds_toArray, List.set_cons_zero, List.set_cons_succ]
        refine wpAnyH_take (i := 5) (oi := ?_) (v := ?_) ?_ (by kernel_rfl) (by kernel_rfl) (by kernel_rfl) (fun _ _ _ h => h) ?_ (by assumption) ?_
        rotate_left 2
        · (simp only [List.getElem?_toArray, List.getElem?_cons_succ, List.getElem?_cons_zero]; rfl)
        · (refine Or.inl ⟨by rfl, ?_⟩; intro w hSw; (try dsimp only at hSw); go_simp; try with_reducible rfl)
        try simp only [Act.put, List.setIfInBounds_toArray, List.set_cons_zero, List.set_cons_succ]
        refine wpAnyH_take (i := 6) (oi := ?_) (v := ?_) ?_ (by kernel_rfl) (by kernel_rfl) (by kernel_rfl) (fun _ _ _ h => h) ?_ (by assumption) ?_
        rotate_left 2
        · (simp only [List.getElem?_toArray, List.getElem?_cons_succ, List.getElem?_cons_zero]; rfl)
        · (refine Or.inl ⟨by rfl, ?_⟩; intro w hSw; (try dsimp only at hSw); go_simp; try with_reducible rfl)
        try simp only [Act.put, List.setIfInBounds_toArray, List.set_cons_zero, List.set_cons_succ]
        refine wpAnyH_take (i := 7) (oi := ?_) (v := ?_) ?_ (by kernel_rfl) (by kernel_rfl) (by kernel_rfl) (fun _ _ _ h => h) ?_ (by assumption) ?_
        rotate_left 2
        · (simp only [List.getElem?_toArray, List.getElem?_cons_succ, List.getElem?_cons_zero]; rfl)
        · (refine Or.inl ⟨by rfl, ?_⟩; intro w hSw; (try dsimp only at hSw); go_simp; try with_reducible rfl)
        try simp only [Act.put, List.setIfInBounds_toArray, List.set_cons_zero, List.set_cons_succ]
        refine wpAnyH_take (i := 8) (oi := ?_) (v := ?_) ?_ (by kernel_rfl) (by kernel_rfl) (by kernel_rfl) (fun _ _ _ h => h) ?_ (by assumption) ?_
        rotate_left 2
        · (simp only [List.getElem?_toArray, List.getElem?_cons_succ, List.getElem?_cons_zero]; rfl)
        · (refine Or.inl ⟨by rfl, ?_⟩; intro w hSw; (try dsimp only at hSw); go_simp; try with_reducible rfl)
        try simp only [Act.put, List.setIfInBounds_toArray, List.set_cons_zero, List.set_cons_succ]
        refine wpAnyH_ready (rs := [3]) (by kernel_rfl) (by simp) ?_
        refine AllReadyH.cons (i := 3) rfl (fun K hK => ?_) ?_
        · go_simp
          (first | (go_at_call 13; refine HD.out.mono ?_; rintro e w5 ⟨A5, cap5, rfl, hr5, hb5⟩; have s3 : ∀ (W : World) (hW : Keeps w5 W), (convert 22 9 (.slice A5 m cap5)).run Try.prog W = .ok (.string SR) W := fun W hW => (by rw [← HSR.out]; exact hr5.strA hW); have k3 := Keeps.self w5; have k4 := Keeps.below k2 hb5; have HB5 := Lib.hid hb5; have HQ5 := Lib.hid ((show SlT relC 2 wA.drew A31 own from HOA.out).below hb5); clear hr5 hb5) | (go_at_call 19; refine (HE.out w5 HQ5.out).mono ?_; rintro e w6 ⟨rfl, hb6⟩; have k6 := Keeps.below k4 hb6; have k7 := Keeps.below k3 hb6; have HB6 := Lib.hid hb6; clear hb6) | (go_at_call 10; refine (HAW.out w6).mono ?_; rintro e w7 ⟨rfl, hb7⟩; have k8 := Keeps.below k6 hb7; have HB7 := Lib.hid hb7; clear hb7))
          refine hK.out _ _ ?_ (fun hHeld => ?_)
          · (first | exact k8 | exact k6 | exact k4 | exact k2 | exact k1 | fail)
          clear hK K
          refine wpAnyH_ready (rs := [4, 9]) (by kernel_rfl) (by simp) ?_
          refine AllReadyH.cons (i := 4) rfl (fun K hK => ?_) ?_
          · go_simp
            refine hK.out _ _ ?_ (fun hHeld => ?_)
            · (first | exact k8 | exact k6 | exact k4 | exact k2 | exact k1 | fail)
            clear hK K
            refine wpAnyH_ready (rs := [9]) (by kernel_rfl) (by simp) ?_
            refine AllReadyH.cons (i := 9) rfl (fun K hK => ?_) ?_
            · go_simp
              (first | (go_at_call 13; refine HD.out.mono ?_; rintro e w5 ⟨A5, cap5, rfl, hr5, hb5⟩; have s3 : ∀ (W : World) (hW : Keeps w5 W), (convert 22 9 (.slice A5 m cap5)).run Try.prog W = .ok (.string SR) W := fun W hW => (by rw [← HSR.out]; exact hr5.strA hW); have k3 := Keeps.self w5; have k4 := Keeps.below k2 hb5; have HB5 := Lib.hid hb5; have HQ5 := Lib.hid ((show SlT relC 2 wA.drew A31 own from HOA.out).below hb5); clear hr5 hb5) | (go_at_call 19; refine (HE.out w5 HQ5.out).mono ?_; rintro e w6 ⟨rfl, hb6⟩; have k6 := Keeps.below k4 hb6; have k7 := Keeps.below k3 hb6; have HB6 := Lib.hid hb6; clear hb6) | (go_at_call 10; refine (HAW.out w6).mono ?_; rintro e w7 ⟨rfl, hb7⟩; have k8 := Keeps.below k6 hb7; have HB7 := Lib.hid hb7; clear hb7))
              refine hK.out _ _ ?_ (fun hHeld => ?_)
              · (first | exact k8 | exact k6 | exact k4 | exact k2 | exact k1 | fail)
              clear hK K
              refine wpAnyH_take (i := 10) (oi := ?_) (v := ?_) ?_ (by kernel_rfl) (by kernel_rfl) (by kernel_rfl) (fun _ _ _ h => h) ?_ (by assumption) ?_
              rotate_left 2
              · (simp only [List.getElem?_toArray, List.getElem?_cons_succ, List.getElem?_cons_zero]; rfl)
              · (refine Or.inl ⟨by rfl, ?_⟩; intro w hSw; (try dsimp only at hSw); go_simp; try with_reducible rfl)
              try simp only [Act.put, List.setIfInBounds_toArray, List.set_cons_zero, List.set_cons_succ]
              refine wpAnyH_take (i := 11) (oi := ?_) (v := ?_) ?_ (by kernel_rfl) (by kernel_rfl) (by kernel_rfl) (fun _ _ _ h => h) ?_ (by assumption) ?_
              rotate_left 2
              · (simp only [List.getElem?_toArray, List.getElem?_cons_succ, List.getElem?_cons_zero]; rfl)
              · (refine Or.inl ⟨by rfl, ?_⟩; intro w hSw; (try dsimp only at hSw); go_simp; try with_reducible rfl)
              try simp only [Act.put, List.setIfInBounds_toArray, List.set_cons_zero, List.set_cons_succ]
              refine wpAnyH_ready (rs := [12]) (by kernel_rfl) (by simp) ?_
              refine AllReadyH.cons (i := 12) rfl (fun K hK => ?_) ?_
              · go_simp
                (first | (go_at_call 13; refine HD.out.mono ?_; rintro e w5 ⟨A5, cap5, rfl, hr5, hb5⟩; have s3 : ∀ (W : World) (hW : Keeps w5 W), (convert 22 9 (.slice A5 m cap5)).run Try.prog W = .ok (.string SR) W := fun W hW => (by rw [← HSR.out]; exact hr5.strA hW); have k3 := Keeps.self w5; have k4 := Keeps.below k2 hb5; have HB5 := Lib.hid hb5; have HQ5 := Lib.hid ((show SlT relC 2 wA.drew A31 own from HOA.out).below hb5); clear hr5 hb5) | (go_at_call 19; refine (HE.out w5 HQ5.out).mono ?_; rintro e w6 ⟨rfl, hb6⟩; have k6 := Keeps.below k4 hb6; have k7 := Keeps.below k3 hb6; have HB6 := Lib.hid hb6; clear hb6) | (go_at_call 10; refine (HAW.out w6).mono ?_; rintro e w7 ⟨rfl, hb7⟩; have k8 := Keeps.below k6 hb7; have HB7 := Lib.hid hb7; clear hb7))
                refine hK.out _ _ ?_ (fun hHeld => ?_)
                · (first | exact k8 | exact k6 | exact k4 | exact k2 | exact k1 | fail)
                clear hK K
                refine wpAnyH_take (i := 13) (oi := ?_) (v := ?_) ?_ (by kernel_rfl) (by kernel_rfl) (by kernel_rfl) (fun _ _ _ h => h) ?_ (by assumption) ?_
                rotate_left 2
                · (simp only [List.getElem?_toArray, List.getElem?_cons_succ, List.getElem?_cons_zero]; rfl)
                · (refine Or.inl ⟨by rfl, ?_⟩; intro w hSw; (try dsimp only at hSw); go_simp; try with_reducible rfl)
                try simp only [Act.put, List.setIfInBounds_toArray, List.set_cons_zero, List.set_cons_succ]
                refine wpAnyH_take (i := 14) (oi := ?_) (v := ?_) ?_ (by kernel_rfl) (by kernel_rfl) (by kernel_rfl) (fun _ _ _ h => h) ?_ (by assumption) ?_
                rotate_left 2
                · (simp only [List.getElem?_toArray, List.getElem?_cons_succ, List.getElem?_cons_zero]; rfl)
                · (refine Or.inl ⟨by rfl, ?_⟩; intro w hSw; (try dsimp only at hSw); go_simp; try with_reducible rfl)
                try simp only [Act.put, List.setIfInBounds_toArray, List.set_cons_zero, List.set_cons_succ]
                refine wpAnyH_done (by kernel_rfl) ?_ _
                refine NoPanic.normal ?_
                (go_wp2_with fail; go_ret; exact ⟨rfl, HBA.out.trans (((Below.refl _ wA).drew.trans (HB5.out.trans ((HB6.out.trans (HB7.out.mono HB6.out.size)).mono HB5.out.size))).mono HBA.out.size)⟩)
              exact AllReadyH.nil
            exact AllReadyH.nil
          refine AllReadyH.cons (i := 9) rfl (fun K hK => ?_) ?_
          · go_simp
            (first | (go_at_call 13; refine HD.out.mono ?_; rintro e w5 ⟨A5, cap5, rfl, hr5, hb5⟩; have s3 : ∀ (W : World) (hW : Keeps w5 W), (convert 22 9 (.slice A5 m cap5)).run Try.prog W = .ok (.string SR) W := fun W hW => (by rw [← HSR.out]; exact hr5.strA hW); have k3 := Keeps.self w5; have k4 := Keeps.below k2 hb5; have HB5 := Lib.hid hb5; have HQ5 := Lib.hid ((show SlT relC 2 wA.drew A31 own from HOA.out).below hb5); clear hr5 hb5) | (go_at_call 19; refine (HE.out w5 HQ5.out).mono ?_; rintro e w6 ⟨rfl, hb6⟩; have k6 := Keeps.below k4 hb6; have k7 := Keeps.below k3 hb6; have HB6 := Lib.hid hb6; clear hb6) | (go_at_call 10; refine (HAW.out w6).mono ?_; rintro e w7 ⟨rfl, hb7⟩; have k8 := Keeps.below k6 hb7; have HB7 := Lib.hid hb7; clear hb7))
            refine hK.out _ _ ?_ (fun hHeld => ?_)
            · (first | exact k8 | exact k6 | exact k4 | exact k2 | exact k1 | fail)
            clear hK K
            refine wpAnyH_ready (rs := [4]) (by kernel_rfl) (by simp) ?_
            refine AllReadyH.cons (i := 4) rfl (fun K hK => ?_) ?_
            · go_simp
              refine hK.out _ _ ?_ (fun hHeld => ?_)
              · (first | exact k8 | exact k6 | exact k4 | exact k2 | exact k1 | fail)
              clear hK K
              refine wpAnyH_take (i := 10) (oi := ?_) (v := ?_) ?_ (by kernel_rfl) (by kernel_rfl) (by kernel_rfl) (fun _ _ _ h => h) ?_ (by assumption) ?_
              rotate_left 2
              · (simp only [List.getElem?_toArray, List.getElem?_cons_succ, List.getElem?_cons_zero]; rfl)
              · (refine Or.inl ⟨by rfl, ?_⟩; intro w hSw; (try dsimp only at hSw); go_simp; try with_reducible rfl)
              try simp only [Act.put, List.setIfInBounds_toArray, List.set_cons_zero, List.set_cons_succ]
              refine wpAnyH_take (i := 11) (oi := ?_) (v := ?_) ?_ (by kernel_rfl) (by kernel_rfl) (by kernel_rfl) (fun _ _ _ h => h) ?_ (by assumption) ?_
              rotate_left 2
              · (simp only [List.getElem?_toArray, List.getElem?_cons_succ, List.getElem?_cons_zero]; rfl)
              · (refine Or.inl ⟨by rfl, ?_⟩; intro w hSw; (try dsimp only at hSw); go_simp; try with_reducible rfl)
              try simp only [Act.put, List.setIfInBounds_toArray, List.set_cons_zero, List.set_cons_succ]
              refine wpAnyH_ready (rs := [12]) (by kernel_rfl) (by simp) ?_
              refine AllReadyH.cons (i := 12) rfl (fun K hK => ?_) ?_
              · go_simp
                (first | (go_at_call 13; refine HD.out.mono ?_; rintro e w5 ⟨A5, cap5, rfl, hr5, hb5⟩; have s3 : ∀ (W : World) (hW : Keeps w5 W), (convert 22 9 (.slice A5 m cap5)).run Try.prog W = .ok (.string SR) W := fun W hW => (by rw [← HSR.out]; exact hr5.strA hW); have k3 := Keeps.self w5; have k4 := Keeps.below k2 hb5; have HB5 := Lib.hid hb5; have HQ5 := Lib.hid ((show SlT relC 2 wA.drew A31 own from HOA.out).below hb5); clear hr5 hb5) | (go_at_call 19; refine (HE.out w5 HQ5.out).mono ?_; rintro e w6 ⟨rfl, hb6⟩; have k6 := Keeps.below k4 hb6; have k7 := Keeps.below k3 hb6; have HB6 := Lib.hid hb6; clear hb6) | (go_at_call 10; refine (HAW.out w6).mono ?_; rintro e w7 ⟨rfl, hb7⟩; have k8 := Keeps.below k6 hb7; have HB7 := Lib.hid hb7; clear hb7))
                refine hK.out _ _ ?_ (fun hHeld => ?_)
                · (first | exact k8 | exact k6 | exact k4 | exact k2 | exact k1 | fail)
                clear hK K
                refine wpAnyH_take (i := 13) (oi := ?_) (v := ?_) ?_ (by kernel_rfl) (by kernel_rfl) (by kernel_rfl) (fun _ _ _ h => h) ?_ (by assumption) ?_
                rotate_left 2
                · (simp only [List.getElem?_toArray, List.getElem?_cons_succ, List.getElem?_cons_zero]; rfl)
                · (refine Or.inl ⟨by rfl, ?_⟩; intro w hSw; (try dsimp only at hSw); go_simp; try with_reducible rfl)
                try simp only [Act.put, List.setIfInBounds_toArray, List.set_cons_zero, List.set_cons_succ]
                refine wpAnyH_take (i := 14) (oi := ?_) (v := ?_) ?_ (by kernel_rfl) (by kernel_rfl) (by kernel_rfl) (fun _ _ _ h => h) ?_ (by assumption) ?_
                rotate_left 2
                · (simp only [List.getElem?_toArray, List.getElem?_cons_succ, List.getElem?_cons_zero]; rfl)
                · (refine Or.inl ⟨by rfl, ?_⟩; intro w hSw; (try dsimp only at hSw); go_simp; try with_reducible rfl)
                try simp only [Act.put, List.setIfInBounds_toArray, List.set_cons_zero, List.set_cons_succ]
                refine wpAnyH_done (by kernel_rfl) ?_ _
                refine NoPanic.normal ?_
                (go_wp2_with fail; go_ret; exact ⟨rfl, HBA.out.trans (((Below.refl _ wA).drew.trans (HB5.out.trans ((HB6.out.trans (HB7.out.mono HB6.out.size)).mono HB5.out.size))).mono HBA.out.size)⟩)
              exact AllReadyH.nil
            exact AllReadyH.nil
          exact AllReadyH.nil
        exact AllReadyH.nil
end Go.Proofs.Ytcommphfjkggkaa
