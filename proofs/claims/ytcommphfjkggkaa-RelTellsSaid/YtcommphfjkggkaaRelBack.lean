/- RelBack. -/
import Derived.Test.YtcommphfjkggkaaRelSame
import Derived.Test.YtcommphfjkggkaaRelForms
namespace Go.Proofs.Ytcommphfjkggkaa
open Go.ChangeShapes Go.WideShapes Go.ChangeAt Go.RowKit
set_option linter.unusedVariables false

section
variable {α : Type} {C : α → List Value} {sz : Nat}
/-- append of elements out of a slice, as a step of a region that draws its order. -/
theorem step_appTs {P : Program} {w : World} {ops : Array Oper} {o : Oper} {a : Act} {K : Act → World → Prop} {Q : Exit → Act → World → Prop} {E : Prop} (hgd : o.guard = none) (s x : Operand) (t : TypeId)
    (ho : o.op = .call { callee := .builtin .append, args := #[s, x], argTypes := #[t, t] })
    (base : Nat) (e : TypeId) (z : Value) (bytes : Nat) (ht : P.underlying t = some (.slice e)) (hinfo : (P.info? e).map (fun i => (i.zero, i.size, i.bytes)) = some (some z, sz, bytes)) (hzs : z.cells.size = sz) (hsz : 0 < sz) (hC : ∀ x, (C x).length = sz) (hC1 : ∀ x, ∀ u ∈ C x, u.oneCell' = true)
    (v : Value) (l : List α) (hv : a.eval s = v) (hown : OwnT C sz w base e v l) (b off c : Nat) (ys : List α) (hX : a.eval x = .slice (some ⟨b, off, none⟩) ys.length c)
    (hys : ∀ (i : Nat) (hi : i < ys.length) (j : Nat) (u : Value), (C ys[i])[j]? = some u → w.cell? ⟨b, off + (i * sz + j), none⟩ = some u) (hpos : 0 < ys.length)
    (h63 : l.length + ys.length ≤ maxLen) (hbytes : (l.length + ys.length) * bytes ≤ 140737488355328) (hbase : base ≤ w.heap.size)
    (hK : ∀ g' cap w', OwnT C sz w' base e (.slice (some ⟨g', 0, none⟩) (l.length + ys.length) cap) (l ++ ys) → w.grownBy w' v.ownBlock → (v.ownBlock = some g' ∨ g' = w.heap.size) → K (a.put o.dst (.slice (some ⟨g', 0, none⟩) (l.length + ys.length) cap)) w') :
    if Region.wanted o (yielded ops a.tmps) = true then Oper.wp P o a w K Q else E := by
  obtain ⟨i0, hi, hz0, hz1, hz2⟩ := info_parts hinfo
  refine step_append_lies w hgd s x t ho base e i0 z sz bytes ht hi hz0 hz1 hz2 hzs hsz v l.length (l.flatMap C) hv hown ⟨b, off, none⟩ ys.length c (ys.flatMap C) hX (flatC_len hC ys) (fun j u hu => ?_) (fun u hu => ?_) hpos h63 hbytes hbase _ rfl ?_
  · have hadd : (⟨b, off, none⟩ : Addr).add j = ⟨b, off + j, none⟩ := by unfold Addr.add; split <;> simp_all
    rw [hadd]
    have hjl : j < ys.length * sz := by rw [← flatC_len hC ys]; exact (List.getElem?_eq_some_iff.1 hu).1
    have hq : j / sz < ys.length := Nat.div_lt_of_lt_mul (by rwa [Nat.mul_comm] at hjl)
    have hm : j % sz < sz := Nat.mod_lt _ hsz
    have he : j / sz * sz + j % sz = j := by rw [Nat.mul_comm]; exact Nat.div_add_mod j sz
    have := flatC_get hC ys (j / sz) (j % sz) hq hm
    rw [he, hu] at this
    have h2 := hys (j / sz) hq (j % sz) u this.symm
    rwa [he] at h2
  · obtain ⟨y, _, hy⟩ := List.mem_flatMap.1 hu
    exact hC1 y u hy
  · intro g' cap w' hown' hg hat _
    refine hK g' cap w' ?_ hg hat
    unfold OwnT
    rw [List.length_append, List.flatMap_append]
    exact hown'
end

theorem grown_bel {B : Nat} {a w w' : World} {row : Option Nat} (hb : Below B a w) (hg : w.grownBy w' row) (hr : ∀ k, row = some k → B ≤ k) (hs : B ≤ w.heap.size) : Below B a w' :=
  hb.trans ⟨hg.os, hg.tape, hg.output, hg.size, fun k hk => hg.block k (by omega) (fun e => by have := hr k e.symm; omega)⟩
theorem oneSite {w : World} {g : Nat} {a b : Int} (h : Own w g 2 (fun i => if i = 0 then .int .i64 a else .int .i64 b)) : ∀ (i : Nat) (hi : i < ([(a, b)] : List Site).length) (j : Nat) (u : Value), (relC ([(a, b)] : List Site)[i])[j]? = some u → w.cell? ⟨g, 0 + (i * 2 + j), none⟩ = some u := by
  intro i hi j u hu
  obtain rfl : i = 0 := by simpa using hi
  rcases j with _ | _ | j
  · have := h.cell (i := 0) (by omega)
    simp [relC] at hu
    subst hu
    simpa using this
  · have := h.cell (i := 1) (by omega)
    simp [relC] at hu
    subst hu
    simpa using this
  · simp [relC] at hu

theorem madeB_le (l : List Site) : ∀ (F k : Nat), k ≤ l.length → (madeB l F k).length ≤ 12 * (l.length - k)
  | 0, k, _ => by simp [madeB]
  | F + 1, k, hk => by
    unfold madeB
    by_cases hlt : k < l.length
    · rw [List.getElem?_eq_getElem hlt]
      simp only
      have hd : l.drop k = l[k] :: l.drop (k + 1) := List.drop_eq_getElem_cons hlt
      obtain ⟨r, hrr⟩ : ∃ r, runN (l[k].2 / 4096) (l.drop k) = r := ⟨_, rfl⟩
      have hr1 : 1 ≤ r := by rw [← hrr, hd]; exact runN_pos rfl
      obtain ⟨t1, _⟩ := runN_take (l[k].2 / 4096) (l.drop k)
      rw [hrr] at t1 ⊢
      rw [List.length_drop] at t1
      have ih := madeB_le l F (k + r) (by omega)
      obtain ⟨_, v2⟩ := vsOf_len ((l.drop k).take r)
      rw [List.length_take, List.length_drop] at v2
      rw [List.length_append, pad_enc]
      unfold blockB
      rw [List.length_append, List.length_append, le4_len, le4_len, enc_len]
      omega
    · rw [List.getElem?_eq_none (by omega)]
      simp
theorem madeB_bs (l : List Site) : ∀ (F k : Nat), Bs (madeB l F k)
  | 0, k => Bs.nil
  | F + 1, k => by
    unfold madeB
    cases l[k]? with
    | none => exact Bs.nil
    | some x =>
      refine ((le4_bs _).append (le4_bs _)).append ?_ |>.append (madeB_bs l F _)
      have h : Bs ((((l.drop k).take (runN (x.2 / 4096) (l.drop k))).flatMap ent)) := fun b hb => by
        obtain ⟨y, _, hy⟩ := List.mem_flatMap.1 hb
        exact ent_bs y b hy
      unfold pad
      split
      · exact h.append (fun b hb => by simp at hb; omega)
      · exact h
theorem aheadB_bs (n : Nat) : Bs (aheadB n) := Bs.listF (fun i => by omega) n

set_option maxRecDepth 100000 in
set_option maxHeartbeats 4000000 in
theorem back_core (w : World) (L : Option Addr) (l : List Site) (lc : Nat) (which : Int) (hL : SlT relC 2 w L l) (hll : l.length ≤ 9223372036854775807) :
    Calls Try.prog 6 #[.slice L l.length lc, .int .i64 which] w fun e w' => e = .returned (.bool true) ∧ Below w.heap.size w w' := by
  have HC := Lib.hid (apart_any L l lc 10000 w hL hll (by omega) (by omega))
  clear hL
  go_enter Try.func6, Try.ntmps6
  go_wp2_with fail
  go_fit HC.out
  rintro e w1 ⟨own, A, cap, rfl, hown, hapt, hb1⟩
  have HAPT := Lib.hid hapt
  have HOW1 := Lib.hid hown
  have HB1 := Lib.hid hb1
  have hol := hapt.len
  have HM := Lib.hid (made_any A own cap 10000 w1 (hown.sl relC_len) (by omega) (by omega) (fun x hx => ⟨(hapt.kinds x hx).2.1, hapt.low x hx⟩))
  clear hown hapt hb1 HC
  go_wp2_with fail
  go_fit HM.out
  rintro e w2 ⟨A2, cap2, rfl, hbl, hb2⟩
  have hml := madeB_le own (own.length + 1) 0 (by omega)
  have HPF := Lib.hid (parse_far own (10000 + (madeB own (own.length + 1) 0).length) 10000 rfl (by omega) (fun x hx => by have := HAPT.out.kinds x hx; exact ⟨this.1, this.2.1, by omega⟩) HAPT.out.low (by omega) HAPT.out.far)
  have HBS := Lib.hid (madeB_bs own (own.length + 1) 0)
  generalize madeB own (own.length + 1) 0 = M at *
  have HBL := Lib.hid (hbl.alloc (.cells #[.int .i64 10000, .int .i64 M.length] 24))
  have HD := Lib.hid (own_two w2 (.int .i64 10000) (.int .i64 M.length) 24)
  have HOW2 := Lib.hid ((HOW1.out.below hb2).alloc (.cells #[.int .i64 10000, .int .i64 M.length] 24))
  have HB2 := Lib.hid ((HB1.out.trans (hb2.mono HB1.out.size)).alloc (by have := (HB1.out.trans (hb2.mono HB1.out.size)).size; omega) (.cells #[.int .i64 10000, .int .i64 M.length] 24))
  have HW2 := Lib.hid (show w.heap.size ≤ w2.heap.size from (HB1.out.trans (hb2.mono HB1.out.size)).size)
  have HP := Lib.hid (parse_bl (res := some own) (r := 10000) (s := (M.length : Int)) HBL.out ((aheadB_bs 10000).append HBS.out) (by rw [List.length_append, aheadB_len]; exact HPF.out) (by rw [List.length_append, aheadB_len]; omega) (by omega) (by omega) (by omega) (by omega))
  clear hbl hb2 HM HPF HBS
  simp only [Int.cast_ofNat_Int]
  go_wp2_with fail
  go_fit HP.out
  rintro e w3 ⟨⟨A3, cap3, rfl, hown3⟩, hb3⟩
  have HD3 := Lib.hid (HD.out.below hb3 (by simp))
  have HOW3 := Lib.hid (HOW2.out.below hb3)
  have HB3 := Lib.hid (HB2.out.trans (hb3.mono HB2.out.size))
  have HW3 := Lib.hid (show w2.heap.size + 1 ≤ w3.heap.size by have := hb3.size; simpa using this)
  have HSR := Lib.hid (sameRels_eq A3 A own cap3 cap w3 (hown3.sl relC_len) (HOW3.out.sl relC_len) (by omega))
  clear hown3 hb3 HP HBL HOW2 HB2 HD
  go_wp2_with fail
  go_fit HSR.out
  rintro e w4 ⟨rfl, d, rfl⟩
  clear HSR
  by_cases h0 : own.length = 0
  · have HAW := Lib.hid (awake10_any (w3.drewN d))
    have e0 : ((own.length : Int) == 0) = true := by simp [h0]
    clear h0
    go_wp2_with fail
    go_fit HAW.out
    rintro e w7 ⟨rfl, hb7⟩
    have HB8 := Lib.hid ((belD HB3.out d).trans (hb7.mono HB3.out.size))
    clear hb7
    go_wp2_with fail
    go_ret
    exact ⟨rfl, HB8.out⟩
  · have e0 : ((own.length : Int) == 0) = false := by simpa using h0
    obtain ⟨K, hK⟩ : ∃ K : Nat, which % 256 = K := ⟨(which % 256).toNat, by omega⟩
    have hKb := (and_ff which).trans hK
    obtain ⟨k, hk⟩ : ∃ k : Nat, K % own.length = k := ⟨_, rfl⟩
    have hkl : k < own.length := by rw [← hk]; exact Nat.mod_lt _ (by omega)
    have hkt : Int.tmod (K : Int) (own.length : Int) = k := by rw [← hk]; rfl
    have hpos : 0 < (own.length : Int) := by omega
    clear hK hk h0
    go_upto_region 9 with fail
    have HOW4 := Lib.hid (show OwnT relC 2 (w3.drewN d) w.heap.size 30 (.slice A own.length cap) own from HOW3.out)
    have HB4 := Lib.hid (belD HB3.out d)
    have HD4 := Lib.hid (show Own (w3.drewN d) w2.heap.size 2 _ from HD3.out)
    have HW4 := Lib.hid (show w2.heap.size + 1 ≤ (w3.drewN d).heap.size from HW3.out)
    generalize w3.drewN d = W4 at *
    obtain ⟨bA, offA, rfl, hblA, hcc⟩ : ∃ b off, A = some ⟨b, off, none⟩ ∧ b < W4.heap.size ∧ ∀ (i : Nat) (hi : i < own.length) (j : Nat) (v : Value), (relC own[i])[j]? = some v → W4.cell? ⟨b, off + (i * 2 + j), none⟩ = some v := by
      rcases HOW4.out.sl relC_len with h | h
      · rw [h] at hkl; simp at hkl
      · exact h
    have HCC := Lib.hid (show ∀ W', Below W4.heap.size W4 W' → ∀ (i : Nat) (hi : i < own.length) (j : Nat) (v : Value), (relC own[i])[j]? = some v → W'.cell? ⟨bA, offA + (i * 2 + j), none⟩ = some v from fun W' hb i hi j v hv => (hb.cell (p := ⟨bA, _, none⟩) hblA).trans (hcc i hi j v hv))
    obtain ⟨y, hy⟩ : ∃ y, own[k] = y := ⟨_, rfl⟩
    have HMEM := Lib.hid (show y ∈ own from hy ▸ List.getElem_mem hkl)
    obtain ⟨ky, r⟩ := y
    have HS := Lib.hid (show ∀ W', Below W4.heap.size W4 W' → W'.cell? ⟨bA, offA + k * 2 + 1, none⟩ = some (.int .i64 r) ∧ Below W4.heap.size W4 W' from fun W' hb => ⟨by have := HCC.out W' hb k hkl 1 (.int .i64 r) (by rw [hy]; rfl); rwa [← Nat.add_assoc] at this, hb⟩)
    have HPOS := Lib.hid (show 0 < own.length by omega)
    have hr0 := (HAPT.out.kinds _ HMEM.out).2.1
    have hr1 := HAPT.out.low _ HMEM.out
    simp only at hr0 hr1
    have hz : (0 : Int) ≤ (k : Int) := by omega
    have hzl : (k : Int) < (own.length : Int) := by omega
    have HZ1 := Lib.hid (show (W4.alloc (.cells #[.int .i64 3, .int .i64 (r + 3)] 30)).heap.size = W4.heap.size + 1 by simp)
    have HE1 := Lib.hid (show (W4.alloc (.cells #[] 30)).heap.size = W4.heap.size + 1 by simp)
    have hw3 : IntKind.i64.wrap (r + 3) = r + 3 := by rw [IntKind.wrap_i64]; omega
    clear hcc hy
    go_cut [11] from 44 to 55 (fun v11 wx => ∃ g cp, v11 = .slice (some ⟨g, 0, none⟩) (own ++ [(3, r + 3)]).length cp ∧ OwnT relC 2 wx W4.heap.size 30 (.slice (some ⟨g, 0, none⟩) (own ++ [(3, r + 3)]).length cp) (own ++ [(3, r + 3)]) ∧ Below W4.heap.size W4 wx)
    case first =>
      go_region_held3 (fun W' => W'.cell? ⟨bA, offA + k * 2 + 1, none⟩ = some (.int .i64 r) ∧ Below W4.heap.size W4 W')
        (first | exact HS.out _ hbb5 | exact HS.out _ hbb3 | exact HS.out _ (hbb3.alloc hbb3.size _) | exact HS.out _ ((Below.refl W4.heap.size W4).drew) | exact HS.out _ (((Below.refl W4.heap.size W4).alloc (Nat.le_refl _) _).drew) | exact HS.out _ ((((Below.refl W4.heap.size W4).alloc (Nat.le_refl _) _).alloc (by simp) _).drew) | fail)
        (first
         | ((refine step_appTs (P := Try.prog) (C := relC) (sz := 2) (w := (W4.alloc (.cells #[] 30)).drew) ?_ (.tmp 44) (.tmp 45) 25 ?_ W4.heap.size 30 (.agg #[.int .i64 0, .int .i64 0]) 16 ?_ infoRel ?_ ?_ relC_len relC_one (.slice (some ⟨W4.heap.size, 0, none⟩) 0 0) [] ?_ (OwnT.made W4 W4.heap.size (Nat.le_refl _) _) bA offA cap own ?_ ?_ ?_ ?_ ?_ ?_ ?_; (rfl); (rfl); (kernel_rfl); (rfl); (omega); (first | rfl | simp [Act.eval, Act.put]); (first | rfl | simp [Act.eval, Act.put]); (exact HCC.out _ (((Below.refl W4.heap.size W4).alloc (Nat.le_refl _) (.cells #[] 30)).drew)); (exact HPOS.out); ((unfold maxLen; simp; omega)); ((simp; omega)); (exact (((Below.refl W4.heap.size W4).alloc (Nat.le_refl _) (.cells #[] 30)).drew).size); intro g5 cp5 w5 hown5 hg5 hat5; simp only [List.length_nil, Nat.zero_add, List.nil_append] at hown5; have hbb3 : Below W4.heap.size W4 w5 := grown_bel (((Below.refl W4.heap.size W4).alloc (Nat.le_refl _) (.cells #[] 30)).drew) hg5 (fun k hk => by injection hk with hk; rw [← hk]; first | exact Nat.le_refl _ | exact Nat.le_succ _) ((((Below.refl W4.heap.size W4).alloc (Nat.le_refl _) (.cells #[] 30)).drew).size)))
         | ((refine step_appTs (P := Try.prog) (C := relC) (sz := 2) (w := ((W4.alloc (.cells #[] 30)).alloc (.cells #[.int .i64 3, .int .i64 (r + 3)] 30)).drew) ?_ (.tmp 44) (.tmp 45) 25 ?_ W4.heap.size 30 (.agg #[.int .i64 0, .int .i64 0]) 16 ?_ infoRel ?_ ?_ relC_len relC_one (.slice (some ⟨W4.heap.size, 0, none⟩) 0 0) [] ?_ ((OwnT.made W4 W4.heap.size (Nat.le_refl _) _).alloc (.cells #[.int .i64 3, .int .i64 (r + 3)] 30)) bA offA cap own ?_ ?_ ?_ ?_ ?_ ?_ ?_; (rfl); (rfl); (kernel_rfl); (rfl); (omega); (first | rfl | simp [Act.eval, Act.put]); (first | rfl | simp [Act.eval, Act.put]); (exact HCC.out _ ((((Below.refl W4.heap.size W4).alloc (Nat.le_refl _) (.cells #[] 30)).alloc (by simp) (.cells #[.int .i64 3, .int .i64 (r + 3)] 30)).drew)); (exact HPOS.out); ((unfold maxLen; simp; omega)); ((simp; omega)); (exact ((((Below.refl W4.heap.size W4).alloc (Nat.le_refl _) (.cells #[] 30)).alloc (by simp) (.cells #[.int .i64 3, .int .i64 (r + 3)] 30)).drew).size); intro g5 cp5 w5 hown5 hg5 hat5; simp only [List.length_nil, Nat.zero_add, List.nil_append] at hown5; have hbb3 : Below W4.heap.size W4 w5 := grown_bel ((((Below.refl W4.heap.size W4).alloc (Nat.le_refl _) (.cells #[] 30)).alloc (by simp) (.cells #[.int .i64 3, .int .i64 (r + 3)] 30)).drew) hg5 (fun k hk => by injection hk with hk; rw [← hk]; first | exact Nat.le_refl _ | exact Nat.le_succ _) (((((Below.refl W4.heap.size W4).alloc (Nat.le_refl _) (.cells #[] 30)).alloc (by simp) (.cells #[.int .i64 3, .int .i64 (r + 3)] 30)).drew).size)))
         | ((refine step_appTs (P := Try.prog) (C := relC) (sz := 2) (w := ((W4.alloc (.cells #[.int .i64 3, .int .i64 (r + 3)] 30)).alloc (.cells #[] 30)).drew) ?_ (.tmp 44) (.tmp 45) 25 ?_ W4.heap.size 30 (.agg #[.int .i64 0, .int .i64 0]) 16 ?_ infoRel ?_ ?_ relC_len relC_one (.slice (some ⟨W4.heap.size + 1, 0, none⟩) 0 0) [] ?_ (by have h := OwnT.made (C := relC) (sz := 2) (W4.alloc (.cells #[.int .i64 3, .int .i64 (r + 3)] 30)) W4.heap.size (by simp) 30; rw [HZ1.out] at h; exact h) bA offA cap own ?_ ?_ ?_ ?_ ?_ ?_ ?_; (rfl); (rfl); (kernel_rfl); (rfl); (omega); (first | rfl | simp [Act.eval, Act.put]); (first | rfl | simp [Act.eval, Act.put]); (exact HCC.out _ ((((Below.refl W4.heap.size W4).alloc (Nat.le_refl _) (.cells #[.int .i64 3, .int .i64 (r + 3)] 30)).alloc (by simp) (.cells #[] 30)).drew)); (exact HPOS.out); ((unfold maxLen; simp; omega)); ((simp; omega)); (exact ((((Below.refl W4.heap.size W4).alloc (Nat.le_refl _) (.cells #[.int .i64 3, .int .i64 (r + 3)] 30)).alloc (by simp) (.cells #[] 30)).drew).size); intro g5 cp5 w5 hown5 hg5 hat5; simp only [List.length_nil, Nat.zero_add, List.nil_append] at hown5; have hbb3 : Below W4.heap.size W4 w5 := grown_bel ((((Below.refl W4.heap.size W4).alloc (Nat.le_refl _) (.cells #[.int .i64 3, .int .i64 (r + 3)] 30)).alloc (by simp) (.cells #[] 30)).drew) hg5 (fun k hk => by injection hk with hk; rw [← hk]; first | exact Nat.le_refl _ | exact Nat.le_succ _) (((((Below.refl W4.heap.size W4).alloc (Nat.le_refl _) (.cells #[.int .i64 3, .int .i64 (r + 3)] 30)).alloc (by simp) (.cells #[] 30)).drew).size)))
         | ((refine step_appTs (P := Try.prog) (C := relC) (sz := 2) (w := w5.alloc (.cells #[.int .i64 3, .int .i64 (r + 3)] 30)) ?_ (.tmp 46) (.tmp 54) 25 ?_ W4.heap.size 30 (.agg #[.int .i64 0, .int .i64 0]) 16 ?_ infoRel ?_ ?_ relC_len relC_one (.slice (some ⟨g5, 0, none⟩) own.length cp5) own ?_ (hown5.alloc (.cells #[.int .i64 3, .int .i64 (r + 3)] 30)) w5.heap.size 0 1 [(3, r + 3)] ?_ ?_ ?_ ?_ ?_ ?_ ?_; (rfl); (rfl); (kernel_rfl); (rfl); (omega); (first | rfl | simp [Act.eval, Act.put]); (first | rfl | simp [Act.eval, Act.put]); (exact oneSite (own_two w5 (.int .i64 3) (.int .i64 (r + 3)) 30)); (exact (by simp)); ((unfold maxLen; simp; omega)); ((simp; omega)); (exact (hbb3.alloc hbb3.size (.cells #[.int .i64 3, .int .i64 (r + 3)] 30)).size); intro g6 cp6 w6 hown6 hg6 hat6; have hbb5 : Below W4.heap.size W4 w6 := OwnT.grew (hown5.alloc (.cells #[.int .i64 3, .int .i64 (r + 3)] 30)) (hbb3.alloc hbb3.size (.cells #[.int .i64 3, .int .i64 (r + 3)] 30)) (Nat.le_refl _) ((hbb3.alloc hbb3.size (.cells #[.int .i64 3, .int .i64 (r + 3)] 30)).size) hg6))
         | ((refine step_appTs (P := Try.prog) (C := relC) (sz := 2) (w := w5) ?_ (.tmp 46) (.tmp 54) 25 ?_ W4.heap.size 30 (.agg #[.int .i64 0, .int .i64 0]) 16 ?_ infoRel ?_ ?_ relC_len relC_one (.slice (some ⟨g5, 0, none⟩) own.length cp5) own ?_ (hown5) (W4.heap.size + 1) 0 1 [(3, r + 3)] ?_ ?_ ?_ ?_ ?_ ?_ ?_; (rfl); (rfl); (kernel_rfl); (rfl); (omega); (first | rfl | simp [Act.eval, Act.put]); (first | rfl | simp [Act.eval, Act.put]); (exact (by have h := own_two (W4.alloc (.cells #[] 30)) (.int .i64 3) (.int .i64 (r + 3)) 30; rw [HE1.out] at h; exact oneSite (Own.grown (w := ((W4.alloc (.cells #[] 30)).alloc (.cells #[.int .i64 3, .int .i64 (r + 3)] 30)).drew) h hg5 (by simp [Value.ownBlock])))); (exact (by simp)); ((unfold maxLen; simp; omega)); ((simp; omega)); (exact hbb3.size); intro g6 cp6 w6 hown6 hg6 hat6; have hbb5 : Below W4.heap.size W4 w6 := OwnT.grew (hown5) (hbb3) (Nat.le_refl _) (hbb3.size) hg6))
         | ((refine step_appTs (P := Try.prog) (C := relC) (sz := 2) (w := w5) ?_ (.tmp 46) (.tmp 54) 25 ?_ W4.heap.size 30 (.agg #[.int .i64 0, .int .i64 0]) 16 ?_ infoRel ?_ ?_ relC_len relC_one (.slice (some ⟨g5, 0, none⟩) own.length cp5) own ?_ (hown5) W4.heap.size 0 1 [(3, r + 3)] ?_ ?_ ?_ ?_ ?_ ?_ ?_; (rfl); (rfl); (kernel_rfl); (rfl); (omega); (first | rfl | simp [Act.eval, Act.put]); (first | rfl | simp [Act.eval, Act.put]); (exact (oneSite (Own.grown (w := ((W4.alloc (.cells #[.int .i64 3, .int .i64 (r + 3)] 30)).alloc (.cells #[] 30)).drew) ((own_two W4 (.int .i64 3) (.int .i64 (r + 3)) 30).alloc (.cells #[] 30)) hg5 (by simp [Value.ownBlock])))); (exact (by simp)); ((unfold maxLen; simp; omega)); ((simp; omega)); (exact hbb3.size); intro g6 cp6 w6 hown6 hg6 hat6; have hbb5 : Below W4.heap.size W4 w6 := OwnT.grew (hown5) (hbb3) (Nat.le_refl _) (hbb3.size) hg6))
         | fail)
      all_goals go_wp2_with fail
      all_goals go_meet
      all_goals (case rel => exact ⟨g6, cp6, by simp, by rw [List.length_append]; simpa using hown6, hbb5⟩)
    case rest =>
      obtain ⟨g, cp, rfl, hown9, hbe9⟩ := hcut
      have hbl : (own ++ [(3, r + 3)]).length = own.length + 1 := by simp
      have hky := HAPT.out.kinds _ HMEM.out
      have HB9 := Lib.hid (HB4.out.trans (hbe9.mono HB4.out.size))
      have HD9 := Lib.hid (HD4.out.below hbe9 (by have := HW4.out; omega))
      have HW9 := Lib.hid (show w2.heap.size + 1 ≤ wc.heap.size from Nat.le_trans HW4.out hbe9.size)
      have hsome : Some16 (own ++ [(3, r + 3)]) := fun x hx => by
        rcases List.mem_append.1 hx with hx | hx
        · have := HAPT.out.kinds x hx
          exact ⟨this.1, this.2.1, HAPT.out.low x hx⟩
        · rw [List.mem_singleton] at hx
          subst hx
          have := hky.2.2
          have := relLen_bd ky
          simp only at *
          exact ⟨.inl trivial, by omega, by omega⟩
      have HM := Lib.hid (made_any (some ⟨g, 0, none⟩) (own ++ [(3, r + 3)]) cp 10020 wc (hown9.sl relC_len) (by omega) (by omega) (fun x hx => (hsome x hx).2))
      have hml := madeB_le (own ++ [(3, r + 3)]) ((own ++ [(3, r + 3)]).length + 1) 0 (by omega)
      have HPF := Lib.hid (parse_over own (3, r + 3) (10020 + (madeB (own ++ [(3, r + 3)]) ((own ++ [(3, r + 3)]).length + 1) 0).length) 10020 rfl (by omega) hsome (by omega) ⟨(ky, r), HMEM.out, by simp [relLen]; omega, by
        rcases hky.1 with h | h <;> simp only at h <;> subst h <;> simp [relLen]⟩)
      have HBS := Lib.hid (madeB_bs (own ++ [(3, r + 3)]) ((own ++ [(3, r + 3)]).length + 1) 0)
      clear hown9 hbe9 hky hsome
      have hml2 : (madeB (own ++ [(3, r + 3)]) ((own ++ [(3, r + 3)]).length + 1) 0).length ≤ 1000 := by omega
      clear hbl hml
      generalize own ++ [(3, r + 3)] = bad at *
      go_wp2_with fail
      go_fit HM.out
      rintro e w7 ⟨A7, cap7, rfl, hbl7, hb7⟩
      generalize madeB bad (bad.length + 1) 0 = M' at *
      have HD7 := Lib.hid (HD9.out.below hb7 (by have := HW9.out; omega))
      have o0 := HD7.out.cell (i := 0) (by omega)
      have o1 := HD7.out.cell (i := 1) (by omega)
      have z0 := HD7.out.frozen (i := 0) (by omega)
      have z1 := HD7.out.frozen (i := 1) (by omega)
      simp only [if_pos, if_neg, Nat.one_ne_zero] at o0 o1
      have hne : ∀ k, (Value.slice A7 (10020 + M'.length) cap7).ownBlock = some k → k ≠ w2.heap.size := fun k hk => by have := (hbl7.lt k hk).1; have := HW9.out; omega
      have HBL := Lib.hid (hbl7.of_block (w' := (w7.setCell ⟨w2.heap.size, 0, none⟩ (.int .i64 10020)).setCell ⟨w2.heap.size, 1, none⟩ (.int .i64 M'.length)) (fun k hk => by
        rw [Below.heap_setCell _ _ _ _ (hne k hk), Below.heap_setCell _ _ _ _ (hne k hk)]))
      have HB7 := Lib.hid (((HB9.out.trans (hb7.mono HB9.out.size)).setCell (p := ⟨w2.heap.size, 0, none⟩) HW2.out (.int .i64 10020)).setCell (p := ⟨w2.heap.size, 1, none⟩) HW2.out (.int .i64 M'.length))
      have HP := Lib.hid (parse_bl (res := none) (r := 10020) (s := (M'.length : Int)) HBL.out ((aheadB_bs 10020).append HBS.out) (by rw [List.length_append, aheadB_len]; exact HPF.out) (by rw [List.length_append, aheadB_len]; omega) (by omega) (by omega) (by omega) (by omega))
      clear hbl7 hb7 hne HM HPF HBS
      simp only [Int.cast_ofNat_Int]
      go_wp2_with fail
      go_fit HP.out
      rintro e w8 ⟨rfl, hb8⟩
      have HB8 := Lib.hid (HB7.out.trans (hb8.mono HB7.out.size))
      clear hb8 o0 o1 z0 z1
      go_wp2_with fail
      go_fit (awake10_any w8)
      rintro e w9 ⟨rfl, hb9⟩
      have HB10 := Lib.hid (HB8.out.trans (hb9.mono HB8.out.size))
      clear hb9
      go_wp2_with fail
      go_ret
      exact ⟨rfl, HB10.out⟩
end Go.Proofs.Ytcommphfjkggkaa
