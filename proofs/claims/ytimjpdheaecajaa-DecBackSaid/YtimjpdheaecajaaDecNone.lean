/- What no row tells is no instruction. -/
import Derived.Test.YtimjpdheaecajaaTame
import Derived.Test.YtimjpdheaecajaaAwake15
import Derived.Test.YtimjpdheaecajaaBl2
import Derived.Deep.CutRange
namespace Go.Proofs.Ytimjpdheaecajaa
open Go.ChangeShapes Go.WideShapes Go.ChangeAt Go.RowKit
set_option linter.unusedVariables false

theorem dec_own (w : World) (base n cap : Nat) (A : Option Addr) (bs : List Nat) (ho : OwnBL w base (.slice A n cap) (zL bs)) (hn : n = bs.length) (hne : bs ≠ []) (hb : Bn bs) (hc : n ≤ cap) (hc' : cap ≤ 9223372036854775807) (G : Got) (hG : decodeM forms 16 bs = G) :
    Calls Try.prog 9 #[.slice A n cap] w fun e w' => e = .returned (.tuple #[insV G.x, .int .i64 G.n, .int .i64 G.fit]) ∧ Below w.heap.size w w' := by
  obtain ⟨_, _, _, hsl, _⟩ := ho.slice
  subst hn
  rcases hsl with h | ⟨g, off, rfl, hlt, hr⟩
  · exact absurd (List.eq_nil_of_length_eq_zero h) hne
  · refine (decode_any g off bs cap w hb hc hc' (.inr ⟨g, off, rfl, hlt, fun i hi => ?_⟩)).mono ?_
    · rw [← litF_zL]; exact hr i hi
    · rintro e w' ⟨rfl, hw⟩
      exact ⟨by rw [hG], hw⟩

/-- Bytes as naturals. -/
def natL (f : Nat → Int) (n : Nat) : List Nat := (listF f n).map Int.toNat
theorem natL_len (f : Nat → Int) (n : Nat) : (natL f n).length = n := by simp [natL, listF_len]
theorem zL_natL {f : Nat → Int} (hf : Bytes255 f) (n : Nat) : zL (natL f n) = listF f n := by
  unfold zL natL
  rw [List.map_map]
  conv => rhs; rw [← List.map_id (listF f n)]
  refine List.map_congr_left fun b hb => ?_
  have := (Bs.listF hf n) b hb
  simp only [Function.comp, id]; omega
theorem Bn.natL {f : Nat → Int} (hf : Bytes255 f) (n : Nat) : Bn (natL f n) := by
  intro v hv
  obtain ⟨b, hb, rfl⟩ := List.mem_map.mp hv
  have := (Bs.listF hf n) b hb
  omega
theorem Bs.zL {bs : List Nat} (h : Bn bs) : Bs (zL bs) := by
  intro b hb
  obtain ⟨v, hv, rfl⟩ := List.mem_map.mp hb
  have := h v hv
  omega
theorem noRows_bn : ∀ r ∈ noRows, Bn r := by
  have h : ∀ r ∈ noRows, ∀ v ∈ r, v ≤ 255 := by decide +kernel
  exact h
theorem noRows_len : ∀ r ∈ noRows, r.length ≤ 3 ∧ r ≠ [] := by decide +kernel

set_option maxRecDepth 100000 in
set_option maxHeartbeats 4000000 in
theorem none_any (which : Int) (A : Option Addr) (m cap : Nat) (f : Nat → Int) (w : World) (hm : m ≤ cap) (hc : cap ≤ 9223372036854775807) (hf : Bytes255 f) (hs : SlB w A m f) :
    Calls Try.prog 4 #[.int .i64 which, .slice A m cap] w fun e w' => e = .returned (.bool true) ∧ Below w.heap.size w w' := by
  have HAW := Lib.hid awake15_any
  by_cases hm20 : 20 < m
  · have d20 : decide ((m : Int) > 20) = true := decide_eq_true (by omega)
    go_enter Try.func4, Try.ntmps4
    go_wp2_with (first | refine (HAW.out _).mono ?_ | fail)
    rintro e w9 ⟨rfl, hw9⟩
    have HB9 := Lib.hid hw9
    clear hw9
    go_wp2
    go_ret
    exact ⟨rfl, HB9.out⟩
  have d20 : decide ((m : Int) > 20) = false := decide_eq_false (by omega)
  obtain ⟨P, hP, h0⟩ : ∃ P : Nat, P < 256 ∧ bits .and .i64 which 255 = (P : Int) := ⟨(which % 256).toNat, by omega, by rw [and_ff]; omega⟩
  have HM := Lib.hid hm20
  clear hm20
  go_enter Try.func4, Try.ntmps4
  go_upto_region 4 with (fail)
  go_cut [6] from 14 to 44 (fun v wx => ∃ B r, r ∈ noRows ∧ v = .slice (some ⟨B, 0, none⟩) r.length r.length ∧ SlB wx (some ⟨B, 0, none⟩) r.length (bF r) ∧ Below w.heap.size w wx)
  case first =>
    have hpp : Int.tmod (P : Int) 22 = ((P % 22 : Nat) : Int) := rfl
    have hlt : P % 22 < 22 := Nat.mod_lt _ (by decide)
    generalize P % 22 = q at *
    rcases (by omega : q = 0 ∨ q = 1 ∨ q = 2 ∨ q = 3 ∨ q = 4 ∨ q = 5 ∨ q = 6 ∨ q = 7 ∨ q = 8 ∨ q = 9 ∨ q = 10 ∨ q = 11 ∨ q = 12 ∨ q = 13 ∨ q = 14 ∨ q = 15 ∨ q = 16 ∨ q = 17 ∨ q = 18 ∨ q = 19 ∨ q = 20 ∨ q = 21) with rfl | rfl | rfl | rfl | rfl | rfl | rfl | rfl | rfl | rfl | rfl | rfl | rfl | rfl | rfl | rfl | rfl | rfl | rfl | rfl | rfl | rfl
    · go_wp2_with fail
      go_meet
      refine ⟨_, [15], by decide +kernel, rfl, .inr ⟨_, 0, rfl, by first | (simp; omega) | simp, fun i hi => ?_⟩, by go_grown⟩
      rcases (by simp at hi; omega : i = 0) with rfl <;> simp [go_sem, bF]
    · go_wp2_with fail
      go_meet
      refine ⟨_, [64], by decide +kernel, rfl, .inr ⟨_, 0, rfl, by first | (simp; omega) | simp, fun i hi => ?_⟩, by go_grown⟩
      rcases (by simp at hi; omega : i = 0) with rfl <;> simp [go_sem, bF]
    · go_wp2_with fail
      go_meet
      refine ⟨_, [65, 144], by decide +kernel, rfl, .inr ⟨_, 0, rfl, by first | (simp; omega) | simp, fun i hi => ?_⟩, by go_grown⟩
      rcases (by simp at hi; omega : i = 0 ∨ i = 1) with rfl | rfl <;> simp [go_sem, bF]
    · go_wp2_with fail
      go_meet
      refine ⟨_, [65, 195], by decide +kernel, rfl, .inr ⟨_, 0, rfl, by first | (simp; omega) | simp, fun i hi => ?_⟩, by go_grown⟩
      rcases (by simp at hi; omega : i = 0 ∨ i = 1) with rfl | rfl <;> simp [go_sem, bF]
    · go_wp2_with fail
      go_meet
      refine ⟨_, [74], by decide +kernel, rfl, .inr ⟨_, 0, rfl, by first | (simp; omega) | simp, fun i hi => ?_⟩, by go_grown⟩
      rcases (by simp at hi; omega : i = 0) with rfl <;> simp [go_sem, bF]
    · go_wp2_with fail
      go_meet
      refine ⟨_, [79], by decide +kernel, rfl, .inr ⟨_, 0, rfl, by first | (simp; omega) | simp, fun i hi => ?_⟩, by go_grown⟩
      rcases (by simp at hi; omega : i = 0) with rfl <;> simp [go_sem, bF]
    · go_wp2_with fail
      go_meet
      refine ⟨_, [112], by decide +kernel, rfl, .inr ⟨_, 0, rfl, by first | (simp; omega) | simp, fun i hi => ?_⟩, by go_grown⟩
      rcases (by simp at hi; omega : i = 0) with rfl <;> simp [go_sem, bF]
    · go_wp2_with fail
      go_meet
      refine ⟨_, [127], by decide +kernel, rfl, .inr ⟨_, 0, rfl, by first | (simp; omega) | simp, fun i hi => ?_⟩, by go_grown⟩
      rcases (by simp at hi; omega : i = 0) with rfl <;> simp [go_sem, bF]
    · go_wp2_with fail
      go_meet
      refine ⟨_, [72, 144], by decide +kernel, rfl, .inr ⟨_, 0, rfl, by first | (simp; omega) | simp, fun i hi => ?_⟩, by go_grown⟩
      rcases (by simp at hi; omega : i = 0 ∨ i = 1) with rfl | rfl <;> simp [go_sem, bF]
    · go_wp2_with fail
      go_meet
      refine ⟨_, [76, 184], by decide +kernel, rfl, .inr ⟨_, 0, rfl, by first | (simp; omega) | simp, fun i hi => ?_⟩, by go_grown⟩
      rcases (by simp at hi; omega : i = 0 ∨ i = 1) with rfl | rfl <;> simp [go_sem, bF]
    · go_wp2_with fail
      go_meet
      refine ⟨_, [72, 137, 0], by decide +kernel, rfl, .inr ⟨_, 0, rfl, by first | (simp; omega) | simp, fun i hi => ?_⟩, by go_grown⟩
      rcases (by simp at hi; omega : i = 0 ∨ i = 1 ∨ i = 2) with rfl | rfl | rfl <;> simp [go_sem, bF]
    · go_wp2_with fail
      go_meet
      refine ⟨_, [72, 139, 192], by decide +kernel, rfl, .inr ⟨_, 0, rfl, by first | (simp; omega) | simp, fun i hi => ?_⟩, by go_grown⟩
      rcases (by simp at hi; omega : i = 0 ∨ i = 1 ∨ i = 2) with rfl | rfl | rfl <;> simp [go_sem, bF]
    · go_wp2_with fail
      go_meet
      refine ⟨_, [72, 139, 132], by decide +kernel, rfl, .inr ⟨_, 0, rfl, by first | (simp; omega) | simp, fun i hi => ?_⟩, by go_grown⟩
      rcases (by simp at hi; omega : i = 0 ∨ i = 1 ∨ i = 2) with rfl | rfl | rfl <;> simp [go_sem, bF]
    · go_wp2_with fail
      go_meet
      refine ⟨_, [73, 139, 5], by decide +kernel, rfl, .inr ⟨_, 0, rfl, by first | (simp; omega) | simp, fun i hi => ?_⟩, by go_grown⟩
      rcases (by simp at hi; omega : i = 0 ∨ i = 1 ∨ i = 2) with rfl | rfl | rfl <;> simp [go_sem, bF]
    · go_wp2_with fail
      go_meet
      refine ⟨_, [76, 131], by decide +kernel, rfl, .inr ⟨_, 0, rfl, by first | (simp; omega) | simp, fun i hi => ?_⟩, by go_grown⟩
      rcases (by simp at hi; omega : i = 0 ∨ i = 1) with rfl | rfl <;> simp [go_sem, bF]
    · go_wp2_with fail
      go_meet
      refine ⟨_, [72, 131, 200], by decide +kernel, rfl, .inr ⟨_, 0, rfl, by first | (simp; omega) | simp, fun i hi => ?_⟩, by go_grown⟩
      rcases (by simp at hi; omega : i = 0 ∨ i = 1 ∨ i = 2) with rfl | rfl | rfl <;> simp [go_sem, bF]
    · go_wp2_with fail
      go_meet
      refine ⟨_, [72, 255, 208], by decide +kernel, rfl, .inr ⟨_, 0, rfl, by first | (simp; omega) | simp, fun i hi => ?_⟩, by go_grown⟩
      rcases (by simp at hi; omega : i = 0 ∨ i = 1 ∨ i = 2) with rfl | rfl | rfl <;> simp [go_sem, bF]
    · go_wp2_with fail
      go_meet
      refine ⟨_, [72, 193, 248], by decide +kernel, rfl, .inr ⟨_, 0, rfl, by first | (simp; omega) | simp, fun i hi => ?_⟩, by go_grown⟩
      rcases (by simp at hi; omega : i = 0 ∨ i = 1 ∨ i = 2) with rfl | rfl | rfl <;> simp [go_sem, bF]
    · go_wp2_with fail
      go_meet
      refine ⟨_, [255, 208], by decide +kernel, rfl, .inr ⟨_, 0, rfl, by first | (simp; omega) | simp, fun i hi => ?_⟩, by go_grown⟩
      rcases (by simp at hi; omega : i = 0 ∨ i = 1) with rfl | rfl <;> simp [go_sem, bF]
    · go_wp2_with fail
      go_meet
      refine ⟨_, [72, 141, 128], by decide +kernel, rfl, .inr ⟨_, 0, rfl, by first | (simp; omega) | simp, fun i hi => ?_⟩, by go_grown⟩
      rcases (by simp at hi; omega : i = 0 ∨ i = 1 ∨ i = 2) with rfl | rfl | rfl <;> simp [go_sem, bF]
    · go_wp2_with fail
      go_meet
      refine ⟨_, [204], by decide +kernel, rfl, .inr ⟨_, 0, rfl, by first | (simp; omega) | simp, fun i hi => ?_⟩, by go_grown⟩
      rcases (by simp at hi; omega : i = 0) with rfl <;> simp [go_sem, bF]
    · go_wp2_with fail
      go_meet
      refine ⟨_, [72, 1, 5], by decide +kernel, rfl, .inr ⟨_, 0, rfl, by first | (simp; omega) | simp, fun i hi => ?_⟩, by go_grown⟩
      rcases (by simp at hi; omega : i = 0 ∨ i = 1 ∨ i = 2) with rfl | rfl | rfl <;> simp [go_sem, bF]
  case rest =>
    obtain ⟨B, r, hr, rfl, hsr, hbel⟩ := hcut
    have HB := Lib.hid hbel
    have HR := Lib.hid hr
    obtain ⟨hr3, hrne⟩ := noRows_len r hr
    have HBN := Lib.hid (noRows_bn r hr)
    have HSM := Lib.hid (show SlB wc A m f from by
      rcases hs with h | ⟨g, off, e, hg, hrw⟩
      · exact .inl h
      · exact .inr ⟨g, off, e, by have := hbel.size; omega, hrw.below hbel hg⟩)
    obtain ⟨cs, hcs⟩ : ∃ cs, zL r = cs := ⟨_, rfl⟩
    obtain ⟨ms, hms⟩ : ∃ ms, listF f m = ms := ⟨_, rfl⟩
    have hcsn : r.length = cs.length := by rw [← hcs, zL_len]
    have hmn : m = ms.length := by rw [← hms, listF_len]
    subst hmn
    have hcl : cs.length ≤ 3 := by omega
    have hb1 : Below wc.heap.size wc (wc.alloc (.cells #[] 5)) := (Below.refl _ _).alloc (Nat.le_refl _) _
    have HS1 := Lib.hid (show Src Try.prog 1 26 (.slice (some ⟨B, 0, none⟩) cs.length cs.length) cs.length (bytesL cs.length (litF cs)) (wc.alloc (.cells #[] 5)) from by
      refine src_bl (f := bF r) ?_ rfl (fun i _ => by rw [← hcs]; exact (litF_zL r i).symm)
      rw [← hcsn]
      exact hsr.below hb1)
    have HO := Lib.hid (OwnBL.made0 wc wc.heap.size (Nat.le_refl _))
    rw [hcsn]
    have HB1 := Lib.hid hb1
    have HCS := Lib.hid hcs
    have HMS := Lib.hid hms
    have HCN := Lib.hid hcsn
    have HCL := Lib.hid hcl
    have HNE := Lib.hid hrne
    have HM' := Lib.hid (show ms.length ≤ 20 by have := HM.out; omega)
    have HFB := Lib.hid hf
    clear hs hr hr3 hrne hcs hcsn hcl hsr hbel hm hc hms hb1 hf
    go_wp2_with (first
      | (at_builtin; refine wpList_appBL rfl (.tmp 46) (.tmp 47) 26 rfl wc.heap.size _ _ rfl HO.out _ rfl cs HS1.out (by have := HCL.out; simp; omega) (by simp) ?_; intro A3 cap3 w3 hown3 hg3 hat3; simp only [List.length_nil, Nat.zero_add, List.nil_append] at hown3 ⊢; have HO3 := Lib.hid hown3; have HB3 := Lib.hid (HO.out.grew HB1.out (Nat.le_refl _) (by simp) hg3); have HS3 := Lib.hid (src_bl (c := cap) (cs := ms) (HSM.out.below HB3.out) rfl (fun i hi => by rw [← HMS.out]; exact (litF_listF hi).symm)); clear hown3 hg3 hat3)
      | (at_builtin; refine wpList_appBL rfl (.tmp 48) (.tmp 49) 26 rfl wc.heap.size _ _ rfl HO3.out _ rfl ms HS3.out (by have := HCL.out; have := HM'.out; omega) HB3.out.size ?_; intro A5 cap5 w5 hown5 hg5 hat5)
      | fail)
    have HO5 := Lib.hid hown5
    obtain ⟨q1, q2, q3, _, _⟩ := hown5.slice
    refine (dec_own w5 wc.heap.size _ cap5 A5 (r ++ natL f ms.length) (by rw [zL_app, zL_natL HFB.out, HCS.out, HMS.out]; exact HO5.out) (by rw [List.length_append, natL_len, HCN.out]) (by simp [HNE.out]) (fun v hv => (List.mem_append.mp hv).elim (HBN.out v) (Bn.natL HFB.out _ v)) q2 q3 ⟨⟨0, 0, 0, 0, 0, 0, 0⟩, 0, 16⟩ (none_back r HR.out _)).mono ?_
    rintro e w7 ⟨rfl, hw7⟩
    have HB5 := Lib.hid (HO3.out.grew HB3.out (Nat.le_refl _) HB3.out.size hg5)
    have HB7 := Lib.hid (HB.out.trans ((HB5.out.trans (hw7.mono HB5.out.size)).mono HB.out.size))
    clear hown5 hg5 hat5 q1 q2 q3 hw7
    unfold insV
    go_upto_region 6 with (fail)
    have HI1 := Lib.hid (show Own (w7.alloc (.cells #[.int .i64 0, .int .i64 0, .int .i64 0, .int .i64 0, .int .i64 0, .int .u64 0, .int .i64 0] 24)) w7.heap.size 7 (insF ⟨0, 0, 0, 0, 0, 0, 0⟩) from ins_alloc w7 ⟨0, 0, 0, 0, 0, 0, 0⟩ 24)
    have HB8 := Lib.hid (HB7.out.alloc HB7.out.size (.cells #[.int .i64 0, .int .i64 0, .int .i64 0, .int .i64 0, .int .i64 0, .int .u64 0, .int .i64 0] 24))
    generalize w7.alloc (.cells #[.int .i64 0, .int .i64 0, .int .i64 0, .int .i64 0, .int .i64 0, .int .u64 0, .int .i64 0] 24) = w8 at *
    generalize w7.heap.size = b1 at *
    obtain ⟨k0, k1, k2, k3, k4, k5, k6⟩ := res_cells HI1.out
    simp only at k0 k1 k2 k3 k4 k5 k6
    go_wp2_with (first | refine (HAW.out _).mono ?_ | fail)
    rintro e w9 ⟨rfl, hw9⟩
    have HB9 := Lib.hid (HB8.out.trans (hw9.mono HB8.out.size))
    clear hw9
    go_wp2
    go_ret
    exact ⟨rfl, HB9.out⟩
end Go.Proofs.Ytimjpdheaecajaa
