/- law 18: two names that are not one. -/
import Derived.Test.YtclbbekdkljepaaTableNames
namespace Go.Proofs.Ytclbbekdkljepaa
open Go.ChangeShapes Go.WideShapes Go.ChangeAt Go.RowKit
set_option linter.unusedVariables false

set_option maxRecDepth 100000 in
set_option maxHeartbeats 4000000 in
theorem names_diff (a b K M : ByteArray) (w : World) (ha : a.size ≤ 60) (hb : b.size ≤ 60) (ka : KeyOf a K) (kb : KeyOf b M) (hKM : K ≠ M) (kk : KeyOf K K) (hK : K.size ≤ 2000) :
    Calls Try.prog 4 #[.string a, .string b] w fun e w' => e = .returned (.bool true) ∧ Below w.heap.size w w' := by
  have hA : a.size ≤ 140737488355328 := by omega
  have hB : b.size ≤ 140737488355328 := by omega
  have hK' : K.size ≤ 140737488355328 := by omega
  have HRA := Lib.hid (fun W => refKey_any a K W hA ka)
  have HRB := Lib.hid (fun W => refKey_any b M W hB kb)
  have d1 : ¬ (60 : Int) < a.size := by omega
  have d2 : ¬ (60 : Int) < b.size := by omega
  have e0 : (K.toList == M.toList) = false := by
    rw [beq_eq_false_iff_ne]
    intro e
    exact hKM (toList_inj' e)
  have HKM := Lib.hid hKM
  have HKA := Lib.hid ka
  have HKB := Lib.hid kb
  have HKK := Lib.hid kk
  clear ka kb kk ha hb hKM
  go_enter Try.func4, Try.ntmps4
  go_wp2_with fail
  go_fit (tabNew w)
  rintro e w1 ⟨rfl, h1, hb1⟩
  have H1 := Lib.hid h1
  have HB1 := Lib.hid hb1
  clear h1 hb1
  go_wp2_with (first
    | (refine wpList_built rfl 46 #[] rfl [] peZ rfl built_peZ ?_)
    | (go_fit (add_new w1 _ _ _ _ _ _ _ a K H1.out hA HKA.out rfl (by simp) (by omega) (by omega))))
  rintro e w2 ⟨rfl, sv2, p, h2, hb2⟩
  have h2' : TabAt w2 w.heap.size w.heap.size 1 [mdN 1 K p] [] sv2 (.slice none 0 0) := h2
  have H2 := Lib.hid h2'
  have HB2 := Lib.hid (HB1.out.trans hb2)
  have hkey : keyL [mdN 1 K p] K = some (mdN 1 K p) := keyL_at 0 (by simp) rfl (fun j hj => by omega)
  have HKEY := Lib.hid hkey
  clear h2 h2' hb2 H1 HB1 hkey
  have HAB := Lib.hid (add_new w2 _ _ _ _ _ _ _ b M H2.out hB HKB.out (keyL_none fun j hj => by have e : j = 0 := (by simpa using hj); subst e; exact HKM.out) (by simp) (by omega) (by omega))
  go_upto_region 8 with (first
    | (refine wpList_built rfl 46 #[] rfl [] peZ rfl built_peZ ?_)
    | (go_fit HAB.out; rintro e w3 ⟨rfl, hx⟩; have HX := Lib.hid hx; clear hx))
  obtain ⟨sv3, p3, h3, hb3⟩ := HX.out
  have h3' : TabAt w3 w.heap.size w.heap.size 2 [mdN 1 K p, mdN 2 M p3] [] sv3 (.slice none 0 0) := h3
  have H3 := Lib.hid h3'
  have HB3 := Lib.hid (HB2.out.trans hb3)
  have hkey3 : keyL [mdN 1 K p, mdN 2 M p3] K = some (mdN 1 K p) := keyL_at 0 (by simp) rfl (fun j hj => by omega)
  have HKEY3 := Lib.hid hkey3
  clear h3 h3' hb3 HX HAB H2 HB2 hkey3
  go_upto_region 9 with (first
    | (go_fit (HRA.out _); rintro e w4 ⟨rfl, hb4⟩; have HB4 := Lib.hid hb4; clear hb4)
    | (go_fit (HRB.out _); rintro e w5 ⟨rfl, hb5⟩; have HB5 := Lib.hid hb5; clear hb5))
  have H5 := Lib.hid ((H3.out.below HB4.out).below HB5.out)
  have HW5 := Lib.hid (HB3.out.trans (HB4.out.mono HB3.out.size) |>.trans (HB5.out.mono (HB3.out.trans (HB4.out.mono HB3.out.size)).size))
  clear H3 HB3 HB4 HB5
  have HF := Lib.hid (fun W (h : TabAt W w.heap.size w.heap.size 2 [mdN 1 K p, mdN 2 M p3] [] sv3 (.slice none 0 0)) => find_any' W _ _ _ _ _ _ _ K K h hK' HKK.out)
  rw [findV_some HKEY3.out, show (mdN 1 K p).id = 1 from rfl] at HF
  go_upto_region 12 with (first
    | (go_fit (HRA.out _); rintro e w6 ⟨rfl, hb6⟩; have HB6 := Lib.hid hb6; have H6 := Lib.hid (H5.out.below hb6); clear hb6)
    | (go_fit (HF.out _ H6.out); rintro e w7 ⟨rfl, hb7⟩; have HB7 := Lib.hid hb7; clear hb7))
  have H7 := Lib.hid (H6.out.below HB7.out)
  have HW7 := Lib.hid (HW5.out.trans (HB6.out.mono HW5.out.size) |>.trans (HB7.out.mono (HW5.out.trans (HB6.out.mono HW5.out.size)).size))
  clear HF H6 HB6 HB7 H5 HW5
  have HDR := Lib.hid (drop_yes w7 _ _ _ _ _ _ _ 1 0 (by simp) rfl H7.out (by simp) List.nodup_nil (ofL_at 0 (by simp) rfl (fun j hj => by omega)) (fun j hj hn => by have e : j = 1 := (by simp at hj; omega); subst e; show (2 : Int) ≠ 1; omega))
  go_upto_region 13 with (go_fit HDR.out; rintro e w8 ⟨rfl, hx⟩; have HX := Lib.hid hx; clear hx)
  obtain ⟨sv8, av8, h8, hb8⟩ := HX.out
  have h8' : TabAt w8 w.heap.size w.heap.size 2 [mdN 2 M p3] [] sv8 av8 := h8
  have H8 := Lib.hid h8'
  have HW8 := Lib.hid (HW7.out.trans hb8)
  clear h8 h8' hb8 HX HDR H7 HW7
  have HF := Lib.hid (find_any' w8 _ _ _ _ _ _ _ a K H8.out hA HKA.out)
  have hno8 : keyL [mdN 2 M p3] K = none := keyL_none fun j hj => by have e : j = 0 := (by simpa using hj); subst e; exact fun e => HKM.out e.symm
  rw [findV_none hno8] at HF
  have HNO8 := Lib.hid hno8
  clear hno8
  go_upto_region 14 with (go_fit HF.out; rintro e w9 ⟨rfl, hb9⟩; have HB9 := Lib.hid hb9; clear hb9)
  have H9 := Lib.hid (H8.out.below HB9.out)
  have HW9 := Lib.hid (HW8.out.trans (HB9.out.mono HW8.out.size))
  clear HF H8 HW8 HB9
  have HAD := Lib.hid (add_new w9 _ _ _ _ _ _ _ a K H9.out hA HKA.out HNO8.out (by simp) (by omega) (by omega))
  go_upto_region 15 with (first
    | (refine wpList_built rfl 46 #[] rfl [] peZ rfl built_peZ ?_)
    | (go_fit HAD.out; rintro e w10 ⟨rfl, hx⟩; have HX := Lib.hid hx; clear hx))
  obtain ⟨sv10, p10, h10, hb10⟩ := HX.out
  have h10' : TabAt w10 w.heap.size w.heap.size 3 [mdN 2 M p3, mdN 3 K p10] [] sv10 av8 := h10
  have H10 := Lib.hid h10'
  have HW10 := Lib.hid (HW9.out.trans hb10)
  clear h10 h10' hb10 HX HAD H9 HW9 HKEY HRA HRB HKA HKB HKK
  have HCT := Lib.hid (fun W (h : Below w10.heap.size w10 W) => count_any W _ _ _ _ _ _ _ (H10.out.below h))
  have hmm := @run_makeMap Try.prog
  have HS := Lib.hid ((Below.refl w10.heap.size w10).drew)
  refine wp_region_noPanic ?_
  refine wp_region_K (fun W => Below w10.heap.size w10 W) (fun _ => True) 99 (by kernel_rfl) ?_
  refine wpAnyK_take (i := 0) (oi := ?_) (v := ?_) ?_ (by kernel_rfl) (by kernel_rfl) (by kernel_rfl) (fun _ _ _ h => h) (by decide) ?_ HS.out (fun _ => trivial) ?_
  rotate_left 2
  · (simp only [List.getElem?_toArray, List.getElem?_cons_succ, List.getElem?_cons_zero]; rfl)
  · (refine Or.inl ⟨by rfl, ?_⟩; intro w hSw; clear hSw; go_simp; try with_reducible rfl)
  try simp only [Act.put, List.setIfInBounds_toArray, List.set_cons_zero, List.set_cons_succ]
  refine wpAnyK_take (i := 1) (oi := ?_) (v := ?_) ?_ (by kernel_rfl) (by kernel_rfl) (by kernel_rfl) (fun _ _ _ h => h) (by decide) ?_ HS.out (fun _ => trivial) ?_
  rotate_left 2
  · (simp only [List.getElem?_toArray, List.getElem?_cons_succ, List.getElem?_cons_zero]; rfl)
  · (refine Or.inl ⟨by rfl, ?_⟩; intro w hSw; clear hSw; go_simp; try with_reducible rfl)
  try simp only [Act.put, List.setIfInBounds_toArray, List.set_cons_zero, List.set_cons_succ]
  refine wpAnyK_take (i := 2) (oi := ?_) (v := ?_) ?_ (by kernel_rfl) (by kernel_rfl) (by kernel_rfl) (fun _ _ _ h => h) (by decide) ?_ HS.out (fun _ => trivial) ?_
  rotate_left 2
  · (simp only [List.getElem?_toArray, List.getElem?_cons_succ, List.getElem?_cons_zero]; rfl)
  · (refine Or.inl ⟨by rfl, ?_⟩; intro w hSw; clear hSw; go_simp; try with_reducible rfl)
  try simp only [Act.put, List.setIfInBounds_toArray, List.set_cons_zero, List.set_cons_succ]
  refine wpAnyK_take (i := 3) (oi := ?_) (v := ?_) ?_ (by kernel_rfl) (by kernel_rfl) (by kernel_rfl) (fun _ _ _ h => h) (by decide) ?_ HS.out (fun _ => trivial) ?_
  rotate_left 2
  · (simp only [List.getElem?_toArray, List.getElem?_cons_succ, List.getElem?_cons_zero]; rfl)
  · (refine Or.inl ⟨by rfl, ?_⟩; intro w hSw; clear hSw; go_simp; try with_reducible rfl)
  try simp only [Act.put, List.setIfInBounds_toArray, List.set_cons_zero, List.set_cons_succ]
  refine wpAnyK_take (i := 4) (oi := ?_) (v := ?_) ?_ (by kernel_rfl) (by kernel_rfl) (by kernel_rfl) (fun _ _ _ h => h) (by decide) ?_ HS.out (fun _ => trivial) ?_
  rotate_left 2
  · (simp only [List.getElem?_toArray, List.getElem?_cons_succ, List.getElem?_cons_zero]; rfl)
  · (refine Or.inl ⟨by rfl, ?_⟩; intro w hSw; clear hSw; go_simp; try with_reducible rfl)
  try simp only [Act.put, List.setIfInBounds_toArray, List.set_cons_zero, List.set_cons_succ]
  refine wpAnyK_take (i := 5) (oi := ?_) (v := ?_) ?_ (by kernel_rfl) (by kernel_rfl) (by kernel_rfl) (fun _ _ _ h => h) (by decide) ?_ HS.out (fun _ => trivial) ?_
  rotate_left 2
  · (simp only [List.getElem?_toArray, List.getElem?_cons_succ, List.getElem?_cons_zero]; rfl)
  · (refine Or.inl ⟨by rfl, ?_⟩; intro w hSw; clear hSw; go_simp; try with_reducible rfl)
  try simp only [Act.put, List.setIfInBounds_toArray, List.set_cons_zero, List.set_cons_succ]
  refine wpAnyK_take (i := 6) (oi := ?_) (v := ?_) ?_ (by kernel_rfl) (by kernel_rfl) (by kernel_rfl) (fun _ _ _ h => h) (by decide) ?_ HS.out (fun _ => trivial) ?_
  rotate_left 2
  · (simp only [List.getElem?_toArray, List.getElem?_cons_succ, List.getElem?_cons_zero]; rfl)
  · (refine Or.inl ⟨by rfl, ?_⟩; intro w hSw; clear hSw; go_simp; try with_reducible rfl)
  try simp only [Act.put, List.setIfInBounds_toArray, List.set_cons_zero, List.set_cons_succ]
  refine wpAnyK_take (i := 7) (oi := ?_) (v := ?_) ?_ (by kernel_rfl) (by kernel_rfl) (by kernel_rfl) (fun _ _ _ h => h) (by decide) ?_ HS.out (fun _ => trivial) ?_
  rotate_left 2
  · (simp only [List.getElem?_toArray, List.getElem?_cons_succ, List.getElem?_cons_zero]; rfl)
  · (refine Or.inl ⟨by rfl, ?_⟩; intro w hSw; clear hSw; go_simp; try with_reducible rfl)
  try simp only [Act.put, List.setIfInBounds_toArray, List.set_cons_zero, List.set_cons_succ]
  refine wpAnyK_take (i := 8) (oi := ?_) (v := ?_) ?_ (by kernel_rfl) (by kernel_rfl) (by kernel_rfl) (fun _ _ _ h => h) (by decide) ?_ HS.out (fun _ => trivial) ?_
  rotate_left 2
  · (simp only [List.getElem?_toArray, List.getElem?_cons_succ, List.getElem?_cons_zero]; rfl)
  · (refine Or.inl ⟨by rfl, ?_⟩; intro w hSw; clear hSw; go_simp; try with_reducible rfl)
  try simp only [Act.put, List.setIfInBounds_toArray, List.set_cons_zero, List.set_cons_succ]
  refine wpAnyK_take (i := 9) (oi := ?_) (v := ?_) ?_ (by kernel_rfl) (by kernel_rfl) (by kernel_rfl) (fun _ _ _ h => h) (by decide) ?_ HS.out (fun _ => trivial) ?_
  rotate_left 2
  · (simp only [List.getElem?_toArray, List.getElem?_cons_succ, List.getElem?_cons_zero]; rfl)
  · (refine Or.inl ⟨by rfl, ?_⟩; intro w hSw; clear hSw; go_simp; try with_reducible rfl)
  try simp only [Act.put, List.setIfInBounds_toArray, List.set_cons_zero, List.set_cons_succ]
  refine wpAnyK_take (i := 10) (oi := ?_) (v := ?_) ?_ (by kernel_rfl) (by kernel_rfl) (by kernel_rfl) (fun _ _ _ h => h) (by decide) ?_ HS.out (fun _ => trivial) ?_
  rotate_left 2
  · (simp only [List.getElem?_toArray, List.getElem?_cons_succ, List.getElem?_cons_zero]; rfl)
  · (refine Or.inl ⟨by rfl, ?_⟩; intro w hSw; clear hSw; go_simp; try with_reducible rfl)
  try simp only [Act.put, List.setIfInBounds_toArray, List.set_cons_zero, List.set_cons_succ]
  refine wpAnyK_take (i := 11) (oi := ?_) (v := ?_) ?_ (by kernel_rfl) (by kernel_rfl) (by kernel_rfl) (fun _ _ _ h => h) (by decide) ?_ HS.out (fun _ => trivial) ?_
  rotate_left 2
  · (simp only [List.getElem?_toArray, List.getElem?_cons_succ, List.getElem?_cons_zero]; rfl)
  · (refine Or.inl ⟨by rfl, ?_⟩; intro w hSw; clear hSw; go_simp; try with_reducible rfl)
  try simp only [Act.put, List.setIfInBounds_toArray, List.set_cons_zero, List.set_cons_succ]
  refine wpAnyK_take (i := 12) (oi := ?_) (v := ?_) ?_ (by kernel_rfl) (by kernel_rfl) (by kernel_rfl) (fun _ _ _ h => h) (by decide) ?_ HS.out (fun _ => trivial) ?_
  rotate_left 2
  · (simp only [List.getElem?_toArray, List.getElem?_cons_succ, List.getElem?_cons_zero]; rfl)
  · (refine Or.inl ⟨by rfl, ?_⟩; intro w hSw; clear hSw; go_simp; try with_reducible rfl)
  try simp only [Act.put, List.setIfInBounds_toArray, List.set_cons_zero, List.set_cons_succ]
  refine wpAnyK_take (i := 13) (oi := ?_) (v := ?_) ?_ (by kernel_rfl) (by kernel_rfl) (by kernel_rfl) (fun _ _ _ h => h) (by decide) ?_ HS.out (fun _ => trivial) ?_
  rotate_left 2
  · (simp only [List.getElem?_toArray, List.getElem?_cons_succ, List.getElem?_cons_zero]; rfl)
  · (refine Or.inl ⟨by rfl, ?_⟩; intro w hSw; clear hSw; go_simp; try with_reducible rfl)
  try simp only [Act.put, List.setIfInBounds_toArray, List.set_cons_zero, List.set_cons_succ]
  refine wpAnyK_take (i := 14) (oi := ?_) (v := ?_) ?_ (by kernel_rfl) (by kernel_rfl) (by kernel_rfl) (fun _ _ _ h => h) (by decide) ?_ HS.out (fun _ => trivial) ?_
  rotate_left 2
  · (simp only [List.getElem?_toArray, List.getElem?_cons_succ, List.getElem?_cons_zero]; rfl)
  · (refine Or.inl ⟨by rfl, ?_⟩; intro w hSw; clear hSw; go_simp; try with_reducible rfl)
  try simp only [Act.put, List.setIfInBounds_toArray, List.set_cons_zero, List.set_cons_succ]
  refine wpAnyK_take (i := 15) (oi := ?_) (v := ?_) ?_ (by kernel_rfl) (by kernel_rfl) (by kernel_rfl) (fun _ _ _ h => h) (by decide) ?_ HS.out (fun _ => trivial) ?_
  rotate_left 2
  · (simp only [List.getElem?_toArray, List.getElem?_cons_succ, List.getElem?_cons_zero]; rfl)
  · (refine Or.inl ⟨by rfl, ?_⟩; intro w hSw; clear hSw; go_simp; try with_reducible rfl)
  try simp only [Act.put, List.setIfInBounds_toArray, List.set_cons_zero, List.set_cons_succ]
  refine wpAnyK_take (i := 16) (oi := ?_) (v := ?_) ?_ (by kernel_rfl) (by kernel_rfl) (by kernel_rfl) (fun _ _ _ h => h) (by decide) ?_ HS.out (fun _ => trivial) ?_
  rotate_left 2
  · (simp only [List.getElem?_toArray, List.getElem?_cons_succ, List.getElem?_cons_zero]; rfl)
  · (refine Or.inl ⟨by rfl, ?_⟩; intro w hSw; clear hSw; go_simp; try with_reducible rfl)
  try simp only [Act.put, List.setIfInBounds_toArray, List.set_cons_zero, List.set_cons_succ]
  refine wpAnyK_take (i := 17) (oi := ?_) (v := ?_) ?_ (by kernel_rfl) (by kernel_rfl) (by kernel_rfl) (fun _ _ _ h => h) (by decide) ?_ HS.out (fun _ => trivial) ?_
  rotate_left 2
  · (simp only [List.getElem?_toArray, List.getElem?_cons_succ, List.getElem?_cons_zero]; rfl)
  · (refine Or.inl ⟨by rfl, ?_⟩; intro w hSw; clear hSw; go_simp; try with_reducible rfl)
  try simp only [Act.put, List.setIfInBounds_toArray, List.set_cons_zero, List.set_cons_succ]
  refine wpAnyK_take (i := 18) (oi := ?_) (v := ?_) ?_ (by kernel_rfl) (by kernel_rfl) (by kernel_rfl) (fun _ _ _ h => h) (by decide) ?_ HS.out (fun _ => trivial) ?_
  rotate_left 2
  · (simp only [List.getElem?_toArray, List.getElem?_cons_succ, List.getElem?_cons_zero]; rfl)
  · (refine Or.inl ⟨by rfl, ?_⟩; intro w hSw; clear hSw; go_simp; try with_reducible rfl)
  try simp only [Act.put, List.setIfInBounds_toArray, List.set_cons_zero, List.set_cons_succ]
  refine wpAnyK_take (i := 19) (oi := ?_) (v := ?_) ?_ (by kernel_rfl) (by kernel_rfl) (by kernel_rfl) (fun _ _ _ h => h) (by decide) ?_ HS.out (fun _ => trivial) ?_
  rotate_left 2
  · (simp only [List.getElem?_toArray, List.getElem?_cons_succ, List.getElem?_cons_zero]; rfl)
  · (refine Or.inl ⟨by rfl, ?_⟩; intro w hSw; clear hSw; go_simp; try with_reducible rfl)
  try simp only [Act.put, List.setIfInBounds_toArray, List.set_cons_zero, List.set_cons_succ]
  refine wpAnyK_take (i := 20) (oi := ?_) (v := ?_) ?_ (by kernel_rfl) (by kernel_rfl) (by kernel_rfl) (fun _ _ _ h => h) (by decide) ?_ HS.out (fun _ => trivial) ?_
  rotate_left 2
  · (simp only [List.getElem?_toArray, List.getElem?_cons_succ, List.getElem?_cons_zero]; rfl)
  · (refine Or.inl ⟨by rfl, ?_⟩; intro w hSw; clear hSw; go_simp; try with_reducible rfl)
  try simp only [Act.put, List.setIfInBounds_toArray, List.set_cons_zero, List.set_cons_succ]
  refine wpAnyK_take (i := 21) (oi := ?_) (v := ?_) ?_ (by kernel_rfl) (by kernel_rfl) (by kernel_rfl) (fun _ _ _ h => h) (by decide) ?_ HS.out (fun _ => trivial) ?_
  rotate_left 2
  · (simp only [List.getElem?_toArray, List.getElem?_cons_succ, List.getElem?_cons_zero]; rfl)
  · (refine Or.inl ⟨by rfl, ?_⟩; intro w hSw; clear hSw; go_simp; try with_reducible rfl)
  try simp only [Act.put, List.setIfInBounds_toArray, List.set_cons_zero, List.set_cons_succ]
  refine wpAnyK_take (i := 22) (oi := ?_) (v := ?_) ?_ (by kernel_rfl) (by kernel_rfl) (by kernel_rfl) (fun _ _ _ h => h) (by decide) ?_ HS.out (fun _ => trivial) ?_
  rotate_left 2
  · (simp only [List.getElem?_toArray, List.getElem?_cons_succ, List.getElem?_cons_zero]; rfl)
  · (refine Or.inl ⟨by rfl, ?_⟩; intro w hSw; clear hSw; go_simp; try with_reducible rfl)
  try simp only [Act.put, List.setIfInBounds_toArray, List.set_cons_zero, List.set_cons_succ]
  refine wpAnyK_take (i := 23) (oi := ?_) (v := ?_) ?_ (by kernel_rfl) (by kernel_rfl) (by kernel_rfl) (fun _ _ _ h => h) (by decide) ?_ HS.out (fun _ => trivial) ?_
  rotate_left 2
  · (simp only [List.getElem?_toArray, List.getElem?_cons_succ, List.getElem?_cons_zero]; rfl)
  · (refine Or.inl ⟨by rfl, ?_⟩; intro w hSw; clear hSw; go_simp; try with_reducible rfl)
  try simp only [Act.put, List.setIfInBounds_toArray, List.set_cons_zero, List.set_cons_succ]
  refine wpAnyK_takeQ (i := 24) (oi := ?_) (v := .int .i64 2) ?_ (by kernel_rfl) (by kernel_rfl) (by kernel_rfl) (fun _ _ _ h => h) (by decide) ?_ HS.out (fun _ => trivial) ?_
  rotate_left 1
  · (simp only [List.getElem?_toArray, List.getElem?_cons_succ, List.getElem?_cons_zero]; rfl)
  · refine ⟨by rfl, fun W hW => ⟨14, #[.pointer (some ⟨w.heap.size, 0, none⟩)], ?_, HCT.out W hW⟩⟩
    first | kernel_rfl | (go_simp; done) | rfl
  try simp only [Act.put, List.setIfInBounds_toArray, List.set_cons_zero, List.set_cons_succ]
  refine wpAnyK_take (i := 29) (oi := ?_) (v := ?_) ?_ (by kernel_rfl) (by kernel_rfl) (by kernel_rfl) (fun _ _ _ h => h) (by decide) ?_ HS.out (fun _ => trivial) ?_
  rotate_left 2
  · (simp only [List.getElem?_toArray, List.getElem?_cons_succ, List.getElem?_cons_zero]; rfl)
  · (refine Or.inl ⟨by rfl, ?_⟩; intro w hSw; clear hSw; go_simp; try with_reducible rfl)
  try simp only [Act.put, List.setIfInBounds_toArray, List.set_cons_zero, List.set_cons_succ]
  refine wpAnyK_one (i := 25) (by kernel_rfl) rfl (fun K hK => ?_)
  go_simp
  have HS1 := Lib.hid (show Below w10.heap.size w10 (w10.alloc (.map #[] 0)).drew from ((Below.refl w10.heap.size w10).alloc (Nat.le_refl _) _).drew)
  refine hK.out _ _ HS1.out (fun _ => trivial) ?_
  clear hK K
  try simp only [Act.put, List.setIfInBounds_toArray, List.set_cons_zero, List.set_cons_succ]
  have HM := Lib.hid (heap_alloc_new w10 (.map #[] 0))
  refine wpAnyK_two (i := 26) (j := 27) (by kernel_rfl) rfl rfl (fun K hK => ?_) (fun K hK => ?_)
  · refine step_insert 59 (.tmp 118) (.const (.bool true)) (.const (.int .i64 1)) 4 3 .bool w10.heap.size 0 #[] (.bool true) (.int .i64 1) ?_ ?_ ?_ ?_ ?_ ?_ ?_ ?_ HM.out ?_ ?_
    · rfl
    · rfl
    · first | rfl | simp [Act.eval]
    · rfl
    · rfl
    · rfl
    · rfl
    · trivial
    · rfl
    refine hK.out _ _ (putMap_below _ _ HS1.out (Nat.le_refl _)) (fun _ => trivial) ?_
    clear hK K
    have HM2 := Lib.hid (putMap_block (w := (w10.alloc (.map #[] 0)).drew) #[{ key := .bool true, val := .int .i64 1, born := 0 }] 1 HM.out)
    have HS2 := Lib.hid (putMap_below #[{ key := .bool true, val := .int .i64 1, born := 0 }] 1 HS1.out (Nat.le_refl _))
    have hpush : (#[].push { key := .bool true, val := .int .i64 1, born := 0 } : Array MapEntry) = #[{ key := .bool true, val := .int .i64 1, born := 0 }] := rfl
    rw [hpush]
    clear hpush
    generalize putMap (w10.alloc (.map #[] 0)).drew w10.heap.size #[{ key := .bool true, val := .int .i64 1, born := 0 }] 1 = wb at *
    try simp only [Act.put, List.setIfInBounds_toArray, List.set_cons_zero, List.set_cons_succ]
    refine wpAnyK_one (i := 27) (by kernel_rfl) rfl (fun K hK => ?_)
    refine step_insert 59 (.tmp 118) (.const (.bool false)) (.const (.int .i64 2)) 4 3 .bool w10.heap.size 1 #[{ key := .bool true, val := .int .i64 1, born := 0 }] (.bool false) (.int .i64 2) ?_ ?_ ?_ ?_ ?_ ?_ ?_ ?_ HM2.out ?_ ?_
    · rfl
    · rfl
    · first | rfl | simp [Act.eval]
    · rfl
    · rfl
    · rfl
    · rfl
    · trivial
    · rfl
    refine hK.out _ _ (putMap_below _ _ HS2.out (Nat.le_refl _)) (fun _ => trivial) ?_
    clear hK K
    have HM3 := Lib.hid (putMap_block (w := wb) #[{ key := .bool true, val := .int .i64 1, born := 0 }, { key := .bool false, val := .int .i64 2, born := 1 }] 2 HM2.out)
    have HS3 := Lib.hid (putMap_below #[{ key := .bool true, val := .int .i64 1, born := 0 }, { key := .bool false, val := .int .i64 2, born := 1 }] 2 HS2.out (Nat.le_refl _))
    have hpush : (#[{ key := .bool true, val := .int .i64 1, born := 0 }].push { key := .bool false, val := .int .i64 2, born := 1 } : Array MapEntry) = #[{ key := .bool true, val := .int .i64 1, born := 0 }, { key := .bool false, val := .int .i64 2, born := 1 }] := rfl
    rw [hpush]
    clear hpush
    generalize putMap wb w10.heap.size #[{ key := .bool true, val := .int .i64 1, born := 0 }, { key := .bool false, val := .int .i64 2, born := 1 }] (1 + 1) = wd at *
    try simp only [Act.put, List.setIfInBounds_toArray, List.set_cons_zero, List.set_cons_succ]
    refine wpAnyK_take (i := 28) (oi := ?_) (v := ?_) ?_ (by kernel_rfl) (by kernel_rfl) (by kernel_rfl) (fun _ _ _ h => h) (by decide) ?_ HS3.out (fun _ => trivial) ?_
    rotate_left 2
    · (simp only [List.getElem?_toArray, List.getElem?_cons_succ, List.getElem?_cons_zero]; rfl)
    · (refine Or.inl ⟨by rfl, ?_⟩; intro w hSw; clear hSw; go_simp; try with_reducible rfl)
    try simp only [Act.put, List.setIfInBounds_toArray, List.set_cons_zero, List.set_cons_succ]
    refine wpAnyK_one (i := 30) (by kernel_rfl) rfl (fun K hK => ?_)
    refine step_lookMap 59 (.tmp 119) (.tmp 120) 4 3 .bool w10.heap.size 2 #[{ key := .bool true, val := .int .i64 1, born := 0 }, { key := .bool false, val := .int .i64 2, born := 1 }] (.bool false) (.int .i64 2) 1 ?_ ?_ ?_ ?_ ?_ ?_ ?_ HM3.out ?_ ?_
    · rfl
    · rfl
    · first | rfl | simp [Act.eval]
    · first | rfl | simp [Act.eval]
    · rfl
    · rfl
    · trivial
    · rfl
    refine hK.out _ _ HS3.out (fun _ => trivial) ?_
    clear hK K
    try simp only [Act.put, List.setIfInBounds_toArray, List.set_cons_zero, List.set_cons_succ]
    refine wpAnyK_take (i := 31) (oi := ?_) (v := ?_) ?_ (by kernel_rfl) (by kernel_rfl) (by kernel_rfl) (fun _ _ _ h => h) (by decide) ?_ HS3.out (fun _ => trivial) ?_
    rotate_left 2
    · (simp only [List.getElem?_toArray, List.getElem?_cons_succ, List.getElem?_cons_zero]; rfl)
    · (refine Or.inl ⟨by rfl, ?_⟩; intro w hSw; clear hSw; go_simp; try with_reducible rfl)
    try simp only [Act.put, List.setIfInBounds_toArray, List.set_cons_zero, List.set_cons_succ]
    refine wpAnyK_take (i := 32) (oi := ?_) (v := ?_) ?_ (by kernel_rfl) (by kernel_rfl) (by kernel_rfl) (fun _ _ _ h => h) (by decide) ?_ HS3.out (fun _ => trivial) ?_
    rotate_left 2
    · (simp only [List.getElem?_toArray, List.getElem?_cons_succ, List.getElem?_cons_zero]; rfl)
    · (refine Or.inl ⟨by rfl, ?_⟩; intro w hSw; clear hSw; go_simp; try with_reducible rfl)
    try simp only [Act.put, List.setIfInBounds_toArray, List.set_cons_zero, List.set_cons_succ]
    refine wpAnyK_take (i := 33) (oi := ?_) (v := ?_) ?_ (by kernel_rfl) (by kernel_rfl) (by kernel_rfl) (fun _ _ _ h => h) (by decide) ?_ HS3.out (fun _ => trivial) ?_
    rotate_left 2
    · (simp only [List.getElem?_toArray, List.getElem?_cons_succ, List.getElem?_cons_zero]; rfl)
    · (refine Or.inl ⟨by rfl, ?_⟩; intro w hSw; clear hSw; go_simp; try with_reducible rfl)
    try simp only [Act.put, List.setIfInBounds_toArray, List.set_cons_zero, List.set_cons_succ]
    refine wpAnyK_one (i := 34) (by kernel_rfl) rfl (fun K hK => ?_)
    go_simp
    refine (awake18_any _).mono ?_
    rintro e w12 ⟨rfl, hb12⟩
    have HS4 := Lib.hid (HS3.out.trans (hb12.mono HS3.out.size))
    refine hK.out _ _ HS4.out (fun _ => trivial) ?_
    clear hK K hb12
    try simp only [Act.put, List.setIfInBounds_toArray, List.set_cons_zero, List.set_cons_succ]
    refine wpAnyK_take (i := 35) (oi := ?_) (v := ?_) ?_ (by kernel_rfl) (by kernel_rfl) (by kernel_rfl) (fun _ _ _ h => h) (by decide) ?_ HS4.out (fun _ => trivial) ?_
    rotate_left 2
    · (simp only [List.getElem?_toArray, List.getElem?_cons_succ, List.getElem?_cons_zero]; rfl)
    · (refine Or.inl ⟨by rfl, ?_⟩; intro w hSw; clear hSw; go_simp; try with_reducible rfl)
    try simp only [Act.put, List.setIfInBounds_toArray, List.set_cons_zero, List.set_cons_succ]
    refine wpAnyK_take (i := 36) (oi := ?_) (v := ?_) ?_ (by kernel_rfl) (by kernel_rfl) (by kernel_rfl) (fun _ _ _ h => h) (by decide) ?_ HS4.out (fun _ => trivial) ?_
    rotate_left 2
    · (simp only [List.getElem?_toArray, List.getElem?_cons_succ, List.getElem?_cons_zero]; rfl)
    · (refine Or.inl ⟨by rfl, ?_⟩; intro w hSw; clear hSw; go_simp; try with_reducible rfl)
    try simp only [Act.put, List.setIfInBounds_toArray, List.set_cons_zero, List.set_cons_succ]
    refine wpAnyK_done (by kernel_rfl) ?_ _
    refine NoPanic.normal ?_
    go_wp2_with fail
    go_ret
    exact ⟨rfl, HW10.out.trans (HS4.out.mono HW10.out.size)⟩
  · refine step_insert 59 (.tmp 118) (.const (.bool false)) (.const (.int .i64 2)) 4 3 .bool w10.heap.size 0 #[] (.bool false) (.int .i64 2) ?_ ?_ ?_ ?_ ?_ ?_ ?_ ?_ HM.out ?_ ?_
    · rfl
    · rfl
    · first | rfl | simp [Act.eval]
    · rfl
    · rfl
    · rfl
    · rfl
    · trivial
    · rfl
    refine hK.out _ _ (putMap_below _ _ HS1.out (Nat.le_refl _)) (fun _ => trivial) ?_
    clear hK K
    have HM2 := Lib.hid (putMap_block (w := (w10.alloc (.map #[] 0)).drew) #[{ key := .bool false, val := .int .i64 2, born := 0 }] 1 HM.out)
    have HS2 := Lib.hid (putMap_below #[{ key := .bool false, val := .int .i64 2, born := 0 }] 1 HS1.out (Nat.le_refl _))
    have hpush : (#[].push { key := .bool false, val := .int .i64 2, born := 0 } : Array MapEntry) = #[{ key := .bool false, val := .int .i64 2, born := 0 }] := rfl
    rw [hpush]
    clear hpush
    generalize putMap (w10.alloc (.map #[] 0)).drew w10.heap.size #[{ key := .bool false, val := .int .i64 2, born := 0 }] 1 = wb at *
    try simp only [Act.put, List.setIfInBounds_toArray, List.set_cons_zero, List.set_cons_succ]
    refine wpAnyK_one (i := 26) (by kernel_rfl) rfl (fun K hK => ?_)
    refine step_insert 59 (.tmp 118) (.const (.bool true)) (.const (.int .i64 1)) 4 3 .bool w10.heap.size 1 #[{ key := .bool false, val := .int .i64 2, born := 0 }] (.bool true) (.int .i64 1) ?_ ?_ ?_ ?_ ?_ ?_ ?_ ?_ HM2.out ?_ ?_
    · rfl
    · rfl
    · first | rfl | simp [Act.eval]
    · rfl
    · rfl
    · rfl
    · rfl
    · trivial
    · rfl
    refine hK.out _ _ (putMap_below _ _ HS2.out (Nat.le_refl _)) (fun _ => trivial) ?_
    clear hK K
    have HM3 := Lib.hid (putMap_block (w := wb) #[{ key := .bool false, val := .int .i64 2, born := 0 }, { key := .bool true, val := .int .i64 1, born := 1 }] 2 HM2.out)
    have HS3 := Lib.hid (putMap_below #[{ key := .bool false, val := .int .i64 2, born := 0 }, { key := .bool true, val := .int .i64 1, born := 1 }] 2 HS2.out (Nat.le_refl _))
    have hpush : (#[{ key := .bool false, val := .int .i64 2, born := 0 }].push { key := .bool true, val := .int .i64 1, born := 1 } : Array MapEntry) = #[{ key := .bool false, val := .int .i64 2, born := 0 }, { key := .bool true, val := .int .i64 1, born := 1 }] := rfl
    rw [hpush]
    clear hpush
    generalize putMap wb w10.heap.size #[{ key := .bool false, val := .int .i64 2, born := 0 }, { key := .bool true, val := .int .i64 1, born := 1 }] (1 + 1) = wd at *
    try simp only [Act.put, List.setIfInBounds_toArray, List.set_cons_zero, List.set_cons_succ]
    refine wpAnyK_take (i := 28) (oi := ?_) (v := ?_) ?_ (by kernel_rfl) (by kernel_rfl) (by kernel_rfl) (fun _ _ _ h => h) (by decide) ?_ HS3.out (fun _ => trivial) ?_
    rotate_left 2
    · (simp only [List.getElem?_toArray, List.getElem?_cons_succ, List.getElem?_cons_zero]; rfl)
    · (refine Or.inl ⟨by rfl, ?_⟩; intro w hSw; clear hSw; go_simp; try with_reducible rfl)
    try simp only [Act.put, List.setIfInBounds_toArray, List.set_cons_zero, List.set_cons_succ]
    refine wpAnyK_one (i := 30) (by kernel_rfl) rfl (fun K hK => ?_)
    refine step_lookMap 59 (.tmp 119) (.tmp 120) 4 3 .bool w10.heap.size 2 #[{ key := .bool false, val := .int .i64 2, born := 0 }, { key := .bool true, val := .int .i64 1, born := 1 }] (.bool false) (.int .i64 2) 0 ?_ ?_ ?_ ?_ ?_ ?_ ?_ HM3.out ?_ ?_
    · rfl
    · rfl
    · first | rfl | simp [Act.eval]
    · first | rfl | simp [Act.eval]
    · rfl
    · rfl
    · trivial
    · rfl
    refine hK.out _ _ HS3.out (fun _ => trivial) ?_
    clear hK K
    try simp only [Act.put, List.setIfInBounds_toArray, List.set_cons_zero, List.set_cons_succ]
    refine wpAnyK_take (i := 31) (oi := ?_) (v := ?_) ?_ (by kernel_rfl) (by kernel_rfl) (by kernel_rfl) (fun _ _ _ h => h) (by decide) ?_ HS3.out (fun _ => trivial) ?_
    rotate_left 2
    · (simp only [List.getElem?_toArray, List.getElem?_cons_succ, List.getElem?_cons_zero]; rfl)
    · (refine Or.inl ⟨by rfl, ?_⟩; intro w hSw; clear hSw; go_simp; try with_reducible rfl)
    try simp only [Act.put, List.setIfInBounds_toArray, List.set_cons_zero, List.set_cons_succ]
    refine wpAnyK_take (i := 32) (oi := ?_) (v := ?_) ?_ (by kernel_rfl) (by kernel_rfl) (by kernel_rfl) (fun _ _ _ h => h) (by decide) ?_ HS3.out (fun _ => trivial) ?_
    rotate_left 2
    · (simp only [List.getElem?_toArray, List.getElem?_cons_succ, List.getElem?_cons_zero]; rfl)
    · (refine Or.inl ⟨by rfl, ?_⟩; intro w hSw; clear hSw; go_simp; try with_reducible rfl)
    try simp only [Act.put, List.setIfInBounds_toArray, List.set_cons_zero, List.set_cons_succ]
    refine wpAnyK_take (i := 33) (oi := ?_) (v := ?_) ?_ (by kernel_rfl) (by kernel_rfl) (by kernel_rfl) (fun _ _ _ h => h) (by decide) ?_ HS3.out (fun _ => trivial) ?_
    rotate_left 2
    · (simp only [List.getElem?_toArray, List.getElem?_cons_succ, List.getElem?_cons_zero]; rfl)
    · (refine Or.inl ⟨by rfl, ?_⟩; intro w hSw; clear hSw; go_simp; try with_reducible rfl)
    try simp only [Act.put, List.setIfInBounds_toArray, List.set_cons_zero, List.set_cons_succ]
    refine wpAnyK_one (i := 34) (by kernel_rfl) rfl (fun K hK => ?_)
    go_simp
    refine (awake18_any _).mono ?_
    rintro e w12 ⟨rfl, hb12⟩
    have HS4 := Lib.hid (HS3.out.trans (hb12.mono HS3.out.size))
    refine hK.out _ _ HS4.out (fun _ => trivial) ?_
    clear hK K hb12
    try simp only [Act.put, List.setIfInBounds_toArray, List.set_cons_zero, List.set_cons_succ]
    refine wpAnyK_take (i := 35) (oi := ?_) (v := ?_) ?_ (by kernel_rfl) (by kernel_rfl) (by kernel_rfl) (fun _ _ _ h => h) (by decide) ?_ HS4.out (fun _ => trivial) ?_
    rotate_left 2
    · (simp only [List.getElem?_toArray, List.getElem?_cons_succ, List.getElem?_cons_zero]; rfl)
    · (refine Or.inl ⟨by rfl, ?_⟩; intro w hSw; clear hSw; go_simp; try with_reducible rfl)
    try simp only [Act.put, List.setIfInBounds_toArray, List.set_cons_zero, List.set_cons_succ]
    refine wpAnyK_take (i := 36) (oi := ?_) (v := ?_) ?_ (by kernel_rfl) (by kernel_rfl) (by kernel_rfl) (fun _ _ _ h => h) (by decide) ?_ HS4.out (fun _ => trivial) ?_
    rotate_left 2
    · (simp only [List.getElem?_toArray, List.getElem?_cons_succ, List.getElem?_cons_zero]; rfl)
    · (refine Or.inl ⟨by rfl, ?_⟩; intro w hSw; clear hSw; go_simp; try with_reducible rfl)
    try simp only [Act.put, List.setIfInBounds_toArray, List.set_cons_zero, List.set_cons_succ]
    refine wpAnyK_done (by kernel_rfl) ?_ _
    refine NoPanic.normal ?_
    go_wp2_with fail
    go_ret
    exact ⟨rfl, HW10.out.trans (HS4.out.mono HW10.out.size)⟩

theorem names_walk (a b : ByteArray) (w : World) (hA : a.size ≤ 9223372036854775807) (hB : b.size ≤ 9223372036854775807) :
    Calls Try.prog 4 #[.string a, .string b] w fun e w' => e = .returned (.bool true) ∧ Below w.heap.size w w' := by
  by_cases ha : a.size ≤ 60
  · by_cases hb : b.size ≤ 60
    · obtain ⟨K, ka, kk, hK⟩ := key_ex18 a (by omega)
      obtain ⟨M, kb, _, _⟩ := key_ex18 b (by omega)
      by_cases e : K = M
      · subst e; exact names_same a b K w ha hb ka kb kk hK
      · exact names_diff a b K M w ha hb ka kb e kk hK
    · have d1 : ¬ (60 : Int) < a.size := by omega
      have d2 : (60 : Int) < b.size := by omega
      clear ha hb
      go_enter Try.func4, Try.ntmps4
      go_wp2_with (go_fit (awake18_any _); rintro e w' ⟨rfl, hb⟩; have HB := Lib.hid hb; clear hb)
      go_ret
      exact ⟨rfl, HB.out⟩
  · have d1 : (60 : Int) < a.size := by omega
    clear ha
    go_enter Try.func4, Try.ntmps4
    go_wp2_with (go_fit (awake18_any _); rintro e w' ⟨rfl, hb⟩; have HB := Lib.hid hb; clear hb)
    go_ret
    exact ⟨rfl, HB.out⟩
end Go.Proofs.Ytclbbekdkljepaa
