/- The closed call that each law of layer 18 ends with. -/
import Derived.Test.YtclbbekdkljepaaTabF
namespace Go.Proofs.Ytclbbekdkljepaa
open Go.ChangeShapes Go.WideShapes Go.ChangeAt Go.RowKit
set_option linter.unusedVariables false

theorem noDot_lit' (T : ByteArray) (h : ∀ i, i < T.size → PlainAid.bt T i ≠ 46) : ¬ DotIn T := fun ⟨i, hi, e⟩ => h i hi e
theorem key_A : KeyOf ⟨#[65]⟩ ⟨#[97, 46, 100, 108, 108]⟩ := ⟨fun h => absurd h (noDot_lit' _ (by decide)), fun _ => by decide⟩
theorem key_a : KeyOf ⟨#[97]⟩ ⟨#[97, 46, 100, 108, 108]⟩ := ⟨fun h => absurd h (noDot_lit' _ (by decide)), fun _ => by decide⟩
theorem key_adll : KeyOf ⟨#[97, 46, 100, 108, 108]⟩ ⟨#[97, 46, 100, 108, 108]⟩ := ⟨fun _ => by decide, fun h => absurd ⟨1, by decide, by decide⟩ h⟩

/-- An empty image is built. -/
theorem built_peZ : Try.prog.built 46 [] = some peZ := by kernel_rfl
theorem wpList_built {P : Program} {Q : Exit → Act → World → Prop} {ops : Array Oper} {rest : List Oper} {o : Oper} {a : Act} {w : World} (hg : o.guard = none) (t : TypeId) (parts : Array (Nat × Operand)) (ho : o.op = .build t parts) (l : List (Nat × Value)) (cells : Array Value)
    (hl : (parts.map fun (i, x) => (i, a.eval x)).toList = l) (hf : P.built t l = some cells)
    (h : wpList P ops Q rest (a.put o.dst (.agg cells)) w) : wpList P ops Q (o :: rest) a w := by
  refine wpList_build hg t parts ho (by rw [hl, hf]; rfl) ?_
  rw [hl, hf]
  exact h

set_option maxRecDepth 100000 in
set_option maxHeartbeats 4000000 in
theorem awake18_any (w : World) : Calls Try.prog 10 #[] w fun e w' => e = .returned (.bool true) ∧ Below w.heap.size w w' := by
  go_enter Try.func10, Try.ntmps10
  go_wp2_with fail
  go_fit (tabNew w)
  rintro e w1 ⟨rfl, h1, hb1⟩
  have H1 := Lib.hid h1
  have HB1 := Lib.hid hb1
  clear h1 hb1
  go_wp2_with (first
    | (refine wpList_built rfl 46 #[] rfl [] peZ rfl built_peZ ?_)
    | (go_fit (add_new w1 _ _ _ _ _ _ _ ⟨#[65]⟩ _ H1.out (by decide) key_A rfl (by simp) (by omega) (by omega))))
  rintro e w2 ⟨rfl, sv2, p, h2, hb2⟩
  have h2' : TabAt w2 w.heap.size w.heap.size 1 [⟨1, ⟨#[97, 46, 100, 108, 108]⟩, 0, 0, -1, false, p⟩] [] sv2 (.slice none 0 0) := h2
  have H2 := Lib.hid h2'
  have HB2 := Lib.hid (HB1.out.trans hb2)
  clear h2 h2' hb2 H1 HB1
  go_wp2_with (first
    | (refine wpList_built rfl 46 #[] rfl [] peZ rfl built_peZ ?_)
    | (go_fit (add_old w2 _ _ _ _ _ _ _ ⟨#[97, 46, 100, 108, 108]⟩ _ _ H2.out (by decide) key_adll (by rfl))))
  rintro e w3 ⟨rfl, hb3⟩
  have H3 := Lib.hid (H2.out.below hb3)
  have HB3 := Lib.hid (HB2.out.trans (hb3.mono HB2.out.size))
  clear hb3 H2 HB2
  go_wp2_with (go_fit (handle_yes w3 _ _ _ _ _ _ _ 1 2 0 0 (by simp) H3.out (by rfl) rfl (by omega) (by omega) (by omega) (by omega)))
  rintro e w4 ⟨rfl, rfl⟩
  have h4 := H3.out.set 0 (by simp) ⟨1, ⟨#[97, 46, 100, 108, 108]⟩, 0, 2, -1, false, p⟩ rfl 3 (.int .i64 2) (Md.set3 _ 2)
  have hb4 := HB3.out.setCell (p := ⟨p, 3, none⟩) (H3.out.ent _ (List.mem_singleton.2 rfl)).1 (.int .i64 2)
  have h4' : TabAt (w3.setCell ⟨p, 3, none⟩ (.int .i64 2)) w.heap.size w.heap.size 1 [⟨1, ⟨#[97, 46, 100, 108, 108]⟩, 0, 2, -1, false, p⟩] [] sv2 (.slice none 0 0) := h4
  have H4 := Lib.hid h4'
  have HB4 := Lib.hid hb4
  clear h4 h4' hb4 H3 HB3
  have hmax : max (0 + 2 : Int) 0 = 2 := by decide
  simp only [hmax, List.getElem_cons_zero]
  generalize w3.setCell ⟨p, 3, none⟩ (.int .i64 2) = w4 at *
  clear hmax
  go_wp2_with (go_fit (get_yes w4 _ _ _ _ _ _ _ 1 _ H4.out (by rfl)))
  rintro e w5 ⟨rfl, hb5⟩
  have H5 := Lib.hid (H4.out.below hb5)
  have HB5 := Lib.hid (HB4.out.trans (hb5.mono HB4.out.size))
  clear hb5 H4 HB4
  simp only [Md.modC]
  go_upto_region 8 with fail
  have hr6 := heap_alloc_new w5 (.cells #[.int .i64 1, .string ⟨#[97, 46, 100, 108, 108]⟩, .int .u64 0, .int .i64 2, .int .i64 (-1), .bool false] 50)
  have h6 := H5.out.below ((Below.refl w5.heap.size w5).alloc (Nat.le_refl _) (.cells #[.int .i64 1, .string ⟨#[97, 46, 100, 108, 108]⟩, .int .u64 0, .int .i64 2, .int .i64 (-1), .bool false] 50))
  have hb6 := HB5.out.alloc HB5.out.size (.cells #[.int .i64 1, .string ⟨#[97, 46, 100, 108, 108]⟩, .int .u64 0, .int .i64 2, .int .i64 (-1), .bool false] 50)
  have HR6 := Lib.hid hr6
  have H6 := Lib.hid h6
  have HB6 := Lib.hid hb6
  clear hr6 h6 hb6
  have HLT := Lib.hid (show w.heap.size < w5.heap.size ∧ p < w5.heap.size from ⟨H5.out.lt, (Array.getElem?_eq_some_iff.1 (H5.out.ent _ (List.mem_singleton.2 rfl)).2.2.2.2).1⟩)
  have HSZ := Lib.hid (show w5.heap.size < (w5.alloc (.cells #[.int .i64 1, .string ⟨#[97, 46, 100, 108, 108]⟩, .int .u64 0, .int .i64 2, .int .i64 (-1), .bool false] 50)).heap.size by simp)
  have HFS := Lib.hid (show some w5.heap.size ≠ sv2.ownBlock from fun e => by have := (H5.out.mods.lt _ e.symm).2; omega)
  generalize w5.alloc (.cells #[.int .i64 1, .string ⟨#[97, 46, 100, 108, 108]⟩, .int .u64 0, .int .i64 2, .int .i64 (-1), .bool false] 50) = w6 at *
  clear H5 HB5
  generalize w5.heap.size = E at *
  have HATT := Lib.hid (att_on w6 _ _ _ _ _ _ _ 1 0 (by simp) H6.out (by rfl) rfl (by simp))
  go_upto_region 9 with (go_fit HATT.out; rintro e w7 ⟨rfl, hx⟩; have HX := Lib.hid hx; clear hx)
  obtain ⟨av7, h7, hb7, ho7⟩ := HX.out
  have h7' : TabAt w7 w.heap.size w.heap.size 1 [⟨1, ⟨#[97, 46, 100, 108, 108]⟩, 0, 2, -1, true, p⟩] [1] sv2 av7 := h7
  have hr7 := (ho7 E HSZ.out ⟨by have := HLT.out.1; omega, fun m hm => by rw [List.mem_singleton] at hm; subst hm; have := HLT.out.2; show E ≠ p; omega, HFS.out, by simp [Value.ownBlock]⟩).1.trans HR6.out
  have H7 := Lib.hid h7'
  have HB7 := Lib.hid (HB6.out.trans hb7)
  clear h7 h7' hb7 ho7 H6 HB6 HR6 HSZ HLT HX HATT
  have c1 : w7.cell? ⟨E, 1, none⟩ = some (.string ⟨#[97, 46, 100, 108, 108]⟩) := by rw [cell_of_row _ _ _ _ _ _ hr7]; rfl
  have c4 : w7.cell? ⟨E, 4, none⟩ = some (.int .i64 (-1)) := by rw [cell_of_row _ _ _ _ _ _ hr7]; rfl
  clear hr7
  have HAT := Lib.hid (attached_any w7 _ _ _ _ _ _ _ H7.out (by simp))
  go_wp2_with (go_fit HAT.out; rintro e w8 ⟨A8, c8, rfl, hs8, hb8⟩; have HS8 := Lib.hid hs8; have HB78 := Lib.hid hb8; clear hs8 hb8)
  have H8 := Lib.hid (H7.out.below HB78.out)
  have HB8 := Lib.hid (HB7.out.trans (HB78.out.mono HB7.out.size))
  have hb9 := (Below.refl w8.heap.size w8).alloc (Nat.le_refl _) (.cells #[.int .i64 1] 3)
  have hs9 : SlT intC 1 (w8.alloc (.cells #[.int .i64 1] 3)) (some ⟨w8.heap.size, 0, none⟩) [1] := by
    refine .inr ⟨w8.heap.size, 0, rfl, by simp, fun i hi j v hv => ?_⟩
    obtain rfl : i = 0 := by simpa using hi
    rcases j with _ | j
    · simp [intC] at hv
      subst hv
      rw [cell_of_row _ _ _ _ _ _ (heap_alloc_new w8 (.cells #[.int .i64 1] 3))]; rfl
    · simp [intC] at hv
  have HSI := Lib.hid (sameInts_eq A8 (some ⟨w8.heap.size, 0, none⟩) [1] c8 1 (w8.alloc (.cells #[.int .i64 1] 3)) (HS8.out.below hb9) hs9 (by simp))
  have H9 := Lib.hid (H8.out.below hb9)
  have HB9 := Lib.hid (HB8.out.alloc HB8.out.size (.cells #[.int .i64 1] 3))
  clear hb9 hs9 H8 HB8 HB78 HS8 HAT H7 HB7 c1 c4
  generalize w8.alloc (.cells #[.int .i64 1] 3) = w9 at *
  go_fit HSI.out
  rintro e w10 ⟨rfl, d, rfl⟩
  have hb10 : Below w9.heap.size w9 (w9.drewN d) := ⟨rfl, rfl, rfl, Nat.le_refl _, fun _ _ => rfl⟩
  have HCT := Lib.hid (count_any (w9.drewN d) _ _ _ _ _ _ _ (H9.out.below hb10))
  have HB10 := Lib.hid (HB9.out.trans (hb10.mono HB9.out.size))
  clear hb10
  go_wp2_with (go_fit HCT.out; rintro e w11 ⟨rfl, rfl⟩)
  go_ret
  exact ⟨rfl, HB10.out⟩
end Go.Proofs.Ytclbbekdkljepaa
