/- law 11: Made, awake. -/
import Derived.Test.YtcommphfjkggkaaTlsE
namespace Go.Proofs.Ytcommphfjkggkaa
open Go.ChangeShapes Go.WideShapes Go.ChangeAt Go.RowKit
set_option linter.unusedVariables false

theorem made11 (b x : Int) (L : Option Addr) (cs : List Int) (c : Nat) (w : World) (hL : SlT intC 1 w L cs) (hm : cs.length ≤ 8) (hb0 : 0 < b) (hb1 : b ≤ 1000000000000000) (hx0 : 0 ≤ x) (hx1 : x ≤ 64) (hc : ∀ v ∈ cs, 0 ≤ v ∧ v ≤ 64) :
    Calls Try.prog 21 #[.int .u64 b, .int .i64 x, .slice L cs.length c] w fun e w' =>
      ∃ g n cap F, e = .returned (.slice (some ⟨g, 0, none⟩) n cap) ∧ n ≤ 200 ∧ Bytes255 F ∧ SlB w' (some ⟨g, 0, none⟩) n F ∧ TlsI n F b x cs ∧ Below w.heap.size w w' := by
  have HA := Lib.hid (at_any b x L cs c w hL hm hb0 hb1 hx0 hx1 hc)
  clear hL hc
  go_enter Try.func21, Try.ntmps21
  go_wp2_with fail
  refine HA.out.mono ?_
  rintro e w2 ⟨g, n, cap, F, rfl, h1, h2, h3, h4, h5⟩
  go_wp2_with fail
  go_ret
  exact ⟨g, n, cap, F, rfl, h1, h2, h3, h4, h5⟩

theorem sl_two (w : World) : SlT intC 1 (w.alloc (.cells #[.int .i64 1, .int .i64 2] 3)) (some ⟨w.heap.size, 0, none⟩) [1, 2] := by
  refine .inr ⟨w.heap.size, 0, rfl, by simp, fun i hi j v hv => ?_⟩
  rw [cell_of_row _ _ _ _ _ _ (heap_alloc_new w (.cells #[.int .i64 1, .int .i64 2] 3))]
  have hi' : i < 2 := hi
  rcases j with _ | j
  · rcases (by omega : i = 0 ∨ i = 1) with rfl | rfl
    · simpa [intC] using hv
    · simpa [intC] using hv
  · simp [intC] at hv

set_option maxRecDepth 100000 in
theorem awake11_any (w : World) : Calls Try.prog 23 #[] w fun e w' => e = .returned (.bool true) ∧ Below w.heap.size w w' := by
  have HM := Lib.hid (made11 65536 8 _ [1, 2] 2 _ (sl_two w) (by simp) (by omega) (by omega) (by omega) (by omega) (fun v hv => by simp at hv; omega))
  have HB1 := Lib.hid ((Below.refl w.heap.size w).alloc (Nat.le_refl _) (.cells #[.int .i64 1, .int .i64 2] 3))
  go_enter Try.func23, Try.ntmps23
  go_wp2_with fail
  refine HM.out.mono ?_
  rintro e w2 ⟨g, n, cap, F, rfl, hn, hF, hs, hI, hb⟩
  have HB2 := Lib.hid (HB1.out.trans (hb.mono HB1.out.size))
  have HOK := Lib.hid (tls_ok _ n cap F 0 65536 8 [1, 2] w2 hF hs hI)
  have HBAD := Lib.hid (fun (W : World) (hW : Below w2.heap.size w2 W) => tls_bad _ n cap F 0 65536 0 65544 8 [1, 2] W hF (hs.below hW) hI (by omega) (by omega))
  clear hb hs hI hF
  go_wp2_with fail
  refine HOK.out.mono ?_
  rintro e w3 ⟨⟨L, c, rfl, hsl⟩, hb3⟩
  simp only [List.length_cons, List.length_nil, Nat.zero_add, Nat.reduceAdd]
  go_wp2_with fail
  have h4 := heap_alloc_new w3 (.cells #[.bool true, .int .i64 8, .slice L 2 c] 58)
  have hb4 := (Below.refl w3.heap.size w3).alloc (Nat.le_refl _) (.cells #[.bool true, .int .i64 8, .slice L 2 c] 58)
  have hsl4 := hsl.below hb4
  have hb34 := HB2.out.trans (hb3.mono HB2.out.size)
  have HB4 := Lib.hid (hb34.trans (hb4.mono hb34.size))
  have HBD := Lib.hid (HBAD.out _ (hb3.trans (hb4.mono hb3.size)))
  clear hb4 hb34 hb3 hsl
  generalize w3.alloc (.cells #[.bool true, .int .i64 8, .slice L 2 c] 58) = w4 at *
  generalize w3.heap.size = G at *
  refine HBD.out.mono ?_
  rintro e w5 ⟨rfl, hb5⟩
  have h5 := (hb5.block G (Array.getElem?_eq_some_iff.1 h4).1).trans h4
  have hsl5 := hsl4.below hb5
  have HB5 := Lib.hid (HB4.out.trans (hb5.mono HB4.out.size))
  clear hb5 h4 hsl4
  go_wp2_with fail
  have hb6 := (Below.refl w5.heap.size w5).alloc (Nat.le_refl _) (.cells #[.bool false, .int .i64 0, .slice none 0 0] 58)
  have h6 := (hb6.block G (Array.getElem?_eq_some_iff.1 h5).1).trans h5
  have hsl6 := hsl5.below hb6
  have HB6 := Lib.hid (HB5.out.trans (hb6.mono HB5.out.size))
  clear hb6 h5 hsl5
  generalize w5.alloc (.cells #[.bool false, .int .i64 0, .slice none 0 0] 58) = w6 at *
  refine (tls_none none 0 0 0 5 w6).mono ?_
  rintro e w7 ⟨rfl, hb7⟩
  have h7 := (hb7.block G (Array.getElem?_eq_some_iff.1 h6).1).trans h6
  have hsl7 := hsl6.below hb7
  have HB7 := Lib.hid (HB6.out.trans (hb7.mono HB6.out.size))
  have hb8 := (Below.refl w7.heap.size w7).alloc (Nat.le_refl _) (.cells #[.bool false, .int .i64 0, .slice none 0 0] 58)
  have h8 := (hb8.block G (Array.getElem?_eq_some_iff.1 h7).1).trans h7
  have HB8 := Lib.hid (HB7.out.trans (hb8.mono HB7.out.size))
  obtain ⟨bL, off, rfl, _, k1⟩ := (hsl7.below hb8).int (i := 1) (by simp)
  simp only [List.getElem_cons_succ, List.getElem_cons_zero] at k1
  have c0 : (w7.alloc (.cells #[.bool false, .int .i64 0, .slice none 0 0] 58)).cell? ⟨G, 0, none⟩ = some (.bool true) := by rw [cell_of_row _ _ _ _ _ _ h8]; rfl
  have c1 : (w7.alloc (.cells #[.bool false, .int .i64 0, .slice none 0 0] 58)).cell? ⟨G, 1, none⟩ = some (.int .i64 8) := by rw [cell_of_row _ _ _ _ _ _ h8]; rfl
  have c2 : (w7.alloc (.cells #[.bool false, .int .i64 0, .slice none 0 0] 58)).cell? ⟨G, 2, none⟩ = some (.slice (some ⟨bL, off, none⟩) 2 c) := by rw [cell_of_row _ _ _ _ _ _ h8]; rfl
  have c3 : (w7.alloc (.cells #[.bool false, .int .i64 0, .slice none 0 0] 58)).cell? ⟨w7.heap.size, 0, none⟩ = some (.bool false) := by rw [cell_of_row _ _ _ _ _ _ (heap_alloc_new _ _)]; rfl
  clear hb7 hb8 h6 h7 h8 hsl6 hsl7
  go_wp2_with fail
  go_ret
  exact ⟨rfl, HB8.out⟩
end Go.Proofs.Ytcommphfjkggkaa
