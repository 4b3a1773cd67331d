/- package dec: Encode. -/
import Derived.Test.YtimjpdheaecajaaDecL
namespace Go.Proofs.Ytimjpdheaecajaa
open Go.ChangeShapes Go.WideShapes Go.ChangeAt Go.RowKit
set_option linter.unusedVariables false

theorem leBytes_len (v n : Nat) : (leBytes v n).length = n := by simp [leBytes]
theorem bytes_new (v n : Nat) (w : World) (hv : v < 18446744073709551616) (hn : n ≤ 8) :
    Calls Try.prog 15 #[.int .u64 v, .int .i64 n] w fun e w' => NewB w w' e (leBytes v n) := by
  refine (bytes_in v n w (by omega) (by omega) hn).mono ?_
  rintro e w' ⟨rfl, ho, hb⟩
  refine ⟨w.heap.size, n, by rw [leBytes_len], .inr ⟨w.heap.size, 0, rfl, ho.1, fun i hi => ?_⟩, hb⟩
  rw [leBytes_len] at hi
  rw [Nat.zero_add, ho.cell hi]
  unfold leF bF leBytes byteOf
  rw [if_pos hi]
  simp only [List.getD, List.getElem?_map, List.getElem?_range hi, Option.map_some, Option.getD_some]
  rw [Int.natCast_emod, Int.natCast_ediv, Int.natCast_pow]
  rfl

theorem forms_of {w w1 : World} {o : Obj} (hb : Below (w.alloc o).heap.size (w.alloc o) w1) : Below w.heap.size w ((w1.alloc (.cells zForms 41)).setRow w1.heap.size formsC) ∧
    ((w1.alloc (.cells zForms 41)).setRow w1.heap.size formsC).heap[w1.heap.size]? = some (.cells formsC 41 (0, 0)) ∧
    ((w1.alloc (.cells zForms 41)).setRow w1.heap.size formsC).heap[w.heap.size]? = some o ∧ w.heap.size < w1.heap.size := by
  have h0 : Below w.heap.size w (w.alloc o) := (Below.refl _ _).alloc (Nat.le_refl _) _
  have hz := hb.size
  have hz' : w.heap.size < w1.heap.size := by simp at hz; omega
  have h1 : Below w.heap.size w w1 := h0.trans (hb.mono (by simp))
  have h2 : Below w1.heap.size w1 ((w1.alloc (.cells zForms 41)).setRow w1.heap.size formsC) := below_setRow ((Below.refl _ _).alloc (Nat.le_refl _) _) (Nat.le_refl _) _
  refine ⟨h1.trans (h2.mono (by omega)), setRow_heap _ _ _ _ _ _ (heap_alloc_new _ _), ?_, hz'⟩
  rw [h2.block _ hz', hb.block _ (by simp)]
  exact heap_alloc_new _ _

/-! the walk -/
theorem formRow_one (F : Form) : (#[.int .i64 F.op, .int .i64 F.alu, .int .i64 F.cc, .int .i64 F.pre, .int .u8 F.code, .int .i64 F.regs, .int .u8 F.ext, .int .i64 F.tail] : Array Value).all (·.oneCell') = true := by simp [Value.oneCell']
theorem OwnBL.weaken {w : World} {base base' : Nat} {v : Value} {bs : List Int} (h : OwnBL w base v bs) (hb : base' ≤ base) : OwnBL w base' v bs := by
  refine ⟨h.1, ?_⟩
  rcases h.2 with h2 | ⟨g, cap, cur, hv, hg, r⟩
  · exact .inl h2
  · exact .inr ⟨g, cap, cur, hv, Nat.le_trans hb hg, r⟩

/-- What stands once the form is found: x's block s, the form's block h. -/
structure ESt (w : World) (x : InsV) (F : Form) (h : Nat) (W : World) : Prop where
  bel : Below w.heap.size w W
  box : W.heap[w.heap.size]? = some (.cells #[.int .i64 x.op, .int .i64 x.a, .int .i64 x.b, .int .i64 x.alu, .int .i64 x.cc, .int .u64 x.imm, .int .i64 x.disp] 24 (0, 0))
  frm : W.heap[h]? = some (.cells #[.int .i64 F.op, .int .i64 F.alu, .int .i64 F.cc, .int .i64 F.pre, .int .u8 F.code, .int .i64 F.regs, .int .u8 F.ext, .int .i64 F.tail] 40 (0, 0))
  lt : w.heap.size < h

theorem ESt.below {w : World} {x : InsV} {F : Form} {h : Nat} {W W' : World} (e : ESt w x F h W) (hb : Below W.heap.size W W') : ESt w x F h W' := by
  have h1 : h < W.heap.size := by
    rcases Nat.lt_or_ge h W.heap.size with h' | h'
    · exact h'
    · have := e.frm; simp [Array.getElem?_eq_none h'] at this
  have h2 := e.lt
  exact ⟨e.bel.trans (hb.mono (by omega)), (hb.block _ (by omega)).trans e.box, (hb.block h h1).trans e.frm, h2⟩
theorem ESt.grew {w : World} {x : InsV} {F : Form} {h : Nat} {W W' : World} {base : Nat} {v : Value} {bs : List Int} (e : ESt w x F h W) (ho : OwnBL W base v bs) (hg : W.grownBy W' v.ownBlock) (hh : h < base) (hbW : base ≤ W.heap.size) : ESt w x F h W' := by
  refine ⟨OwnBL.grew ho e.bel (by have := e.lt; omega) (by have := e.lt; omega) hg, (hg.block _ (by have := e.lt; omega) (fun k => ?_)).trans e.box, (hg.block h (by omega) (fun k => ?_)).trans e.frm, e.lt⟩
  · have := (ho.lt _ k.symm).1; have := e.lt; omega
  · have := (ho.lt _ k.symm).1; omega
theorem ESt.form {w : World} {x : InsV} {F : Form} {h : Nat} {W : World} (e : ESt w x F h W) : FormAt W h 0 F := by
  have h1 : h < W.heap.size := by
    rcases Nat.lt_or_ge h W.heap.size with h' | h'
    · exact h'
    · have := e.frm; simp [Array.getElem?_eq_none h'] at this
  refine ⟨h1, ?_, ?_, ?_, ?_, ?_, ?_, ?_, ?_⟩ <;> (rw [cell_of_row _ _ _ _ _ _ e.frm]; rfl)
theorem ESt.cells {w : World} {x : InsV} {F : Form} {h : Nat} {W : World} (e : ESt w x F h W) : W.cell? ⟨w.heap.size, 5, none⟩ = some (.int .u64 x.imm) ∧ W.cell? ⟨w.heap.size, 6, none⟩ = some (.int .i64 x.disp) ∧ W.cell? ⟨h, 7, none⟩ = some (.int .i64 F.tail) :=
  ⟨by rw [cell_of_row _ _ _ _ _ _ e.box]; rfl, by rw [cell_of_row _ _ _ _ _ _ e.box]; rfl, by rw [cell_of_row _ _ _ _ _ _ e.frm]; rfl⟩

theorem ESt.boxc {w : World} {x : InsV} {F : Form} {h : Nat} {W : World} (e : ESt w x F h W) : W.cell? ⟨w.heap.size, 0, none⟩ = some (.int .i64 x.op) ∧ W.cell? ⟨w.heap.size, 1, none⟩ = some (.int .i64 x.a) ∧ W.cell? ⟨w.heap.size, 2, none⟩ = some (.int .i64 x.b) ∧ W.cell? ⟨w.heap.size, 3, none⟩ = some (.int .i64 x.alu) ∧ W.cell? ⟨w.heap.size, 4, none⟩ = some (.int .i64 x.cc) ∧ W.cell? ⟨w.heap.size, 5, none⟩ = some (.int .u64 x.imm) ∧ W.cell? ⟨w.heap.size, 6, none⟩ = some (.int .i64 x.disp) := by
  refine ⟨?_, ?_, ?_, ?_, ?_, ?_, ?_⟩ <;> (rw [cell_of_row _ _ _ _ _ _ e.box]; rfl)

set_option maxRecDepth 100000 in
set_option maxHeartbeats 8000000 in
theorem encode_any (x : InsV) (F : Form) (w : World) (hx : x.Ok) (hF : findM forms x = some F) (hok : F.Ok) :
    Calls Try.prog 7 #[insV x] w fun e w' => ∃ A c, e = .returned (.tuple #[.slice A (encM F x).length c, .bool true]) ∧ OwnBL w' w.heap.size (.slice A (encM F x).length c) (zL (encM F x)) ∧ Below w.heap.size w w' := by
  have HX := Lib.hid hx
  have HF := Lib.hid hF
  have HOK := Lib.hid hok
  clear hx hF hok
  have hz := zForms_size
  have HFIND := Lib.hid (fun g w h1 h2 => find_any g x F w h1 h2 HX.out HF.out)
  unfold insV at *
  go_enter Try.func7, Try.ntmps7
  go_wp2_with fail
  refine (makeForms_any _).mono ?_
  rintro e w1 ⟨rfl, hw1⟩
  obtain ⟨hb2, hfr, hbox, hsz⟩ := forms_of hw1
  clear hw1
  have HB2 := Lib.hid hb2
  have HFR := Lib.hid hfr
  have HBX := Lib.hid hbox
  clear hb2 hfr hbox
  go_wp2_with (refine wpList_store_row rfl 41 _ _ rfl w1.heap.size formsC rfl rfl 41 zForms (heap_alloc_new _ _) (by rw [formsC_size]; rfl) (by rw [formsC_size, hz]) formsC_one ?_)
  generalize (w1.alloc (.cells zForms 41)).setRow w1.heap.size formsC = w2 at *
  generalize w1.heap.size = g at *
  generalize formsC = FC
  clear hz
  have hg2 : g < w2.heap.size := by
    have h := HFR.out
    rcases Nat.lt_or_ge g w2.heap.size with h' | h'
    · exact h'
    · simp [Array.getElem?_eq_none h'] at h
  have HG2 := Lib.hid hg2
  have HSZ := Lib.hid hsz
  have HS := Lib.hid (show Below w2.heap.size w2 w2.drew from (Below.refl _ _).drew)
  have HROW := Lib.hid (show ∀ W, Below w2.heap.size w2 W → W.heap[w.heap.size]? = some (.cells #[.int .i64 x.op, .int .i64 x.a, .int .i64 x.b, .int .i64 x.alu, .int .i64 x.cc, .int .u64 x.imm, .int .i64 x.disp] 24 (0, 0)) from fun W hW => (hW.block _ (by omega)).trans HBX.out)
  have HFD := Lib.hid (show ∀ W, Below w2.heap.size w2 W → _ from fun W hW => HFIND.out g W ((hW.block g hg2).trans HFR.out) (Nat.lt_of_lt_of_le hg2 hW.size))
  clear hg2 hsz
  refine wp_region_noPanic ?_
  refine wp_region_K (fun W => Below w2.heap.size w2 W) (fun _ => True) 99 (by kernel_rfl) ?_
  refine wpAnyK_take (i := 0) (oi := ?_) (v := ?_) ?_ (by kernel_rfl) (by kernel_rfl) (by kernel_rfl) (fun _ _ _ h => h) (by decide) ?_ HS.out (fun _ => trivial) ?_
  rotate_left 2
  · (simp only [List.getElem?_toArray, List.getElem?_cons_succ, List.getElem?_cons_zero]; rfl)
  · (first | exact Or.inr ⟨by rfl, rfl⟩ | (refine Or.inl ⟨by rfl, ?_⟩; intro W hSw; clear hSw; go_simp; try with_reducible rfl))
  try simp only [Act.put, List.setIfInBounds_toArray, List.set_cons_zero, List.set_cons_succ]
  refine wpAnyK_take (i := 1) (oi := ?_) (v := ?_) ?_ (by kernel_rfl) (by kernel_rfl) (by kernel_rfl) (fun _ _ _ h => h) (by decide) ?_ HS.out (fun _ => trivial) ?_
  rotate_left 2
  · (simp only [List.getElem?_toArray, List.getElem?_cons_succ, List.getElem?_cons_zero]; rfl)
  · refine yieldsIf_load_row_g 24 (.tmp 1) w.heap.size 24 #[.int .i64 x.op, .int .i64 x.a, .int .i64 x.b, .int .i64 x.alu, .int .i64 x.cc, .int .u64 x.imm, .int .i64 x.disp] (0, 0) ?_ ?_ ?_ ?_ ?_ ?_
    · rfl
    · rfl
    · rfl
    · exact fun W hW => HROW.out W hW
    · rfl
    · rfl
  try simp only [Act.put, List.setIfInBounds_toArray, List.set_cons_zero, List.set_cons_succ]
  refine wpAnyK_two (i := 2) (j := 6) (by kernel_rfl) rfl rfl (fun K hK => ?_) (fun K hK => ?_)
  · go_simp
    go_at_call 11
    refine (HFD.out _ HS.out).mono ?_
    rintro e w4 ⟨rfl, hb4⟩
    have HS4 := Lib.hid (HS.out.trans (hb4.mono HS.out.size))
    have HB4 := Lib.hid hb4
    clear hb4
    refine hK.out _ _ HS4.out (fun _ => trivial) ?_
    clear hK K
    try simp only [Act.put, List.setIfInBounds_toArray, List.set_cons_zero, List.set_cons_succ]
    refine wpAnyK_take (i := 3) (oi := ?_) (v := ?_) ?_ (by kernel_rfl) (by kernel_rfl) (by kernel_rfl) (fun _ _ _ h => h) (by decide) ?_ HS4.out (fun _ => trivial) ?_
    rotate_left 2
    · (simp only [List.getElem?_toArray, List.getElem?_cons_succ, List.getElem?_cons_zero]; rfl)
    · (first | exact Or.inr ⟨by rfl, rfl⟩ | (refine Or.inl ⟨by rfl, ?_⟩; intro W hSw; clear hSw; go_simp; try with_reducible rfl))
    try simp only [Act.put, List.setIfInBounds_toArray, List.set_cons_zero, List.set_cons_succ]
    refine wpAnyK_take (i := 4) (oi := ?_) (v := ?_) ?_ (by kernel_rfl) (by kernel_rfl) (by kernel_rfl) (fun _ _ _ h => h) (by decide) ?_ HS4.out (fun _ => trivial) ?_
    rotate_left 2
    · (simp only [List.getElem?_toArray, List.getElem?_cons_succ, List.getElem?_cons_zero]; rfl)
    · (first | exact Or.inr ⟨by rfl, rfl⟩ | (refine Or.inl ⟨by rfl, ?_⟩; intro W hSw; clear hSw; go_simp; try with_reducible rfl))
    try simp only [Act.put, List.setIfInBounds_toArray, List.set_cons_zero, List.set_cons_succ]
    refine wpAnyK_take (i := 5) (oi := ?_) (v := ?_) ?_ (by kernel_rfl) (by kernel_rfl) (by kernel_rfl) (fun _ _ _ h => h) (by decide) ?_ HS4.out (fun _ => trivial) ?_
    rotate_left 2
    · (simp only [List.getElem?_toArray, List.getElem?_cons_succ, List.getElem?_cons_zero]; rfl)
    · (first | exact Or.inr ⟨by rfl, rfl⟩ | (refine Or.inl ⟨by rfl, ?_⟩; intro W hSw; clear hSw; go_simp; try with_reducible rfl))
    try simp only [Act.put, List.setIfInBounds_toArray, List.set_cons_zero, List.set_cons_succ]
    refine wpAnyK_one (i := 6) (by kernel_rfl) rfl (fun K hK => ?_)
    go_simp
    refine hK.out _ _ (HS4.out.alloc HS4.out.size _) (fun _ => trivial) ?_
    clear hK K
    try simp only [Act.put, List.setIfInBounds_toArray, List.set_cons_zero, List.set_cons_succ]
    refine wpAnyK_one (i := 7) (by kernel_rfl) rfl (fun K hK => ?_)
    rw [if_pos (by rfl)]
    refine wp_store_row 40 _ _ rfl w4.heap.size #[.int .i64 F.op, .int .i64 F.alu, .int .i64 F.cc, .int .i64 F.pre, .int .u8 F.code, .int .i64 F.regs, .int .u8 F.ext, .int .i64 F.tail] rfl rfl 40 #[.int .i64 0, .int .i64 0, .int .i64 0, .int .i64 0, .int .u8 0, .int .i64 0, .int .u8 0, .int .i64 0] (heap_alloc_new _ _) rfl rfl (formRow_one F) ?_
    have HS5 := Lib.hid (show Below w2.heap.size w2 ((w4.alloc (.cells #[.int .i64 0, .int .i64 0, .int .i64 0, .int .i64 0, .int .u8 0, .int .i64 0, .int .u8 0, .int .i64 0] 40)).setRow w4.heap.size #[.int .i64 F.op, .int .i64 F.alu, .int .i64 F.cc, .int .i64 F.pre, .int .u8 F.code, .int .i64 F.regs, .int .u8 F.ext, .int .i64 F.tail]) from below_setRow (HS4.out.alloc HS4.out.size _) HS4.out.size _)
    refine hK.out _ _ HS5.out (fun _ => trivial) ?_
    clear hK K
    try simp only [Act.put, List.setIfInBounds_toArray, List.set_cons_zero, List.set_cons_succ]
    refine wpAnyK_take (i := 8) (oi := ?_) (v := ?_) ?_ (by kernel_rfl) (by kernel_rfl) (by kernel_rfl) (fun _ _ _ h => h) (by decide) ?_ HS5.out (fun _ => trivial) ?_
    rotate_left 2
    · (simp only [List.getElem?_toArray, List.getElem?_cons_succ, List.getElem?_cons_zero]; rfl)
    · (first | exact Or.inr ⟨by rfl, rfl⟩ | (refine Or.inl ⟨by rfl, ?_⟩; intro W hSw; clear hSw; go_simp; try with_reducible rfl))
    try simp only [Act.put, List.setIfInBounds_toArray, List.set_cons_zero, List.set_cons_succ]
    refine wpAnyK_done (by kernel_rfl) ?_ _
    refine NoPanic.normal ?_
    have HE := Lib.hid (show ESt w x F w4.heap.size ((w4.alloc (.cells #[.int .i64 0, .int .i64 0, .int .i64 0, .int .i64 0, .int .u8 0, .int .i64 0, .int .u8 0, .int .i64 0] 40)).setRow w4.heap.size #[.int .i64 F.op, .int .i64 F.alu, .int .i64 F.cc, .int .i64 F.pre, .int .u8 F.code, .int .i64 F.regs, .int .u8 F.ext, .int .i64 F.tail]) from ⟨HB2.out.trans (HS5.out.mono HB2.out.size), HROW.out _ HS5.out, setRow_heap _ _ _ _ _ _ (heap_alloc_new _ _), by have := HS4.out.size; have := HG2.out; have := HSZ.out; omega⟩)
    generalize (w4.alloc (.cells #[.int .i64 0, .int .i64 0, .int .i64 0, .int .i64 0, .int .u8 0, .int .i64 0, .int .u8 0, .int .i64 0] 40)).setRow w4.heap.size #[.int .i64 F.op, .int .i64 F.alu, .int .i64 F.cc, .int .i64 F.pre, .int .u8 F.code, .int .i64 F.regs, .int .u8 F.ext, .int .i64 F.tail] = W5 at *
    generalize w4.heap.size = h at *
    clear HS4 HS5 HB4 HS
    go_upto_region 6 with (fail)
    have HO := Lib.hid (OwnBL.made0 W5 W5.heap.size (Nat.le_refl _))
    have hh5 : h < W5.heap.size := HE.out.form.lt
    have HH := Lib.hid (show h < W5.heap.size ∧ W5.heap.size ≤ (W5.alloc (.cells #[] 5)).heap.size from ⟨hh5, by simp⟩)
    clear hh5
    replace HE := Lib.hid (HE.out.below ((Below.refl _ _).alloc (Nat.le_refl _) (.cells #[] 5)))
    generalize W5.alloc (.cells #[] 5) = W6 at *
    generalize W5.heap.size = Bs at *
    have HS6 := Lib.hid (show Below W6.heap.size W6 W6.drew from (Below.refl _ _).drew)
    have HP := Lib.hid (show ∀ W, Below W6.heap.size W6 W → _ from fun W hW => prefix_any h 0 F W HOK.out (HE.out.below hW).form)
    have HROW6 := Lib.hid (show ∀ W, Below W6.heap.size W6 W → W.heap[w.heap.size]? = some (.cells #[.int .i64 x.op, .int .i64 x.a, .int .i64 x.b, .int .i64 x.alu, .int .i64 x.cc, .int .u64 x.imm, .int .i64 x.disp] 24 (0, 0)) from fun W hW => (HE.out.below hW).box)
    have hp3 : (preF F.pre).base ≤ 255 ∧ (preF F.pre).bitA ≤ 255 ∧ (preF F.pre).bitB ≤ 255 := by
      unfold preF; split <;> simp
    have HBO := Lib.hid (fun W => byteOf_any (preF F.pre) x W hp3.1 hp3.2.1 hp3.2.2 HX.out)
    unfold insV at HBO
    clear hp3
    refine wp_region_noPanic ?_
    refine wp_region_K (fun W => Below W6.heap.size W6 W) (fun _ => True) 99 (by kernel_rfl) ?_
    refine wpAnyK_take (i := 1) (oi := ?_) (v := ?_) ?_ (by kernel_rfl) (by kernel_rfl) (by kernel_rfl) (fun _ _ _ h => h) (by decide) ?_ HS6.out (fun _ => trivial) ?_
    rotate_left 2
    · (simp only [List.getElem?_toArray, List.getElem?_cons_succ, List.getElem?_cons_zero]; rfl)
    · refine yieldsIf_load_row_g 24 (.tmp 1) w.heap.size 24 #[.int .i64 x.op, .int .i64 x.a, .int .i64 x.b, .int .i64 x.alu, .int .i64 x.cc, .int .u64 x.imm, .int .i64 x.disp] (0, 0) ?_ ?_ ?_ ?_ ?_ ?_
      · rfl
      · rfl
      · rfl
      · exact fun W hW => HROW6.out W hW
      · rfl
      · rfl
    try simp only [Act.put, List.setIfInBounds_toArray, List.set_cons_zero, List.set_cons_succ]
    refine wpAnyK_one (i := 0) (by kernel_rfl) rfl (fun K hK => ?_)
    go_simp
    go_at_call 12
    refine (HP.out _ HS6.out).mono ?_
    rintro e W7 ⟨rfl, hb4⟩
    have HS7 := Lib.hid (HS6.out.trans (hb4.mono HS6.out.size))
    clear hb4
    refine hK.out _ _ HS7.out (fun _ => trivial) ?_
    clear hK K
    try simp only [Act.put, List.setIfInBounds_toArray, List.set_cons_zero, List.set_cons_succ]
    refine wpAnyK_one (i := 2) (by kernel_rfl) rfl (fun K hK => ?_)
    go_simp
    go_at_call 13
    refine (HBO.out _).mono ?_
    rintro e W8 ⟨rfl, hb4⟩
    have HS8 := Lib.hid (HS7.out.trans (hb4.mono HS7.out.size))
    clear hb4
    refine hK.out _ _ HS8.out (fun _ => trivial) ?_
    clear hK K
    try simp only [Act.put, List.setIfInBounds_toArray, List.set_cons_zero, List.set_cons_succ]
    refine wpAnyK_take (i := 3) (oi := ?_) (v := ?_) ?_ (by kernel_rfl) (by kernel_rfl) (by kernel_rfl) (fun _ _ _ h => h) (by decide) ?_ HS8.out (fun _ => trivial) ?_
    rotate_left 2
    · (simp only [List.getElem?_toArray, List.getElem?_cons_succ, List.getElem?_cons_zero]; rfl)
    · (first | exact Or.inr ⟨by rfl, rfl⟩ | (refine Or.inl ⟨by rfl, ?_⟩; intro W hSw; clear hSw; go_simp; try with_reducible rfl))
    try simp only [Act.put, List.setIfInBounds_toArray, List.set_cons_zero, List.set_cons_succ]
    refine wpAnyK_take (i := 4) (oi := ?_) (v := ?_) ?_ (by kernel_rfl) (by kernel_rfl) (by kernel_rfl) (fun _ _ _ h => h) (by decide) ?_ HS8.out (fun _ => trivial) ?_
    rotate_left 2
    · (simp only [List.getElem?_toArray, List.getElem?_cons_succ, List.getElem?_cons_zero]; rfl)
    · (first | exact Or.inr ⟨by rfl, rfl⟩ | (refine Or.inl ⟨by rfl, ?_⟩; intro W hSw; clear hSw; go_simp; try with_reducible rfl))
    try simp only [Act.put, List.setIfInBounds_toArray, List.set_cons_zero, List.set_cons_succ]
    refine wpAnyK_take (i := 5) (oi := ?_) (v := ?_) ?_ (by kernel_rfl) (by kernel_rfl) (by kernel_rfl) (fun _ _ _ h => h) (by decide) ?_ HS8.out (fun _ => trivial) ?_
    rotate_left 2
    · (simp only [List.getElem?_toArray, List.getElem?_cons_succ, List.getElem?_cons_zero]; rfl)
    · (first | exact Or.inr ⟨by rfl, rfl⟩ | (refine Or.inl ⟨by rfl, ?_⟩; intro W hSw; clear hSw; go_simp; try with_reducible rfl))
    try simp only [Act.put, List.setIfInBounds_toArray, List.set_cons_zero, List.set_cons_succ]
    refine wpAnyK_take (i := 6) (oi := ?_) (v := ?_) ?_ (by kernel_rfl) (by kernel_rfl) (by kernel_rfl) (fun _ _ _ h => h) (by decide) ?_ HS8.out (fun _ => trivial) ?_
    rotate_left 2
    · (simp only [List.getElem?_toArray, List.getElem?_cons_succ, List.getElem?_cons_zero]; rfl)
    · (first | exact Or.inr ⟨by rfl, rfl⟩ | (refine Or.inl ⟨by rfl, ?_⟩; intro W hSw; clear hSw; go_simp; try with_reducible rfl))
    try simp only [Act.put, List.setIfInBounds_toArray, List.set_cons_zero, List.set_cons_succ]
    refine wpAnyK_take (i := 7) (oi := ?_) (v := ?_) ?_ (by kernel_rfl) (by kernel_rfl) (by kernel_rfl) (fun _ _ _ h => h) (by decide) ?_ HS8.out (fun _ => trivial) ?_
    rotate_left 2
    · (simp only [List.getElem?_toArray, List.getElem?_cons_succ, List.getElem?_cons_zero]; rfl)
    · (first | exact Or.inr ⟨by rfl, rfl⟩ | (refine Or.inl ⟨by rfl, ?_⟩; intro W hSw; clear hSw; go_simp; try with_reducible rfl))
    try simp only [Act.put, List.setIfInBounds_toArray, List.set_cons_zero, List.set_cons_succ]
    refine wpAnyK_done (by kernel_rfl) ?_ _
    refine NoPanic.normal ?_
    replace HE := Lib.hid (HE.out.below HS8.out)
    replace HO := Lib.hid (HO.out.below HS8.out)
    have HLB := Lib.hid (Nat.le_trans HH.out.2 HS8.out.size)
    clear HS6 HS7 HS8 HP HROW6 HBO
    have hpb := preTold_bytes (preF F.pre) x.a x.b
    obtain ⟨V, hV⟩ : ∃ V, (preTold (preF F.pre) x.a x.b).1 = V := ⟨_, rfl⟩
    cases hT : (preTold (preF F.pre) x.a x.b).2
    · rw [hT] at hpb
      rw [hV]
      rw [if_neg (by decide)] at hpb
      have HPL := Lib.hid (show zL (preBytes (preF F.pre) x.a x.b) = [] by rw [hpb]; rfl)
      clear hpb hT hV
      generalize hPL : ([] : List Int) = PL at HPL HO
      have HPB := Lib.hid (show PL.length ≤ 1 by rw [← hPL]; simp)
      clear hPL
      generalize W8 = W9 at *
      have HC := Lib.hid (codeOf_any h 0 F x W9 HOK.out HE.out.form HX.out)
      unfold insV at HC
      obtain ⟨b0, b1, b2, b3, b4, b5, b6⟩ := HE.out.boxc
      go_upto_region 9 with (fail)
      go_wp2_with fail
      refine HC.out.mono ?_
      rintro e Wa ⟨gc, cc, rfl, hsl, hbl⟩
      replace HE := Lib.hid (HE.out.below hbl)
      replace HO := Lib.hid (HO.out.below hbl)
      have HBs := Lib.hid (Nat.le_trans HLB.out hbl.size)
      have HSRC := Lib.hid (src_bl (c := cc) (cs := zL (codeBytes F x)) hsl (by rw [zL_len]) (fun i _ => (litF_zL _ i).symm))
      have hcl : (codeBytes F x).length ≤ 2 := by unfold codeBytes; split <;> (try split) <;> simp
      have HCL := Lib.hid hcl
      rw [zL_len] at HSRC
      obtain ⟨n1, hn1⟩ : ∃ n, (codeBytes F x).length = n := ⟨_, rfl⟩
      obtain ⟨cs, hcs⟩ : ∃ cs, zL (codeBytes F x) = cs := ⟨_, rfl⟩
      have hcsn : cs.length = n1 := by rw [← hcs, zL_len, hn1]
      rw [hn1] at HSRC HCL ⊢
      rw [hcs, ← hcsn] at HSRC
      rw [← hcsn] at HCL ⊢
      have HCS := Lib.hid hcs
      clear hsl hbl HC hcl hn1 hcs hcsn b0 b1 b2 b3 b4 b5 b6
      go_upto_region 10 with (at_builtin; refine wpList_appBL rfl (.tmp 32) (.tmp 34) 26 rfl Bs _ _ rfl HO.out _ rfl cs HSRC.out (by have := HCL.out; have := HPB.out; omega) HBs.out ?_; intro A3 cap3 w3 hown3 hg3 hat3)
      replace HE := Lib.hid (HE.out.grew HO.out hg3 HH.out.1 HBs.out)
      replace HO := Lib.hid hown3
      replace HBs := Lib.hid (Nat.le_trans HBs.out hg3.size)
      clear hown3 hg3 hat3 HSRC
      obtain ⟨b5, b6, b7⟩ := HE.out.cells
      have HTL := Lib.hid (tailLen_any h 0 F w3 HOK.out HE.out.form)
      have hdd : IntKind.u64.wrap x.disp = ((x.disp % 18446744073709551616).toNat : Int) := by rw [IntKind.wrap_u64]; omega
      have hd2 : (x.disp % 18446744073709551616).toNat < 18446744073709551616 := by omega
      have him : x.imm < 18446744073709551616 := HX.out.imm
      have ht8 := tailLen_bd F.tail
      have htv : tailVal F x < 18446744073709551616 := by unfold tailVal; split <;> assumption
      have HBT := Lib.hid (bytes_new (tailVal F x) (tailLen F.tail) w3 htv ht8)
      by_cases t5 : F.tail = 5 ∨ F.tail = 6
      · have et : tailVal F x = (x.disp % 18446744073709551616).toNat := by unfold tailVal; rw [if_pos t5]
        rw [← et] at hdd
        clear et
        rcases t5 with t5 | t5
        · rw [t5] at b7
          generalize hyl : tailVal F x = tv at *
          generalize htl : tailLen F.tail = tl at *
          clear t5
          have HHY := Lib.hid hyl
          have HHT := Lib.hid htl
          clear hyl htl hd2 him htv
          go_upto_region 13 with (fail)
          go_wp2_with fail
          refine HTL.out.mono ?_
          rintro e u ⟨rfl, rfl⟩
          go_wp2_with fail
          refine HBT.out.mono ?_
          rintro e Wb ⟨gt, ct, rfl, hsl, hbl⟩
          replace HE := Lib.hid (HE.out.below hbl)
          replace HO := Lib.hid (HO.out.below hbl)
          replace HBs := Lib.hid (Nat.le_trans HBs.out hbl.size)
          have HSRC := Lib.hid (src_bl (c := ct) (cs := zL (leBytes tv tl)) hsl (by rw [zL_len]) (fun i _ => (litF_zL _ i).symm))
          rw [zL_len] at HSRC
          have hln : (leBytes tv tl).length = (zL (leBytes tv tl)).length := (zL_len _).symm
          obtain ⟨ts, hts⟩ : ∃ cs, zL (leBytes tv tl) = cs := ⟨_, rfl⟩
          have HTS := Lib.hid hts
          have HTN := Lib.hid (show ts.length ≤ 8 by rw [← hts, zL_len, leBytes_len]; exact ht8)
          rw [hts] at HSRC hln
          rw [hln] at HSRC ⊢
          clear hsl hbl hln hts ht8 b5 b6 b7
          go_wp2_with (at_builtin; refine wpList_appBL rfl (.tmp 49) (.tmp 52) 26 rfl Bs _ _ rfl HO.out _ rfl ts HSRC.out (by have := HCL.out; have := HPB.out; have := HTN.out; simp only [List.length_append]; omega) HBs.out ?_; intro A5 cap5 w5 hown5 hg5 hat5)
          go_ret2
          have hE : (PL ++ cs) ++ ts = zL (encM F x) := by
            unfold encM
            rw [zL_app, zL_app, HPL.out, HCS.out, HHY.out, HHT.out, HTS.out]
          have hN : ((PL ++ cs).length + ts.length) = (encM F x).length := by
            rw [← List.length_append, hE, zL_len]
          rw [hE] at hown5
          have HE5 := HE.out.grew HO.out hg5 HH.out.1 HBs.out
          rw [hN] at hown5
          refine ⟨A5, cap5, ?_, hown5.weaken (by have := HH.out.1; have := HE5.lt; omega), HE5.bel⟩
          rw [show (encM F x).length = PL.length + cs.length + ts.length by rw [← hN, List.length_append]]
          rfl
        · rw [t5] at b7
          generalize hyl : tailVal F x = tv at *
          generalize htl : tailLen F.tail = tl at *
          clear t5
          have HHY := Lib.hid hyl
          have HHT := Lib.hid htl
          clear hyl htl hd2 him htv
          go_upto_region 13 with (fail)
          go_wp2_with fail
          refine HTL.out.mono ?_
          rintro e u ⟨rfl, rfl⟩
          go_wp2_with fail
          refine HBT.out.mono ?_
          rintro e Wb ⟨gt, ct, rfl, hsl, hbl⟩
          replace HE := Lib.hid (HE.out.below hbl)
          replace HO := Lib.hid (HO.out.below hbl)
          replace HBs := Lib.hid (Nat.le_trans HBs.out hbl.size)
          have HSRC := Lib.hid (src_bl (c := ct) (cs := zL (leBytes tv tl)) hsl (by rw [zL_len]) (fun i _ => (litF_zL _ i).symm))
          rw [zL_len] at HSRC
          have hln : (leBytes tv tl).length = (zL (leBytes tv tl)).length := (zL_len _).symm
          obtain ⟨ts, hts⟩ : ∃ cs, zL (leBytes tv tl) = cs := ⟨_, rfl⟩
          have HTS := Lib.hid hts
          have HTN := Lib.hid (show ts.length ≤ 8 by rw [← hts, zL_len, leBytes_len]; exact ht8)
          rw [hts] at HSRC hln
          rw [hln] at HSRC ⊢
          clear hsl hbl hln hts ht8 b5 b6 b7
          go_wp2_with (at_builtin; refine wpList_appBL rfl (.tmp 49) (.tmp 52) 26 rfl Bs _ _ rfl HO.out _ rfl ts HSRC.out (by have := HCL.out; have := HPB.out; have := HTN.out; simp only [List.length_append]; omega) HBs.out ?_; intro A5 cap5 w5 hown5 hg5 hat5)
          go_ret2
          have hE : (PL ++ cs) ++ ts = zL (encM F x) := by
            unfold encM
            rw [zL_app, zL_app, HPL.out, HCS.out, HHY.out, HHT.out, HTS.out]
          have hN : ((PL ++ cs).length + ts.length) = (encM F x).length := by
            rw [← List.length_append, hE, zL_len]
          rw [hE] at hown5
          have HE5 := HE.out.grew HO.out hg5 HH.out.1 HBs.out
          rw [hN] at hown5
          refine ⟨A5, cap5, ?_, hown5.weaken (by have := HH.out.1; have := HE5.lt; omega), HE5.bel⟩
          rw [show (encM F x).length = PL.length + cs.length + ts.length by rw [← hN, List.length_append]]
          rfl
      · have et : tailVal F x = x.imm := by unfold tailVal; rw [if_neg t5]
        rw [← et] at b5
        have d5 : ((F.tail : Int) == 5) = false := nat_beq_false (b := 5) (fun h => t5 (.inl h))
        have d6 : ((F.tail : Int) == 6) = false := nat_beq_false (b := 6) (fun h => t5 (.inr h))
        clear et
        generalize hyl : tailVal F x = tv at *
        generalize htl : tailLen F.tail = tl at *
        clear t5
        have HHY := Lib.hid hyl
        have HHT := Lib.hid htl
        clear hyl htl hd2 him htv
        go_upto_region 13 with (fail)
        go_wp2_with fail
        refine HTL.out.mono ?_
        rintro e u ⟨rfl, rfl⟩
        go_wp2_with fail
        refine HBT.out.mono ?_
        rintro e Wb ⟨gt, ct, rfl, hsl, hbl⟩
        replace HE := Lib.hid (HE.out.below hbl)
        replace HO := Lib.hid (HO.out.below hbl)
        replace HBs := Lib.hid (Nat.le_trans HBs.out hbl.size)
        have HSRC := Lib.hid (src_bl (c := ct) (cs := zL (leBytes tv tl)) hsl (by rw [zL_len]) (fun i _ => (litF_zL _ i).symm))
        rw [zL_len] at HSRC
        have hln : (leBytes tv tl).length = (zL (leBytes tv tl)).length := (zL_len _).symm
        obtain ⟨ts, hts⟩ : ∃ cs, zL (leBytes tv tl) = cs := ⟨_, rfl⟩
        have HTS := Lib.hid hts
        have HTN := Lib.hid (show ts.length ≤ 8 by rw [← hts, zL_len, leBytes_len]; exact ht8)
        rw [hts] at HSRC hln
        rw [hln] at HSRC ⊢
        clear hsl hbl hln hts ht8 b5 b6 b7
        go_wp2_with (at_builtin; refine wpList_appBL rfl (.tmp 49) (.tmp 52) 26 rfl Bs _ _ rfl HO.out _ rfl ts HSRC.out (by have := HCL.out; have := HPB.out; have := HTN.out; simp only [List.length_append]; omega) HBs.out ?_; intro A5 cap5 w5 hown5 hg5 hat5)
        go_ret2
        have hE : (PL ++ cs) ++ ts = zL (encM F x) := by
          unfold encM
          rw [zL_app, zL_app, HPL.out, HCS.out, HHY.out, HHT.out, HTS.out]
        have hN : ((PL ++ cs).length + ts.length) = (encM F x).length := by
          rw [← List.length_append, hE, zL_len]
        rw [hE] at hown5
        have HE5 := HE.out.grew HO.out hg5 HH.out.1 HBs.out
        rw [hN] at hown5
        refine ⟨A5, cap5, ?_, hown5.weaken (by have := HH.out.1; have := HE5.lt; omega), HE5.bel⟩
        rw [show (encM F x).length = PL.length + cs.length + ts.length by rw [← hN, List.length_append]]
        rfl
    · rw [hT] at hpb
      rw [hV] at hpb ⊢
      rw [if_pos rfl] at hpb
      have HPL0 := Lib.hid (show zL (preBytes (preF F.pre) x.a x.b) = [] ++ [(V : Int)] by rw [hpb]; rfl)
      clear hpb hT hV
      have HE7 := Lib.hid (HE.out.below ((Below.refl _ _).alloc (Nat.le_refl _) (.cells #[.int .u8 V] 5)))
      have HO7 := Lib.hid (HO.out.alloc (.cells #[.int .u8 V] 5))
      have HL7 := Lib.hid (show Bs ≤ (W8.alloc (.cells #[.int .u8 V] 5)).heap.size by have := HLB.out; simp; omega)
      go_upto_region 9 with (at_builtin; refine wpList_appBL rfl (.tmp 28) (.tmp 30) 26 rfl Bs _ _ rfl HO7.out _ rfl [(V : Int)] (src_new W8 [(V : Int)] 1) (by simp) HL7.out ?_; intro A2 cap2 W9 hown2 hg2 hat2)
      replace HE := Lib.hid (HE7.out.grew HO7.out hg2 HH.out.1 HL7.out)
      replace HLB := Lib.hid (Nat.le_trans HL7.out hg2.size)
      replace HO := Lib.hid (show OwnBL W9 Bs (.slice A2 1 cap2) ([] ++ [(V : Int)]) from hown2)
      clear hown2 hg2 hat2 HE7 HO7 HL7
      generalize hPL : ([] : List Int) ++ [(V : Int)] = PL at HPL0 HO
      have HPL := HPL0
      have HPB := Lib.hid (show PL.length ≤ 1 by rw [← hPL]; simp)
      clear hPL HPL0
      have HC := Lib.hid (codeOf_any h 0 F x W9 HOK.out HE.out.form HX.out)
      unfold insV at HC
      obtain ⟨b0, b1, b2, b3, b4, b5, b6⟩ := HE.out.boxc
      go_upto_region 9 with (fail)
      go_wp2_with fail
      refine HC.out.mono ?_
      rintro e Wa ⟨gc, cc, rfl, hsl, hbl⟩
      replace HE := Lib.hid (HE.out.below hbl)
      replace HO := Lib.hid (HO.out.below hbl)
      have HBs := Lib.hid (Nat.le_trans HLB.out hbl.size)
      have HSRC := Lib.hid (src_bl (c := cc) (cs := zL (codeBytes F x)) hsl (by rw [zL_len]) (fun i _ => (litF_zL _ i).symm))
      have hcl : (codeBytes F x).length ≤ 2 := by unfold codeBytes; split <;> (try split) <;> simp
      have HCL := Lib.hid hcl
      rw [zL_len] at HSRC
      obtain ⟨n1, hn1⟩ : ∃ n, (codeBytes F x).length = n := ⟨_, rfl⟩
      obtain ⟨cs, hcs⟩ : ∃ cs, zL (codeBytes F x) = cs := ⟨_, rfl⟩
      have hcsn : cs.length = n1 := by rw [← hcs, zL_len, hn1]
      rw [hn1] at HSRC HCL ⊢
      rw [hcs, ← hcsn] at HSRC
      rw [← hcsn] at HCL ⊢
      have HCS := Lib.hid hcs
      clear hsl hbl HC hcl hn1 hcs hcsn b0 b1 b2 b3 b4 b5 b6
      go_upto_region 10 with (at_builtin; refine wpList_appBL rfl (.tmp 32) (.tmp 34) 26 rfl Bs _ _ rfl HO.out _ rfl cs HSRC.out (by have := HCL.out; have := HPB.out; omega) HBs.out ?_; intro A3 cap3 w3 hown3 hg3 hat3)
      replace HE := Lib.hid (HE.out.grew HO.out hg3 HH.out.1 HBs.out)
      replace HO := Lib.hid hown3
      replace HBs := Lib.hid (Nat.le_trans HBs.out hg3.size)
      clear hown3 hg3 hat3 HSRC
      obtain ⟨b5, b6, b7⟩ := HE.out.cells
      have HTL := Lib.hid (tailLen_any h 0 F w3 HOK.out HE.out.form)
      have hdd : IntKind.u64.wrap x.disp = ((x.disp % 18446744073709551616).toNat : Int) := by rw [IntKind.wrap_u64]; omega
      have hd2 : (x.disp % 18446744073709551616).toNat < 18446744073709551616 := by omega
      have him : x.imm < 18446744073709551616 := HX.out.imm
      have ht8 := tailLen_bd F.tail
      have htv : tailVal F x < 18446744073709551616 := by unfold tailVal; split <;> assumption
      have HBT := Lib.hid (bytes_new (tailVal F x) (tailLen F.tail) w3 htv ht8)
      by_cases t5 : F.tail = 5 ∨ F.tail = 6
      · have et : tailVal F x = (x.disp % 18446744073709551616).toNat := by unfold tailVal; rw [if_pos t5]
        rw [← et] at hdd
        clear et
        rcases t5 with t5 | t5
        · rw [t5] at b7
          generalize hyl : tailVal F x = tv at *
          generalize htl : tailLen F.tail = tl at *
          clear t5
          have HHY := Lib.hid hyl
          have HHT := Lib.hid htl
          clear hyl htl hd2 him htv
          go_upto_region 13 with (fail)
          go_wp2_with fail
          refine HTL.out.mono ?_
          rintro e u ⟨rfl, rfl⟩
          go_wp2_with fail
          refine HBT.out.mono ?_
          rintro e Wb ⟨gt, ct, rfl, hsl, hbl⟩
          replace HE := Lib.hid (HE.out.below hbl)
          replace HO := Lib.hid (HO.out.below hbl)
          replace HBs := Lib.hid (Nat.le_trans HBs.out hbl.size)
          have HSRC := Lib.hid (src_bl (c := ct) (cs := zL (leBytes tv tl)) hsl (by rw [zL_len]) (fun i _ => (litF_zL _ i).symm))
          rw [zL_len] at HSRC
          have hln : (leBytes tv tl).length = (zL (leBytes tv tl)).length := (zL_len _).symm
          obtain ⟨ts, hts⟩ : ∃ cs, zL (leBytes tv tl) = cs := ⟨_, rfl⟩
          have HTS := Lib.hid hts
          have HTN := Lib.hid (show ts.length ≤ 8 by rw [← hts, zL_len, leBytes_len]; exact ht8)
          rw [hts] at HSRC hln
          rw [hln] at HSRC ⊢
          clear hsl hbl hln hts ht8 b5 b6 b7
          go_wp2_with (at_builtin; refine wpList_appBL rfl (.tmp 49) (.tmp 52) 26 rfl Bs _ _ rfl HO.out _ rfl ts HSRC.out (by have := HCL.out; have := HPB.out; have := HTN.out; simp only [List.length_append]; omega) HBs.out ?_; intro A5 cap5 w5 hown5 hg5 hat5)
          go_ret2
          have hE : (PL ++ cs) ++ ts = zL (encM F x) := by
            unfold encM
            rw [zL_app, zL_app, HPL.out, HCS.out, HHY.out, HHT.out, HTS.out]
          have hN : ((PL ++ cs).length + ts.length) = (encM F x).length := by
            rw [← List.length_append, hE, zL_len]
          rw [hE] at hown5
          have HE5 := HE.out.grew HO.out hg5 HH.out.1 HBs.out
          rw [hN] at hown5
          refine ⟨A5, cap5, ?_, hown5.weaken (by have := HH.out.1; have := HE5.lt; omega), HE5.bel⟩
          rw [show (encM F x).length = PL.length + cs.length + ts.length by rw [← hN, List.length_append]]
          rfl
        · rw [t5] at b7
          generalize hyl : tailVal F x = tv at *
          generalize htl : tailLen F.tail = tl at *
          clear t5
          have HHY := Lib.hid hyl
          have HHT := Lib.hid htl
          clear hyl htl hd2 him htv
          go_upto_region 13 with (fail)
          go_wp2_with fail
          refine HTL.out.mono ?_
          rintro e u ⟨rfl, rfl⟩
          go_wp2_with fail
          refine HBT.out.mono ?_
          rintro e Wb ⟨gt, ct, rfl, hsl, hbl⟩
          replace HE := Lib.hid (HE.out.below hbl)
          replace HO := Lib.hid (HO.out.below hbl)
          replace HBs := Lib.hid (Nat.le_trans HBs.out hbl.size)
          have HSRC := Lib.hid (src_bl (c := ct) (cs := zL (leBytes tv tl)) hsl (by rw [zL_len]) (fun i _ => (litF_zL _ i).symm))
          rw [zL_len] at HSRC
          have hln : (leBytes tv tl).length = (zL (leBytes tv tl)).length := (zL_len _).symm
          obtain ⟨ts, hts⟩ : ∃ cs, zL (leBytes tv tl) = cs := ⟨_, rfl⟩
          have HTS := Lib.hid hts
          have HTN := Lib.hid (show ts.length ≤ 8 by rw [← hts, zL_len, leBytes_len]; exact ht8)
          rw [hts] at HSRC hln
          rw [hln] at HSRC ⊢
          clear hsl hbl hln hts ht8 b5 b6 b7
          go_wp2_with (at_builtin; refine wpList_appBL rfl (.tmp 49) (.tmp 52) 26 rfl Bs _ _ rfl HO.out _ rfl ts HSRC.out (by have := HCL.out; have := HPB.out; have := HTN.out; simp only [List.length_append]; omega) HBs.out ?_; intro A5 cap5 w5 hown5 hg5 hat5)
          go_ret2
          have hE : (PL ++ cs) ++ ts = zL (encM F x) := by
            unfold encM
            rw [zL_app, zL_app, HPL.out, HCS.out, HHY.out, HHT.out, HTS.out]
          have hN : ((PL ++ cs).length + ts.length) = (encM F x).length := by
            rw [← List.length_append, hE, zL_len]
          rw [hE] at hown5
          have HE5 := HE.out.grew HO.out hg5 HH.out.1 HBs.out
          rw [hN] at hown5
          refine ⟨A5, cap5, ?_, hown5.weaken (by have := HH.out.1; have := HE5.lt; omega), HE5.bel⟩
          rw [show (encM F x).length = PL.length + cs.length + ts.length by rw [← hN, List.length_append]]
          rfl
      · have et : tailVal F x = x.imm := by unfold tailVal; rw [if_neg t5]
        rw [← et] at b5
        have d5 : ((F.tail : Int) == 5) = false := nat_beq_false (b := 5) (fun h => t5 (.inl h))
        have d6 : ((F.tail : Int) == 6) = false := nat_beq_false (b := 6) (fun h => t5 (.inr h))
        clear et
        generalize hyl : tailVal F x = tv at *
        generalize htl : tailLen F.tail = tl at *
        clear t5
        have HHY := Lib.hid hyl
        have HHT := Lib.hid htl
        clear hyl htl hd2 him htv
        go_upto_region 13 with (fail)
        go_wp2_with fail
        refine HTL.out.mono ?_
        rintro e u ⟨rfl, rfl⟩
        go_wp2_with fail
        refine HBT.out.mono ?_
        rintro e Wb ⟨gt, ct, rfl, hsl, hbl⟩
        replace HE := Lib.hid (HE.out.below hbl)
        replace HO := Lib.hid (HO.out.below hbl)
        replace HBs := Lib.hid (Nat.le_trans HBs.out hbl.size)
        have HSRC := Lib.hid (src_bl (c := ct) (cs := zL (leBytes tv tl)) hsl (by rw [zL_len]) (fun i _ => (litF_zL _ i).symm))
        rw [zL_len] at HSRC
        have hln : (leBytes tv tl).length = (zL (leBytes tv tl)).length := (zL_len _).symm
        obtain ⟨ts, hts⟩ : ∃ cs, zL (leBytes tv tl) = cs := ⟨_, rfl⟩
        have HTS := Lib.hid hts
        have HTN := Lib.hid (show ts.length ≤ 8 by rw [← hts, zL_len, leBytes_len]; exact ht8)
        rw [hts] at HSRC hln
        rw [hln] at HSRC ⊢
        clear hsl hbl hln hts ht8 b5 b6 b7
        go_wp2_with (at_builtin; refine wpList_appBL rfl (.tmp 49) (.tmp 52) 26 rfl Bs _ _ rfl HO.out _ rfl ts HSRC.out (by have := HCL.out; have := HPB.out; have := HTN.out; simp only [List.length_append]; omega) HBs.out ?_; intro A5 cap5 w5 hown5 hg5 hat5)
        go_ret2
        have hE : (PL ++ cs) ++ ts = zL (encM F x) := by
          unfold encM
          rw [zL_app, zL_app, HPL.out, HCS.out, HHY.out, HHT.out, HTS.out]
        have hN : ((PL ++ cs).length + ts.length) = (encM F x).length := by
          rw [← List.length_append, hE, zL_len]
        rw [hE] at hown5
        have HE5 := HE.out.grew HO.out hg5 HH.out.1 HBs.out
        rw [hN] at hown5
        refine ⟨A5, cap5, ?_, hown5.weaken (by have := HH.out.1; have := HE5.lt; omega), HE5.bel⟩
        rw [show (encM F x).length = PL.length + cs.length + ts.length by rw [← hN, List.length_append]]
        rfl

  · go_simp
    have HS3 := Lib.hid (show Below w2.heap.size w2 (w2.drew.alloc (.cells #[.int .i64 0, .int .i64 0, .int .i64 0, .int .i64 0, .int .u8 0, .int .i64 0, .int .u8 0, .int .i64 0] 40)) from HS.out.alloc (Nat.le_refl _) _)
    refine hK.out _ _ HS3.out (fun _ => trivial) ?_
    clear hK K
    try simp only [Act.put, List.setIfInBounds_toArray, List.set_cons_zero, List.set_cons_succ]
    refine wpAnyK_one (i := 2) (by kernel_rfl) rfl (fun K hK => ?_)
    go_simp
    go_at_call 11
    refine (HFD.out _ HS3.out).mono ?_
    rintro e w4 ⟨rfl, hb4⟩
    have HS4 := Lib.hid (HS3.out.trans (hb4.mono HS3.out.size))
    have HB4 := Lib.hid hb4
    clear hb4
    refine hK.out _ _ HS4.out (fun _ => trivial) ?_
    clear hK K
    try simp only [Act.put, List.setIfInBounds_toArray, List.set_cons_zero, List.set_cons_succ]
    refine wpAnyK_take (i := 3) (oi := ?_) (v := ?_) ?_ (by kernel_rfl) (by kernel_rfl) (by kernel_rfl) (fun _ _ _ h => h) (by decide) ?_ HS4.out (fun _ => trivial) ?_
    rotate_left 2
    · (simp only [List.getElem?_toArray, List.getElem?_cons_succ, List.getElem?_cons_zero]; rfl)
    · (first | exact Or.inr ⟨by rfl, rfl⟩ | (refine Or.inl ⟨by rfl, ?_⟩; intro W hSw; clear hSw; go_simp; try with_reducible rfl))
    try simp only [Act.put, List.setIfInBounds_toArray, List.set_cons_zero, List.set_cons_succ]
    refine wpAnyK_take (i := 4) (oi := ?_) (v := ?_) ?_ (by kernel_rfl) (by kernel_rfl) (by kernel_rfl) (fun _ _ _ h => h) (by decide) ?_ HS4.out (fun _ => trivial) ?_
    rotate_left 2
    · (simp only [List.getElem?_toArray, List.getElem?_cons_succ, List.getElem?_cons_zero]; rfl)
    · (first | exact Or.inr ⟨by rfl, rfl⟩ | (refine Or.inl ⟨by rfl, ?_⟩; intro W hSw; clear hSw; go_simp; try with_reducible rfl))
    try simp only [Act.put, List.setIfInBounds_toArray, List.set_cons_zero, List.set_cons_succ]
    refine wpAnyK_take (i := 5) (oi := ?_) (v := ?_) ?_ (by kernel_rfl) (by kernel_rfl) (by kernel_rfl) (fun _ _ _ h => h) (by decide) ?_ HS4.out (fun _ => trivial) ?_
    rotate_left 2
    · (simp only [List.getElem?_toArray, List.getElem?_cons_succ, List.getElem?_cons_zero]; rfl)
    · (first | exact Or.inr ⟨by rfl, rfl⟩ | (refine Or.inl ⟨by rfl, ?_⟩; intro W hSw; clear hSw; go_simp; try with_reducible rfl))
    try simp only [Act.put, List.setIfInBounds_toArray, List.set_cons_zero, List.set_cons_succ]
    have hrow4 : w4.heap[w2.heap.size]? = some (.cells #[.int .i64 0, .int .i64 0, .int .i64 0, .int .i64 0, .int .u8 0, .int .i64 0, .int .u8 0, .int .i64 0] 40 (0, 0)) := (HB4.out.block _ (by simp)).trans (heap_alloc_new w2.drew _)
    have HR4 := Lib.hid hrow4
    clear hrow4
    refine wpAnyK_one (i := 7) (by kernel_rfl) rfl (fun K hK => ?_)
    rw [if_pos (by rfl)]
    refine wp_store_row 40 _ _ rfl w2.heap.size #[.int .i64 F.op, .int .i64 F.alu, .int .i64 F.cc, .int .i64 F.pre, .int .u8 F.code, .int .i64 F.regs, .int .u8 F.ext, .int .i64 F.tail] rfl rfl 40 #[.int .i64 0, .int .i64 0, .int .i64 0, .int .i64 0, .int .u8 0, .int .i64 0, .int .u8 0, .int .i64 0] HR4.out rfl rfl (formRow_one F) ?_
    have HS5 := Lib.hid (show Below w2.heap.size w2 (w4.setRow w2.heap.size #[.int .i64 F.op, .int .i64 F.alu, .int .i64 F.cc, .int .i64 F.pre, .int .u8 F.code, .int .i64 F.regs, .int .u8 F.ext, .int .i64 F.tail]) from below_setRow HS4.out (Nat.le_refl _) _)
    refine hK.out _ _ HS5.out (fun _ => trivial) ?_
    clear hK K
    try simp only [Act.put, List.setIfInBounds_toArray, List.set_cons_zero, List.set_cons_succ]
    refine wpAnyK_take (i := 8) (oi := ?_) (v := ?_) ?_ (by kernel_rfl) (by kernel_rfl) (by kernel_rfl) (fun _ _ _ h => h) (by decide) ?_ HS5.out (fun _ => trivial) ?_
    rotate_left 2
    · (simp only [List.getElem?_toArray, List.getElem?_cons_succ, List.getElem?_cons_zero]; rfl)
    · (first | exact Or.inr ⟨by rfl, rfl⟩ | (refine Or.inl ⟨by rfl, ?_⟩; intro W hSw; clear hSw; go_simp; try with_reducible rfl))
    try simp only [Act.put, List.setIfInBounds_toArray, List.set_cons_zero, List.set_cons_succ]
    refine wpAnyK_done (by kernel_rfl) ?_ _
    refine NoPanic.normal ?_
    have HE := Lib.hid (show ESt w x F w2.heap.size (w4.setRow w2.heap.size #[.int .i64 F.op, .int .i64 F.alu, .int .i64 F.cc, .int .i64 F.pre, .int .u8 F.code, .int .i64 F.regs, .int .u8 F.ext, .int .i64 F.tail]) from ⟨HB2.out.trans (HS5.out.mono HB2.out.size), HROW.out _ HS5.out, setRow_heap _ _ _ _ _ _ HR4.out, by have := HG2.out; have := HSZ.out; omega⟩)
    generalize w4.setRow w2.heap.size #[.int .i64 F.op, .int .i64 F.alu, .int .i64 F.cc, .int .i64 F.pre, .int .u8 F.code, .int .i64 F.regs, .int .u8 F.ext, .int .i64 F.tail] = W5 at *
    clear HS3 HS4 HS5 HB4 HS HR4 HROW HFD HFR HBX HB2
    generalize w2.heap.size = h at *
    go_upto_region 6 with (fail)
    have HO := Lib.hid (OwnBL.made0 W5 W5.heap.size (Nat.le_refl _))
    have hh5 : h < W5.heap.size := HE.out.form.lt
    have HH := Lib.hid (show h < W5.heap.size ∧ W5.heap.size ≤ (W5.alloc (.cells #[] 5)).heap.size from ⟨hh5, by simp⟩)
    clear hh5
    replace HE := Lib.hid (HE.out.below ((Below.refl _ _).alloc (Nat.le_refl _) (.cells #[] 5)))
    generalize W5.alloc (.cells #[] 5) = W6 at *
    generalize W5.heap.size = Bs at *
    have HS6 := Lib.hid (show Below W6.heap.size W6 W6.drew from (Below.refl _ _).drew)
    have HP := Lib.hid (show ∀ W, Below W6.heap.size W6 W → _ from fun W hW => prefix_any h 0 F W HOK.out (HE.out.below hW).form)
    have HROW6 := Lib.hid (show ∀ W, Below W6.heap.size W6 W → W.heap[w.heap.size]? = some (.cells #[.int .i64 x.op, .int .i64 x.a, .int .i64 x.b, .int .i64 x.alu, .int .i64 x.cc, .int .u64 x.imm, .int .i64 x.disp] 24 (0, 0)) from fun W hW => (HE.out.below hW).box)
    have hp3 : (preF F.pre).base ≤ 255 ∧ (preF F.pre).bitA ≤ 255 ∧ (preF F.pre).bitB ≤ 255 := by
      unfold preF; split <;> simp
    have HBO := Lib.hid (fun W => byteOf_any (preF F.pre) x W hp3.1 hp3.2.1 hp3.2.2 HX.out)
    unfold insV at HBO
    clear hp3
    refine wp_region_noPanic ?_
    refine wp_region_K (fun W => Below W6.heap.size W6 W) (fun _ => True) 99 (by kernel_rfl) ?_
    refine wpAnyK_take (i := 1) (oi := ?_) (v := ?_) ?_ (by kernel_rfl) (by kernel_rfl) (by kernel_rfl) (fun _ _ _ h => h) (by decide) ?_ HS6.out (fun _ => trivial) ?_
    rotate_left 2
    · (simp only [List.getElem?_toArray, List.getElem?_cons_succ, List.getElem?_cons_zero]; rfl)
    · refine yieldsIf_load_row_g 24 (.tmp 1) w.heap.size 24 #[.int .i64 x.op, .int .i64 x.a, .int .i64 x.b, .int .i64 x.alu, .int .i64 x.cc, .int .u64 x.imm, .int .i64 x.disp] (0, 0) ?_ ?_ ?_ ?_ ?_ ?_
      · rfl
      · rfl
      · rfl
      · exact fun W hW => HROW6.out W hW
      · rfl
      · rfl
    try simp only [Act.put, List.setIfInBounds_toArray, List.set_cons_zero, List.set_cons_succ]
    refine wpAnyK_one (i := 0) (by kernel_rfl) rfl (fun K hK => ?_)
    go_simp
    go_at_call 12
    refine (HP.out _ HS6.out).mono ?_
    rintro e W7 ⟨rfl, hb4⟩
    have HS7 := Lib.hid (HS6.out.trans (hb4.mono HS6.out.size))
    clear hb4
    refine hK.out _ _ HS7.out (fun _ => trivial) ?_
    clear hK K
    try simp only [Act.put, List.setIfInBounds_toArray, List.set_cons_zero, List.set_cons_succ]
    refine wpAnyK_one (i := 2) (by kernel_rfl) rfl (fun K hK => ?_)
    go_simp
    go_at_call 13
    refine (HBO.out _).mono ?_
    rintro e W8 ⟨rfl, hb4⟩
    have HS8 := Lib.hid (HS7.out.trans (hb4.mono HS7.out.size))
    clear hb4
    refine hK.out _ _ HS8.out (fun _ => trivial) ?_
    clear hK K
    try simp only [Act.put, List.setIfInBounds_toArray, List.set_cons_zero, List.set_cons_succ]
    refine wpAnyK_take (i := 3) (oi := ?_) (v := ?_) ?_ (by kernel_rfl) (by kernel_rfl) (by kernel_rfl) (fun _ _ _ h => h) (by decide) ?_ HS8.out (fun _ => trivial) ?_
    rotate_left 2
    · (simp only [List.getElem?_toArray, List.getElem?_cons_succ, List.getElem?_cons_zero]; rfl)
    · (first | exact Or.inr ⟨by rfl, rfl⟩ | (refine Or.inl ⟨by rfl, ?_⟩; intro W hSw; clear hSw; go_simp; try with_reducible rfl))
    try simp only [Act.put, List.setIfInBounds_toArray, List.set_cons_zero, List.set_cons_succ]
    refine wpAnyK_take (i := 4) (oi := ?_) (v := ?_) ?_ (by kernel_rfl) (by kernel_rfl) (by kernel_rfl) (fun _ _ _ h => h) (by decide) ?_ HS8.out (fun _ => trivial) ?_
    rotate_left 2
    · (simp only [List.getElem?_toArray, List.getElem?_cons_succ, List.getElem?_cons_zero]; rfl)
    · (first | exact Or.inr ⟨by rfl, rfl⟩ | (refine Or.inl ⟨by rfl, ?_⟩; intro W hSw; clear hSw; go_simp; try with_reducible rfl))
    try simp only [Act.put, List.setIfInBounds_toArray, List.set_cons_zero, List.set_cons_succ]
    refine wpAnyK_take (i := 5) (oi := ?_) (v := ?_) ?_ (by kernel_rfl) (by kernel_rfl) (by kernel_rfl) (fun _ _ _ h => h) (by decide) ?_ HS8.out (fun _ => trivial) ?_
    rotate_left 2
    · (simp only [List.getElem?_toArray, List.getElem?_cons_succ, List.getElem?_cons_zero]; rfl)
    · (first | exact Or.inr ⟨by rfl, rfl⟩ | (refine Or.inl ⟨by rfl, ?_⟩; intro W hSw; clear hSw; go_simp; try with_reducible rfl))
    try simp only [Act.put, List.setIfInBounds_toArray, List.set_cons_zero, List.set_cons_succ]
    refine wpAnyK_take (i := 6) (oi := ?_) (v := ?_) ?_ (by kernel_rfl) (by kernel_rfl) (by kernel_rfl) (fun _ _ _ h => h) (by decide) ?_ HS8.out (fun _ => trivial) ?_
    rotate_left 2
    · (simp only [List.getElem?_toArray, List.getElem?_cons_succ, List.getElem?_cons_zero]; rfl)
    · (first | exact Or.inr ⟨by rfl, rfl⟩ | (refine Or.inl ⟨by rfl, ?_⟩; intro W hSw; clear hSw; go_simp; try with_reducible rfl))
    try simp only [Act.put, List.setIfInBounds_toArray, List.set_cons_zero, List.set_cons_succ]
    refine wpAnyK_take (i := 7) (oi := ?_) (v := ?_) ?_ (by kernel_rfl) (by kernel_rfl) (by kernel_rfl) (fun _ _ _ h => h) (by decide) ?_ HS8.out (fun _ => trivial) ?_
    rotate_left 2
    · (simp only [List.getElem?_toArray, List.getElem?_cons_succ, List.getElem?_cons_zero]; rfl)
    · (first | exact Or.inr ⟨by rfl, rfl⟩ | (refine Or.inl ⟨by rfl, ?_⟩; intro W hSw; clear hSw; go_simp; try with_reducible rfl))
    try simp only [Act.put, List.setIfInBounds_toArray, List.set_cons_zero, List.set_cons_succ]
    refine wpAnyK_done (by kernel_rfl) ?_ _
    refine NoPanic.normal ?_
    replace HE := Lib.hid (HE.out.below HS8.out)
    replace HO := Lib.hid (HO.out.below HS8.out)
    have HLB := Lib.hid (Nat.le_trans HH.out.2 HS8.out.size)
    clear HS6 HS7 HS8 HP HROW6 HBO
    have hpb := preTold_bytes (preF F.pre) x.a x.b
    obtain ⟨V, hV⟩ : ∃ V, (preTold (preF F.pre) x.a x.b).1 = V := ⟨_, rfl⟩
    cases hT : (preTold (preF F.pre) x.a x.b).2
    · rw [hT] at hpb
      rw [hV]
      rw [if_neg (by decide)] at hpb
      have HPL := Lib.hid (show zL (preBytes (preF F.pre) x.a x.b) = [] by rw [hpb]; rfl)
      clear hpb hT hV
      generalize hPL : ([] : List Int) = PL at HPL HO
      have HPB := Lib.hid (show PL.length ≤ 1 by rw [← hPL]; simp)
      clear hPL
      generalize W8 = W9 at *
      have HC := Lib.hid (codeOf_any h 0 F x W9 HOK.out HE.out.form HX.out)
      unfold insV at HC
      obtain ⟨b0, b1, b2, b3, b4, b5, b6⟩ := HE.out.boxc
      go_upto_region 9 with (fail)
      go_wp2_with fail
      refine HC.out.mono ?_
      rintro e Wa ⟨gc, cc, rfl, hsl, hbl⟩
      replace HE := Lib.hid (HE.out.below hbl)
      replace HO := Lib.hid (HO.out.below hbl)
      have HBs := Lib.hid (Nat.le_trans HLB.out hbl.size)
      have HSRC := Lib.hid (src_bl (c := cc) (cs := zL (codeBytes F x)) hsl (by rw [zL_len]) (fun i _ => (litF_zL _ i).symm))
      have hcl : (codeBytes F x).length ≤ 2 := by unfold codeBytes; split <;> (try split) <;> simp
      have HCL := Lib.hid hcl
      rw [zL_len] at HSRC
      obtain ⟨n1, hn1⟩ : ∃ n, (codeBytes F x).length = n := ⟨_, rfl⟩
      obtain ⟨cs, hcs⟩ : ∃ cs, zL (codeBytes F x) = cs := ⟨_, rfl⟩
      have hcsn : cs.length = n1 := by rw [← hcs, zL_len, hn1]
      rw [hn1] at HSRC HCL ⊢
      rw [hcs, ← hcsn] at HSRC
      rw [← hcsn] at HCL ⊢
      have HCS := Lib.hid hcs
      clear hsl hbl HC hcl hn1 hcs hcsn b0 b1 b2 b3 b4 b5 b6
      go_upto_region 10 with (at_builtin; refine wpList_appBL rfl (.tmp 32) (.tmp 34) 26 rfl Bs _ _ rfl HO.out _ rfl cs HSRC.out (by have := HCL.out; have := HPB.out; omega) HBs.out ?_; intro A3 cap3 w3 hown3 hg3 hat3)
      replace HE := Lib.hid (HE.out.grew HO.out hg3 HH.out.1 HBs.out)
      replace HO := Lib.hid hown3
      replace HBs := Lib.hid (Nat.le_trans HBs.out hg3.size)
      clear hown3 hg3 hat3 HSRC
      obtain ⟨b5, b6, b7⟩ := HE.out.cells
      have HTL := Lib.hid (tailLen_any h 0 F w3 HOK.out HE.out.form)
      have hdd : IntKind.u64.wrap x.disp = ((x.disp % 18446744073709551616).toNat : Int) := by rw [IntKind.wrap_u64]; omega
      have hd2 : (x.disp % 18446744073709551616).toNat < 18446744073709551616 := by omega
      have him : x.imm < 18446744073709551616 := HX.out.imm
      have ht8 := tailLen_bd F.tail
      have htv : tailVal F x < 18446744073709551616 := by unfold tailVal; split <;> assumption
      have HBT := Lib.hid (bytes_new (tailVal F x) (tailLen F.tail) w3 htv ht8)
      by_cases t5 : F.tail = 5 ∨ F.tail = 6
      · have et : tailVal F x = (x.disp % 18446744073709551616).toNat := by unfold tailVal; rw [if_pos t5]
        rw [← et] at hdd
        clear et
        rcases t5 with t5 | t5
        · rw [t5] at b7
          generalize hyl : tailVal F x = tv at *
          generalize htl : tailLen F.tail = tl at *
          clear t5
          have HHY := Lib.hid hyl
          have HHT := Lib.hid htl
          clear hyl htl hd2 him htv
          go_upto_region 13 with (fail)
          go_wp2_with fail
          refine HTL.out.mono ?_
          rintro e u ⟨rfl, rfl⟩
          go_wp2_with fail
          refine HBT.out.mono ?_
          rintro e Wb ⟨gt, ct, rfl, hsl, hbl⟩
          replace HE := Lib.hid (HE.out.below hbl)
          replace HO := Lib.hid (HO.out.below hbl)
          replace HBs := Lib.hid (Nat.le_trans HBs.out hbl.size)
          have HSRC := Lib.hid (src_bl (c := ct) (cs := zL (leBytes tv tl)) hsl (by rw [zL_len]) (fun i _ => (litF_zL _ i).symm))
          rw [zL_len] at HSRC
          have hln : (leBytes tv tl).length = (zL (leBytes tv tl)).length := (zL_len _).symm
          obtain ⟨ts, hts⟩ : ∃ cs, zL (leBytes tv tl) = cs := ⟨_, rfl⟩
          have HTS := Lib.hid hts
          have HTN := Lib.hid (show ts.length ≤ 8 by rw [← hts, zL_len, leBytes_len]; exact ht8)
          rw [hts] at HSRC hln
          rw [hln] at HSRC ⊢
          clear hsl hbl hln hts ht8 b5 b6 b7
          go_wp2_with (at_builtin; refine wpList_appBL rfl (.tmp 49) (.tmp 52) 26 rfl Bs _ _ rfl HO.out _ rfl ts HSRC.out (by have := HCL.out; have := HPB.out; have := HTN.out; simp only [List.length_append]; omega) HBs.out ?_; intro A5 cap5 w5 hown5 hg5 hat5)
          go_ret2
          have hE : (PL ++ cs) ++ ts = zL (encM F x) := by
            unfold encM
            rw [zL_app, zL_app, HPL.out, HCS.out, HHY.out, HHT.out, HTS.out]
          have hN : ((PL ++ cs).length + ts.length) = (encM F x).length := by
            rw [← List.length_append, hE, zL_len]
          rw [hE] at hown5
          have HE5 := HE.out.grew HO.out hg5 HH.out.1 HBs.out
          rw [hN] at hown5
          refine ⟨A5, cap5, ?_, hown5.weaken (by have := HH.out.1; have := HE5.lt; omega), HE5.bel⟩
          rw [show (encM F x).length = PL.length + cs.length + ts.length by rw [← hN, List.length_append]]
          rfl
        · rw [t5] at b7
          generalize hyl : tailVal F x = tv at *
          generalize htl : tailLen F.tail = tl at *
          clear t5
          have HHY := Lib.hid hyl
          have HHT := Lib.hid htl
          clear hyl htl hd2 him htv
          go_upto_region 13 with (fail)
          go_wp2_with fail
          refine HTL.out.mono ?_
          rintro e u ⟨rfl, rfl⟩
          go_wp2_with fail
          refine HBT.out.mono ?_
          rintro e Wb ⟨gt, ct, rfl, hsl, hbl⟩
          replace HE := Lib.hid (HE.out.below hbl)
          replace HO := Lib.hid (HO.out.below hbl)
          replace HBs := Lib.hid (Nat.le_trans HBs.out hbl.size)
          have HSRC := Lib.hid (src_bl (c := ct) (cs := zL (leBytes tv tl)) hsl (by rw [zL_len]) (fun i _ => (litF_zL _ i).symm))
          rw [zL_len] at HSRC
          have hln : (leBytes tv tl).length = (zL (leBytes tv tl)).length := (zL_len _).symm
          obtain ⟨ts, hts⟩ : ∃ cs, zL (leBytes tv tl) = cs := ⟨_, rfl⟩
          have HTS := Lib.hid hts
          have HTN := Lib.hid (show ts.length ≤ 8 by rw [← hts, zL_len, leBytes_len]; exact ht8)
          rw [hts] at HSRC hln
          rw [hln] at HSRC ⊢
          clear hsl hbl hln hts ht8 b5 b6 b7
          go_wp2_with (at_builtin; refine wpList_appBL rfl (.tmp 49) (.tmp 52) 26 rfl Bs _ _ rfl HO.out _ rfl ts HSRC.out (by have := HCL.out; have := HPB.out; have := HTN.out; simp only [List.length_append]; omega) HBs.out ?_; intro A5 cap5 w5 hown5 hg5 hat5)
          go_ret2
          have hE : (PL ++ cs) ++ ts = zL (encM F x) := by
            unfold encM
            rw [zL_app, zL_app, HPL.out, HCS.out, HHY.out, HHT.out, HTS.out]
          have hN : ((PL ++ cs).length + ts.length) = (encM F x).length := by
            rw [← List.length_append, hE, zL_len]
          rw [hE] at hown5
          have HE5 := HE.out.grew HO.out hg5 HH.out.1 HBs.out
          rw [hN] at hown5
          refine ⟨A5, cap5, ?_, hown5.weaken (by have := HH.out.1; have := HE5.lt; omega), HE5.bel⟩
          rw [show (encM F x).length = PL.length + cs.length + ts.length by rw [← hN, List.length_append]]
          rfl
      · have et : tailVal F x = x.imm := by unfold tailVal; rw [if_neg t5]
        rw [← et] at b5
        have d5 : ((F.tail : Int) == 5) = false := nat_beq_false (b := 5) (fun h => t5 (.inl h))
        have d6 : ((F.tail : Int) == 6) = false := nat_beq_false (b := 6) (fun h => t5 (.inr h))
        clear et
        generalize hyl : tailVal F x = tv at *
        generalize htl : tailLen F.tail = tl at *
        clear t5
        have HHY := Lib.hid hyl
        have HHT := Lib.hid htl
        clear hyl htl hd2 him htv
        go_upto_region 13 with (fail)
        go_wp2_with fail
        refine HTL.out.mono ?_
        rintro e u ⟨rfl, rfl⟩
        go_wp2_with fail
        refine HBT.out.mono ?_
        rintro e Wb ⟨gt, ct, rfl, hsl, hbl⟩
        replace HE := Lib.hid (HE.out.below hbl)
        replace HO := Lib.hid (HO.out.below hbl)
        replace HBs := Lib.hid (Nat.le_trans HBs.out hbl.size)
        have HSRC := Lib.hid (src_bl (c := ct) (cs := zL (leBytes tv tl)) hsl (by rw [zL_len]) (fun i _ => (litF_zL _ i).symm))
        rw [zL_len] at HSRC
        have hln : (leBytes tv tl).length = (zL (leBytes tv tl)).length := (zL_len _).symm
        obtain ⟨ts, hts⟩ : ∃ cs, zL (leBytes tv tl) = cs := ⟨_, rfl⟩
        have HTS := Lib.hid hts
        have HTN := Lib.hid (show ts.length ≤ 8 by rw [← hts, zL_len, leBytes_len]; exact ht8)
        rw [hts] at HSRC hln
        rw [hln] at HSRC ⊢
        clear hsl hbl hln hts ht8 b5 b6 b7
        go_wp2_with (at_builtin; refine wpList_appBL rfl (.tmp 49) (.tmp 52) 26 rfl Bs _ _ rfl HO.out _ rfl ts HSRC.out (by have := HCL.out; have := HPB.out; have := HTN.out; simp only [List.length_append]; omega) HBs.out ?_; intro A5 cap5 w5 hown5 hg5 hat5)
        go_ret2
        have hE : (PL ++ cs) ++ ts = zL (encM F x) := by
          unfold encM
          rw [zL_app, zL_app, HPL.out, HCS.out, HHY.out, HHT.out, HTS.out]
        have hN : ((PL ++ cs).length + ts.length) = (encM F x).length := by
          rw [← List.length_append, hE, zL_len]
        rw [hE] at hown5
        have HE5 := HE.out.grew HO.out hg5 HH.out.1 HBs.out
        rw [hN] at hown5
        refine ⟨A5, cap5, ?_, hown5.weaken (by have := HH.out.1; have := HE5.lt; omega), HE5.bel⟩
        rw [show (encM F x).length = PL.length + cs.length + ts.length by rw [← hN, List.length_append]]
        rfl
    · rw [hT] at hpb
      rw [hV] at hpb ⊢
      rw [if_pos rfl] at hpb
      have HPL0 := Lib.hid (show zL (preBytes (preF F.pre) x.a x.b) = [] ++ [(V : Int)] by rw [hpb]; rfl)
      clear hpb hT hV
      have HE7 := Lib.hid (HE.out.below ((Below.refl _ _).alloc (Nat.le_refl _) (.cells #[.int .u8 V] 5)))
      have HO7 := Lib.hid (HO.out.alloc (.cells #[.int .u8 V] 5))
      have HL7 := Lib.hid (show Bs ≤ (W8.alloc (.cells #[.int .u8 V] 5)).heap.size by have := HLB.out; simp; omega)
      go_upto_region 9 with (at_builtin; refine wpList_appBL rfl (.tmp 28) (.tmp 30) 26 rfl Bs _ _ rfl HO7.out _ rfl [(V : Int)] (src_new W8 [(V : Int)] 1) (by simp) HL7.out ?_; intro A2 cap2 W9 hown2 hg2 hat2)
      replace HE := Lib.hid (HE7.out.grew HO7.out hg2 HH.out.1 HL7.out)
      replace HLB := Lib.hid (Nat.le_trans HL7.out hg2.size)
      replace HO := Lib.hid (show OwnBL W9 Bs (.slice A2 1 cap2) ([] ++ [(V : Int)]) from hown2)
      clear hown2 hg2 hat2 HE7 HO7 HL7
      generalize hPL : ([] : List Int) ++ [(V : Int)] = PL at HPL0 HO
      have HPL := HPL0
      have HPB := Lib.hid (show PL.length ≤ 1 by rw [← hPL]; simp)
      clear hPL HPL0
      have HC := Lib.hid (codeOf_any h 0 F x W9 HOK.out HE.out.form HX.out)
      unfold insV at HC
      obtain ⟨b0, b1, b2, b3, b4, b5, b6⟩ := HE.out.boxc
      go_upto_region 9 with (fail)
      go_wp2_with fail
      refine HC.out.mono ?_
      rintro e Wa ⟨gc, cc, rfl, hsl, hbl⟩
      replace HE := Lib.hid (HE.out.below hbl)
      replace HO := Lib.hid (HO.out.below hbl)
      have HBs := Lib.hid (Nat.le_trans HLB.out hbl.size)
      have HSRC := Lib.hid (src_bl (c := cc) (cs := zL (codeBytes F x)) hsl (by rw [zL_len]) (fun i _ => (litF_zL _ i).symm))
      have hcl : (codeBytes F x).length ≤ 2 := by unfold codeBytes; split <;> (try split) <;> simp
      have HCL := Lib.hid hcl
      rw [zL_len] at HSRC
      obtain ⟨n1, hn1⟩ : ∃ n, (codeBytes F x).length = n := ⟨_, rfl⟩
      obtain ⟨cs, hcs⟩ : ∃ cs, zL (codeBytes F x) = cs := ⟨_, rfl⟩
      have hcsn : cs.length = n1 := by rw [← hcs, zL_len, hn1]
      rw [hn1] at HSRC HCL ⊢
      rw [hcs, ← hcsn] at HSRC
      rw [← hcsn] at HCL ⊢
      have HCS := Lib.hid hcs
      clear hsl hbl HC hcl hn1 hcs hcsn b0 b1 b2 b3 b4 b5 b6
      go_upto_region 10 with (at_builtin; refine wpList_appBL rfl (.tmp 32) (.tmp 34) 26 rfl Bs _ _ rfl HO.out _ rfl cs HSRC.out (by have := HCL.out; have := HPB.out; omega) HBs.out ?_; intro A3 cap3 w3 hown3 hg3 hat3)
      replace HE := Lib.hid (HE.out.grew HO.out hg3 HH.out.1 HBs.out)
      replace HO := Lib.hid hown3
      replace HBs := Lib.hid (Nat.le_trans HBs.out hg3.size)
      clear hown3 hg3 hat3 HSRC
      obtain ⟨b5, b6, b7⟩ := HE.out.cells
      have HTL := Lib.hid (tailLen_any h 0 F w3 HOK.out HE.out.form)
      have hdd : IntKind.u64.wrap x.disp = ((x.disp % 18446744073709551616).toNat : Int) := by rw [IntKind.wrap_u64]; omega
      have hd2 : (x.disp % 18446744073709551616).toNat < 18446744073709551616 := by omega
      have him : x.imm < 18446744073709551616 := HX.out.imm
      have ht8 := tailLen_bd F.tail
      have htv : tailVal F x < 18446744073709551616 := by unfold tailVal; split <;> assumption
      have HBT := Lib.hid (bytes_new (tailVal F x) (tailLen F.tail) w3 htv ht8)
      by_cases t5 : F.tail = 5 ∨ F.tail = 6
      · have et : tailVal F x = (x.disp % 18446744073709551616).toNat := by unfold tailVal; rw [if_pos t5]
        rw [← et] at hdd
        clear et
        rcases t5 with t5 | t5
        · rw [t5] at b7
          generalize hyl : tailVal F x = tv at *
          generalize htl : tailLen F.tail = tl at *
          clear t5
          have HHY := Lib.hid hyl
          have HHT := Lib.hid htl
          clear hyl htl hd2 him htv
          go_upto_region 13 with (fail)
          go_wp2_with fail
          refine HTL.out.mono ?_
          rintro e u ⟨rfl, rfl⟩
          go_wp2_with fail
          refine HBT.out.mono ?_
          rintro e Wb ⟨gt, ct, rfl, hsl, hbl⟩
          replace HE := Lib.hid (HE.out.below hbl)
          replace HO := Lib.hid (HO.out.below hbl)
          replace HBs := Lib.hid (Nat.le_trans HBs.out hbl.size)
          have HSRC := Lib.hid (src_bl (c := ct) (cs := zL (leBytes tv tl)) hsl (by rw [zL_len]) (fun i _ => (litF_zL _ i).symm))
          rw [zL_len] at HSRC
          have hln : (leBytes tv tl).length = (zL (leBytes tv tl)).length := (zL_len _).symm
          obtain ⟨ts, hts⟩ : ∃ cs, zL (leBytes tv tl) = cs := ⟨_, rfl⟩
          have HTS := Lib.hid hts
          have HTN := Lib.hid (show ts.length ≤ 8 by rw [← hts, zL_len, leBytes_len]; exact ht8)
          rw [hts] at HSRC hln
          rw [hln] at HSRC ⊢
          clear hsl hbl hln hts ht8 b5 b6 b7
          go_wp2_with (at_builtin; refine wpList_appBL rfl (.tmp 49) (.tmp 52) 26 rfl Bs _ _ rfl HO.out _ rfl ts HSRC.out (by have := HCL.out; have := HPB.out; have := HTN.out; simp only [List.length_append]; omega) HBs.out ?_; intro A5 cap5 w5 hown5 hg5 hat5)
          go_ret2
          have hE : (PL ++ cs) ++ ts = zL (encM F x) := by
            unfold encM
            rw [zL_app, zL_app, HPL.out, HCS.out, HHY.out, HHT.out, HTS.out]
          have hN : ((PL ++ cs).length + ts.length) = (encM F x).length := by
            rw [← List.length_append, hE, zL_len]
          rw [hE] at hown5
          have HE5 := HE.out.grew HO.out hg5 HH.out.1 HBs.out
          rw [hN] at hown5
          refine ⟨A5, cap5, ?_, hown5.weaken (by have := HH.out.1; have := HE5.lt; omega), HE5.bel⟩
          rw [show (encM F x).length = PL.length + cs.length + ts.length by rw [← hN, List.length_append]]
          rfl
        · rw [t5] at b7
          generalize hyl : tailVal F x = tv at *
          generalize htl : tailLen F.tail = tl at *
          clear t5
          have HHY := Lib.hid hyl
          have HHT := Lib.hid htl
          clear hyl htl hd2 him htv
          go_upto_region 13 with (fail)
          go_wp2_with fail
          refine HTL.out.mono ?_
          rintro e u ⟨rfl, rfl⟩
          go_wp2_with fail
          refine HBT.out.mono ?_
          rintro e Wb ⟨gt, ct, rfl, hsl, hbl⟩
          replace HE := Lib.hid (HE.out.below hbl)
          replace HO := Lib.hid (HO.out.below hbl)
          replace HBs := Lib.hid (Nat.le_trans HBs.out hbl.size)
          have HSRC := Lib.hid (src_bl (c := ct) (cs := zL (leBytes tv tl)) hsl (by rw [zL_len]) (fun i _ => (litF_zL _ i).symm))
          rw [zL_len] at HSRC
          have hln : (leBytes tv tl).length = (zL (leBytes tv tl)).length := (zL_len _).symm
          obtain ⟨ts, hts⟩ : ∃ cs, zL (leBytes tv tl) = cs := ⟨_, rfl⟩
          have HTS := Lib.hid hts
          have HTN := Lib.hid (show ts.length ≤ 8 by rw [← hts, zL_len, leBytes_len]; exact ht8)
          rw [hts] at HSRC hln
          rw [hln] at HSRC ⊢
          clear hsl hbl hln hts ht8 b5 b6 b7
          go_wp2_with (at_builtin; refine wpList_appBL rfl (.tmp 49) (.tmp 52) 26 rfl Bs _ _ rfl HO.out _ rfl ts HSRC.out (by have := HCL.out; have := HPB.out; have := HTN.out; simp only [List.length_append]; omega) HBs.out ?_; intro A5 cap5 w5 hown5 hg5 hat5)
          go_ret2
          have hE : (PL ++ cs) ++ ts = zL (encM F x) := by
            unfold encM
            rw [zL_app, zL_app, HPL.out, HCS.out, HHY.out, HHT.out, HTS.out]
          have hN : ((PL ++ cs).length + ts.length) = (encM F x).length := by
            rw [← List.length_append, hE, zL_len]
          rw [hE] at hown5
          have HE5 := HE.out.grew HO.out hg5 HH.out.1 HBs.out
          rw [hN] at hown5
          refine ⟨A5, cap5, ?_, hown5.weaken (by have := HH.out.1; have := HE5.lt; omega), HE5.bel⟩
          rw [show (encM F x).length = PL.length + cs.length + ts.length by rw [← hN, List.length_append]]
          rfl
      · have et : tailVal F x = x.imm := by unfold tailVal; rw [if_neg t5]
        rw [← et] at b5
        have d5 : ((F.tail : Int) == 5) = false := nat_beq_false (b := 5) (fun h => t5 (.inl h))
        have d6 : ((F.tail : Int) == 6) = false := nat_beq_false (b := 6) (fun h => t5 (.inr h))
        clear et
        generalize hyl : tailVal F x = tv at *
        generalize htl : tailLen F.tail = tl at *
        clear t5
        have HHY := Lib.hid hyl
        have HHT := Lib.hid htl
        clear hyl htl hd2 him htv
        go_upto_region 13 with (fail)
        go_wp2_with fail
        refine HTL.out.mono ?_
        rintro e u ⟨rfl, rfl⟩
        go_wp2_with fail
        refine HBT.out.mono ?_
        rintro e Wb ⟨gt, ct, rfl, hsl, hbl⟩
        replace HE := Lib.hid (HE.out.below hbl)
        replace HO := Lib.hid (HO.out.below hbl)
        replace HBs := Lib.hid (Nat.le_trans HBs.out hbl.size)
        have HSRC := Lib.hid (src_bl (c := ct) (cs := zL (leBytes tv tl)) hsl (by rw [zL_len]) (fun i _ => (litF_zL _ i).symm))
        rw [zL_len] at HSRC
        have hln : (leBytes tv tl).length = (zL (leBytes tv tl)).length := (zL_len _).symm
        obtain ⟨ts, hts⟩ : ∃ cs, zL (leBytes tv tl) = cs := ⟨_, rfl⟩
        have HTS := Lib.hid hts
        have HTN := Lib.hid (show ts.length ≤ 8 by rw [← hts, zL_len, leBytes_len]; exact ht8)
        rw [hts] at HSRC hln
        rw [hln] at HSRC ⊢
        clear hsl hbl hln hts ht8 b5 b6 b7
        go_wp2_with (at_builtin; refine wpList_appBL rfl (.tmp 49) (.tmp 52) 26 rfl Bs _ _ rfl HO.out _ rfl ts HSRC.out (by have := HCL.out; have := HPB.out; have := HTN.out; simp only [List.length_append]; omega) HBs.out ?_; intro A5 cap5 w5 hown5 hg5 hat5)
        go_ret2
        have hE : (PL ++ cs) ++ ts = zL (encM F x) := by
          unfold encM
          rw [zL_app, zL_app, HPL.out, HCS.out, HHY.out, HHT.out, HTS.out]
        have hN : ((PL ++ cs).length + ts.length) = (encM F x).length := by
          rw [← List.length_append, hE, zL_len]
        rw [hE] at hown5
        have HE5 := HE.out.grew HO.out hg5 HH.out.1 HBs.out
        rw [hN] at hown5
        refine ⟨A5, cap5, ?_, hown5.weaken (by have := HH.out.1; have := HE5.lt; omega), HE5.bel⟩
        rw [show (encM F x).length = PL.length + cs.length + ts.length by rw [← hN, List.length_append]]
        rfl

end Go.Proofs.Ytimjpdheaecajaa
