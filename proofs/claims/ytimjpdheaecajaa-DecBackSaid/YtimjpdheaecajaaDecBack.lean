/- Two instructions, tamed: each in a block of its own, in whatever order. -/
import Derived.Test.YtimjpdheaecajaaTame
import Derived.Test.YtimjpdheaecajaaAwake15
import Derived.Test.YtimjpdheaecajaaBl2
import Derived.Test.YtimjpdheaecajaaDecNone
import Derived.Deep.CutRange
import Derived.Lib.Bytes
namespace Go.Proofs.Ytimjpdheaecajaa
open Go.ChangeShapes Go.WideShapes Go.ChangeAt Go.RowKit
set_option linter.unusedVariables false

section
variable {P : Program} {md : Region.Mode} {ops : Array Oper} {Q : Exit → Act → World → Prop} {S R : World → Prop} {k : Nat}
theorem wpAnyK_three {i j k2 : Nat} {o o2 o3 : Oper} {fuel : Nat} {listed : Array Bool} {a : Act} {w : World} (hr : Region.ready md ops listed = [i, j, k2]) (ho : ops[i]? = some o) (ho2 : ops[j]? = some o2) (ho3 : ops[k2]? = some o3)
    (h : ∀ K' : Act → World → Prop, Shut (∀ a w, S w → ((listed.setIfInBounds i true).getD k true = false → R w) → wpAnyK P md ops Q S R k fuel (listed.setIfInBounds i true) a w → K' a w) → if Region.wanted o (yielded ops a.tmps) = true then Oper.wp P o a w K' Q else K' (a.put o.dst undef) w)
    (h2 : ∀ K' : Act → World → Prop, Shut (∀ a w, S w → ((listed.setIfInBounds j true).getD k true = false → R w) → wpAnyK P md ops Q S R k fuel (listed.setIfInBounds j true) a w → K' a w) → if Region.wanted o2 (yielded ops a.tmps) = true then Oper.wp P o2 a w K' Q else K' (a.put o2.dst undef) w)
    (h3 : ∀ K' : Act → World → Prop, Shut (∀ a w, S w → ((listed.setIfInBounds k2 true).getD k true = false → R w) → wpAnyK P md ops Q S R k fuel (listed.setIfInBounds k2 true) a w → K' a w) → if Region.wanted o3 (yielded ops a.tmps) = true then Oper.wp P o3 a w K' Q else K' (a.put o3.dst undef) w) :
    wpAnyK P md ops Q S R k (fuel + 1) listed a w :=
  ⟨fun h0 => absurd (hr ▸ h0) (by simp), fun q hq => by
    rw [hr] at hq
    rcases List.mem_cons.1 hq with e | hq
    · subst e; exact wpOp_step ho (fun K' hK => h K' (fun a w hS hR hW => hK a w ⟨⟨hS, hR⟩, hW⟩))
    · rcases List.mem_cons.1 hq with e | hq
      · subst e; exact wpOp_step ho2 (fun K' hK => h2 K' (fun a w hS hR hW => hK a w ⟨⟨hS, hR⟩, hW⟩))
      · rw [List.mem_singleton] at hq
        subst hq; exact wpOp_step ho3 (fun K' hK => h3 K' (fun a w hS hR hW => hK a w ⟨⟨hS, hR⟩, hW⟩))⟩
end

theorem row_old {w : World} {b : Nat} {c : Obj} (h : w.heap[b]? = some c) : b < w.heap.size := by
  rcases Nat.lt_or_ge b w.heap.size with h' | h'
  · exact h'
  · simp [Array.getElem?_eq_none h'] at h
theorem row_kept {w w' : World} {b : Nat} {c : Obj} (h : w.heap[b]? = some c) (hb : Below w.heap.size w w') : w'.heap[b]? = some c := (hb.block b (row_old h)).trans h
theorem insRow_one (o a b l c : Nat) (i : Nat) (d : Int) : (#[.int .i64 o, .int .i64 a, .int .i64 b, .int .i64 l, .int .i64 c, .int .u64 i, .int .i64 d] : Array Value).all (·.oneCell') = true := by simp [Value.oneCell']
theorem own_ins_row {w : World} {b : Nat} {o x y l c i : Nat} {d : Int} {T : TypeId} (h : w.heap[b]? = some (.cells #[.int .i64 o, .int .i64 x, .int .i64 y, .int .i64 l, .int .i64 c, .int .u64 i, .int .i64 d] T (0, 0))) : Own w b 7 (insF ⟨o, x, y, l, c, i, d⟩) := by
  refine ⟨row_old h, fun j hj => ?_⟩
  rcases (by omega : j = 0 ∨ j = 1 ∨ j = 2 ∨ j = 3 ∨ j = 4 ∨ j = 5 ∨ j = 6) with rfl | rfl | rfl | rfl | rfl | rfl | rfl <;> constructor <;> first | (rw [cell_of_row _ _ _ _ _ _ h]; rfl) | simp [World.frozen?, h]

/-- Bytes that lie in a world stay in each one that grew out of it. -/
def SlBw (w : World) (A : Option Addr) (m : Nat) (f : Nat → Int) : Prop := SlB w A m f
theorem SlBw.of {w : World} {A : Option Addr} {m : Nat} {f : Nat → Int} (h : SlB w A m f) : SlBw w A m f := h
theorem SlBw.below {w w' : World} {A : Option Addr} {m : Nat} {f : Nat → Int} (h : SlBw w A m f) (hb : Below w.heap.size w w') : SlB w' A m f := SlB.below h hb

/-- Two instructions, each in a block of its own. -/
def TwoIns (w : World) (v7 v8 : Value) (W : World) : Prop := ∃ (F F' : Form) (x y : InsV) (b7 b8 : Nat), Tells F x ∧ x.Ok ∧ Tells F' y ∧ y.Ok ∧ v7 = .pointer (some ⟨b7, 0, none⟩) ∧ v8 = .pointer (some ⟨b8, 0, none⟩) ∧ Own W b7 7 (insF x) ∧ Own W b8 7 (insF y) ∧ Below w.heap.size w W
theorem two_mk {F G : Form} {xo xa xb xl xc xi yo ya yb yl yc yi b4 b5 : Nat} {xd yd : Int} {w W : World} {T : TypeId} (hF : Tells F ⟨xo, xa, xb, xl, xc, xi, xd⟩) (hO : InsV.Ok ⟨xo, xa, xb, xl, xc, xi, xd⟩) (hG : Tells G ⟨yo, ya, yb, yl, yc, yi, yd⟩) (hO' : InsV.Ok ⟨yo, ya, yb, yl, yc, yi, yd⟩)
    (h4 : W.heap[b4]? = some (.cells #[.int .i64 xo, .int .i64 xa, .int .i64 xb, .int .i64 xl, .int .i64 xc, .int .u64 xi, .int .i64 xd] T (0, 0))) (h5 : W.heap[b5]? = some (.cells #[.int .i64 yo, .int .i64 ya, .int .i64 yb, .int .i64 yl, .int .i64 yc, .int .u64 yi, .int .i64 yd] T (0, 0))) (hb : Below w.heap.size w W) :
    TwoIns w (.pointer (some ⟨b4, 0, none⟩)) (.pointer (some ⟨b5, 0, none⟩)) W :=
  ⟨F, G, _, _, b4, b5, hF, hO, hG, hO', rfl, rfl, own_ins_row h4, own_ins_row h5, hb⟩

/-- A row that lies: its block is there. -/
structure RowAt (w : World) (g : Nat) (bs : List Nat) : Prop where
  lt : g < w.heap.size
  row : Row w g 0 bs.length (litF (zL bs))
theorem RowAt.keep2 {w w' : World} {g : Nat} {bs : List Nat} (h : RowAt w g bs) (hb : Below w.heap.size w w') : RowAt w' g bs := ⟨Nat.lt_of_lt_of_le h.lt hb.size, h.row.below hb h.lt⟩

theorem enc_row (x : InsV) (F : Form) (w : World) (hT : Tells F x) (hx : x.Ok) :
    Calls Try.prog 7 #[insV x] w fun e w' => ∃ g c, e = .returned (.tuple #[.slice (some ⟨g, 0, none⟩) (encM F x).length c, .bool true]) ∧ (encM F x).length ≤ c ∧ c ≤ 9223372036854775807 ∧ RowAt w' g (encM F x) ∧ Below w.heap.size w w' := by
  refine (encode_any x F w hx hT.find (forms_ok F hT.mem)).mono ?_
  rintro e w' ⟨A, c, rfl, ho, hw⟩
  obtain ⟨_, h1, h2, h3, h4⟩ := ho.slice
  have hl := hT.long_bd
  rw [← hT.long] at hl
  rcases h4 with h4 | ⟨g, rfl, _, ho4⟩
  · omega
  · refine ⟨g, c, rfl, h1, h2, ⟨ho4.1, ?_⟩, hw⟩
    rcases h3 with h3 | ⟨g', off, he, _, hr⟩
    · omega
    · injection he with he; injection he with e1 e2; subst e1 e2; exact hr

theorem preVal_le (n a b : Nat) : preVal (preF n) a b ≤ 255 := by
  unfold preVal preF
  split <;> (by_cases h : 7 < a <;> by_cases h' : 7 < b <;> simp [h, h'])
theorem encM_bn {F : Form} (hF : F.Ok) (x : InsV) : Bn (encM F x) := by
  intro v hv
  unfold encM at hv
  rcases List.mem_append.mp hv with hv | hv
  · rcases List.mem_append.mp hv with hv | hv
    · have := preVal_le F.pre x.a x.b
      unfold preBytes at hv
      split at hv
      · simp at hv
      · split at hv
        · simp at hv
        · simp at hv; omega
    · have := hF.code
      unfold codeBytes at hv
      split at hv
      · simp at hv; omega
      · split at hv
        · simp at hv; omega
        · simp at hv; omega
  · unfold leBytes at hv
    obtain ⟨i, _, rfl⟩ := List.mem_map.mp hv
    omega
theorem text_eq {bs cs : List Nat} (hb : Bn bs) (hc : Bn cs) (h : strF (litF (zL bs)) 0 bs.length = strF (litF (zL cs)) 0 cs.length) : bs = cs := by
  have hn : bs.length = cs.length := by have := congrArg ByteArray.size h; simpa [strF_size] using this
  refine List.ext_getElem hn fun i h1 h2 => ?_
  have e1 := bt_strF (Bs.lit (Bs.zL hb)) (o := 0) h1
  have e2 := bt_strF (Bs.lit (Bs.zL hc)) (o := 0) h2
  rw [h, e2, litF_zL, litF_zL] at e1
  simp [bF, List.getD, h1, h2] at e1
  omega

theorem below_drewN2 (n : Nat) (w : World) (d : Nat) : Below n w (w.drewN d) := ⟨rfl, rfl, rfl, Nat.le_refl _, fun _ _ => rfl⟩
theorem ins_ne {x y : InsV} (h : x ≠ y) : (x.op : Int) = (y.op : Int) → (x.a : Int) = (y.a : Int) → (x.b : Int) = (y.b : Int) → (x.alu : Int) = (y.alu : Int) → (x.cc : Int) = (y.cc : Int) → (x.imm : Int) = (y.imm : Int) → ¬ x.disp = y.disp := by
  intro h1 h2 h3 h4 h5 h6 h7
  obtain ⟨xo, xa, xb, xl, xc, xi, xd⟩ := x
  obtain ⟨yo, ya, yb, yl, yc, yi, yd⟩ := y
  simp only at h1 h2 h3 h4 h5 h6 h7
  apply h
  simp only [InsV.mk.injEq]
  omega
theorem text_list {f f' : Nat → Int} {n m : Nat} (h : (strF f 0 n).toList = (strF f' 0 m).toList) : strF f 0 n = strF f' 0 m := by
  unfold strF at h ⊢
  rw [Lib.strOfNums_toList, Lib.strOfNums_toList] at h
  apply ByteArray.ext
  apply Array.ext'
  exact h

theorem dec_begin {F : Form} {x : InsV} {bs : List Nat} (hT : Tells F x) (hbs : encM F x = bs) (g c i : Nat) (hi : i < bs.length) (hc : bs.length ≤ c) (hc' : c ≤ 9223372036854775807) (W : World) (hr : RowAt W g bs) :
    Calls Try.prog 9 #[.slice (some ⟨g, 0, none⟩) i c] W fun e w' => e = .returned (.tuple #[.agg #[.int .i64 0, .int .i64 0, .int .i64 0, .int .i64 0, .int .i64 0, .int .u64 0, .int .i64 0], .int .i64 0, .int .i64 2]) ∧ Below W.heap.size W w' := by
  subst hbs
  have hl : ((encM F x).take i).length = i := by rw [List.length_take]; omega
  have h := decode_any g 0 ((encM F x).take i) c W ((encM_bn (forms_ok F hT.mem) x).take i) (by omega) hc' (.inr ⟨g, 0, rfl, hr.lt, fun j hj => by
    rw [bF_take _ _ _ (by omega), ← litF_zL]
    exact hr.row j (by omega)⟩)
  rw [hT.begins i hi, hl] at h
  refine h.mono ?_
  rintro e w' ⟨rfl, hw⟩
  exact ⟨rfl, hw⟩

set_option maxRecDepth 100000 in
set_option maxHeartbeats 8000000 in
theorem back_x (o a b l c d o' a' b' l' c' d' : Int) (I I' : Nat) (A : Option Addr) (m cap : Nat) (f : Nat → Int) (w : World) (hm40 : m ≤ 40) (hf : Bytes255 f) (hs : SlB w A m f) (hI : I < 18446744073709551616) (hI' : I' < 18446744073709551616) :
    Calls Try.prog 5 #[.agg #[.int .i64 o, .int .i64 a, .int .i64 b, .int .i64 l, .int .i64 c, .int .u64 I, .int .i64 d], .agg #[.int .i64 o', .int .i64 a', .int .i64 b', .int .i64 l', .int .i64 c', .int .u64 I', .int .i64 d'], .slice A m cap] w fun e w' => e = .returned (.bool true) ∧ Below w.heap.size w w' := by
  have hm : decide ((m : Int) > 40) = false := decide_eq_false (by omega)
  have HAW := Lib.hid awake15_any
  have HM' := Lib.hid hm40
  have HFB := Lib.hid hf
  have HSMW := Lib.hid (show SlBw w A m f from SlBw.of hs)
  clear hm40 hf hs
  have HT1 := Lib.hid (tame_any o a b l c d I hI)
  have HT2 := Lib.hid (tame_any o' a' b' l' c' d' I' hI')
  go_enter Try.func5, Try.ntmps5
  go_upto_region 3 with (fail)
  go_cut [7, 8] from 24 to 27 (fun v7 v8 wc => TwoIns w v7 v8 wc)
  case first =>
    rename_i J1 K1 hJ1 hK1
    have HX3 := Lib.hid (show ((w.alloc (.cells #[.int .i64 o, .int .i64 a, .int .i64 b, .int .i64 l, .int .i64 c, .int .u64 I, .int .i64 d] 24)).alloc (.cells #[.int .i64 o', .int .i64 a', .int .i64 b', .int .i64 l', .int .i64 c', .int .u64 I', .int .i64 d'] 24)).heap[w.heap.size]? = some (.cells #[.int .i64 o, .int .i64 a, .int .i64 b, .int .i64 l, .int .i64 c, .int .u64 I, .int .i64 d] 24 (0, 0)) from row_kept (heap_alloc_new _ _) ((Below.refl _ _).alloc (Nat.le_refl _) _))
    have HX4 := Lib.hid (show ((w.alloc (.cells #[.int .i64 o, .int .i64 a, .int .i64 b, .int .i64 l, .int .i64 c, .int .u64 I, .int .i64 d] 24)).alloc (.cells #[.int .i64 o', .int .i64 a', .int .i64 b', .int .i64 l', .int .i64 c', .int .u64 I', .int .i64 d'] 24)).heap[w.heap.size + 1]? = some (.cells #[.int .i64 o', .int .i64 a', .int .i64 b', .int .i64 l', .int .i64 c', .int .u64 I', .int .i64 d'] 24 (0, 0)) from by
      have h := heap_alloc_new (w.alloc (.cells #[.int .i64 o, .int .i64 a, .int .i64 b, .int .i64 l, .int .i64 c, .int .u64 I, .int .i64 d] 24)) (.cells #[.int .i64 o', .int .i64 a', .int .i64 b', .int .i64 l', .int .i64 c', .int .u64 I', .int .i64 d'] 24)
      rwa [show (w.alloc (.cells #[.int .i64 o, .int .i64 a, .int .i64 b, .int .i64 l, .int .i64 c, .int .u64 I, .int .i64 d] 24)).heap.size = w.heap.size + 1 by simp] at h)
    have HB2 := Lib.hid (((Below.refl w.heap.size w).alloc (Nat.le_refl _) (.cells #[.int .i64 o, .int .i64 a, .int .i64 b, .int .i64 l, .int .i64 c, .int .u64 I, .int .i64 d] 24)).alloc (by simp) (.cells #[.int .i64 o', .int .i64 a', .int .i64 b', .int .i64 l', .int .i64 c', .int .u64 I', .int .i64 d'] 24))
    generalize (w.alloc (.cells #[.int .i64 o, .int .i64 a, .int .i64 b, .int .i64 l, .int .i64 c, .int .u64 I, .int .i64 d] 24)).alloc (.cells #[.int .i64 o', .int .i64 a', .int .i64 b', .int .i64 l', .int .i64 c', .int .u64 I', .int .i64 d'] 24) = w2 at *
    have HS := Lib.hid (show Below w2.heap.size w2 w2.drew from (Below.refl _ _).drew)
    refine wp_region_noPanic ?_
    refine wp_region_K (fun W => Below w2.heap.size w2 W) (fun _ => True) 99 (by kernel_rfl) ?_
    refine wpAnyK_take (i := 0) (oi := ?_) (v := ?_) ?_ (by kernel_rfl) (by kernel_rfl) (by kernel_rfl) (fun _ _ _ h => h) (by decide) ?_ HS.out (fun _ => trivial) ?_
    rotate_left 2
    · (simp only [List.getElem?_toArray, List.getElem?_cons_succ, List.getElem?_cons_zero]; rfl)
    · refine yieldsIf_load_row_g 24 (.tmp 3) w.heap.size 24 #[.int .i64 o, .int .i64 a, .int .i64 b, .int .i64 l, .int .i64 c, .int .u64 I, .int .i64 d] (0, 0) ?_ ?_ ?_ ?_ ?_ ?_
      · rfl
      · rfl
      · rfl
      · exact fun W hW => row_kept HX3.out hW
      · rfl
      · rfl
    try simp only [Act.put, List.setIfInBounds_toArray, List.set_cons_zero, List.set_cons_succ]
    refine wpAnyK_take (i := 2) (oi := ?_) (v := ?_) ?_ (by kernel_rfl) (by kernel_rfl) (by kernel_rfl) (fun _ _ _ h => h) (by decide) ?_ HS.out (fun _ => trivial) ?_
    rotate_left 2
    · (simp only [List.getElem?_toArray, List.getElem?_cons_succ, List.getElem?_cons_zero]; rfl)
    · refine yieldsIf_load_row_g 24 (.tmp 4) (w.heap.size + 1) 24 #[.int .i64 o', .int .i64 a', .int .i64 b', .int .i64 l', .int .i64 c', .int .u64 I', .int .i64 d'] (0, 0) ?_ ?_ ?_ ?_ ?_ ?_
      · rfl
      · rfl
      · rfl
      · exact fun W hW => row_kept HX4.out hW
      · rfl
      · rfl
    try simp only [Act.put, List.setIfInBounds_toArray, List.set_cons_zero, List.set_cons_succ]
    generalize w2.drew = w2d at *
    refine wpAnyK_three (i := 1) (j := 4) (k2 := 5) (by kernel_rfl) rfl rfl rfl (fun K hK => ?_) (fun K hK => ?_) (fun K hK => ?_)
    · skip
      go_simp
      go_at_call 6
      refine (HT1.out _).mono ?_
      rintro e W1 ⟨⟨F, ⟨xo, xa, xb, xl, xc, xi, xd⟩, hT, hO, rfl⟩, hw⟩
      unfold insV
      have HF1 := Lib.hid hT
      have HO1 := Lib.hid hO
      have HS1 := Lib.hid (HS.out.trans (hw.mono HS.out.size))
      clear hT hO hw
      refine hK.out _ _ HS1.out (fun _ => trivial) ?_
      clear hK K
      try simp only [Act.put, List.setIfInBounds_toArray, List.set_cons_zero, List.set_cons_succ]
      refine wpAnyK_three (i := 3) (j := 4) (k2 := 5) (by kernel_rfl) rfl rfl rfl (fun K hK => ?_) (fun K hK => ?_) (fun K hK => ?_)
      · skip
        go_simp
        go_at_call 6
        refine (HT2.out _).mono ?_
        rintro e W2 ⟨⟨G, ⟨yo, ya, yb, yl, yc, yi, yd⟩, hT, hO, rfl⟩, hw⟩
        unfold insV
        have HF3 := Lib.hid hT
        have HO3 := Lib.hid hO
        have HS2 := Lib.hid (HS1.out.trans (hw.mono HS1.out.size))
        clear hT hO hw
        refine hK.out _ _ HS2.out (fun _ => trivial) ?_
        clear hK K
        try simp only [Act.put, List.setIfInBounds_toArray, List.set_cons_zero, List.set_cons_succ]
        refine wpAnyK_two (i := 4) (j := 5) (by kernel_rfl) rfl rfl (fun K hK => ?_) (fun K hK => ?_)
        · skip
          go_simp
          have HS3 := Lib.hid (HS2.out.alloc HS2.out.size (.cells #[.int .i64 0, .int .i64 0, .int .i64 0, .int .i64 0, .int .i64 0, .int .u64 0, .int .i64 0] 24))
          have HG4 := Lib.hid (HS2.out.size)
          have HZ4 := Lib.hid (show (W2.alloc (.cells #[.int .i64 0, .int .i64 0, .int .i64 0, .int .i64 0, .int .i64 0, .int .u64 0, .int .i64 0] 24)).heap[W2.heap.size]? = some (.cells #[.int .i64 0, .int .i64 0, .int .i64 0, .int .i64 0, .int .i64 0, .int .u64 0, .int .i64 0] 24 (0, 0)) from heap_alloc_new _ _)
          refine hK.out _ _ HS3.out (fun _ => trivial) ?_
          clear hK K
          generalize W2.alloc (.cells #[.int .i64 0, .int .i64 0, .int .i64 0, .int .i64 0, .int .i64 0, .int .u64 0, .int .i64 0] 24) = W3 at *
          generalize W2.heap.size = b4 at *
          try simp only [Act.put, List.setIfInBounds_toArray, List.set_cons_zero, List.set_cons_succ]
          refine wpAnyK_one (i := 5) (by kernel_rfl) rfl (fun K hK => ?_)
          go_simp
          have HS4 := Lib.hid (HS3.out.alloc HS3.out.size (.cells #[.int .i64 0, .int .i64 0, .int .i64 0, .int .i64 0, .int .i64 0, .int .u64 0, .int .i64 0] 24))
          have HNE := Lib.hid (row_old HZ4.out)
          replace HZ4 := Lib.hid (row_kept HZ4.out ((Below.refl _ _).alloc (Nat.le_refl _) (.cells #[.int .i64 0, .int .i64 0, .int .i64 0, .int .i64 0, .int .i64 0, .int .u64 0, .int .i64 0] 24)))
          have HG5 := Lib.hid (HS3.out.size)
          have HZ5 := Lib.hid (show (W3.alloc (.cells #[.int .i64 0, .int .i64 0, .int .i64 0, .int .i64 0, .int .i64 0, .int .u64 0, .int .i64 0] 24)).heap[W3.heap.size]? = some (.cells #[.int .i64 0, .int .i64 0, .int .i64 0, .int .i64 0, .int .i64 0, .int .u64 0, .int .i64 0] 24 (0, 0)) from heap_alloc_new _ _)
          refine hK.out _ _ HS4.out (fun _ => trivial) ?_
          clear hK K
          generalize W3.alloc (.cells #[.int .i64 0, .int .i64 0, .int .i64 0, .int .i64 0, .int .i64 0, .int .u64 0, .int .i64 0] 24) = W4 at *
          generalize W3.heap.size = b5 at *
          try simp only [Act.put, List.setIfInBounds_toArray, List.set_cons_zero, List.set_cons_succ]
          have hne : b4 ≠ b5 := by have := HNE.out; omega
          have HR6 := Lib.hid (show (W4.setRow b4 #[.int .i64 xo, .int .i64 xa, .int .i64 xb, .int .i64 xl, .int .i64 xc, .int .u64 xi, .int .i64 xd]).heap[b4]? = some (.cells #[.int .i64 xo, .int .i64 xa, .int .i64 xb, .int .i64 xl, .int .i64 xc, .int .u64 xi, .int .i64 xd] 24 (0, 0)) from setRow_heap _ _ _ _ _ _ HZ4.out)
          have HZ6 := Lib.hid ((setRow_other W4 b4 b5 #[.int .i64 xo, .int .i64 xa, .int .i64 xb, .int .i64 xl, .int .i64 xc, .int .u64 xi, .int .i64 xd] (fun h => hne h.symm)).trans HZ5.out)
          have HS6 := Lib.hid (below_setRow HS4.out HG4.out #[.int .i64 xo, .int .i64 xa, .int .i64 xb, .int .i64 xl, .int .i64 xc, .int .u64 xi, .int .i64 xd])
          refine wpAnyK_one (i := 6) (by kernel_rfl) rfl (fun K hK => ?_)
          rw [if_pos (by rfl)]
          refine wp_store_row 24 _ _ rfl b4 #[.int .i64 xo, .int .i64 xa, .int .i64 xb, .int .i64 xl, .int .i64 xc, .int .u64 xi, .int .i64 xd] rfl rfl 24 #[.int .i64 0, .int .i64 0, .int .i64 0, .int .i64 0, .int .i64 0, .int .u64 0, .int .i64 0] HZ4.out rfl rfl (insRow_one _ _ _ _ _ _ _) ?_
          refine hK.out _ _ HS6.out (fun _ => trivial) ?_
          clear hK K
          generalize W4.setRow b4 #[.int .i64 xo, .int .i64 xa, .int .i64 xb, .int .i64 xl, .int .i64 xc, .int .u64 xi, .int .i64 xd] = V6 at *
          have HR7 := Lib.hid (show (V6.setRow b5 #[.int .i64 yo, .int .i64 ya, .int .i64 yb, .int .i64 yl, .int .i64 yc, .int .u64 yi, .int .i64 yd]).heap[b5]? = some (.cells #[.int .i64 yo, .int .i64 ya, .int .i64 yb, .int .i64 yl, .int .i64 yc, .int .u64 yi, .int .i64 yd] 24 (0, 0)) from setRow_heap _ _ _ _ _ _ HZ6.out)
          have HR6 := Lib.hid ((setRow_other V6 b5 b4 #[.int .i64 yo, .int .i64 ya, .int .i64 yb, .int .i64 yl, .int .i64 yc, .int .u64 yi, .int .i64 yd] hne).trans HR6.out)
          have HS7 := Lib.hid (below_setRow HS6.out HG5.out #[.int .i64 yo, .int .i64 ya, .int .i64 yb, .int .i64 yl, .int .i64 yc, .int .u64 yi, .int .i64 yd])
          refine wpAnyK_one (i := 7) (by kernel_rfl) rfl (fun K hK => ?_)
          rw [if_pos (by rfl)]
          refine wp_store_row 24 _ _ rfl b5 #[.int .i64 yo, .int .i64 ya, .int .i64 yb, .int .i64 yl, .int .i64 yc, .int .u64 yi, .int .i64 yd] rfl rfl 24 #[.int .i64 0, .int .i64 0, .int .i64 0, .int .i64 0, .int .i64 0, .int .u64 0, .int .i64 0] HZ6.out rfl rfl (insRow_one _ _ _ _ _ _ _) ?_
          refine hK.out _ _ HS7.out (fun _ => trivial) ?_
          clear hK K
          generalize V6.setRow b5 #[.int .i64 yo, .int .i64 ya, .int .i64 yb, .int .i64 yl, .int .i64 yc, .int .u64 yi, .int .i64 yd] = V7 at *
          try simp only [Act.put, List.setIfInBounds_toArray, List.set_cons_zero, List.set_cons_succ]
          refine wpAnyK_done (by kernel_rfl) ?_ _
          refine NoPanic.normal ?_
          try go_simp
          first | refine hK1 _ _ (Met.intro ?_) | refine Met.intro ?_ | skip
          refine hJ1 _ _ ?_
          repeat apply Exists.intro
          refine ⟨?_, rfl⟩
          exact two_mk HF1.out HO1.out HF3.out HO3.out HR6.out HR7.out (HB2.out.trans (HS7.out.mono HB2.out.size))
        · skip
          go_simp
          have HS5 := Lib.hid (HS2.out.alloc HS2.out.size (.cells #[.int .i64 0, .int .i64 0, .int .i64 0, .int .i64 0, .int .i64 0, .int .u64 0, .int .i64 0] 24))
          have HG5 := Lib.hid (HS2.out.size)
          have HZ5 := Lib.hid (show (W2.alloc (.cells #[.int .i64 0, .int .i64 0, .int .i64 0, .int .i64 0, .int .i64 0, .int .u64 0, .int .i64 0] 24)).heap[W2.heap.size]? = some (.cells #[.int .i64 0, .int .i64 0, .int .i64 0, .int .i64 0, .int .i64 0, .int .u64 0, .int .i64 0] 24 (0, 0)) from heap_alloc_new _ _)
          refine hK.out _ _ HS5.out (fun _ => trivial) ?_
          clear hK K
          generalize W2.alloc (.cells #[.int .i64 0, .int .i64 0, .int .i64 0, .int .i64 0, .int .i64 0, .int .u64 0, .int .i64 0] 24) = W5 at *
          generalize W2.heap.size = b5 at *
          try simp only [Act.put, List.setIfInBounds_toArray, List.set_cons_zero, List.set_cons_succ]
          refine wpAnyK_one (i := 4) (by kernel_rfl) rfl (fun K hK => ?_)
          go_simp
          have HS6 := Lib.hid (HS5.out.alloc HS5.out.size (.cells #[.int .i64 0, .int .i64 0, .int .i64 0, .int .i64 0, .int .i64 0, .int .u64 0, .int .i64 0] 24))
          have HNE := Lib.hid (row_old HZ5.out)
          replace HZ5 := Lib.hid (row_kept HZ5.out ((Below.refl _ _).alloc (Nat.le_refl _) (.cells #[.int .i64 0, .int .i64 0, .int .i64 0, .int .i64 0, .int .i64 0, .int .u64 0, .int .i64 0] 24)))
          have HG4 := Lib.hid (HS5.out.size)
          have HZ4 := Lib.hid (show (W5.alloc (.cells #[.int .i64 0, .int .i64 0, .int .i64 0, .int .i64 0, .int .i64 0, .int .u64 0, .int .i64 0] 24)).heap[W5.heap.size]? = some (.cells #[.int .i64 0, .int .i64 0, .int .i64 0, .int .i64 0, .int .i64 0, .int .u64 0, .int .i64 0] 24 (0, 0)) from heap_alloc_new _ _)
          refine hK.out _ _ HS6.out (fun _ => trivial) ?_
          clear hK K
          generalize W5.alloc (.cells #[.int .i64 0, .int .i64 0, .int .i64 0, .int .i64 0, .int .i64 0, .int .u64 0, .int .i64 0] 24) = W6 at *
          generalize W5.heap.size = b4 at *
          try simp only [Act.put, List.setIfInBounds_toArray, List.set_cons_zero, List.set_cons_succ]
          have hne : b4 ≠ b5 := by have := HNE.out; omega
          have HR6 := Lib.hid (show (W6.setRow b4 #[.int .i64 xo, .int .i64 xa, .int .i64 xb, .int .i64 xl, .int .i64 xc, .int .u64 xi, .int .i64 xd]).heap[b4]? = some (.cells #[.int .i64 xo, .int .i64 xa, .int .i64 xb, .int .i64 xl, .int .i64 xc, .int .u64 xi, .int .i64 xd] 24 (0, 0)) from setRow_heap _ _ _ _ _ _ HZ4.out)
          have HZ6 := Lib.hid ((setRow_other W6 b4 b5 #[.int .i64 xo, .int .i64 xa, .int .i64 xb, .int .i64 xl, .int .i64 xc, .int .u64 xi, .int .i64 xd] (fun h => hne h.symm)).trans HZ5.out)
          have HS6 := Lib.hid (below_setRow HS6.out HG4.out #[.int .i64 xo, .int .i64 xa, .int .i64 xb, .int .i64 xl, .int .i64 xc, .int .u64 xi, .int .i64 xd])
          refine wpAnyK_one (i := 6) (by kernel_rfl) rfl (fun K hK => ?_)
          rw [if_pos (by rfl)]
          refine wp_store_row 24 _ _ rfl b4 #[.int .i64 xo, .int .i64 xa, .int .i64 xb, .int .i64 xl, .int .i64 xc, .int .u64 xi, .int .i64 xd] rfl rfl 24 #[.int .i64 0, .int .i64 0, .int .i64 0, .int .i64 0, .int .i64 0, .int .u64 0, .int .i64 0] HZ4.out rfl rfl (insRow_one _ _ _ _ _ _ _) ?_
          refine hK.out _ _ HS6.out (fun _ => trivial) ?_
          clear hK K
          generalize W6.setRow b4 #[.int .i64 xo, .int .i64 xa, .int .i64 xb, .int .i64 xl, .int .i64 xc, .int .u64 xi, .int .i64 xd] = V6 at *
          have HR7 := Lib.hid (show (V6.setRow b5 #[.int .i64 yo, .int .i64 ya, .int .i64 yb, .int .i64 yl, .int .i64 yc, .int .u64 yi, .int .i64 yd]).heap[b5]? = some (.cells #[.int .i64 yo, .int .i64 ya, .int .i64 yb, .int .i64 yl, .int .i64 yc, .int .u64 yi, .int .i64 yd] 24 (0, 0)) from setRow_heap _ _ _ _ _ _ HZ6.out)
          have HR6 := Lib.hid ((setRow_other V6 b5 b4 #[.int .i64 yo, .int .i64 ya, .int .i64 yb, .int .i64 yl, .int .i64 yc, .int .u64 yi, .int .i64 yd] hne).trans HR6.out)
          have HS7 := Lib.hid (below_setRow HS6.out HG5.out #[.int .i64 yo, .int .i64 ya, .int .i64 yb, .int .i64 yl, .int .i64 yc, .int .u64 yi, .int .i64 yd])
          refine wpAnyK_one (i := 7) (by kernel_rfl) rfl (fun K hK => ?_)
          rw [if_pos (by rfl)]
          refine wp_store_row 24 _ _ rfl b5 #[.int .i64 yo, .int .i64 ya, .int .i64 yb, .int .i64 yl, .int .i64 yc, .int .u64 yi, .int .i64 yd] rfl rfl 24 #[.int .i64 0, .int .i64 0, .int .i64 0, .int .i64 0, .int .i64 0, .int .u64 0, .int .i64 0] HZ6.out rfl rfl (insRow_one _ _ _ _ _ _ _) ?_
          refine hK.out _ _ HS7.out (fun _ => trivial) ?_
          clear hK K
          generalize V6.setRow b5 #[.int .i64 yo, .int .i64 ya, .int .i64 yb, .int .i64 yl, .int .i64 yc, .int .u64 yi, .int .i64 yd] = V7 at *
          try simp only [Act.put, List.setIfInBounds_toArray, List.set_cons_zero, List.set_cons_succ]
          refine wpAnyK_done (by kernel_rfl) ?_ _
          refine NoPanic.normal ?_
          try go_simp
          first | refine hK1 _ _ (Met.intro ?_) | refine Met.intro ?_ | skip
          refine hJ1 _ _ ?_
          repeat apply Exists.intro
          refine ⟨?_, rfl⟩
          exact two_mk HF1.out HO1.out HF3.out HO3.out HR6.out HR7.out (HB2.out.trans (HS7.out.mono HB2.out.size))
      · skip
        go_simp
        have HS7 := Lib.hid (HS1.out.alloc HS1.out.size (.cells #[.int .i64 0, .int .i64 0, .int .i64 0, .int .i64 0, .int .i64 0, .int .u64 0, .int .i64 0] 24))
        have HG4 := Lib.hid (HS1.out.size)
        have HZ4 := Lib.hid (show (W1.alloc (.cells #[.int .i64 0, .int .i64 0, .int .i64 0, .int .i64 0, .int .i64 0, .int .u64 0, .int .i64 0] 24)).heap[W1.heap.size]? = some (.cells #[.int .i64 0, .int .i64 0, .int .i64 0, .int .i64 0, .int .i64 0, .int .u64 0, .int .i64 0] 24 (0, 0)) from heap_alloc_new _ _)
        refine hK.out _ _ HS7.out (fun _ => trivial) ?_
        clear hK K
        generalize W1.alloc (.cells #[.int .i64 0, .int .i64 0, .int .i64 0, .int .i64 0, .int .i64 0, .int .u64 0, .int .i64 0] 24) = W7 at *
        generalize W1.heap.size = b4 at *
        try simp only [Act.put, List.setIfInBounds_toArray, List.set_cons_zero, List.set_cons_succ]
        refine wpAnyK_two (i := 3) (j := 5) (by kernel_rfl) rfl rfl (fun K hK => ?_) (fun K hK => ?_)
        · skip
          go_simp
          go_at_call 6
          refine (HT2.out _).mono ?_
          rintro e W8 ⟨⟨G, ⟨yo, ya, yb, yl, yc, yi, yd⟩, hT, hO, rfl⟩, hw⟩
          unfold insV
          have HF3 := Lib.hid hT
          have HO3 := Lib.hid hO
          have HS8 := Lib.hid (HS7.out.trans (hw.mono HS7.out.size))
          replace HZ4 := Lib.hid (row_kept HZ4.out hw)
          clear hT hO hw
          refine hK.out _ _ HS8.out (fun _ => trivial) ?_
          clear hK K
          try simp only [Act.put, List.setIfInBounds_toArray, List.set_cons_zero, List.set_cons_succ]
          refine wpAnyK_one (i := 5) (by kernel_rfl) rfl (fun K hK => ?_)
          go_simp
          have HS9 := Lib.hid (HS8.out.alloc HS8.out.size (.cells #[.int .i64 0, .int .i64 0, .int .i64 0, .int .i64 0, .int .i64 0, .int .u64 0, .int .i64 0] 24))
          have HNE := Lib.hid (row_old HZ4.out)
          replace HZ4 := Lib.hid (row_kept HZ4.out ((Below.refl _ _).alloc (Nat.le_refl _) (.cells #[.int .i64 0, .int .i64 0, .int .i64 0, .int .i64 0, .int .i64 0, .int .u64 0, .int .i64 0] 24)))
          have HG5 := Lib.hid (HS8.out.size)
          have HZ5 := Lib.hid (show (W8.alloc (.cells #[.int .i64 0, .int .i64 0, .int .i64 0, .int .i64 0, .int .i64 0, .int .u64 0, .int .i64 0] 24)).heap[W8.heap.size]? = some (.cells #[.int .i64 0, .int .i64 0, .int .i64 0, .int .i64 0, .int .i64 0, .int .u64 0, .int .i64 0] 24 (0, 0)) from heap_alloc_new _ _)
          refine hK.out _ _ HS9.out (fun _ => trivial) ?_
          clear hK K
          generalize W8.alloc (.cells #[.int .i64 0, .int .i64 0, .int .i64 0, .int .i64 0, .int .i64 0, .int .u64 0, .int .i64 0] 24) = W9 at *
          generalize W8.heap.size = b5 at *
          try simp only [Act.put, List.setIfInBounds_toArray, List.set_cons_zero, List.set_cons_succ]
          have hne : b4 ≠ b5 := by have := HNE.out; omega
          have HR6 := Lib.hid (show (W9.setRow b4 #[.int .i64 xo, .int .i64 xa, .int .i64 xb, .int .i64 xl, .int .i64 xc, .int .u64 xi, .int .i64 xd]).heap[b4]? = some (.cells #[.int .i64 xo, .int .i64 xa, .int .i64 xb, .int .i64 xl, .int .i64 xc, .int .u64 xi, .int .i64 xd] 24 (0, 0)) from setRow_heap _ _ _ _ _ _ HZ4.out)
          have HZ6 := Lib.hid ((setRow_other W9 b4 b5 #[.int .i64 xo, .int .i64 xa, .int .i64 xb, .int .i64 xl, .int .i64 xc, .int .u64 xi, .int .i64 xd] (fun h => hne h.symm)).trans HZ5.out)
          have HS6 := Lib.hid (below_setRow HS9.out HG4.out #[.int .i64 xo, .int .i64 xa, .int .i64 xb, .int .i64 xl, .int .i64 xc, .int .u64 xi, .int .i64 xd])
          refine wpAnyK_one (i := 6) (by kernel_rfl) rfl (fun K hK => ?_)
          rw [if_pos (by rfl)]
          refine wp_store_row 24 _ _ rfl b4 #[.int .i64 xo, .int .i64 xa, .int .i64 xb, .int .i64 xl, .int .i64 xc, .int .u64 xi, .int .i64 xd] rfl rfl 24 #[.int .i64 0, .int .i64 0, .int .i64 0, .int .i64 0, .int .i64 0, .int .u64 0, .int .i64 0] HZ4.out rfl rfl (insRow_one _ _ _ _ _ _ _) ?_
          refine hK.out _ _ HS6.out (fun _ => trivial) ?_
          clear hK K
          generalize W9.setRow b4 #[.int .i64 xo, .int .i64 xa, .int .i64 xb, .int .i64 xl, .int .i64 xc, .int .u64 xi, .int .i64 xd] = V6 at *
          have HR7 := Lib.hid (show (V6.setRow b5 #[.int .i64 yo, .int .i64 ya, .int .i64 yb, .int .i64 yl, .int .i64 yc, .int .u64 yi, .int .i64 yd]).heap[b5]? = some (.cells #[.int .i64 yo, .int .i64 ya, .int .i64 yb, .int .i64 yl, .int .i64 yc, .int .u64 yi, .int .i64 yd] 24 (0, 0)) from setRow_heap _ _ _ _ _ _ HZ6.out)
          have HR6 := Lib.hid ((setRow_other V6 b5 b4 #[.int .i64 yo, .int .i64 ya, .int .i64 yb, .int .i64 yl, .int .i64 yc, .int .u64 yi, .int .i64 yd] hne).trans HR6.out)
          have HS7 := Lib.hid (below_setRow HS6.out HG5.out #[.int .i64 yo, .int .i64 ya, .int .i64 yb, .int .i64 yl, .int .i64 yc, .int .u64 yi, .int .i64 yd])
          refine wpAnyK_one (i := 7) (by kernel_rfl) rfl (fun K hK => ?_)
          rw [if_pos (by rfl)]
          refine wp_store_row 24 _ _ rfl b5 #[.int .i64 yo, .int .i64 ya, .int .i64 yb, .int .i64 yl, .int .i64 yc, .int .u64 yi, .int .i64 yd] rfl rfl 24 #[.int .i64 0, .int .i64 0, .int .i64 0, .int .i64 0, .int .i64 0, .int .u64 0, .int .i64 0] HZ6.out rfl rfl (insRow_one _ _ _ _ _ _ _) ?_
          refine hK.out _ _ HS7.out (fun _ => trivial) ?_
          clear hK K
          generalize V6.setRow b5 #[.int .i64 yo, .int .i64 ya, .int .i64 yb, .int .i64 yl, .int .i64 yc, .int .u64 yi, .int .i64 yd] = V7 at *
          try simp only [Act.put, List.setIfInBounds_toArray, List.set_cons_zero, List.set_cons_succ]
          refine wpAnyK_done (by kernel_rfl) ?_ _
          refine NoPanic.normal ?_
          try go_simp
          first | refine hK1 _ _ (Met.intro ?_) | refine Met.intro ?_ | skip
          refine hJ1 _ _ ?_
          repeat apply Exists.intro
          refine ⟨?_, rfl⟩
          exact two_mk HF1.out HO1.out HF3.out HO3.out HR6.out HR7.out (HB2.out.trans (HS7.out.mono HB2.out.size))
        · skip
          go_simp
          have HS10 := Lib.hid (HS7.out.alloc HS7.out.size (.cells #[.int .i64 0, .int .i64 0, .int .i64 0, .int .i64 0, .int .i64 0, .int .u64 0, .int .i64 0] 24))
          have HNE := Lib.hid (row_old HZ4.out)
          replace HZ4 := Lib.hid (row_kept HZ4.out ((Below.refl _ _).alloc (Nat.le_refl _) (.cells #[.int .i64 0, .int .i64 0, .int .i64 0, .int .i64 0, .int .i64 0, .int .u64 0, .int .i64 0] 24)))
          have HG5 := Lib.hid (HS7.out.size)
          have HZ5 := Lib.hid (show (W7.alloc (.cells #[.int .i64 0, .int .i64 0, .int .i64 0, .int .i64 0, .int .i64 0, .int .u64 0, .int .i64 0] 24)).heap[W7.heap.size]? = some (.cells #[.int .i64 0, .int .i64 0, .int .i64 0, .int .i64 0, .int .i64 0, .int .u64 0, .int .i64 0] 24 (0, 0)) from heap_alloc_new _ _)
          refine hK.out _ _ HS10.out (fun _ => trivial) ?_
          clear hK K
          generalize W7.alloc (.cells #[.int .i64 0, .int .i64 0, .int .i64 0, .int .i64 0, .int .i64 0, .int .u64 0, .int .i64 0] 24) = W10 at *
          generalize W7.heap.size = b5 at *
          try simp only [Act.put, List.setIfInBounds_toArray, List.set_cons_zero, List.set_cons_succ]
          refine wpAnyK_one (i := 3) (by kernel_rfl) rfl (fun K hK => ?_)
          go_simp
          go_at_call 6
          refine (HT2.out _).mono ?_
          rintro e W11 ⟨⟨G, ⟨yo, ya, yb, yl, yc, yi, yd⟩, hT, hO, rfl⟩, hw⟩
          unfold insV
          have HF3 := Lib.hid hT
          have HO3 := Lib.hid hO
          have HS11 := Lib.hid (HS10.out.trans (hw.mono HS10.out.size))
          replace HZ4 := Lib.hid (row_kept HZ4.out hw)
          replace HZ5 := Lib.hid (row_kept HZ5.out hw)
          clear hT hO hw
          refine hK.out _ _ HS11.out (fun _ => trivial) ?_
          clear hK K
          try simp only [Act.put, List.setIfInBounds_toArray, List.set_cons_zero, List.set_cons_succ]
          have hne : b4 ≠ b5 := by have := HNE.out; omega
          have HR6 := Lib.hid (show (W11.setRow b4 #[.int .i64 xo, .int .i64 xa, .int .i64 xb, .int .i64 xl, .int .i64 xc, .int .u64 xi, .int .i64 xd]).heap[b4]? = some (.cells #[.int .i64 xo, .int .i64 xa, .int .i64 xb, .int .i64 xl, .int .i64 xc, .int .u64 xi, .int .i64 xd] 24 (0, 0)) from setRow_heap _ _ _ _ _ _ HZ4.out)
          have HZ6 := Lib.hid ((setRow_other W11 b4 b5 #[.int .i64 xo, .int .i64 xa, .int .i64 xb, .int .i64 xl, .int .i64 xc, .int .u64 xi, .int .i64 xd] (fun h => hne h.symm)).trans HZ5.out)
          have HS6 := Lib.hid (below_setRow HS11.out HG4.out #[.int .i64 xo, .int .i64 xa, .int .i64 xb, .int .i64 xl, .int .i64 xc, .int .u64 xi, .int .i64 xd])
          refine wpAnyK_one (i := 6) (by kernel_rfl) rfl (fun K hK => ?_)
          rw [if_pos (by rfl)]
          refine wp_store_row 24 _ _ rfl b4 #[.int .i64 xo, .int .i64 xa, .int .i64 xb, .int .i64 xl, .int .i64 xc, .int .u64 xi, .int .i64 xd] rfl rfl 24 #[.int .i64 0, .int .i64 0, .int .i64 0, .int .i64 0, .int .i64 0, .int .u64 0, .int .i64 0] HZ4.out rfl rfl (insRow_one _ _ _ _ _ _ _) ?_
          refine hK.out _ _ HS6.out (fun _ => trivial) ?_
          clear hK K
          generalize W11.setRow b4 #[.int .i64 xo, .int .i64 xa, .int .i64 xb, .int .i64 xl, .int .i64 xc, .int .u64 xi, .int .i64 xd] = V6 at *
          have HR7 := Lib.hid (show (V6.setRow b5 #[.int .i64 yo, .int .i64 ya, .int .i64 yb, .int .i64 yl, .int .i64 yc, .int .u64 yi, .int .i64 yd]).heap[b5]? = some (.cells #[.int .i64 yo, .int .i64 ya, .int .i64 yb, .int .i64 yl, .int .i64 yc, .int .u64 yi, .int .i64 yd] 24 (0, 0)) from setRow_heap _ _ _ _ _ _ HZ6.out)
          have HR6 := Lib.hid ((setRow_other V6 b5 b4 #[.int .i64 yo, .int .i64 ya, .int .i64 yb, .int .i64 yl, .int .i64 yc, .int .u64 yi, .int .i64 yd] hne).trans HR6.out)
          have HS7 := Lib.hid (below_setRow HS6.out HG5.out #[.int .i64 yo, .int .i64 ya, .int .i64 yb, .int .i64 yl, .int .i64 yc, .int .u64 yi, .int .i64 yd])
          refine wpAnyK_one (i := 7) (by kernel_rfl) rfl (fun K hK => ?_)
          rw [if_pos (by rfl)]
          refine wp_store_row 24 _ _ rfl b5 #[.int .i64 yo, .int .i64 ya, .int .i64 yb, .int .i64 yl, .int .i64 yc, .int .u64 yi, .int .i64 yd] rfl rfl 24 #[.int .i64 0, .int .i64 0, .int .i64 0, .int .i64 0, .int .i64 0, .int .u64 0, .int .i64 0] HZ6.out rfl rfl (insRow_one _ _ _ _ _ _ _) ?_
          refine hK.out _ _ HS7.out (fun _ => trivial) ?_
          clear hK K
          generalize V6.setRow b5 #[.int .i64 yo, .int .i64 ya, .int .i64 yb, .int .i64 yl, .int .i64 yc, .int .u64 yi, .int .i64 yd] = V7 at *
          try simp only [Act.put, List.setIfInBounds_toArray, List.set_cons_zero, List.set_cons_succ]
          refine wpAnyK_done (by kernel_rfl) ?_ _
          refine NoPanic.normal ?_
          try go_simp
          first | refine hK1 _ _ (Met.intro ?_) | refine Met.intro ?_ | skip
          refine hJ1 _ _ ?_
          repeat apply Exists.intro
          refine ⟨?_, rfl⟩
          exact two_mk HF1.out HO1.out HF3.out HO3.out HR6.out HR7.out (HB2.out.trans (HS7.out.mono HB2.out.size))
      · skip
        go_simp
        have HS12 := Lib.hid (HS1.out.alloc HS1.out.size (.cells #[.int .i64 0, .int .i64 0, .int .i64 0, .int .i64 0, .int .i64 0, .int .u64 0, .int .i64 0] 24))
        have HG5 := Lib.hid (HS1.out.size)
        have HZ5 := Lib.hid (show (W1.alloc (.cells #[.int .i64 0, .int .i64 0, .int .i64 0, .int .i64 0, .int .i64 0, .int .u64 0, .int .i64 0] 24)).heap[W1.heap.size]? = some (.cells #[.int .i64 0, .int .i64 0, .int .i64 0, .int .i64 0, .int .i64 0, .int .u64 0, .int .i64 0] 24 (0, 0)) from heap_alloc_new _ _)
        refine hK.out _ _ HS12.out (fun _ => trivial) ?_
        clear hK K
        generalize W1.alloc (.cells #[.int .i64 0, .int .i64 0, .int .i64 0, .int .i64 0, .int .i64 0, .int .u64 0, .int .i64 0] 24) = W12 at *
        generalize W1.heap.size = b5 at *
        try simp only [Act.put, List.setIfInBounds_toArray, List.set_cons_zero, List.set_cons_succ]
        refine wpAnyK_two (i := 3) (j := 4) (by kernel_rfl) rfl rfl (fun K hK => ?_) (fun K hK => ?_)
        · skip
          go_simp
          go_at_call 6
          refine (HT2.out _).mono ?_
          rintro e W13 ⟨⟨G, ⟨yo, ya, yb, yl, yc, yi, yd⟩, hT, hO, rfl⟩, hw⟩
          unfold insV
          have HF3 := Lib.hid hT
          have HO3 := Lib.hid hO
          have HS13 := Lib.hid (HS12.out.trans (hw.mono HS12.out.size))
          replace HZ5 := Lib.hid (row_kept HZ5.out hw)
          clear hT hO hw
          refine hK.out _ _ HS13.out (fun _ => trivial) ?_
          clear hK K
          try simp only [Act.put, List.setIfInBounds_toArray, List.set_cons_zero, List.set_cons_succ]
          refine wpAnyK_one (i := 4) (by kernel_rfl) rfl (fun K hK => ?_)
          go_simp
          have HS14 := Lib.hid (HS13.out.alloc HS13.out.size (.cells #[.int .i64 0, .int .i64 0, .int .i64 0, .int .i64 0, .int .i64 0, .int .u64 0, .int .i64 0] 24))
          have HNE := Lib.hid (row_old HZ5.out)
          replace HZ5 := Lib.hid (row_kept HZ5.out ((Below.refl _ _).alloc (Nat.le_refl _) (.cells #[.int .i64 0, .int .i64 0, .int .i64 0, .int .i64 0, .int .i64 0, .int .u64 0, .int .i64 0] 24)))
          have HG4 := Lib.hid (HS13.out.size)
          have HZ4 := Lib.hid (show (W13.alloc (.cells #[.int .i64 0, .int .i64 0, .int .i64 0, .int .i64 0, .int .i64 0, .int .u64 0, .int .i64 0] 24)).heap[W13.heap.size]? = some (.cells #[.int .i64 0, .int .i64 0, .int .i64 0, .int .i64 0, .int .i64 0, .int .u64 0, .int .i64 0] 24 (0, 0)) from heap_alloc_new _ _)
          refine hK.out _ _ HS14.out (fun _ => trivial) ?_
          clear hK K
          generalize W13.alloc (.cells #[.int .i64 0, .int .i64 0, .int .i64 0, .int .i64 0, .int .i64 0, .int .u64 0, .int .i64 0] 24) = W14 at *
          generalize W13.heap.size = b4 at *
          try simp only [Act.put, List.setIfInBounds_toArray, List.set_cons_zero, List.set_cons_succ]
          have hne : b4 ≠ b5 := by have := HNE.out; omega
          have HR6 := Lib.hid (show (W14.setRow b4 #[.int .i64 xo, .int .i64 xa, .int .i64 xb, .int .i64 xl, .int .i64 xc, .int .u64 xi, .int .i64 xd]).heap[b4]? = some (.cells #[.int .i64 xo, .int .i64 xa, .int .i64 xb, .int .i64 xl, .int .i64 xc, .int .u64 xi, .int .i64 xd] 24 (0, 0)) from setRow_heap _ _ _ _ _ _ HZ4.out)
          have HZ6 := Lib.hid ((setRow_other W14 b4 b5 #[.int .i64 xo, .int .i64 xa, .int .i64 xb, .int .i64 xl, .int .i64 xc, .int .u64 xi, .int .i64 xd] (fun h => hne h.symm)).trans HZ5.out)
          have HS6 := Lib.hid (below_setRow HS14.out HG4.out #[.int .i64 xo, .int .i64 xa, .int .i64 xb, .int .i64 xl, .int .i64 xc, .int .u64 xi, .int .i64 xd])
          refine wpAnyK_one (i := 6) (by kernel_rfl) rfl (fun K hK => ?_)
          rw [if_pos (by rfl)]
          refine wp_store_row 24 _ _ rfl b4 #[.int .i64 xo, .int .i64 xa, .int .i64 xb, .int .i64 xl, .int .i64 xc, .int .u64 xi, .int .i64 xd] rfl rfl 24 #[.int .i64 0, .int .i64 0, .int .i64 0, .int .i64 0, .int .i64 0, .int .u64 0, .int .i64 0] HZ4.out rfl rfl (insRow_one _ _ _ _ _ _ _) ?_
          refine hK.out _ _ HS6.out (fun _ => trivial) ?_
          clear hK K
          generalize W14.setRow b4 #[.int .i64 xo, .int .i64 xa, .int .i64 xb, .int .i64 xl, .int .i64 xc, .int .u64 xi, .int .i64 xd] = V6 at *
          have HR7 := Lib.hid (show (V6.setRow b5 #[.int .i64 yo, .int .i64 ya, .int .i64 yb, .int .i64 yl, .int .i64 yc, .int .u64 yi, .int .i64 yd]).heap[b5]? = some (.cells #[.int .i64 yo, .int .i64 ya, .int .i64 yb, .int .i64 yl, .int .i64 yc, .int .u64 yi, .int .i64 yd] 24 (0, 0)) from setRow_heap _ _ _ _ _ _ HZ6.out)
          have HR6 := Lib.hid ((setRow_other V6 b5 b4 #[.int .i64 yo, .int .i64 ya, .int .i64 yb, .int .i64 yl, .int .i64 yc, .int .u64 yi, .int .i64 yd] hne).trans HR6.out)
          have HS7 := Lib.hid (below_setRow HS6.out HG5.out #[.int .i64 yo, .int .i64 ya, .int .i64 yb, .int .i64 yl, .int .i64 yc, .int .u64 yi, .int .i64 yd])
          refine wpAnyK_one (i := 7) (by kernel_rfl) rfl (fun K hK => ?_)
          rw [if_pos (by rfl)]
          refine wp_store_row 24 _ _ rfl b5 #[.int .i64 yo, .int .i64 ya, .int .i64 yb, .int .i64 yl, .int .i64 yc, .int .u64 yi, .int .i64 yd] rfl rfl 24 #[.int .i64 0, .int .i64 0, .int .i64 0, .int .i64 0, .int .i64 0, .int .u64 0, .int .i64 0] HZ6.out rfl rfl (insRow_one _ _ _ _ _ _ _) ?_
          refine hK.out _ _ HS7.out (fun _ => trivial) ?_
          clear hK K
          generalize V6.setRow b5 #[.int .i64 yo, .int .i64 ya, .int .i64 yb, .int .i64 yl, .int .i64 yc, .int .u64 yi, .int .i64 yd] = V7 at *
          try simp only [Act.put, List.setIfInBounds_toArray, List.set_cons_zero, List.set_cons_succ]
          refine wpAnyK_done (by kernel_rfl) ?_ _
          refine NoPanic.normal ?_
          try go_simp
          first | refine hK1 _ _ (Met.intro ?_) | refine Met.intro ?_ | skip
          refine hJ1 _ _ ?_
          repeat apply Exists.intro
          refine ⟨?_, rfl⟩
          exact two_mk HF1.out HO1.out HF3.out HO3.out HR6.out HR7.out (HB2.out.trans (HS7.out.mono HB2.out.size))
        · skip
          go_simp
          have HS15 := Lib.hid (HS12.out.alloc HS12.out.size (.cells #[.int .i64 0, .int .i64 0, .int .i64 0, .int .i64 0, .int .i64 0, .int .u64 0, .int .i64 0] 24))
          have HNE := Lib.hid (row_old HZ5.out)
          replace HZ5 := Lib.hid (row_kept HZ5.out ((Below.refl _ _).alloc (Nat.le_refl _) (.cells #[.int .i64 0, .int .i64 0, .int .i64 0, .int .i64 0, .int .i64 0, .int .u64 0, .int .i64 0] 24)))
          have HG4 := Lib.hid (HS12.out.size)
          have HZ4 := Lib.hid (show (W12.alloc (.cells #[.int .i64 0, .int .i64 0, .int .i64 0, .int .i64 0, .int .i64 0, .int .u64 0, .int .i64 0] 24)).heap[W12.heap.size]? = some (.cells #[.int .i64 0, .int .i64 0, .int .i64 0, .int .i64 0, .int .i64 0, .int .u64 0, .int .i64 0] 24 (0, 0)) from heap_alloc_new _ _)
          refine hK.out _ _ HS15.out (fun _ => trivial) ?_
          clear hK K
          generalize W12.alloc (.cells #[.int .i64 0, .int .i64 0, .int .i64 0, .int .i64 0, .int .i64 0, .int .u64 0, .int .i64 0] 24) = W15 at *
          generalize W12.heap.size = b4 at *
          try simp only [Act.put, List.setIfInBounds_toArray, List.set_cons_zero, List.set_cons_succ]
          refine wpAnyK_one (i := 3) (by kernel_rfl) rfl (fun K hK => ?_)
          go_simp
          go_at_call 6
          refine (HT2.out _).mono ?_
          rintro e W16 ⟨⟨G, ⟨yo, ya, yb, yl, yc, yi, yd⟩, hT, hO, rfl⟩, hw⟩
          unfold insV
          have HF3 := Lib.hid hT
          have HO3 := Lib.hid hO
          have HS16 := Lib.hid (HS15.out.trans (hw.mono HS15.out.size))
          replace HZ4 := Lib.hid (row_kept HZ4.out hw)
          replace HZ5 := Lib.hid (row_kept HZ5.out hw)
          clear hT hO hw
          refine hK.out _ _ HS16.out (fun _ => trivial) ?_
          clear hK K
          try simp only [Act.put, List.setIfInBounds_toArray, List.set_cons_zero, List.set_cons_succ]
          have hne : b4 ≠ b5 := by have := HNE.out; omega
          have HR6 := Lib.hid (show (W16.setRow b4 #[.int .i64 xo, .int .i64 xa, .int .i64 xb, .int .i64 xl, .int .i64 xc, .int .u64 xi, .int .i64 xd]).heap[b4]? = some (.cells #[.int .i64 xo, .int .i64 xa, .int .i64 xb, .int .i64 xl, .int .i64 xc, .int .u64 xi, .int .i64 xd] 24 (0, 0)) from setRow_heap _ _ _ _ _ _ HZ4.out)
          have HZ6 := Lib.hid ((setRow_other W16 b4 b5 #[.int .i64 xo, .int .i64 xa, .int .i64 xb, .int .i64 xl, .int .i64 xc, .int .u64 xi, .int .i64 xd] (fun h => hne h.symm)).trans HZ5.out)
          have HS6 := Lib.hid (below_setRow HS16.out HG4.out #[.int .i64 xo, .int .i64 xa, .int .i64 xb, .int .i64 xl, .int .i64 xc, .int .u64 xi, .int .i64 xd])
          refine wpAnyK_one (i := 6) (by kernel_rfl) rfl (fun K hK => ?_)
          rw [if_pos (by rfl)]
          refine wp_store_row 24 _ _ rfl b4 #[.int .i64 xo, .int .i64 xa, .int .i64 xb, .int .i64 xl, .int .i64 xc, .int .u64 xi, .int .i64 xd] rfl rfl 24 #[.int .i64 0, .int .i64 0, .int .i64 0, .int .i64 0, .int .i64 0, .int .u64 0, .int .i64 0] HZ4.out rfl rfl (insRow_one _ _ _ _ _ _ _) ?_
          refine hK.out _ _ HS6.out (fun _ => trivial) ?_
          clear hK K
          generalize W16.setRow b4 #[.int .i64 xo, .int .i64 xa, .int .i64 xb, .int .i64 xl, .int .i64 xc, .int .u64 xi, .int .i64 xd] = V6 at *
          have HR7 := Lib.hid (show (V6.setRow b5 #[.int .i64 yo, .int .i64 ya, .int .i64 yb, .int .i64 yl, .int .i64 yc, .int .u64 yi, .int .i64 yd]).heap[b5]? = some (.cells #[.int .i64 yo, .int .i64 ya, .int .i64 yb, .int .i64 yl, .int .i64 yc, .int .u64 yi, .int .i64 yd] 24 (0, 0)) from setRow_heap _ _ _ _ _ _ HZ6.out)
          have HR6 := Lib.hid ((setRow_other V6 b5 b4 #[.int .i64 yo, .int .i64 ya, .int .i64 yb, .int .i64 yl, .int .i64 yc, .int .u64 yi, .int .i64 yd] hne).trans HR6.out)
          have HS7 := Lib.hid (below_setRow HS6.out HG5.out #[.int .i64 yo, .int .i64 ya, .int .i64 yb, .int .i64 yl, .int .i64 yc, .int .u64 yi, .int .i64 yd])
          refine wpAnyK_one (i := 7) (by kernel_rfl) rfl (fun K hK => ?_)
          rw [if_pos (by rfl)]
          refine wp_store_row 24 _ _ rfl b5 #[.int .i64 yo, .int .i64 ya, .int .i64 yb, .int .i64 yl, .int .i64 yc, .int .u64 yi, .int .i64 yd] rfl rfl 24 #[.int .i64 0, .int .i64 0, .int .i64 0, .int .i64 0, .int .i64 0, .int .u64 0, .int .i64 0] HZ6.out rfl rfl (insRow_one _ _ _ _ _ _ _) ?_
          refine hK.out _ _ HS7.out (fun _ => trivial) ?_
          clear hK K
          generalize V6.setRow b5 #[.int .i64 yo, .int .i64 ya, .int .i64 yb, .int .i64 yl, .int .i64 yc, .int .u64 yi, .int .i64 yd] = V7 at *
          try simp only [Act.put, List.setIfInBounds_toArray, List.set_cons_zero, List.set_cons_succ]
          refine wpAnyK_done (by kernel_rfl) ?_ _
          refine NoPanic.normal ?_
          try go_simp
          first | refine hK1 _ _ (Met.intro ?_) | refine Met.intro ?_ | skip
          refine hJ1 _ _ ?_
          repeat apply Exists.intro
          refine ⟨?_, rfl⟩
          exact two_mk HF1.out HO1.out HF3.out HO3.out HR6.out HR7.out (HB2.out.trans (HS7.out.mono HB2.out.size))
    · skip
      go_simp
      have HS17 := Lib.hid (HS.out.alloc HS.out.size (.cells #[.int .i64 0, .int .i64 0, .int .i64 0, .int .i64 0, .int .i64 0, .int .u64 0, .int .i64 0] 24))
      have HG4 := Lib.hid (HS.out.size)
      have HZ4 := Lib.hid (show (w2d.alloc (.cells #[.int .i64 0, .int .i64 0, .int .i64 0, .int .i64 0, .int .i64 0, .int .u64 0, .int .i64 0] 24)).heap[w2d.heap.size]? = some (.cells #[.int .i64 0, .int .i64 0, .int .i64 0, .int .i64 0, .int .i64 0, .int .u64 0, .int .i64 0] 24 (0, 0)) from heap_alloc_new _ _)
      refine hK.out _ _ HS17.out (fun _ => trivial) ?_
      clear hK K
      generalize w2d.alloc (.cells #[.int .i64 0, .int .i64 0, .int .i64 0, .int .i64 0, .int .i64 0, .int .u64 0, .int .i64 0] 24) = W17 at *
      generalize w2d.heap.size = b4 at *
      try simp only [Act.put, List.setIfInBounds_toArray, List.set_cons_zero, List.set_cons_succ]
      refine wpAnyK_two (i := 1) (j := 5) (by kernel_rfl) rfl rfl (fun K hK => ?_) (fun K hK => ?_)
      · skip
        go_simp
        go_at_call 6
        refine (HT1.out _).mono ?_
        rintro e W18 ⟨⟨F, ⟨xo, xa, xb, xl, xc, xi, xd⟩, hT, hO, rfl⟩, hw⟩
        unfold insV
        have HF1 := Lib.hid hT
        have HO1 := Lib.hid hO
        have HS18 := Lib.hid (HS17.out.trans (hw.mono HS17.out.size))
        replace HZ4 := Lib.hid (row_kept HZ4.out hw)
        clear hT hO hw
        refine hK.out _ _ HS18.out (fun _ => trivial) ?_
        clear hK K
        try simp only [Act.put, List.setIfInBounds_toArray, List.set_cons_zero, List.set_cons_succ]
        refine wpAnyK_two (i := 3) (j := 5) (by kernel_rfl) rfl rfl (fun K hK => ?_) (fun K hK => ?_)
        · skip
          go_simp
          go_at_call 6
          refine (HT2.out _).mono ?_
          rintro e W19 ⟨⟨G, ⟨yo, ya, yb, yl, yc, yi, yd⟩, hT, hO, rfl⟩, hw⟩
          unfold insV
          have HF3 := Lib.hid hT
          have HO3 := Lib.hid hO
          have HS19 := Lib.hid (HS18.out.trans (hw.mono HS18.out.size))
          replace HZ4 := Lib.hid (row_kept HZ4.out hw)
          clear hT hO hw
          refine hK.out _ _ HS19.out (fun _ => trivial) ?_
          clear hK K
          try simp only [Act.put, List.setIfInBounds_toArray, List.set_cons_zero, List.set_cons_succ]
          refine wpAnyK_one (i := 5) (by kernel_rfl) rfl (fun K hK => ?_)
          go_simp
          have HS20 := Lib.hid (HS19.out.alloc HS19.out.size (.cells #[.int .i64 0, .int .i64 0, .int .i64 0, .int .i64 0, .int .i64 0, .int .u64 0, .int .i64 0] 24))
          have HNE := Lib.hid (row_old HZ4.out)
          replace HZ4 := Lib.hid (row_kept HZ4.out ((Below.refl _ _).alloc (Nat.le_refl _) (.cells #[.int .i64 0, .int .i64 0, .int .i64 0, .int .i64 0, .int .i64 0, .int .u64 0, .int .i64 0] 24)))
          have HG5 := Lib.hid (HS19.out.size)
          have HZ5 := Lib.hid (show (W19.alloc (.cells #[.int .i64 0, .int .i64 0, .int .i64 0, .int .i64 0, .int .i64 0, .int .u64 0, .int .i64 0] 24)).heap[W19.heap.size]? = some (.cells #[.int .i64 0, .int .i64 0, .int .i64 0, .int .i64 0, .int .i64 0, .int .u64 0, .int .i64 0] 24 (0, 0)) from heap_alloc_new _ _)
          refine hK.out _ _ HS20.out (fun _ => trivial) ?_
          clear hK K
          generalize W19.alloc (.cells #[.int .i64 0, .int .i64 0, .int .i64 0, .int .i64 0, .int .i64 0, .int .u64 0, .int .i64 0] 24) = W20 at *
          generalize W19.heap.size = b5 at *
          try simp only [Act.put, List.setIfInBounds_toArray, List.set_cons_zero, List.set_cons_succ]
          have hne : b4 ≠ b5 := by have := HNE.out; omega
          have HR6 := Lib.hid (show (W20.setRow b4 #[.int .i64 xo, .int .i64 xa, .int .i64 xb, .int .i64 xl, .int .i64 xc, .int .u64 xi, .int .i64 xd]).heap[b4]? = some (.cells #[.int .i64 xo, .int .i64 xa, .int .i64 xb, .int .i64 xl, .int .i64 xc, .int .u64 xi, .int .i64 xd] 24 (0, 0)) from setRow_heap _ _ _ _ _ _ HZ4.out)
          have HZ6 := Lib.hid ((setRow_other W20 b4 b5 #[.int .i64 xo, .int .i64 xa, .int .i64 xb, .int .i64 xl, .int .i64 xc, .int .u64 xi, .int .i64 xd] (fun h => hne h.symm)).trans HZ5.out)
          have HS6 := Lib.hid (below_setRow HS20.out HG4.out #[.int .i64 xo, .int .i64 xa, .int .i64 xb, .int .i64 xl, .int .i64 xc, .int .u64 xi, .int .i64 xd])
          refine wpAnyK_one (i := 6) (by kernel_rfl) rfl (fun K hK => ?_)
          rw [if_pos (by rfl)]
          refine wp_store_row 24 _ _ rfl b4 #[.int .i64 xo, .int .i64 xa, .int .i64 xb, .int .i64 xl, .int .i64 xc, .int .u64 xi, .int .i64 xd] rfl rfl 24 #[.int .i64 0, .int .i64 0, .int .i64 0, .int .i64 0, .int .i64 0, .int .u64 0, .int .i64 0] HZ4.out rfl rfl (insRow_one _ _ _ _ _ _ _) ?_
          refine hK.out _ _ HS6.out (fun _ => trivial) ?_
          clear hK K
          generalize W20.setRow b4 #[.int .i64 xo, .int .i64 xa, .int .i64 xb, .int .i64 xl, .int .i64 xc, .int .u64 xi, .int .i64 xd] = V6 at *
          have HR7 := Lib.hid (show (V6.setRow b5 #[.int .i64 yo, .int .i64 ya, .int .i64 yb, .int .i64 yl, .int .i64 yc, .int .u64 yi, .int .i64 yd]).heap[b5]? = some (.cells #[.int .i64 yo, .int .i64 ya, .int .i64 yb, .int .i64 yl, .int .i64 yc, .int .u64 yi, .int .i64 yd] 24 (0, 0)) from setRow_heap _ _ _ _ _ _ HZ6.out)
          have HR6 := Lib.hid ((setRow_other V6 b5 b4 #[.int .i64 yo, .int .i64 ya, .int .i64 yb, .int .i64 yl, .int .i64 yc, .int .u64 yi, .int .i64 yd] hne).trans HR6.out)
          have HS7 := Lib.hid (below_setRow HS6.out HG5.out #[.int .i64 yo, .int .i64 ya, .int .i64 yb, .int .i64 yl, .int .i64 yc, .int .u64 yi, .int .i64 yd])
          refine wpAnyK_one (i := 7) (by kernel_rfl) rfl (fun K hK => ?_)
          rw [if_pos (by rfl)]
          refine wp_store_row 24 _ _ rfl b5 #[.int .i64 yo, .int .i64 ya, .int .i64 yb, .int .i64 yl, .int .i64 yc, .int .u64 yi, .int .i64 yd] rfl rfl 24 #[.int .i64 0, .int .i64 0, .int .i64 0, .int .i64 0, .int .i64 0, .int .u64 0, .int .i64 0] HZ6.out rfl rfl (insRow_one _ _ _ _ _ _ _) ?_
          refine hK.out _ _ HS7.out (fun _ => trivial) ?_
          clear hK K
          generalize V6.setRow b5 #[.int .i64 yo, .int .i64 ya, .int .i64 yb, .int .i64 yl, .int .i64 yc, .int .u64 yi, .int .i64 yd] = V7 at *
          try simp only [Act.put, List.setIfInBounds_toArray, List.set_cons_zero, List.set_cons_succ]
          refine wpAnyK_done (by kernel_rfl) ?_ _
          refine NoPanic.normal ?_
          try go_simp
          first | refine hK1 _ _ (Met.intro ?_) | refine Met.intro ?_ | skip
          refine hJ1 _ _ ?_
          repeat apply Exists.intro
          refine ⟨?_, rfl⟩
          exact two_mk HF1.out HO1.out HF3.out HO3.out HR6.out HR7.out (HB2.out.trans (HS7.out.mono HB2.out.size))
        · skip
          go_simp
          have HS21 := Lib.hid (HS18.out.alloc HS18.out.size (.cells #[.int .i64 0, .int .i64 0, .int .i64 0, .int .i64 0, .int .i64 0, .int .u64 0, .int .i64 0] 24))
          have HNE := Lib.hid (row_old HZ4.out)
          replace HZ4 := Lib.hid (row_kept HZ4.out ((Below.refl _ _).alloc (Nat.le_refl _) (.cells #[.int .i64 0, .int .i64 0, .int .i64 0, .int .i64 0, .int .i64 0, .int .u64 0, .int .i64 0] 24)))
          have HG5 := Lib.hid (HS18.out.size)
          have HZ5 := Lib.hid (show (W18.alloc (.cells #[.int .i64 0, .int .i64 0, .int .i64 0, .int .i64 0, .int .i64 0, .int .u64 0, .int .i64 0] 24)).heap[W18.heap.size]? = some (.cells #[.int .i64 0, .int .i64 0, .int .i64 0, .int .i64 0, .int .i64 0, .int .u64 0, .int .i64 0] 24 (0, 0)) from heap_alloc_new _ _)
          refine hK.out _ _ HS21.out (fun _ => trivial) ?_
          clear hK K
          generalize W18.alloc (.cells #[.int .i64 0, .int .i64 0, .int .i64 0, .int .i64 0, .int .i64 0, .int .u64 0, .int .i64 0] 24) = W21 at *
          generalize W18.heap.size = b5 at *
          try simp only [Act.put, List.setIfInBounds_toArray, List.set_cons_zero, List.set_cons_succ]
          refine wpAnyK_one (i := 3) (by kernel_rfl) rfl (fun K hK => ?_)
          go_simp
          go_at_call 6
          refine (HT2.out _).mono ?_
          rintro e W22 ⟨⟨G, ⟨yo, ya, yb, yl, yc, yi, yd⟩, hT, hO, rfl⟩, hw⟩
          unfold insV
          have HF3 := Lib.hid hT
          have HO3 := Lib.hid hO
          have HS22 := Lib.hid (HS21.out.trans (hw.mono HS21.out.size))
          replace HZ4 := Lib.hid (row_kept HZ4.out hw)
          replace HZ5 := Lib.hid (row_kept HZ5.out hw)
          clear hT hO hw
          refine hK.out _ _ HS22.out (fun _ => trivial) ?_
          clear hK K
          try simp only [Act.put, List.setIfInBounds_toArray, List.set_cons_zero, List.set_cons_succ]
          have hne : b4 ≠ b5 := by have := HNE.out; omega
          have HR6 := Lib.hid (show (W22.setRow b4 #[.int .i64 xo, .int .i64 xa, .int .i64 xb, .int .i64 xl, .int .i64 xc, .int .u64 xi, .int .i64 xd]).heap[b4]? = some (.cells #[.int .i64 xo, .int .i64 xa, .int .i64 xb, .int .i64 xl, .int .i64 xc, .int .u64 xi, .int .i64 xd] 24 (0, 0)) from setRow_heap _ _ _ _ _ _ HZ4.out)
          have HZ6 := Lib.hid ((setRow_other W22 b4 b5 #[.int .i64 xo, .int .i64 xa, .int .i64 xb, .int .i64 xl, .int .i64 xc, .int .u64 xi, .int .i64 xd] (fun h => hne h.symm)).trans HZ5.out)
          have HS6 := Lib.hid (below_setRow HS22.out HG4.out #[.int .i64 xo, .int .i64 xa, .int .i64 xb, .int .i64 xl, .int .i64 xc, .int .u64 xi, .int .i64 xd])
          refine wpAnyK_one (i := 6) (by kernel_rfl) rfl (fun K hK => ?_)
          rw [if_pos (by rfl)]
          refine wp_store_row 24 _ _ rfl b4 #[.int .i64 xo, .int .i64 xa, .int .i64 xb, .int .i64 xl, .int .i64 xc, .int .u64 xi, .int .i64 xd] rfl rfl 24 #[.int .i64 0, .int .i64 0, .int .i64 0, .int .i64 0, .int .i64 0, .int .u64 0, .int .i64 0] HZ4.out rfl rfl (insRow_one _ _ _ _ _ _ _) ?_
          refine hK.out _ _ HS6.out (fun _ => trivial) ?_
          clear hK K
          generalize W22.setRow b4 #[.int .i64 xo, .int .i64 xa, .int .i64 xb, .int .i64 xl, .int .i64 xc, .int .u64 xi, .int .i64 xd] = V6 at *
          have HR7 := Lib.hid (show (V6.setRow b5 #[.int .i64 yo, .int .i64 ya, .int .i64 yb, .int .i64 yl, .int .i64 yc, .int .u64 yi, .int .i64 yd]).heap[b5]? = some (.cells #[.int .i64 yo, .int .i64 ya, .int .i64 yb, .int .i64 yl, .int .i64 yc, .int .u64 yi, .int .i64 yd] 24 (0, 0)) from setRow_heap _ _ _ _ _ _ HZ6.out)
          have HR6 := Lib.hid ((setRow_other V6 b5 b4 #[.int .i64 yo, .int .i64 ya, .int .i64 yb, .int .i64 yl, .int .i64 yc, .int .u64 yi, .int .i64 yd] hne).trans HR6.out)
          have HS7 := Lib.hid (below_setRow HS6.out HG5.out #[.int .i64 yo, .int .i64 ya, .int .i64 yb, .int .i64 yl, .int .i64 yc, .int .u64 yi, .int .i64 yd])
          refine wpAnyK_one (i := 7) (by kernel_rfl) rfl (fun K hK => ?_)
          rw [if_pos (by rfl)]
          refine wp_store_row 24 _ _ rfl b5 #[.int .i64 yo, .int .i64 ya, .int .i64 yb, .int .i64 yl, .int .i64 yc, .int .u64 yi, .int .i64 yd] rfl rfl 24 #[.int .i64 0, .int .i64 0, .int .i64 0, .int .i64 0, .int .i64 0, .int .u64 0, .int .i64 0] HZ6.out rfl rfl (insRow_one _ _ _ _ _ _ _) ?_
          refine hK.out _ _ HS7.out (fun _ => trivial) ?_
          clear hK K
          generalize V6.setRow b5 #[.int .i64 yo, .int .i64 ya, .int .i64 yb, .int .i64 yl, .int .i64 yc, .int .u64 yi, .int .i64 yd] = V7 at *
          try simp only [Act.put, List.setIfInBounds_toArray, List.set_cons_zero, List.set_cons_succ]
          refine wpAnyK_done (by kernel_rfl) ?_ _
          refine NoPanic.normal ?_
          try go_simp
          first | refine hK1 _ _ (Met.intro ?_) | refine Met.intro ?_ | skip
          refine hJ1 _ _ ?_
          repeat apply Exists.intro
          refine ⟨?_, rfl⟩
          exact two_mk HF1.out HO1.out HF3.out HO3.out HR6.out HR7.out (HB2.out.trans (HS7.out.mono HB2.out.size))
      · skip
        go_simp
        have HS23 := Lib.hid (HS17.out.alloc HS17.out.size (.cells #[.int .i64 0, .int .i64 0, .int .i64 0, .int .i64 0, .int .i64 0, .int .u64 0, .int .i64 0] 24))
        have HNE := Lib.hid (row_old HZ4.out)
        replace HZ4 := Lib.hid (row_kept HZ4.out ((Below.refl _ _).alloc (Nat.le_refl _) (.cells #[.int .i64 0, .int .i64 0, .int .i64 0, .int .i64 0, .int .i64 0, .int .u64 0, .int .i64 0] 24)))
        have HG5 := Lib.hid (HS17.out.size)
        have HZ5 := Lib.hid (show (W17.alloc (.cells #[.int .i64 0, .int .i64 0, .int .i64 0, .int .i64 0, .int .i64 0, .int .u64 0, .int .i64 0] 24)).heap[W17.heap.size]? = some (.cells #[.int .i64 0, .int .i64 0, .int .i64 0, .int .i64 0, .int .i64 0, .int .u64 0, .int .i64 0] 24 (0, 0)) from heap_alloc_new _ _)
        refine hK.out _ _ HS23.out (fun _ => trivial) ?_
        clear hK K
        generalize W17.alloc (.cells #[.int .i64 0, .int .i64 0, .int .i64 0, .int .i64 0, .int .i64 0, .int .u64 0, .int .i64 0] 24) = W23 at *
        generalize W17.heap.size = b5 at *
        try simp only [Act.put, List.setIfInBounds_toArray, List.set_cons_zero, List.set_cons_succ]
        refine wpAnyK_one (i := 1) (by kernel_rfl) rfl (fun K hK => ?_)
        go_simp
        go_at_call 6
        refine (HT1.out _).mono ?_
        rintro e W24 ⟨⟨F, ⟨xo, xa, xb, xl, xc, xi, xd⟩, hT, hO, rfl⟩, hw⟩
        unfold insV
        have HF1 := Lib.hid hT
        have HO1 := Lib.hid hO
        have HS24 := Lib.hid (HS23.out.trans (hw.mono HS23.out.size))
        replace HZ4 := Lib.hid (row_kept HZ4.out hw)
        replace HZ5 := Lib.hid (row_kept HZ5.out hw)
        clear hT hO hw
        refine hK.out _ _ HS24.out (fun _ => trivial) ?_
        clear hK K
        try simp only [Act.put, List.setIfInBounds_toArray, List.set_cons_zero, List.set_cons_succ]
        refine wpAnyK_one (i := 3) (by kernel_rfl) rfl (fun K hK => ?_)
        go_simp
        go_at_call 6
        refine (HT2.out _).mono ?_
        rintro e W25 ⟨⟨G, ⟨yo, ya, yb, yl, yc, yi, yd⟩, hT, hO, rfl⟩, hw⟩
        unfold insV
        have HF3 := Lib.hid hT
        have HO3 := Lib.hid hO
        have HS25 := Lib.hid (HS24.out.trans (hw.mono HS24.out.size))
        replace HZ4 := Lib.hid (row_kept HZ4.out hw)
        replace HZ5 := Lib.hid (row_kept HZ5.out hw)
        clear hT hO hw
        refine hK.out _ _ HS25.out (fun _ => trivial) ?_
        clear hK K
        try simp only [Act.put, List.setIfInBounds_toArray, List.set_cons_zero, List.set_cons_succ]
        have hne : b4 ≠ b5 := by have := HNE.out; omega
        have HR6 := Lib.hid (show (W25.setRow b4 #[.int .i64 xo, .int .i64 xa, .int .i64 xb, .int .i64 xl, .int .i64 xc, .int .u64 xi, .int .i64 xd]).heap[b4]? = some (.cells #[.int .i64 xo, .int .i64 xa, .int .i64 xb, .int .i64 xl, .int .i64 xc, .int .u64 xi, .int .i64 xd] 24 (0, 0)) from setRow_heap _ _ _ _ _ _ HZ4.out)
        have HZ6 := Lib.hid ((setRow_other W25 b4 b5 #[.int .i64 xo, .int .i64 xa, .int .i64 xb, .int .i64 xl, .int .i64 xc, .int .u64 xi, .int .i64 xd] (fun h => hne h.symm)).trans HZ5.out)
        have HS6 := Lib.hid (below_setRow HS25.out HG4.out #[.int .i64 xo, .int .i64 xa, .int .i64 xb, .int .i64 xl, .int .i64 xc, .int .u64 xi, .int .i64 xd])
        refine wpAnyK_one (i := 6) (by kernel_rfl) rfl (fun K hK => ?_)
        rw [if_pos (by rfl)]
        refine wp_store_row 24 _ _ rfl b4 #[.int .i64 xo, .int .i64 xa, .int .i64 xb, .int .i64 xl, .int .i64 xc, .int .u64 xi, .int .i64 xd] rfl rfl 24 #[.int .i64 0, .int .i64 0, .int .i64 0, .int .i64 0, .int .i64 0, .int .u64 0, .int .i64 0] HZ4.out rfl rfl (insRow_one _ _ _ _ _ _ _) ?_
        refine hK.out _ _ HS6.out (fun _ => trivial) ?_
        clear hK K
        generalize W25.setRow b4 #[.int .i64 xo, .int .i64 xa, .int .i64 xb, .int .i64 xl, .int .i64 xc, .int .u64 xi, .int .i64 xd] = V6 at *
        have HR7 := Lib.hid (show (V6.setRow b5 #[.int .i64 yo, .int .i64 ya, .int .i64 yb, .int .i64 yl, .int .i64 yc, .int .u64 yi, .int .i64 yd]).heap[b5]? = some (.cells #[.int .i64 yo, .int .i64 ya, .int .i64 yb, .int .i64 yl, .int .i64 yc, .int .u64 yi, .int .i64 yd] 24 (0, 0)) from setRow_heap _ _ _ _ _ _ HZ6.out)
        have HR6 := Lib.hid ((setRow_other V6 b5 b4 #[.int .i64 yo, .int .i64 ya, .int .i64 yb, .int .i64 yl, .int .i64 yc, .int .u64 yi, .int .i64 yd] hne).trans HR6.out)
        have HS7 := Lib.hid (below_setRow HS6.out HG5.out #[.int .i64 yo, .int .i64 ya, .int .i64 yb, .int .i64 yl, .int .i64 yc, .int .u64 yi, .int .i64 yd])
        refine wpAnyK_one (i := 7) (by kernel_rfl) rfl (fun K hK => ?_)
        rw [if_pos (by rfl)]
        refine wp_store_row 24 _ _ rfl b5 #[.int .i64 yo, .int .i64 ya, .int .i64 yb, .int .i64 yl, .int .i64 yc, .int .u64 yi, .int .i64 yd] rfl rfl 24 #[.int .i64 0, .int .i64 0, .int .i64 0, .int .i64 0, .int .i64 0, .int .u64 0, .int .i64 0] HZ6.out rfl rfl (insRow_one _ _ _ _ _ _ _) ?_
        refine hK.out _ _ HS7.out (fun _ => trivial) ?_
        clear hK K
        generalize V6.setRow b5 #[.int .i64 yo, .int .i64 ya, .int .i64 yb, .int .i64 yl, .int .i64 yc, .int .u64 yi, .int .i64 yd] = V7 at *
        try simp only [Act.put, List.setIfInBounds_toArray, List.set_cons_zero, List.set_cons_succ]
        refine wpAnyK_done (by kernel_rfl) ?_ _
        refine NoPanic.normal ?_
        try go_simp
        first | refine hK1 _ _ (Met.intro ?_) | refine Met.intro ?_ | skip
        refine hJ1 _ _ ?_
        repeat apply Exists.intro
        refine ⟨?_, rfl⟩
        exact two_mk HF1.out HO1.out HF3.out HO3.out HR6.out HR7.out (HB2.out.trans (HS7.out.mono HB2.out.size))
    · skip
      go_simp
      have HS26 := Lib.hid (HS.out.alloc HS.out.size (.cells #[.int .i64 0, .int .i64 0, .int .i64 0, .int .i64 0, .int .i64 0, .int .u64 0, .int .i64 0] 24))
      have HG5 := Lib.hid (HS.out.size)
      have HZ5 := Lib.hid (show (w2d.alloc (.cells #[.int .i64 0, .int .i64 0, .int .i64 0, .int .i64 0, .int .i64 0, .int .u64 0, .int .i64 0] 24)).heap[w2d.heap.size]? = some (.cells #[.int .i64 0, .int .i64 0, .int .i64 0, .int .i64 0, .int .i64 0, .int .u64 0, .int .i64 0] 24 (0, 0)) from heap_alloc_new _ _)
      refine hK.out _ _ HS26.out (fun _ => trivial) ?_
      clear hK K
      generalize w2d.alloc (.cells #[.int .i64 0, .int .i64 0, .int .i64 0, .int .i64 0, .int .i64 0, .int .u64 0, .int .i64 0] 24) = W26 at *
      generalize w2d.heap.size = b5 at *
      try simp only [Act.put, List.setIfInBounds_toArray, List.set_cons_zero, List.set_cons_succ]
      refine wpAnyK_two (i := 1) (j := 4) (by kernel_rfl) rfl rfl (fun K hK => ?_) (fun K hK => ?_)
      · skip
        go_simp
        go_at_call 6
        refine (HT1.out _).mono ?_
        rintro e W27 ⟨⟨F, ⟨xo, xa, xb, xl, xc, xi, xd⟩, hT, hO, rfl⟩, hw⟩
        unfold insV
        have HF1 := Lib.hid hT
        have HO1 := Lib.hid hO
        have HS27 := Lib.hid (HS26.out.trans (hw.mono HS26.out.size))
        replace HZ5 := Lib.hid (row_kept HZ5.out hw)
        clear hT hO hw
        refine hK.out _ _ HS27.out (fun _ => trivial) ?_
        clear hK K
        try simp only [Act.put, List.setIfInBounds_toArray, List.set_cons_zero, List.set_cons_succ]
        refine wpAnyK_two (i := 3) (j := 4) (by kernel_rfl) rfl rfl (fun K hK => ?_) (fun K hK => ?_)
        · skip
          go_simp
          go_at_call 6
          refine (HT2.out _).mono ?_
          rintro e W28 ⟨⟨G, ⟨yo, ya, yb, yl, yc, yi, yd⟩, hT, hO, rfl⟩, hw⟩
          unfold insV
          have HF3 := Lib.hid hT
          have HO3 := Lib.hid hO
          have HS28 := Lib.hid (HS27.out.trans (hw.mono HS27.out.size))
          replace HZ5 := Lib.hid (row_kept HZ5.out hw)
          clear hT hO hw
          refine hK.out _ _ HS28.out (fun _ => trivial) ?_
          clear hK K
          try simp only [Act.put, List.setIfInBounds_toArray, List.set_cons_zero, List.set_cons_succ]
          refine wpAnyK_one (i := 4) (by kernel_rfl) rfl (fun K hK => ?_)
          go_simp
          have HS29 := Lib.hid (HS28.out.alloc HS28.out.size (.cells #[.int .i64 0, .int .i64 0, .int .i64 0, .int .i64 0, .int .i64 0, .int .u64 0, .int .i64 0] 24))
          have HNE := Lib.hid (row_old HZ5.out)
          replace HZ5 := Lib.hid (row_kept HZ5.out ((Below.refl _ _).alloc (Nat.le_refl _) (.cells #[.int .i64 0, .int .i64 0, .int .i64 0, .int .i64 0, .int .i64 0, .int .u64 0, .int .i64 0] 24)))
          have HG4 := Lib.hid (HS28.out.size)
          have HZ4 := Lib.hid (show (W28.alloc (.cells #[.int .i64 0, .int .i64 0, .int .i64 0, .int .i64 0, .int .i64 0, .int .u64 0, .int .i64 0] 24)).heap[W28.heap.size]? = some (.cells #[.int .i64 0, .int .i64 0, .int .i64 0, .int .i64 0, .int .i64 0, .int .u64 0, .int .i64 0] 24 (0, 0)) from heap_alloc_new _ _)
          refine hK.out _ _ HS29.out (fun _ => trivial) ?_
          clear hK K
          generalize W28.alloc (.cells #[.int .i64 0, .int .i64 0, .int .i64 0, .int .i64 0, .int .i64 0, .int .u64 0, .int .i64 0] 24) = W29 at *
          generalize W28.heap.size = b4 at *
          try simp only [Act.put, List.setIfInBounds_toArray, List.set_cons_zero, List.set_cons_succ]
          have hne : b4 ≠ b5 := by have := HNE.out; omega
          have HR6 := Lib.hid (show (W29.setRow b4 #[.int .i64 xo, .int .i64 xa, .int .i64 xb, .int .i64 xl, .int .i64 xc, .int .u64 xi, .int .i64 xd]).heap[b4]? = some (.cells #[.int .i64 xo, .int .i64 xa, .int .i64 xb, .int .i64 xl, .int .i64 xc, .int .u64 xi, .int .i64 xd] 24 (0, 0)) from setRow_heap _ _ _ _ _ _ HZ4.out)
          have HZ6 := Lib.hid ((setRow_other W29 b4 b5 #[.int .i64 xo, .int .i64 xa, .int .i64 xb, .int .i64 xl, .int .i64 xc, .int .u64 xi, .int .i64 xd] (fun h => hne h.symm)).trans HZ5.out)
          have HS6 := Lib.hid (below_setRow HS29.out HG4.out #[.int .i64 xo, .int .i64 xa, .int .i64 xb, .int .i64 xl, .int .i64 xc, .int .u64 xi, .int .i64 xd])
          refine wpAnyK_one (i := 6) (by kernel_rfl) rfl (fun K hK => ?_)
          rw [if_pos (by rfl)]
          refine wp_store_row 24 _ _ rfl b4 #[.int .i64 xo, .int .i64 xa, .int .i64 xb, .int .i64 xl, .int .i64 xc, .int .u64 xi, .int .i64 xd] rfl rfl 24 #[.int .i64 0, .int .i64 0, .int .i64 0, .int .i64 0, .int .i64 0, .int .u64 0, .int .i64 0] HZ4.out rfl rfl (insRow_one _ _ _ _ _ _ _) ?_
          refine hK.out _ _ HS6.out (fun _ => trivial) ?_
          clear hK K
          generalize W29.setRow b4 #[.int .i64 xo, .int .i64 xa, .int .i64 xb, .int .i64 xl, .int .i64 xc, .int .u64 xi, .int .i64 xd] = V6 at *
          have HR7 := Lib.hid (show (V6.setRow b5 #[.int .i64 yo, .int .i64 ya, .int .i64 yb, .int .i64 yl, .int .i64 yc, .int .u64 yi, .int .i64 yd]).heap[b5]? = some (.cells #[.int .i64 yo, .int .i64 ya, .int .i64 yb, .int .i64 yl, .int .i64 yc, .int .u64 yi, .int .i64 yd] 24 (0, 0)) from setRow_heap _ _ _ _ _ _ HZ6.out)
          have HR6 := Lib.hid ((setRow_other V6 b5 b4 #[.int .i64 yo, .int .i64 ya, .int .i64 yb, .int .i64 yl, .int .i64 yc, .int .u64 yi, .int .i64 yd] hne).trans HR6.out)
          have HS7 := Lib.hid (below_setRow HS6.out HG5.out #[.int .i64 yo, .int .i64 ya, .int .i64 yb, .int .i64 yl, .int .i64 yc, .int .u64 yi, .int .i64 yd])
          refine wpAnyK_one (i := 7) (by kernel_rfl) rfl (fun K hK => ?_)
          rw [if_pos (by rfl)]
          refine wp_store_row 24 _ _ rfl b5 #[.int .i64 yo, .int .i64 ya, .int .i64 yb, .int .i64 yl, .int .i64 yc, .int .u64 yi, .int .i64 yd] rfl rfl 24 #[.int .i64 0, .int .i64 0, .int .i64 0, .int .i64 0, .int .i64 0, .int .u64 0, .int .i64 0] HZ6.out rfl rfl (insRow_one _ _ _ _ _ _ _) ?_
          refine hK.out _ _ HS7.out (fun _ => trivial) ?_
          clear hK K
          generalize V6.setRow b5 #[.int .i64 yo, .int .i64 ya, .int .i64 yb, .int .i64 yl, .int .i64 yc, .int .u64 yi, .int .i64 yd] = V7 at *
          try simp only [Act.put, List.setIfInBounds_toArray, List.set_cons_zero, List.set_cons_succ]
          refine wpAnyK_done (by kernel_rfl) ?_ _
          refine NoPanic.normal ?_
          try go_simp
          first | refine hK1 _ _ (Met.intro ?_) | refine Met.intro ?_ | skip
          refine hJ1 _ _ ?_
          repeat apply Exists.intro
          refine ⟨?_, rfl⟩
          exact two_mk HF1.out HO1.out HF3.out HO3.out HR6.out HR7.out (HB2.out.trans (HS7.out.mono HB2.out.size))
        · skip
          go_simp
          have HS30 := Lib.hid (HS27.out.alloc HS27.out.size (.cells #[.int .i64 0, .int .i64 0, .int .i64 0, .int .i64 0, .int .i64 0, .int .u64 0, .int .i64 0] 24))
          have HNE := Lib.hid (row_old HZ5.out)
          replace HZ5 := Lib.hid (row_kept HZ5.out ((Below.refl _ _).alloc (Nat.le_refl _) (.cells #[.int .i64 0, .int .i64 0, .int .i64 0, .int .i64 0, .int .i64 0, .int .u64 0, .int .i64 0] 24)))
          have HG4 := Lib.hid (HS27.out.size)
          have HZ4 := Lib.hid (show (W27.alloc (.cells #[.int .i64 0, .int .i64 0, .int .i64 0, .int .i64 0, .int .i64 0, .int .u64 0, .int .i64 0] 24)).heap[W27.heap.size]? = some (.cells #[.int .i64 0, .int .i64 0, .int .i64 0, .int .i64 0, .int .i64 0, .int .u64 0, .int .i64 0] 24 (0, 0)) from heap_alloc_new _ _)
          refine hK.out _ _ HS30.out (fun _ => trivial) ?_
          clear hK K
          generalize W27.alloc (.cells #[.int .i64 0, .int .i64 0, .int .i64 0, .int .i64 0, .int .i64 0, .int .u64 0, .int .i64 0] 24) = W30 at *
          generalize W27.heap.size = b4 at *
          try simp only [Act.put, List.setIfInBounds_toArray, List.set_cons_zero, List.set_cons_succ]
          refine wpAnyK_one (i := 3) (by kernel_rfl) rfl (fun K hK => ?_)
          go_simp
          go_at_call 6
          refine (HT2.out _).mono ?_
          rintro e W31 ⟨⟨G, ⟨yo, ya, yb, yl, yc, yi, yd⟩, hT, hO, rfl⟩, hw⟩
          unfold insV
          have HF3 := Lib.hid hT
          have HO3 := Lib.hid hO
          have HS31 := Lib.hid (HS30.out.trans (hw.mono HS30.out.size))
          replace HZ4 := Lib.hid (row_kept HZ4.out hw)
          replace HZ5 := Lib.hid (row_kept HZ5.out hw)
          clear hT hO hw
          refine hK.out _ _ HS31.out (fun _ => trivial) ?_
          clear hK K
          try simp only [Act.put, List.setIfInBounds_toArray, List.set_cons_zero, List.set_cons_succ]
          have hne : b4 ≠ b5 := by have := HNE.out; omega
          have HR6 := Lib.hid (show (W31.setRow b4 #[.int .i64 xo, .int .i64 xa, .int .i64 xb, .int .i64 xl, .int .i64 xc, .int .u64 xi, .int .i64 xd]).heap[b4]? = some (.cells #[.int .i64 xo, .int .i64 xa, .int .i64 xb, .int .i64 xl, .int .i64 xc, .int .u64 xi, .int .i64 xd] 24 (0, 0)) from setRow_heap _ _ _ _ _ _ HZ4.out)
          have HZ6 := Lib.hid ((setRow_other W31 b4 b5 #[.int .i64 xo, .int .i64 xa, .int .i64 xb, .int .i64 xl, .int .i64 xc, .int .u64 xi, .int .i64 xd] (fun h => hne h.symm)).trans HZ5.out)
          have HS6 := Lib.hid (below_setRow HS31.out HG4.out #[.int .i64 xo, .int .i64 xa, .int .i64 xb, .int .i64 xl, .int .i64 xc, .int .u64 xi, .int .i64 xd])
          refine wpAnyK_one (i := 6) (by kernel_rfl) rfl (fun K hK => ?_)
          rw [if_pos (by rfl)]
          refine wp_store_row 24 _ _ rfl b4 #[.int .i64 xo, .int .i64 xa, .int .i64 xb, .int .i64 xl, .int .i64 xc, .int .u64 xi, .int .i64 xd] rfl rfl 24 #[.int .i64 0, .int .i64 0, .int .i64 0, .int .i64 0, .int .i64 0, .int .u64 0, .int .i64 0] HZ4.out rfl rfl (insRow_one _ _ _ _ _ _ _) ?_
          refine hK.out _ _ HS6.out (fun _ => trivial) ?_
          clear hK K
          generalize W31.setRow b4 #[.int .i64 xo, .int .i64 xa, .int .i64 xb, .int .i64 xl, .int .i64 xc, .int .u64 xi, .int .i64 xd] = V6 at *
          have HR7 := Lib.hid (show (V6.setRow b5 #[.int .i64 yo, .int .i64 ya, .int .i64 yb, .int .i64 yl, .int .i64 yc, .int .u64 yi, .int .i64 yd]).heap[b5]? = some (.cells #[.int .i64 yo, .int .i64 ya, .int .i64 yb, .int .i64 yl, .int .i64 yc, .int .u64 yi, .int .i64 yd] 24 (0, 0)) from setRow_heap _ _ _ _ _ _ HZ6.out)
          have HR6 := Lib.hid ((setRow_other V6 b5 b4 #[.int .i64 yo, .int .i64 ya, .int .i64 yb, .int .i64 yl, .int .i64 yc, .int .u64 yi, .int .i64 yd] hne).trans HR6.out)
          have HS7 := Lib.hid (below_setRow HS6.out HG5.out #[.int .i64 yo, .int .i64 ya, .int .i64 yb, .int .i64 yl, .int .i64 yc, .int .u64 yi, .int .i64 yd])
          refine wpAnyK_one (i := 7) (by kernel_rfl) rfl (fun K hK => ?_)
          rw [if_pos (by rfl)]
          refine wp_store_row 24 _ _ rfl b5 #[.int .i64 yo, .int .i64 ya, .int .i64 yb, .int .i64 yl, .int .i64 yc, .int .u64 yi, .int .i64 yd] rfl rfl 24 #[.int .i64 0, .int .i64 0, .int .i64 0, .int .i64 0, .int .i64 0, .int .u64 0, .int .i64 0] HZ6.out rfl rfl (insRow_one _ _ _ _ _ _ _) ?_
          refine hK.out _ _ HS7.out (fun _ => trivial) ?_
          clear hK K
          generalize V6.setRow b5 #[.int .i64 yo, .int .i64 ya, .int .i64 yb, .int .i64 yl, .int .i64 yc, .int .u64 yi, .int .i64 yd] = V7 at *
          try simp only [Act.put, List.setIfInBounds_toArray, List.set_cons_zero, List.set_cons_succ]
          refine wpAnyK_done (by kernel_rfl) ?_ _
          refine NoPanic.normal ?_
          try go_simp
          first | refine hK1 _ _ (Met.intro ?_) | refine Met.intro ?_ | skip
          refine hJ1 _ _ ?_
          repeat apply Exists.intro
          refine ⟨?_, rfl⟩
          exact two_mk HF1.out HO1.out HF3.out HO3.out HR6.out HR7.out (HB2.out.trans (HS7.out.mono HB2.out.size))
      · skip
        go_simp
        have HS32 := Lib.hid (HS26.out.alloc HS26.out.size (.cells #[.int .i64 0, .int .i64 0, .int .i64 0, .int .i64 0, .int .i64 0, .int .u64 0, .int .i64 0] 24))
        have HNE := Lib.hid (row_old HZ5.out)
        replace HZ5 := Lib.hid (row_kept HZ5.out ((Below.refl _ _).alloc (Nat.le_refl _) (.cells #[.int .i64 0, .int .i64 0, .int .i64 0, .int .i64 0, .int .i64 0, .int .u64 0, .int .i64 0] 24)))
        have HG4 := Lib.hid (HS26.out.size)
        have HZ4 := Lib.hid (show (W26.alloc (.cells #[.int .i64 0, .int .i64 0, .int .i64 0, .int .i64 0, .int .i64 0, .int .u64 0, .int .i64 0] 24)).heap[W26.heap.size]? = some (.cells #[.int .i64 0, .int .i64 0, .int .i64 0, .int .i64 0, .int .i64 0, .int .u64 0, .int .i64 0] 24 (0, 0)) from heap_alloc_new _ _)
        refine hK.out _ _ HS32.out (fun _ => trivial) ?_
        clear hK K
        generalize W26.alloc (.cells #[.int .i64 0, .int .i64 0, .int .i64 0, .int .i64 0, .int .i64 0, .int .u64 0, .int .i64 0] 24) = W32 at *
        generalize W26.heap.size = b4 at *
        try simp only [Act.put, List.setIfInBounds_toArray, List.set_cons_zero, List.set_cons_succ]
        refine wpAnyK_one (i := 1) (by kernel_rfl) rfl (fun K hK => ?_)
        go_simp
        go_at_call 6
        refine (HT1.out _).mono ?_
        rintro e W33 ⟨⟨F, ⟨xo, xa, xb, xl, xc, xi, xd⟩, hT, hO, rfl⟩, hw⟩
        unfold insV
        have HF1 := Lib.hid hT
        have HO1 := Lib.hid hO
        have HS33 := Lib.hid (HS32.out.trans (hw.mono HS32.out.size))
        replace HZ4 := Lib.hid (row_kept HZ4.out hw)
        replace HZ5 := Lib.hid (row_kept HZ5.out hw)
        clear hT hO hw
        refine hK.out _ _ HS33.out (fun _ => trivial) ?_
        clear hK K
        try simp only [Act.put, List.setIfInBounds_toArray, List.set_cons_zero, List.set_cons_succ]
        refine wpAnyK_one (i := 3) (by kernel_rfl) rfl (fun K hK => ?_)
        go_simp
        go_at_call 6
        refine (HT2.out _).mono ?_
        rintro e W34 ⟨⟨G, ⟨yo, ya, yb, yl, yc, yi, yd⟩, hT, hO, rfl⟩, hw⟩
        unfold insV
        have HF3 := Lib.hid hT
        have HO3 := Lib.hid hO
        have HS34 := Lib.hid (HS33.out.trans (hw.mono HS33.out.size))
        replace HZ4 := Lib.hid (row_kept HZ4.out hw)
        replace HZ5 := Lib.hid (row_kept HZ5.out hw)
        clear hT hO hw
        refine hK.out _ _ HS34.out (fun _ => trivial) ?_
        clear hK K
        try simp only [Act.put, List.setIfInBounds_toArray, List.set_cons_zero, List.set_cons_succ]
        have hne : b4 ≠ b5 := by have := HNE.out; omega
        have HR6 := Lib.hid (show (W34.setRow b4 #[.int .i64 xo, .int .i64 xa, .int .i64 xb, .int .i64 xl, .int .i64 xc, .int .u64 xi, .int .i64 xd]).heap[b4]? = some (.cells #[.int .i64 xo, .int .i64 xa, .int .i64 xb, .int .i64 xl, .int .i64 xc, .int .u64 xi, .int .i64 xd] 24 (0, 0)) from setRow_heap _ _ _ _ _ _ HZ4.out)
        have HZ6 := Lib.hid ((setRow_other W34 b4 b5 #[.int .i64 xo, .int .i64 xa, .int .i64 xb, .int .i64 xl, .int .i64 xc, .int .u64 xi, .int .i64 xd] (fun h => hne h.symm)).trans HZ5.out)
        have HS6 := Lib.hid (below_setRow HS34.out HG4.out #[.int .i64 xo, .int .i64 xa, .int .i64 xb, .int .i64 xl, .int .i64 xc, .int .u64 xi, .int .i64 xd])
        refine wpAnyK_one (i := 6) (by kernel_rfl) rfl (fun K hK => ?_)
        rw [if_pos (by rfl)]
        refine wp_store_row 24 _ _ rfl b4 #[.int .i64 xo, .int .i64 xa, .int .i64 xb, .int .i64 xl, .int .i64 xc, .int .u64 xi, .int .i64 xd] rfl rfl 24 #[.int .i64 0, .int .i64 0, .int .i64 0, .int .i64 0, .int .i64 0, .int .u64 0, .int .i64 0] HZ4.out rfl rfl (insRow_one _ _ _ _ _ _ _) ?_
        refine hK.out _ _ HS6.out (fun _ => trivial) ?_
        clear hK K
        generalize W34.setRow b4 #[.int .i64 xo, .int .i64 xa, .int .i64 xb, .int .i64 xl, .int .i64 xc, .int .u64 xi, .int .i64 xd] = V6 at *
        have HR7 := Lib.hid (show (V6.setRow b5 #[.int .i64 yo, .int .i64 ya, .int .i64 yb, .int .i64 yl, .int .i64 yc, .int .u64 yi, .int .i64 yd]).heap[b5]? = some (.cells #[.int .i64 yo, .int .i64 ya, .int .i64 yb, .int .i64 yl, .int .i64 yc, .int .u64 yi, .int .i64 yd] 24 (0, 0)) from setRow_heap _ _ _ _ _ _ HZ6.out)
        have HR6 := Lib.hid ((setRow_other V6 b5 b4 #[.int .i64 yo, .int .i64 ya, .int .i64 yb, .int .i64 yl, .int .i64 yc, .int .u64 yi, .int .i64 yd] hne).trans HR6.out)
        have HS7 := Lib.hid (below_setRow HS6.out HG5.out #[.int .i64 yo, .int .i64 ya, .int .i64 yb, .int .i64 yl, .int .i64 yc, .int .u64 yi, .int .i64 yd])
        refine wpAnyK_one (i := 7) (by kernel_rfl) rfl (fun K hK => ?_)
        rw [if_pos (by rfl)]
        refine wp_store_row 24 _ _ rfl b5 #[.int .i64 yo, .int .i64 ya, .int .i64 yb, .int .i64 yl, .int .i64 yc, .int .u64 yi, .int .i64 yd] rfl rfl 24 #[.int .i64 0, .int .i64 0, .int .i64 0, .int .i64 0, .int .i64 0, .int .u64 0, .int .i64 0] HZ6.out rfl rfl (insRow_one _ _ _ _ _ _ _) ?_
        refine hK.out _ _ HS7.out (fun _ => trivial) ?_
        clear hK K
        generalize V6.setRow b5 #[.int .i64 yo, .int .i64 ya, .int .i64 yb, .int .i64 yl, .int .i64 yc, .int .u64 yi, .int .i64 yd] = V7 at *
        try simp only [Act.put, List.setIfInBounds_toArray, List.set_cons_zero, List.set_cons_succ]
        refine wpAnyK_done (by kernel_rfl) ?_ _
        refine NoPanic.normal ?_
        try go_simp
        first | refine hK1 _ _ (Met.intro ?_) | refine Met.intro ?_ | skip
        refine hJ1 _ _ ?_
        repeat apply Exists.intro
        refine ⟨?_, rfl⟩
        exact two_mk HF1.out HO1.out HF3.out HO3.out HR6.out HR7.out (HB2.out.trans (HS7.out.mono HB2.out.size))
  case rest =>
    obtain ⟨F, G, x, y, b7, b8, hF, hO, hG, hO2, rfl, rfl, h7, h8, hB⟩ := hcut
    have HF := Lib.hid hF
    have HG := Lib.hid hG
    have HB := Lib.hid hB
    have H7 := Lib.hid h7
    have H8 := Lib.hid h8
    have HE1 := Lib.hid (fun W => enc_row x F W hF hO)
    have HE2 := Lib.hid (fun W => enc_row y G W hG hO2)
    obtain ⟨bs, hbs⟩ : ∃ bs, encM F x = bs := ⟨_, rfl⟩
    obtain ⟨cs, hcs⟩ : ∃ cs, encM G y = cs := ⟨_, rfl⟩
    have hbl : 1 ≤ bs.length ∧ bs.length ≤ 10 := by rw [← hbs, hF.long]; exact hF.long_bd
    rw [hbs] at HE1
    rw [hcs] at HE2
    have HBS := Lib.hid hbs
    have HCS := Lib.hid hcs
    have HBL := Lib.hid hbl
    clear hF hG hO hO2 hB h7 h8 hbs hcs hbl HT1 HT2
    unfold insV at HE1 HE2
    obtain ⟨k0, k1, k2, k3, k4, k5, k6⟩ := res_cells H7.out
    go_wp2_with fail
    refine (HE1.out _).mono ?_
    rintro e w1 ⟨g1, c1, rfl, hn1, hc1, hr1, hw1⟩
    have HR1 := Lib.hid hr1
    have HC1 := Lib.hid (show bs.length ≤ c1 ∧ c1 ≤ 9223372036854775807 from ⟨hn1, hc1⟩)
    replace H7 := Lib.hid (H7.out.below hw1 H7.out.1)
    replace H8 := Lib.hid (H8.out.below hw1 H8.out.1)
    replace HB := Lib.hid (HB.out.trans (hw1.mono HB.out.size))
    clear k0 k1 k2 k3 k4 k5 k6 hn1 hc1 hr1 hw1
    obtain ⟨k0, k1, k2, k3, k4, k5, k6⟩ := res_cells H8.out
    go_wp2_with fail
    refine (HE2.out _).mono ?_
    rintro e w2 ⟨g2, c2, rfl, hn2, hc2, hr2, hw2⟩
    have HR2 := Lib.hid hr2
    replace HR1 := Lib.hid (HR1.out.keep2 hw2)
    replace H7 := Lib.hid (H7.out.below hw2 H7.out.1)
    replace H8 := Lib.hid (H8.out.below hw2 H8.out.1)
    replace HB := Lib.hid (HB.out.trans (hw2.mono HB.out.size))
    clear k0 k1 k2 k3 k4 k5 k6 hn2 hc2 hr2 hw2
    obtain ⟨k0, k1, k2, k3, k4, k5, k6⟩ := res_cells H7.out
    obtain ⟨j0, j1, j2, j3, j4, j5, j6⟩ := res_cells H8.out
    go_wp2_with fail
    have el0 : ((bs.length : Int) == 0) = false := beq_eq_false_iff_ne.mpr (by have := HBL.out; omega)
    have el10 : decide ((bs.length : Int) > 10) = false := decide_eq_false (by have := HBL.out; omega)
    go_cut [64] from 38 to 63 (fun v wc2 => v = .bool false ∧ ∃ d, wc2 = w2.drewN d)
    case first =>
      rename_i J1 K1 hJ1 hK1
      have HK := Lib.hid (And.intro k0 (And.intro k1 (And.intro k2 (And.intro k3 (And.intro k4 (And.intro k5 k6))))))
      have HJ := Lib.hid (And.intro j0 (And.intro j1 (And.intro j2 (And.intro j3 (And.intro j4 (And.intro j5 j6))))))
      clear k0 k1 k2 k3 k4 k5 k6 j0 j1 j2 j3 j4 j5 j6
      have HT1 := Lib.hid (fun W (hW : ∃ d, W = w2.drewN d) => run_str (cap := c1) (show Row W g1 0 bs.length (litF (zL bs)) from by obtain ⟨d, rfl⟩ := hW; exact HR1.out.row))
      have HT2 := Lib.hid (fun W (hW : ∃ d, W = w2.drewN d) => run_str (cap := c2) (show Row W g2 0 cs.length (litF (zL cs)) from by obtain ⟨d, rfl⟩ := hW; exact HR2.out.row))
      have HQ := Lib.hid (show (strF (litF (zL bs)) 0 bs.length).toList = (strF (litF (zL cs)) 0 cs.length).toList → x = y from fun h => by
        replace h := text_list h
        have e := text_eq (HBS.out ▸ encM_bn (forms_ok F HF.out.mem) x) (HCS.out ▸ encM_bn (forms_ok G HG.out.mem) y) h
        exact HF.out.apart HG.out (HBS.out.trans (e.trans HCS.out.symm)))
      have HQ2 := Lib.hid (show x = y → (strF (litF (zL bs)) 0 bs.length = strF (litF (zL cs)) 0 cs.length) from fun h => by
        subst h
        rw [← HBS.out, ← HCS.out, HF.out.eq_iff HG.out])
      generalize strF (litF (zL bs)) 0 bs.length = S1 at *
      generalize strF (litF (zL cs)) 0 cs.length = S2 at *
      have HS := Lib.hid (show ∃ d, w2.drew = w2.drewN d from ⟨1, rfl⟩)
      by_cases hxy : x = y
      · obtain rfl := HQ2.out hxy
        have HXY := Lib.hid hxy
        rw [← hxy] at HJ
        clear hxy HQ HQ2
        refine wp_region_noPanic ?_
        refine wp_region_K (fun W => ∃ d, W = w2.drewN d) (fun _ => True) 99 (by kernel_rfl) ?_
        refine wpAnyK_take (i := 0) (oi := ?_) (v := ?_) ?_ (by kernel_rfl) (by kernel_rfl) (by kernel_rfl) (fun _ _ _ h => h) (by decide) ?_ HS.out (fun _ => trivial) ?_
        rotate_left 2
        · (simp only [List.getElem?_toArray, List.getElem?_cons_succ, List.getElem?_cons_zero]; rfl)
        · (first | exact Or.inr ⟨by rfl, rfl⟩ | (refine Or.inl ⟨by rfl, ?_⟩; intro W hSw; clear hSw; go_simp; try with_reducible rfl))
        try simp only [Act.put, List.setIfInBounds_toArray, List.set_cons_zero, List.set_cons_succ]
        refine wpAnyK_take (i := 1) (oi := ?_) (v := ?_) ?_ (by kernel_rfl) (by kernel_rfl) (by kernel_rfl) (fun _ _ _ h => h) (by decide) ?_ HS.out (fun _ => trivial) ?_
        rotate_left 2
        · (simp only [List.getElem?_toArray, List.getElem?_cons_succ, List.getElem?_cons_zero]; rfl)
        · (first | exact Or.inr ⟨by rfl, rfl⟩ | (refine Or.inl ⟨by rfl, ?_⟩; intro W hSw; clear hSw; go_simp; try with_reducible rfl))
        try simp only [Act.put, List.setIfInBounds_toArray, List.set_cons_zero, List.set_cons_succ]
        refine wpAnyK_take (i := 2) (oi := ?_) (v := ?_) ?_ (by kernel_rfl) (by kernel_rfl) (by kernel_rfl) (fun _ _ _ h => h) (by decide) ?_ HS.out (fun _ => trivial) ?_
        rotate_left 2
        · (simp only [List.getElem?_toArray, List.getElem?_cons_succ, List.getElem?_cons_zero]; rfl)
        · (first | exact Or.inr ⟨by rfl, rfl⟩ | (refine Or.inl ⟨by rfl, ?_⟩; intro W hSw; clear hSw; go_simp; try with_reducible rfl))
        try simp only [Act.put, List.setIfInBounds_toArray, List.set_cons_zero, List.set_cons_succ]
        refine wpAnyK_take (i := 3) (oi := ?_) (v := ?_) ?_ (by kernel_rfl) (by kernel_rfl) (by kernel_rfl) (fun _ _ _ h => h) (by decide) ?_ HS.out (fun _ => trivial) ?_
        rotate_left 2
        · (simp only [List.getElem?_toArray, List.getElem?_cons_succ, List.getElem?_cons_zero]; rfl)
        · (first | exact Or.inr ⟨by rfl, rfl⟩ | (refine Or.inl ⟨by rfl, ?_⟩; intro W hSw; clear hSw; go_simp; try with_reducible rfl))
        try simp only [Act.put, List.setIfInBounds_toArray, List.set_cons_zero, List.set_cons_succ]
        refine wpAnyK_take (i := 4) (oi := ?_) (v := ?_) ?_ (by kernel_rfl) (by kernel_rfl) (by kernel_rfl) (fun _ _ _ h => h) (by decide) ?_ HS.out (fun _ => trivial) ?_
        rotate_left 2
        · (simp only [List.getElem?_toArray, List.getElem?_cons_succ, List.getElem?_cons_zero]; rfl)
        · (first | exact Or.inr ⟨by rfl, rfl⟩ | (refine Or.inl ⟨by rfl, ?_⟩; intro W hSw; clear hSw; go_simp; try with_reducible rfl))
        try simp only [Act.put, List.setIfInBounds_toArray, List.set_cons_zero, List.set_cons_succ]
        refine wpAnyK_take (i := 5) (oi := ?_) (v := ?_) ?_ (by kernel_rfl) (by kernel_rfl) (by kernel_rfl) (fun _ _ _ h => h) (by decide) ?_ HS.out (fun _ => trivial) ?_
        rotate_left 2
        · (simp only [List.getElem?_toArray, List.getElem?_cons_succ, List.getElem?_cons_zero]; rfl)
        · (first | exact Or.inr ⟨by rfl, rfl⟩ | (refine Or.inl ⟨by rfl, ?_⟩; intro W hSw; clear hSw; go_simp; try with_reducible rfl))
        try simp only [Act.put, List.setIfInBounds_toArray, List.set_cons_zero, List.set_cons_succ]
        refine wpAnyK_take (i := 6) (oi := ?_) (v := ?_) ?_ (by kernel_rfl) (by kernel_rfl) (by kernel_rfl) (fun _ _ _ h => h) (by decide) ?_ HS.out (fun _ => trivial) ?_
        rotate_left 2
        · (simp only [List.getElem?_toArray, List.getElem?_cons_succ, List.getElem?_cons_zero]; rfl)
        · (first | exact Or.inr ⟨by rfl, rfl⟩ | (refine Or.inl ⟨by rfl, ?_⟩; intro W hSw; clear hSw; go_simp; try with_reducible rfl))
        try simp only [Act.put, List.setIfInBounds_toArray, List.set_cons_zero, List.set_cons_succ]
        refine wpAnyK_take (i := 7) (oi := ?_) (v := ?_) ?_ (by kernel_rfl) (by kernel_rfl) (by kernel_rfl) (fun _ _ _ h => h) (by decide) ?_ HS.out (fun _ => trivial) ?_
        rotate_left 2
        · (simp only [List.getElem?_toArray, List.getElem?_cons_succ, List.getElem?_cons_zero]; rfl)
        · (first | exact Or.inr ⟨by rfl, rfl⟩ | (refine Or.inl ⟨by rfl, ?_⟩; intro W hSw; clear hSw; go_simp; try with_reducible rfl))
        try simp only [Act.put, List.setIfInBounds_toArray, List.set_cons_zero, List.set_cons_succ]
        refine wpAnyK_take (i := 8) (oi := ?_) (v := ?_) ?_ (by kernel_rfl) (by kernel_rfl) (by kernel_rfl) (fun _ _ _ h => h) (by decide) ?_ HS.out (fun _ => trivial) ?_
        rotate_left 2
        · (simp only [List.getElem?_toArray, List.getElem?_cons_succ, List.getElem?_cons_zero]; rfl)
        · (first | exact Or.inr ⟨by rfl, rfl⟩ | (refine Or.inl ⟨by rfl, ?_⟩; intro W hSw; clear hSw; go_simp; try with_reducible rfl))
        try simp only [Act.put, List.setIfInBounds_toArray, List.set_cons_zero, List.set_cons_succ]
        refine wpAnyK_take (i := 9) (oi := ?_) (v := ?_) ?_ (by kernel_rfl) (by kernel_rfl) (by kernel_rfl) (fun _ _ _ h => h) (by decide) ?_ HS.out (fun _ => trivial) ?_
        rotate_left 2
        · (simp only [List.getElem?_toArray, List.getElem?_cons_succ, List.getElem?_cons_zero]; rfl)
        · (first | exact Or.inr ⟨by rfl, rfl⟩ | (refine Or.inl ⟨by rfl, ?_⟩; intro W hSw; clear hSw; go_simp; try with_reducible rfl))
        try simp only [Act.put, List.setIfInBounds_toArray, List.set_cons_zero, List.set_cons_succ]
        refine wpAnyK_take (i := 10) (oi := ?_) (v := ?_) ?_ (by kernel_rfl) (by kernel_rfl) (by kernel_rfl) (fun _ _ _ h => h) (by decide) ?_ HS.out (fun _ => trivial) ?_
        rotate_left 2
        · (simp only [List.getElem?_toArray, List.getElem?_cons_succ, List.getElem?_cons_zero]; rfl)
        · (first | exact Or.inr ⟨by rfl, rfl⟩ | (refine Or.inl ⟨by rfl, ?_⟩; intro W hSw; clear hSw; go_simp; try with_reducible rfl))
        try simp only [Act.put, List.setIfInBounds_toArray, List.set_cons_zero, List.set_cons_succ]
        refine wpAnyK_take (i := 11) (oi := ?_) (v := ?_) ?_ (by kernel_rfl) (by kernel_rfl) (by kernel_rfl) (fun _ _ _ h => h) (by decide) ?_ HS.out (fun _ => trivial) ?_
        rotate_left 2
        · (simp only [List.getElem?_toArray, List.getElem?_cons_succ, List.getElem?_cons_zero]; rfl)
        · (first | exact Or.inr ⟨by rfl, rfl⟩ | (refine Or.inl ⟨by rfl, ?_⟩; intro W hSw; clear hSw; go_simp; try with_reducible rfl))
        try simp only [Act.put, List.setIfInBounds_toArray, List.set_cons_zero, List.set_cons_succ]
        refine wpAnyK_take (i := 12) (oi := ?_) (v := ?_) ?_ (by kernel_rfl) (by kernel_rfl) (by kernel_rfl) (fun _ _ _ h => h) (by decide) ?_ HS.out (fun _ => trivial) ?_
        rotate_left 2
        · (simp only [List.getElem?_toArray, List.getElem?_cons_succ, List.getElem?_cons_zero]; rfl)
        · (first | exact Or.inr ⟨by rfl, rfl⟩ | (refine Or.inl ⟨by rfl, ?_⟩; intro W hSw; clear hSw; go_simp; try with_reducible rfl))
        try simp only [Act.put, List.setIfInBounds_toArray, List.set_cons_zero, List.set_cons_succ]
        refine wpAnyK_take (i := 13) (oi := ?_) (v := ?_) ?_ (by kernel_rfl) (by kernel_rfl) (by kernel_rfl) (fun _ _ _ h => h) (by decide) ?_ HS.out (fun _ => trivial) ?_
        rotate_left 2
        · (simp only [List.getElem?_toArray, List.getElem?_cons_succ, List.getElem?_cons_zero]; rfl)
        · (first | exact Or.inr ⟨by rfl, rfl⟩ | (refine Or.inl ⟨by rfl, ?_⟩; intro W hSw; clear hSw; go_simp; try with_reducible rfl))
        try simp only [Act.put, List.setIfInBounds_toArray, List.set_cons_zero, List.set_cons_succ]
        refine wpAnyK_take (i := 14) (oi := ?_) (v := ?_) ?_ (by kernel_rfl) (by kernel_rfl) (by kernel_rfl) (fun _ _ _ h => h) (by decide) ?_ HS.out (fun _ => trivial) ?_
        rotate_left 2
        · (simp only [List.getElem?_toArray, List.getElem?_cons_succ, List.getElem?_cons_zero]; rfl)
        · (first | exact Or.inr ⟨by rfl, rfl⟩ | (refine Or.inl ⟨by rfl, ?_⟩; intro W hSw; clear hSw; go_simp; try with_reducible rfl))
        try simp only [Act.put, List.setIfInBounds_toArray, List.set_cons_zero, List.set_cons_succ]
        refine wpAnyK_take (i := 15) (oi := ?_) (v := ?_) ?_ (by kernel_rfl) (by kernel_rfl) (by kernel_rfl) (fun _ _ _ h => h) (by decide) ?_ HS.out (fun _ => trivial) ?_
        rotate_left 2
        · (simp only [List.getElem?_toArray, List.getElem?_cons_succ, List.getElem?_cons_zero]; rfl)
        · (first | exact Or.inr ⟨by rfl, rfl⟩ | (refine Or.inl ⟨by rfl, ?_⟩; intro W hSw; clear hSw; go_simp; try with_reducible rfl))
        try simp only [Act.put, List.setIfInBounds_toArray, List.set_cons_zero, List.set_cons_succ]
        refine wpAnyK_take (i := 16) (oi := ?_) (v := ?_) ?_ (by kernel_rfl) (by kernel_rfl) (by kernel_rfl) (fun _ _ _ h => h) (by decide) ?_ HS.out (fun _ => trivial) ?_
        rotate_left 2
        · (simp only [List.getElem?_toArray, List.getElem?_cons_succ, List.getElem?_cons_zero]; rfl)
        · (first | exact Or.inr ⟨by rfl, rfl⟩ | (refine Or.inl ⟨by rfl, ?_⟩; intro W hSw; clear hSw; go_simp; try with_reducible rfl))
        try simp only [Act.put, List.setIfInBounds_toArray, List.set_cons_zero, List.set_cons_succ]
        refine wpAnyK_take (i := 17) (oi := ?_) (v := ?_) ?_ (by kernel_rfl) (by kernel_rfl) (by kernel_rfl) (fun _ _ _ h => h) (by decide) ?_ HS.out (fun _ => trivial) ?_
        rotate_left 2
        · (simp only [List.getElem?_toArray, List.getElem?_cons_succ, List.getElem?_cons_zero]; rfl)
        · (first | exact Or.inr ⟨by rfl, rfl⟩ | (refine Or.inl ⟨by rfl, ?_⟩; intro W hSw; clear hSw; go_simp; try with_reducible rfl))
        try simp only [Act.put, List.setIfInBounds_toArray, List.set_cons_zero, List.set_cons_succ]
        refine wpAnyK_take (i := 18) (oi := ?_) (v := ?_) ?_ (by kernel_rfl) (by kernel_rfl) (by kernel_rfl) (fun _ _ _ h => h) (by decide) ?_ HS.out (fun _ => trivial) ?_
        rotate_left 2
        · (simp only [List.getElem?_toArray, List.getElem?_cons_succ, List.getElem?_cons_zero]; rfl)
        · (first | exact Or.inr ⟨by rfl, rfl⟩ | (refine Or.inl ⟨by rfl, ?_⟩; intro W hSw; have hq := HT1.out W hSw; clear hSw; go_simp; try with_reducible rfl))
        try simp only [Act.put, List.setIfInBounds_toArray, List.set_cons_zero, List.set_cons_succ]
        refine wpAnyK_take (i := 19) (oi := ?_) (v := ?_) ?_ (by kernel_rfl) (by kernel_rfl) (by kernel_rfl) (fun _ _ _ h => h) (by decide) ?_ HS.out (fun _ => trivial) ?_
        rotate_left 2
        · (simp only [List.getElem?_toArray, List.getElem?_cons_succ, List.getElem?_cons_zero]; rfl)
        · (first | exact Or.inr ⟨by rfl, rfl⟩ | (refine Or.inl ⟨by rfl, ?_⟩; intro W hSw; clear hSw; go_simp; try with_reducible rfl))
        try simp only [Act.put, List.setIfInBounds_toArray, List.set_cons_zero, List.set_cons_succ]
        refine wpAnyK_take (i := 20) (oi := ?_) (v := ?_) ?_ (by kernel_rfl) (by kernel_rfl) (by kernel_rfl) (fun _ _ _ h => h) (by decide) ?_ HS.out (fun _ => trivial) ?_
        rotate_left 2
        · (simp only [List.getElem?_toArray, List.getElem?_cons_succ, List.getElem?_cons_zero]; rfl)
        · (first | exact Or.inr ⟨by rfl, rfl⟩ | (refine Or.inl ⟨by rfl, ?_⟩; intro W hSw; have hq := HT2.out W hSw; clear hSw; go_simp; try with_reducible rfl))
        try simp only [Act.put, List.setIfInBounds_toArray, List.set_cons_zero, List.set_cons_succ]
        refine wpAnyK_take (i := 21) (oi := ?_) (v := ?_) ?_ (by kernel_rfl) (by kernel_rfl) (by kernel_rfl) (fun _ _ _ h => h) (by decide) ?_ HS.out (fun _ => trivial) ?_
        rotate_left 2
        · (simp only [List.getElem?_toArray, List.getElem?_cons_succ, List.getElem?_cons_zero]; rfl)
        · (first | exact Or.inr ⟨by rfl, rfl⟩ | (refine Or.inl ⟨by rfl, ?_⟩; intro W hSw; clear hSw; go_simp; try with_reducible rfl))
        try simp only [Act.put, List.setIfInBounds_toArray, List.set_cons_zero, List.set_cons_succ]
        refine wpAnyK_take (i := 22) (oi := ?_) (v := ?_) ?_ (by kernel_rfl) (by kernel_rfl) (by kernel_rfl) (fun _ _ _ h => h) (by decide) ?_ HS.out (fun _ => trivial) ?_
        rotate_left 2
        · (simp only [List.getElem?_toArray, List.getElem?_cons_succ, List.getElem?_cons_zero]; rfl)
        · (first | exact Or.inr ⟨by rfl, rfl⟩ | (refine Or.inl ⟨by rfl, ?_⟩; intro W hSw; obtain ⟨k0, k1, k2, k3, k4, k5, k6⟩ := HK.out; obtain ⟨d, rfl⟩ := hSw; go_simp; try with_reducible rfl))
        try simp only [Act.put, List.setIfInBounds_toArray, List.set_cons_zero, List.set_cons_succ]
        refine wpAnyK_take (i := 23) (oi := ?_) (v := ?_) ?_ (by kernel_rfl) (by kernel_rfl) (by kernel_rfl) (fun _ _ _ h => h) (by decide) ?_ HS.out (fun _ => trivial) ?_
        rotate_left 2
        · (simp only [List.getElem?_toArray, List.getElem?_cons_succ, List.getElem?_cons_zero]; rfl)
        · (first | exact Or.inr ⟨by rfl, rfl⟩ | (refine Or.inl ⟨by rfl, ?_⟩; intro W hSw; obtain ⟨k0, k1, k2, k3, k4, k5, k6⟩ := HJ.out; obtain ⟨d, rfl⟩ := hSw; go_simp; try with_reducible rfl))
        try simp only [Act.put, List.setIfInBounds_toArray, List.set_cons_zero, List.set_cons_succ]
        refine wpAnyK_take (i := 24) (oi := ?_) (v := ?_) ?_ (by kernel_rfl) (by kernel_rfl) (by kernel_rfl) (fun _ _ _ h => h) (by decide) ?_ HS.out (fun _ => trivial) ?_
        rotate_left 2
        · (simp only [List.getElem?_toArray, List.getElem?_cons_succ, List.getElem?_cons_zero]; rfl)
        · (first | exact Or.inr ⟨by rfl, rfl⟩ | (refine Or.inl ⟨by rfl, ?_⟩; intro W hSw; clear hSw; go_simp; try with_reducible rfl))
        try simp only [Act.put, List.setIfInBounds_toArray, List.set_cons_zero, List.set_cons_succ]
        refine wpAnyK_take (i := 25) (oi := ?_) (v := ?_) ?_ (by kernel_rfl) (by kernel_rfl) (by kernel_rfl) (fun _ _ _ h => h) (by decide) ?_ HS.out (fun _ => trivial) ?_
        rotate_left 2
        · (simp only [List.getElem?_toArray, List.getElem?_cons_succ, List.getElem?_cons_zero]; rfl)
        · (first | exact Or.inr ⟨by rfl, rfl⟩ | (refine Or.inl ⟨by rfl, ?_⟩; intro W hSw; clear hSw; go_simp; try with_reducible rfl))
        try simp only [Act.put, List.setIfInBounds_toArray, List.set_cons_zero, List.set_cons_succ]
        refine wpAnyK_take (i := 26) (oi := ?_) (v := ?_) ?_ (by kernel_rfl) (by kernel_rfl) (by kernel_rfl) (fun _ _ _ h => h) (by decide) ?_ HS.out (fun _ => trivial) ?_
        rotate_left 2
        · (simp only [List.getElem?_toArray, List.getElem?_cons_succ, List.getElem?_cons_zero]; rfl)
        · (first | exact Or.inr ⟨by rfl, rfl⟩ | (refine Or.inl ⟨by rfl, ?_⟩; intro W hSw; clear hSw; go_simp; try with_reducible rfl))
        try simp only [Act.put, List.setIfInBounds_toArray, List.set_cons_zero, List.set_cons_succ]
        refine wpAnyK_done (by kernel_rfl) ?_ _
        refine NoPanic.normal ?_
        try go_simp
        first | refine hK1 _ _ (Met.intro ?_) | refine Met.intro ?_ | skip
        refine hJ1 _ _ ?_
        repeat apply Exists.intro
        refine ⟨?_, rfl⟩
        exact ⟨rfl, 1, rfl⟩
      · have hse : (S1.toList == S2.toList) = false := beq_eq_false_iff_ne.mpr fun h => hxy (HQ.out h)
        have HXY := Lib.hid (show x ≠ y from hxy)
        clear hxy HQ HQ2
        refine wp_region_noPanic ?_
        refine wp_region_K (fun W => ∃ d, W = w2.drewN d) (fun _ => True) 99 (by kernel_rfl) ?_
        refine wpAnyK_take (i := 0) (oi := ?_) (v := ?_) ?_ (by kernel_rfl) (by kernel_rfl) (by kernel_rfl) (fun _ _ _ h => h) (by decide) ?_ HS.out (fun _ => trivial) ?_
        rotate_left 2
        · (simp only [List.getElem?_toArray, List.getElem?_cons_succ, List.getElem?_cons_zero]; rfl)
        · (first | exact Or.inr ⟨by rfl, rfl⟩ | (refine Or.inl ⟨by rfl, ?_⟩; intro W hSw; clear hSw; go_simp; try with_reducible rfl))
        try simp only [Act.put, List.setIfInBounds_toArray, List.set_cons_zero, List.set_cons_succ]
        refine wpAnyK_take (i := 1) (oi := ?_) (v := ?_) ?_ (by kernel_rfl) (by kernel_rfl) (by kernel_rfl) (fun _ _ _ h => h) (by decide) ?_ HS.out (fun _ => trivial) ?_
        rotate_left 2
        · (simp only [List.getElem?_toArray, List.getElem?_cons_succ, List.getElem?_cons_zero]; rfl)
        · (first | exact Or.inr ⟨by rfl, rfl⟩ | (refine Or.inl ⟨by rfl, ?_⟩; intro W hSw; clear hSw; go_simp; try with_reducible rfl))
        try simp only [Act.put, List.setIfInBounds_toArray, List.set_cons_zero, List.set_cons_succ]
        refine wpAnyK_take (i := 2) (oi := ?_) (v := ?_) ?_ (by kernel_rfl) (by kernel_rfl) (by kernel_rfl) (fun _ _ _ h => h) (by decide) ?_ HS.out (fun _ => trivial) ?_
        rotate_left 2
        · (simp only [List.getElem?_toArray, List.getElem?_cons_succ, List.getElem?_cons_zero]; rfl)
        · (first | exact Or.inr ⟨by rfl, rfl⟩ | (refine Or.inl ⟨by rfl, ?_⟩; intro W hSw; clear hSw; go_simp; try with_reducible rfl))
        try simp only [Act.put, List.setIfInBounds_toArray, List.set_cons_zero, List.set_cons_succ]
        refine wpAnyK_take (i := 3) (oi := ?_) (v := ?_) ?_ (by kernel_rfl) (by kernel_rfl) (by kernel_rfl) (fun _ _ _ h => h) (by decide) ?_ HS.out (fun _ => trivial) ?_
        rotate_left 2
        · (simp only [List.getElem?_toArray, List.getElem?_cons_succ, List.getElem?_cons_zero]; rfl)
        · (first | exact Or.inr ⟨by rfl, rfl⟩ | (refine Or.inl ⟨by rfl, ?_⟩; intro W hSw; clear hSw; go_simp; try with_reducible rfl))
        try simp only [Act.put, List.setIfInBounds_toArray, List.set_cons_zero, List.set_cons_succ]
        refine wpAnyK_take (i := 4) (oi := ?_) (v := ?_) ?_ (by kernel_rfl) (by kernel_rfl) (by kernel_rfl) (fun _ _ _ h => h) (by decide) ?_ HS.out (fun _ => trivial) ?_
        rotate_left 2
        · (simp only [List.getElem?_toArray, List.getElem?_cons_succ, List.getElem?_cons_zero]; rfl)
        · (first | exact Or.inr ⟨by rfl, rfl⟩ | (refine Or.inl ⟨by rfl, ?_⟩; intro W hSw; clear hSw; go_simp; try with_reducible rfl))
        try simp only [Act.put, List.setIfInBounds_toArray, List.set_cons_zero, List.set_cons_succ]
        refine wpAnyK_take (i := 5) (oi := ?_) (v := ?_) ?_ (by kernel_rfl) (by kernel_rfl) (by kernel_rfl) (fun _ _ _ h => h) (by decide) ?_ HS.out (fun _ => trivial) ?_
        rotate_left 2
        · (simp only [List.getElem?_toArray, List.getElem?_cons_succ, List.getElem?_cons_zero]; rfl)
        · (first | exact Or.inr ⟨by rfl, rfl⟩ | (refine Or.inl ⟨by rfl, ?_⟩; intro W hSw; clear hSw; go_simp; try with_reducible rfl))
        try simp only [Act.put, List.setIfInBounds_toArray, List.set_cons_zero, List.set_cons_succ]
        refine wpAnyK_take (i := 6) (oi := ?_) (v := ?_) ?_ (by kernel_rfl) (by kernel_rfl) (by kernel_rfl) (fun _ _ _ h => h) (by decide) ?_ HS.out (fun _ => trivial) ?_
        rotate_left 2
        · (simp only [List.getElem?_toArray, List.getElem?_cons_succ, List.getElem?_cons_zero]; rfl)
        · (first | exact Or.inr ⟨by rfl, rfl⟩ | (refine Or.inl ⟨by rfl, ?_⟩; intro W hSw; clear hSw; go_simp; try with_reducible rfl))
        try simp only [Act.put, List.setIfInBounds_toArray, List.set_cons_zero, List.set_cons_succ]
        refine wpAnyK_take (i := 7) (oi := ?_) (v := ?_) ?_ (by kernel_rfl) (by kernel_rfl) (by kernel_rfl) (fun _ _ _ h => h) (by decide) ?_ HS.out (fun _ => trivial) ?_
        rotate_left 2
        · (simp only [List.getElem?_toArray, List.getElem?_cons_succ, List.getElem?_cons_zero]; rfl)
        · (first | exact Or.inr ⟨by rfl, rfl⟩ | (refine Or.inl ⟨by rfl, ?_⟩; intro W hSw; clear hSw; go_simp; try with_reducible rfl))
        try simp only [Act.put, List.setIfInBounds_toArray, List.set_cons_zero, List.set_cons_succ]
        refine wpAnyK_take (i := 8) (oi := ?_) (v := ?_) ?_ (by kernel_rfl) (by kernel_rfl) (by kernel_rfl) (fun _ _ _ h => h) (by decide) ?_ HS.out (fun _ => trivial) ?_
        rotate_left 2
        · (simp only [List.getElem?_toArray, List.getElem?_cons_succ, List.getElem?_cons_zero]; rfl)
        · (first | exact Or.inr ⟨by rfl, rfl⟩ | (refine Or.inl ⟨by rfl, ?_⟩; intro W hSw; clear hSw; go_simp; try with_reducible rfl))
        try simp only [Act.put, List.setIfInBounds_toArray, List.set_cons_zero, List.set_cons_succ]
        refine wpAnyK_take (i := 9) (oi := ?_) (v := ?_) ?_ (by kernel_rfl) (by kernel_rfl) (by kernel_rfl) (fun _ _ _ h => h) (by decide) ?_ HS.out (fun _ => trivial) ?_
        rotate_left 2
        · (simp only [List.getElem?_toArray, List.getElem?_cons_succ, List.getElem?_cons_zero]; rfl)
        · (first | exact Or.inr ⟨by rfl, rfl⟩ | (refine Or.inl ⟨by rfl, ?_⟩; intro W hSw; clear hSw; go_simp; try with_reducible rfl))
        try simp only [Act.put, List.setIfInBounds_toArray, List.set_cons_zero, List.set_cons_succ]
        refine wpAnyK_take (i := 10) (oi := ?_) (v := ?_) ?_ (by kernel_rfl) (by kernel_rfl) (by kernel_rfl) (fun _ _ _ h => h) (by decide) ?_ HS.out (fun _ => trivial) ?_
        rotate_left 2
        · (simp only [List.getElem?_toArray, List.getElem?_cons_succ, List.getElem?_cons_zero]; rfl)
        · (first | exact Or.inr ⟨by rfl, rfl⟩ | (refine Or.inl ⟨by rfl, ?_⟩; intro W hSw; clear hSw; go_simp; try with_reducible rfl))
        try simp only [Act.put, List.setIfInBounds_toArray, List.set_cons_zero, List.set_cons_succ]
        refine wpAnyK_take (i := 11) (oi := ?_) (v := ?_) ?_ (by kernel_rfl) (by kernel_rfl) (by kernel_rfl) (fun _ _ _ h => h) (by decide) ?_ HS.out (fun _ => trivial) ?_
        rotate_left 2
        · (simp only [List.getElem?_toArray, List.getElem?_cons_succ, List.getElem?_cons_zero]; rfl)
        · (first | exact Or.inr ⟨by rfl, rfl⟩ | (refine Or.inl ⟨by rfl, ?_⟩; intro W hSw; clear hSw; go_simp; try with_reducible rfl))
        try simp only [Act.put, List.setIfInBounds_toArray, List.set_cons_zero, List.set_cons_succ]
        refine wpAnyK_take (i := 12) (oi := ?_) (v := ?_) ?_ (by kernel_rfl) (by kernel_rfl) (by kernel_rfl) (fun _ _ _ h => h) (by decide) ?_ HS.out (fun _ => trivial) ?_
        rotate_left 2
        · (simp only [List.getElem?_toArray, List.getElem?_cons_succ, List.getElem?_cons_zero]; rfl)
        · (first | exact Or.inr ⟨by rfl, rfl⟩ | (refine Or.inl ⟨by rfl, ?_⟩; intro W hSw; clear hSw; go_simp; try with_reducible rfl))
        try simp only [Act.put, List.setIfInBounds_toArray, List.set_cons_zero, List.set_cons_succ]
        refine wpAnyK_take (i := 13) (oi := ?_) (v := ?_) ?_ (by kernel_rfl) (by kernel_rfl) (by kernel_rfl) (fun _ _ _ h => h) (by decide) ?_ HS.out (fun _ => trivial) ?_
        rotate_left 2
        · (simp only [List.getElem?_toArray, List.getElem?_cons_succ, List.getElem?_cons_zero]; rfl)
        · (first | exact Or.inr ⟨by rfl, rfl⟩ | (refine Or.inl ⟨by rfl, ?_⟩; intro W hSw; clear hSw; go_simp; try with_reducible rfl))
        try simp only [Act.put, List.setIfInBounds_toArray, List.set_cons_zero, List.set_cons_succ]
        refine wpAnyK_take (i := 14) (oi := ?_) (v := ?_) ?_ (by kernel_rfl) (by kernel_rfl) (by kernel_rfl) (fun _ _ _ h => h) (by decide) ?_ HS.out (fun _ => trivial) ?_
        rotate_left 2
        · (simp only [List.getElem?_toArray, List.getElem?_cons_succ, List.getElem?_cons_zero]; rfl)
        · (first | exact Or.inr ⟨by rfl, rfl⟩ | (refine Or.inl ⟨by rfl, ?_⟩; intro W hSw; clear hSw; go_simp; try with_reducible rfl))
        try simp only [Act.put, List.setIfInBounds_toArray, List.set_cons_zero, List.set_cons_succ]
        refine wpAnyK_take (i := 15) (oi := ?_) (v := ?_) ?_ (by kernel_rfl) (by kernel_rfl) (by kernel_rfl) (fun _ _ _ h => h) (by decide) ?_ HS.out (fun _ => trivial) ?_
        rotate_left 2
        · (simp only [List.getElem?_toArray, List.getElem?_cons_succ, List.getElem?_cons_zero]; rfl)
        · (first | exact Or.inr ⟨by rfl, rfl⟩ | (refine Or.inl ⟨by rfl, ?_⟩; intro W hSw; clear hSw; go_simp; try with_reducible rfl))
        try simp only [Act.put, List.setIfInBounds_toArray, List.set_cons_zero, List.set_cons_succ]
        refine wpAnyK_take (i := 16) (oi := ?_) (v := ?_) ?_ (by kernel_rfl) (by kernel_rfl) (by kernel_rfl) (fun _ _ _ h => h) (by decide) ?_ HS.out (fun _ => trivial) ?_
        rotate_left 2
        · (simp only [List.getElem?_toArray, List.getElem?_cons_succ, List.getElem?_cons_zero]; rfl)
        · (first | exact Or.inr ⟨by rfl, rfl⟩ | (refine Or.inl ⟨by rfl, ?_⟩; intro W hSw; clear hSw; go_simp; try with_reducible rfl))
        try simp only [Act.put, List.setIfInBounds_toArray, List.set_cons_zero, List.set_cons_succ]
        refine wpAnyK_take (i := 17) (oi := ?_) (v := ?_) ?_ (by kernel_rfl) (by kernel_rfl) (by kernel_rfl) (fun _ _ _ h => h) (by decide) ?_ HS.out (fun _ => trivial) ?_
        rotate_left 2
        · (simp only [List.getElem?_toArray, List.getElem?_cons_succ, List.getElem?_cons_zero]; rfl)
        · (first | exact Or.inr ⟨by rfl, rfl⟩ | (refine Or.inl ⟨by rfl, ?_⟩; intro W hSw; clear hSw; go_simp; try with_reducible rfl))
        try simp only [Act.put, List.setIfInBounds_toArray, List.set_cons_zero, List.set_cons_succ]
        refine wpAnyK_take (i := 18) (oi := ?_) (v := ?_) ?_ (by kernel_rfl) (by kernel_rfl) (by kernel_rfl) (fun _ _ _ h => h) (by decide) ?_ HS.out (fun _ => trivial) ?_
        rotate_left 2
        · (simp only [List.getElem?_toArray, List.getElem?_cons_succ, List.getElem?_cons_zero]; rfl)
        · (first | exact Or.inr ⟨by rfl, rfl⟩ | (refine Or.inl ⟨by rfl, ?_⟩; intro W hSw; have hq := HT1.out W hSw; clear hSw; go_simp; try with_reducible rfl))
        try simp only [Act.put, List.setIfInBounds_toArray, List.set_cons_zero, List.set_cons_succ]
        refine wpAnyK_take (i := 19) (oi := ?_) (v := ?_) ?_ (by kernel_rfl) (by kernel_rfl) (by kernel_rfl) (fun _ _ _ h => h) (by decide) ?_ HS.out (fun _ => trivial) ?_
        rotate_left 2
        · (simp only [List.getElem?_toArray, List.getElem?_cons_succ, List.getElem?_cons_zero]; rfl)
        · (first | exact Or.inr ⟨by rfl, rfl⟩ | (refine Or.inl ⟨by rfl, ?_⟩; intro W hSw; clear hSw; go_simp; try with_reducible rfl))
        try simp only [Act.put, List.setIfInBounds_toArray, List.set_cons_zero, List.set_cons_succ]
        refine wpAnyK_take (i := 20) (oi := ?_) (v := ?_) ?_ (by kernel_rfl) (by kernel_rfl) (by kernel_rfl) (fun _ _ _ h => h) (by decide) ?_ HS.out (fun _ => trivial) ?_
        rotate_left 2
        · (simp only [List.getElem?_toArray, List.getElem?_cons_succ, List.getElem?_cons_zero]; rfl)
        · (first | exact Or.inr ⟨by rfl, rfl⟩ | (refine Or.inl ⟨by rfl, ?_⟩; intro W hSw; have hq := HT2.out W hSw; clear hSw; go_simp; try with_reducible rfl))
        try simp only [Act.put, List.setIfInBounds_toArray, List.set_cons_zero, List.set_cons_succ]
        refine wpAnyK_take (i := 21) (oi := ?_) (v := ?_) ?_ (by kernel_rfl) (by kernel_rfl) (by kernel_rfl) (fun _ _ _ h => h) (by decide) ?_ HS.out (fun _ => trivial) ?_
        rotate_left 2
        · (simp only [List.getElem?_toArray, List.getElem?_cons_succ, List.getElem?_cons_zero]; rfl)
        · (first | exact Or.inr ⟨by rfl, rfl⟩ | (refine Or.inl ⟨by rfl, ?_⟩; intro W hSw; clear hSw; go_simp; try with_reducible rfl))
        try simp only [Act.put, List.setIfInBounds_toArray, List.set_cons_zero, List.set_cons_succ]
        refine wpAnyK_take (i := 22) (oi := ?_) (v := ?_) ?_ (by kernel_rfl) (by kernel_rfl) (by kernel_rfl) (fun _ _ _ h => h) (by decide) ?_ HS.out (fun _ => trivial) ?_
        rotate_left 2
        · (simp only [List.getElem?_toArray, List.getElem?_cons_succ, List.getElem?_cons_zero]; rfl)
        · (first | exact Or.inr ⟨by rfl, rfl⟩ | (refine Or.inl ⟨by rfl, ?_⟩; intro W hSw; obtain ⟨k0, k1, k2, k3, k4, k5, k6⟩ := HK.out; obtain ⟨d, rfl⟩ := hSw; go_simp; try with_reducible rfl))
        try simp only [Act.put, List.setIfInBounds_toArray, List.set_cons_zero, List.set_cons_succ]
        refine wpAnyK_take (i := 23) (oi := ?_) (v := ?_) ?_ (by kernel_rfl) (by kernel_rfl) (by kernel_rfl) (fun _ _ _ h => h) (by decide) ?_ HS.out (fun _ => trivial) ?_
        rotate_left 2
        · (simp only [List.getElem?_toArray, List.getElem?_cons_succ, List.getElem?_cons_zero]; rfl)
        · (first | exact Or.inr ⟨by rfl, rfl⟩ | (refine Or.inl ⟨by rfl, ?_⟩; intro W hSw; obtain ⟨k0, k1, k2, k3, k4, k5, k6⟩ := HJ.out; obtain ⟨d, rfl⟩ := hSw; go_simp; try with_reducible rfl))
        try simp only [Act.put, List.setIfInBounds_toArray, List.set_cons_zero, List.set_cons_succ]
        refine wpAnyK_take (i := 24) (oi := ?_) (v := .bool false) ?_ (by kernel_rfl) (by kernel_rfl) (by kernel_rfl) (fun _ _ _ h => h) (by decide) ?_ HS.out (fun _ => trivial) ?_
        rotate_left 1
        · (simp only [List.getElem?_toArray, List.getElem?_cons_succ, List.getElem?_cons_zero]; rfl)
        · (refine Or.inl ⟨by rfl, ?_⟩; intro W hSw; clear hSw; go_simp; exact ins_ne HXY.out)
        try simp only [Act.put, List.setIfInBounds_toArray, List.set_cons_zero, List.set_cons_succ]
        refine wpAnyK_take (i := 25) (oi := ?_) (v := ?_) ?_ (by kernel_rfl) (by kernel_rfl) (by kernel_rfl) (fun _ _ _ h => h) (by decide) ?_ HS.out (fun _ => trivial) ?_
        rotate_left 2
        · (simp only [List.getElem?_toArray, List.getElem?_cons_succ, List.getElem?_cons_zero]; rfl)
        · (first | exact Or.inr ⟨by rfl, rfl⟩ | (refine Or.inl ⟨by rfl, ?_⟩; intro W hSw; clear hSw; go_simp; try with_reducible rfl))
        try simp only [Act.put, List.setIfInBounds_toArray, List.set_cons_zero, List.set_cons_succ]
        refine wpAnyK_take (i := 26) (oi := ?_) (v := ?_) ?_ (by kernel_rfl) (by kernel_rfl) (by kernel_rfl) (fun _ _ _ h => h) (by decide) ?_ HS.out (fun _ => trivial) ?_
        rotate_left 2
        · (simp only [List.getElem?_toArray, List.getElem?_cons_succ, List.getElem?_cons_zero]; rfl)
        · (first | exact Or.inr ⟨by rfl, rfl⟩ | (refine Or.inl ⟨by rfl, ?_⟩; intro W hSw; clear hSw; go_simp; try with_reducible rfl))
        try simp only [Act.put, List.setIfInBounds_toArray, List.set_cons_zero, List.set_cons_succ]
        refine wpAnyK_done (by kernel_rfl) ?_ _
        refine NoPanic.normal ?_
        try go_simp
        first | refine hK1 _ _ (Met.intro ?_) | refine Met.intro ?_ | skip
        refine hJ1 _ _ ?_
        repeat apply Exists.intro
        refine ⟨?_, rfl⟩
        exact ⟨rfl, 1, rfl⟩
    case rest =>
      obtain ⟨rfl, d, rfl⟩ := hcut
      clear k0 k1 k2 k3 k4 k5 k6 j0 j1 j2 j3 j4 j5 j6
      replace H7 := Lib.hid (H7.out.below (below_drewN2 w2.heap.size w2 d) H7.out.1)
      replace HR1 := Lib.hid (HR1.out.keep2 (below_drewN2 w2.heap.size w2 d))
      replace HB := Lib.hid (HB.out.trans (below_drewN2 _ w2 d))
      clear H8 HR2 HG HCS HE1 HE2
      generalize w2.drewN d = w3 at *
      go_upto_region 8 with (fail)
      go_wp2_with fail
      go_loopw [13] (fun o13 W => ∃ i : Nat, i ≤ bs.length ∧ o13 = .int .i64 i ∧ Below w3.heap.size w3 W) (fun o13 _ => bs.length - (intOf o13).toNat)
      case atStart => exact ⟨0, Nat.zero_le _, rfl, Below.refl _ _⟩
      case round =>
        obtain ⟨i, hi, rfl, hbl⟩ := hrel
        have HW := Lib.hid hbl
        have HI := Lib.hid hi
        clear hbl hi
        by_cases hlt : i < bs.length
        · have dlt : decide ((i : Int) < (bs.length : Int)) = true := decide_eq_true (by omega)
          have HD := Lib.hid (fun W hW => dec_begin HF.out HBS.out g1 c1 i hlt HC1.out.1 HC1.out.2 W (HR1.out.keep2 (hW : Below w3.heap.size w3 W)))
          have hic : (i : Int) ≤ (c1 : Int) := by have := HC1.out; omega
          have hi0 : (0 : Int) ≤ (i : Int) := by omega
          have hb10 : bs.length ≤ 10 := HBL.out.2
          go_wp2_with fail
          refine (HD.out _ HW.out).mono ?_
          rintro e w4 ⟨rfl, hw4⟩
          replace HW := Lib.hid (HW.out.trans (hw4.mono HW.out.size))
          clear hw4
          go_wp2
          go_roundw
          case rel => exact ⟨i + 1, by omega, by go_num, HW.out.alloc HW.out.size _⟩
          case measure => simp [intOf]; omega
        · have dlt : decide ((i : Int) < (bs.length : Int)) = false := decide_eq_false (by omega)
          replace H7 := Lib.hid (H7.out.below HW.out H7.out.1)
          replace HR1 := Lib.hid (HR1.out.keep2 HW.out)
          replace HB := Lib.hid (HB.out.trans (HW.out.mono HB.out.size))
          clear HW HI
          go_upto_region 14 with (fail)
          have HSM := Lib.hid (HSMW.out.below HB.out)
          clear hlt dlt
          have hb1 : Below wr.heap.size wr (wr.alloc (.cells #[] 5)) := (Below.refl _ _).alloc (Nat.le_refl _) _
          have HS1 := Lib.hid (show Src Try.prog 1 26 (.slice (some ⟨g1, 0, none⟩) bs.length c1) (zL bs).length (bytesL (zL bs).length (litF (zL bs))) (wr.alloc (.cells #[] 5)) from by
            refine src_bl (f := litF (zL bs)) (.inr ⟨g1, 0, rfl, ?_, ?_⟩) (zL_len bs).symm (fun i _ => rfl)
            · exact (HR1.out.keep2 hb1).lt
            · exact (HR1.out.keep2 hb1).row)
          obtain ⟨zs, hzs⟩ : ∃ zs, zL bs = zs := ⟨_, rfl⟩
          obtain ⟨ms, hms⟩ : ∃ ms, listF f m = ms := ⟨_, rfl⟩
          have hzn : bs.length = zs.length := by rw [← hzs, zL_len]
          have hmn : m = ms.length := by rw [← hms, listF_len]
          subst hmn
          rw [hzs] at HS1
          rw [hzn] at HS1 HBL
          have HO := Lib.hid (OwnBL.made0 wr wr.heap.size (Nat.le_refl _))
          have HB1 := Lib.hid hb1
          have HZS := Lib.hid hzs
          have HMS := Lib.hid hms
          have HZN := Lib.hid hzn
          rw [hzn]
          clear hzs hms hzn hb1
          go_wp2_with (first
            | (at_builtin; refine wpList_appBL rfl (.tmp 82) (.tmp 83) 26 rfl wr.heap.size _ _ rfl HO.out _ rfl zs HS1.out (by have := HBL.out; simp; omega) (by simp) ?_; intro A3 cap3 w4 hown3 hg3 hat3; simp only [List.length_nil, Nat.zero_add, List.nil_append] at hown3 ⊢; have HO3 := Lib.hid hown3; have HB3 := Lib.hid (HO.out.grew HB1.out (Nat.le_refl _) (by simp) hg3); have HS3 := Lib.hid (src_bl (c := cap) (cs := ms) (HSM.out.below HB3.out) rfl (fun i hi => by rw [← HMS.out]; exact (litF_listF hi).symm)); clear hown3 hg3 hat3)
            | (at_builtin; refine wpList_appBL rfl (.tmp 84) (.tmp 85) 26 rfl wr.heap.size _ _ rfl HO3.out _ rfl ms HS3.out (by have := HBL.out; have := HM'.out; omega) HB3.out.size ?_; intro A5 cap5 w5 hown5 hg5 hat5)
            | fail)
          have HO5 := Lib.hid hown5
          obtain ⟨q1, q2, q3, _, _⟩ := hown5.slice
          have hback := HF.out.back (natL f ms.length)
          rw [HBS.out] at hback
          have hbn : Bn bs := HBS.out ▸ encM_bn (forms_ok F HF.out.mem) x
          refine (dec_own w5 wr.heap.size _ cap5 A5 (bs ++ natL f ms.length) (by rw [zL_app, zL_natL HFB.out, HZS.out, HMS.out]; exact HO5.out) (by rw [List.length_append, natL_len, HZN.out]) (by have h := HBL.out.1; have h2 := HZN.out; intro h0; rw [(List.append_eq_nil_iff.mp h0).1, List.length_nil] at h2; omega) (fun v hv => (List.mem_append.mp hv).elim (hbn v) (Bn.natL HFB.out _ v)) q2 q3 _ hback).mono ?_
          rintro e w7 ⟨rfl, hw7⟩
          have HB5 := Lib.hid (HO3.out.grew HB3.out (Nat.le_refl _) HB3.out.size hg5)
          have HB7 := Lib.hid (HB5.out.trans (hw7.mono HB5.out.size))
          replace HB := Lib.hid (HB.out.trans (HB7.out.mono HB.out.size))
          replace H7 := Lib.hid (H7.out.below HB7.out H7.out.1)
          have hzn := HZN.out
          clear hown5 hg5 hat5 q1 q2 q3 hw7 hback hbn
          rw [HZN.out]
          unfold insV
          go_upto_region 15 with (fail)
          have HI1 := Lib.hid (ins_alloc w7 x 24)
          have HB8 := Lib.hid (HB.out.alloc HB.out.size (.cells #[.int .i64 x.op, .int .i64 x.a, .int .i64 x.b, .int .i64 x.alu, .int .i64 x.cc, .int .u64 x.imm, .int .i64 x.disp] 24))
          replace H7 := Lib.hid (H7.out.alloc (.cells #[.int .i64 x.op, .int .i64 x.a, .int .i64 x.b, .int .i64 x.alu, .int .i64 x.cc, .int .u64 x.imm, .int .i64 x.disp] 24))
          clear hzn
          generalize w7.alloc (.cells #[.int .i64 x.op, .int .i64 x.a, .int .i64 x.b, .int .i64 x.alu, .int .i64 x.cc, .int .u64 x.imm, .int .i64 x.disp] 24) = w8 at *
          generalize w7.heap.size = b9 at *
          obtain ⟨k0, k1, k2, k3, k4, k5, k6⟩ := res_cells HI1.out
          obtain ⟨j0, j1, j2, j3, j4, j5, j6⟩ := res_cells H7.out
          go_wp2_with (first | refine (HAW.out _).mono ?_ | fail)
          rintro e w9 ⟨rfl, hw9⟩
          have HB9 := Lib.hid (HB8.out.trans (hw9.mono HB8.out.size))
          clear hw9
          go_wp2
          go_ret
          exact ⟨rfl, HB9.out⟩

set_option maxRecDepth 100000 in
set_option maxHeartbeats 1000000 in
theorem back_any (o a b l c d o' a' b' l' c' d' : Int) (I I' : Nat) (A : Option Addr) (m cap : Nat) (f : Nat → Int) (w : World) (hf : Bytes255 f) (hs : SlB w A m f) (hI : I < 18446744073709551616) (hI' : I' < 18446744073709551616) :
    Calls Try.prog 5 #[.agg #[.int .i64 o, .int .i64 a, .int .i64 b, .int .i64 l, .int .i64 c, .int .u64 I, .int .i64 d], .agg #[.int .i64 o', .int .i64 a', .int .i64 b', .int .i64 l', .int .i64 c', .int .u64 I', .int .i64 d'], .slice A m cap] w fun e w' => e = .returned (.bool true) ∧ Below w.heap.size w w' := by
  by_cases h : m ≤ 40
  · exact back_x o a b l c d o' a' b' l' c' d' I I' A m cap f w h hf hs hI hI'
  · have d20 : decide ((m : Int) > 40) = true := decide_eq_true (by omega)
    have HAW := Lib.hid awake15_any
    clear h
    go_enter Try.func5, Try.ntmps5
    go_wp2_with (first | refine (HAW.out _).mono ?_ | fail)
    rintro e w9 ⟨rfl, hw9⟩
    have HB9 := Lib.hid ((((Below.refl w.heap.size w).alloc (Nat.le_refl _) _).alloc (by simp) _).trans (hw9.mono (by simp; omega)))
    clear hw9
    go_wp2
    go_ret
    exact ⟨rfl, HB9.out⟩
end Go.Proofs.Ytimjpdheaecajaa
