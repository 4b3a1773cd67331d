/- package dec: Decode. -/
import Derived.Test.YthbgmlmcjnlopaaDecG
import Derived.Test.YthbgmlmcjnlopaaMgL
namespace Go.Proofs.Ythbgmlmcjnlopaa
open Go.ChangeShapes Go.WideShapes Go.ChangeAt Go.RowKit
set_option linter.unusedVariables false
set_option linter.unusedSimpArgs false

/-- What stands while forms are tried: the result's block s, the forms' block g. -/
structure DSt (w : World) (s g : Nat) (A : Option Addr) (bs : List Nat) (W : World) : Prop where
  bel : Below s w W
  frm : W.heap[g]? = some (.cells formsC 130 (0, 0))
  res : Own W s 7 (insF ins0)
  sl : bs.length = 0 ∨ ∃ b off, A = some ⟨b, off, none⟩ ∧ b < s ∧ Row W b off bs.length (bF bs)
  sg : s < g

theorem DSt.slB {w : World} {s g : Nat} {A : Option Addr} {bs : List Nat} {W : World} (h : DSt w s g A bs W) : SlB W A bs.length (bF bs) := by
  rcases h.sl with h' | ⟨b, off, e, hb, hr⟩
  · exact .inl h'
  · exact .inr ⟨b, off, e, by have := h.res.1; omega, hr⟩

theorem lt_of_heap {w : World} {g : Nat} {o : Obj} (h : w.heap[g]? = some o) : g < w.heap.size := by
  rcases Nat.lt_or_ge g w.heap.size with h' | h'
  · exact h'
  · simp [Array.getElem?_eq_none h'] at h

theorem DSt.below {w : World} {s g : Nat} {A : Option Addr} {bs : List Nat} {W W' : World} (h : DSt w s g A bs W) (hb : Below W.heap.size W W') : DSt w s g A bs W' := by
  have h1 := lt_of_heap h.frm
  have h2 := h.sg
  refine ⟨h.bel.trans (hb.mono (by omega)), (hb.block g h1).trans h.frm, h.res.below hb (by omega), ?_, h.sg⟩
  rcases h.sl with h' | ⟨b, off, e, hbl, hr⟩
  · exact .inl h'
  · exact .inr ⟨b, off, e, hbl, hr.below hb (by omega)⟩

theorem DSt.alloc {w : World} {s g : Nat} {A : Option Addr} {bs : List Nat} {W : World} (h : DSt w s g A bs W) (o : Obj) : DSt w s g A bs (W.alloc o) := h.below ((Below.refl _ _).alloc (Nat.le_refl _) _)

theorem DSt.start {w w1 : World} {A : Option Addr} {bs : List Nat} {T : TypeId} (hs : SlB w A bs.length (bF bs))
    (hb : Below (w.alloc (.cells #[.int .i64 0, .int .i64 0, .int .i64 0, .int .i64 0, .int .i64 0, .int .u64 0, .int .i64 0] T)).heap.size (w.alloc (.cells #[.int .i64 0, .int .i64 0, .int .i64 0, .int .i64 0, .int .i64 0, .int .u64 0, .int .i64 0] T)) w1) :
    DSt w w.heap.size w1.heap.size A bs ((w1.alloc (.cells zForms 130)).setRow w1.heap.size formsC) := by
  have h0 : Below w.heap.size w (w.alloc (.cells #[.int .i64 0, .int .i64 0, .int .i64 0, .int .i64 0, .int .i64 0, .int .u64 0, .int .i64 0] T)) := (Below.refl _ _).alloc (Nat.le_refl _) _
  have hz := hb.size
  have hz' : w.heap.size < w1.heap.size := by simp at hz; omega
  have h1 : Below w.heap.size w w1 := h0.trans (hb.mono (by simp))
  have hr : Own (w.alloc (.cells #[.int .i64 0, .int .i64 0, .int .i64 0, .int .i64 0, .int .i64 0, .int .u64 0, .int .i64 0] T)) w.heap.size 7 (insF ins0) := by
    refine ⟨by simp, fun i hi => ?_⟩
    rcases (by omega : i = 0 ∨ i = 1 ∨ i = 2 ∨ i = 3 ∨ i = 4 ∨ i = 5 ∨ i = 6) with rfl | rfl | rfl | rfl | rfl | rfl | rfl <;> constructor <;> simp [go_sem, insF, ins0]
  have h2 : Below w1.heap.size w1 ((w1.alloc (.cells zForms 130)).setRow w1.heap.size formsC) := below_setRow ((Below.refl _ _).alloc (Nat.le_refl _) _) (Nat.le_refl _) _
  refine ⟨h1.trans (h2.mono (by omega)), setRow_heap _ _ _ _ _ _ (heap_alloc_new _ _), (hr.below hb (by simp)).below h2 (by omega), ?_, hz'⟩
  rcases hs with h | ⟨b, off, e, hlt, hrow⟩
  · exact .inl h
  · exact .inr ⟨b, off, e, hlt, (hrow.below h1 hlt).below h2 (by omega)⟩

theorem decode_step {i : Nat} {F : Form} (h : forms[i]? = some F) (e : Nat) (bs : List Nat) :
    decodeM (forms.drop i) e bs = if (readM F bs).fit = 2 then ⟨(readM F bs).x, (readM F bs).n, 0⟩ else decodeM (forms.drop (i + 1)) (if (readM F bs).fit = 1 then 2 else e) bs := by
  have hi : i < forms.length := by
    rcases Nat.lt_or_ge i forms.length with h' | h'
    · exact h'
    · simp [List.getElem?_eq_none h'] at h
  rw [List.drop_eq_getElem_cons hi]
  have : forms[i] = F := by rw [List.getElem?_eq_getElem hi] at h; exact Option.some.inj h
  rw [this]
  rfl


set_option maxHeartbeats 1000000 in
set_option maxRecDepth 100000 in
theorem decode_any (b off : Nat) (bs : List Nat) (cap : Nat) (w : World) (hb : Bn bs) (hl : bs.length ≤ cap) (hl' : cap ≤ 9223372036854775807) (hs : SlB w (some ⟨b, off, none⟩) bs.length (bF bs)) :
    Calls Try.prog 62 #[.slice (some ⟨b, off, none⟩) bs.length cap] w fun e w' =>
      e = .returned (.tuple #[insV (decodeM forms 16 bs).x, .int .i64 (decodeM forms 16 bs).n, .int .i64 (decodeM forms 16 bs).fit]) ∧ Below w.heap.size w w' := by
  have HS := Lib.hid hs
  clear hs
  have hz := zForms_size
  go_enter Try.func62, Try.ntmps62
  go_wp2_with fail
  refine (makeForms_any _).mono ?_
  rintro e w1 ⟨rfl, hw1⟩
  have HST := Lib.hid (DSt.start (A := some ⟨b, off, none⟩) HS.out hw1)
  clear hw1
  go_wp2_with (refine wpList_store_row rfl 130 _ _ rfl w1.heap.size formsC rfl rfl 130 zForms (heap_alloc_new _ _) (by rw [formsC_size]; rfl) (by rw [formsC_size, hz]) formsC_one ?_)
  generalize (w1.alloc (.cells zForms 130)).setRow w1.heap.size formsC = W0 at *
  clear hz HS
  generalize formsC = FC
  go_loopw [5, 12] (fun o5 o12 W => ∃ (i ev : Nat), i ≤ 40 ∧ o12 = .int .i64 i ∧ o5 = .int .i64 ev ∧ decodeM (forms.drop i) ev bs = decodeM forms 16 bs ∧ DSt w w.heap.size w1.heap.size (some ⟨b, off, none⟩) bs W) (fun _ o12 _ => 40 - (intOf o12).toNat)
  case atStart => exact ⟨0, 16, by omega, rfl, rfl, rfl, HST.out⟩
  case round =>
    obtain ⟨i, ev, hi, rfl, rfl, hd, hst⟩ := hrel
    replace HST := Lib.hid hst
    have HD := Lib.hid hd
    clear hd hst
    by_cases hlt : i < 40
    · obtain ⟨F, hF⟩ : ∃ F, forms[i]? = some F := ⟨forms[i]'(by rw [forms_len]; omega), List.getElem?_eq_getElem _⟩
      have hok := forms_ok F (List.mem_of_getElem? hF)
      have hR := read_some w1.heap.size (8 * i) b off F bs cap wr hok (form_at HST.out.frm hF) hb hl hl' HST.out.slB
      rw [Nat.mul_comm 8 i] at hR
      have hD := HD.out
      rw [decode_step hF] at hD
      replace HD := Lib.hid hD
      have HR := Lib.hid hR
      clear hD hR hok hF
      go_wp2_with fail
      refine HR.out.mono ?_
      rintro e w2 ⟨rfl, hw2⟩
      replace HST := Lib.hid (HST.out.below hw2)
      have HWS := Lib.hid (HST.out.res.1)
      clear HR hw2
      generalize readM F bs = G at HD ⊢
      obtain ⟨⟨xo, xa, xb, xl, xc, xi, xd⟩, n, fit⟩ := G
      simp only [insV]
      by_cases c2 : fit = 2
      · subst c2
        have hD := HD.out
        rw [if_pos rfl] at hD
        replace HD := Lib.hid hD
        clear hD
        go_upto_region 9 with (fail)
        have HI := Lib.hid (ins_alloc w2 ⟨xo, xa, xb, xl, xc, xi, xd⟩ 27)
        replace HST := Lib.hid (HST.out.alloc (.cells #[.int .i64 xo, .int .i64 xa, .int .i64 xb, .int .i64 xl, .int .i64 xc, .int .u64 xi, .int .i64 xd] 27))
        have hne : w.heap.size < w2.heap.size := HWS.out
        simp only at HI
        generalize w2.alloc (.cells #[.int .i64 xo, .int .i64 xa, .int .i64 xb, .int .i64 xl, .int .i64 xc, .int .u64 xi, .int .i64 xd] 27) = w3 at *
        generalize w2.heap.size = g3 at *
        obtain ⟨m0, m1, m2, m3, m4, m5, m6⟩ := res_cells HI.out
        simp only at m0 m1 m2 m3 m4 m5 m6
        obtain ⟨k0, k1, k2, k3, k4, k5, k6⟩ := res_cells HST.out.res
        obtain ⟨l0, l1, l2, l3, l4, l5, l6⟩ := res_frozen HST.out.res
        have hbel := HST.out.bel
        have hsz : w.heap.size < w3.heap.size := HST.out.res.1
        simp only [ins0, Int.natCast_zero] at k0 k1 k2 k3 k4 k5 k6
        go_wp2
        exact bodyPost_ret (v := .tuple #[.agg #[.int .i64 xo, .int .i64 xa, .int .i64 xb, .int .i64 xl, .int .i64 xc, .int .u64 xi, .int .i64 xd], .int .i64 n, .int .i64 0]) (by simp [results, Try.results62, go_sem, k0, k1, k2, k3, k4, k5, k6, l0, l1, l2, l3, l4, l5, l6]) rfl ⟨by rw [← HD.out]; rfl, by go_grown⟩
      · have d2 : ((fit : Int) == 2) = false := beq_eq_false_iff_ne.mpr (by omega)
        have hD := HD.out
        rw [if_neg c2] at hD
        replace HD := Lib.hid hD
        clear hD
        by_cases c1 : fit = 1
        · subst c1
          have hD := HD.out
          rw [if_pos rfl] at hD
          replace HD := Lib.hid hD
          clear hD c2
          go_wp2
          go_roundw
          case rel => exact ⟨i + 1, 2, by omega, by go_num, rfl, HD.out, HST.out.alloc _⟩
          case measure => simp [intOf]; omega
        · have d1 : ((fit : Int) == 1) = false := beq_eq_false_iff_ne.mpr (by omega)
          have hD := HD.out
          rw [if_neg c1] at hD
          replace HD := Lib.hid hD
          clear hD c1 c2
          go_wp2
          go_roundw
          case rel => exact ⟨i + 1, ev, by omega, by go_num, rfl, HD.out, HST.out.alloc _⟩
          case measure => simp [intOf]; omega
    · obtain rfl : i = 40 := by omega
      have hD := HD.out
      rw [show forms.drop 40 = [] from List.drop_eq_nil_of_le (by rw [forms_len]; omega)] at hD
      simp only [decodeM] at hD
      replace HD := Lib.hid hD
      clear hD
      obtain ⟨k0, k1, k2, k3, k4, k5, k6⟩ := res_cells HST.out.res
      obtain ⟨l0, l1, l2, l3, l4, l5, l6⟩ := res_frozen HST.out.res
      have hbel := HST.out.bel
      have hsz : w.heap.size < wr.heap.size := HST.out.res.1
      simp only [ins0, Int.natCast_zero] at k0 k1 k2 k3 k4 k5 k6
      go_wp2
      exact bodyPost_ret (v := .tuple #[.agg #[.int .i64 0, .int .i64 0, .int .i64 0, .int .i64 0, .int .i64 0, .int .u64 0, .int .i64 0], .int .i64 0, .int .i64 ev]) (by simp [results, Try.results62, go_sem, k0, k1, k2, k3, k4, k5, k6, l0, l1, l2, l3, l4, l5, l6]) rfl ⟨by rw [← HD.out]; rfl, by go_grown⟩
end Go.Proofs.Ythbgmlmcjnlopaa
