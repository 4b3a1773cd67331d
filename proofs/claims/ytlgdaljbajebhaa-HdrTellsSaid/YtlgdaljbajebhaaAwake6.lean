/- law 6: awake. -/
import Derived.Test.YtlgdaljbajebhaaSectE
import Derived.Test.YtlgdaljbajebhaaMade0
namespace Go.Proofs.Ytlgdaljbajebhaa
open Go.ChangeShapes Go.WideShapes Go.ChangeAt Go.RowKit
set_option linter.unusedVariables false

theorem sects0_of {F : Nat → Int} (x : MadeP L0 1 F) : sectsS F 328 1 = [⟨nameS F 328, 17, 4096, 512, 1024, 1610612736⟩] := by
  show [sectS F (328 + 40 * 0)] = _
  rw [x.all.sect (by omega)]
  rfl

/-- The load of a row by an operation that is asked for. -/
theorem wpList_load_row_g {P : Program} {ops : Array Oper} {rest : List Oper} {o : Oper} {a : Act} {w : World} {Q : Exit → Act → World → Prop} (hw : Region.wanted o (yielded ops a.tmps) = true) (ty : TypeId) (x : Operand) (ho : o.op = .load ty x)
    (g : Nat) (hx : a.eval x = .pointer (some ⟨g, 0, none⟩)) (t : TypeId) (cs : Array Value) (fr : Nat × Nat) (d : TypeDesc) (hg : w.heap[g]? = some (.cells cs t fr))
    (hu : P.underlying ty = some d) (hd : (match d with | .struct _ | .array _ _ => true | _ => false) = true) (hi : (P.info? ty).map (·.size) = some cs.size)
    (h : wpList P ops Q rest (a.put o.dst (.agg cs)) w) : wpList P ops Q (o :: rest) a w :=
  wpList_step fun K hK => by
    rw [if_pos hw]
    exact wp_load_row ty x ho g hx t cs fr d hg hu hd hi (hK _ _ h)

set_option maxRecDepth 100000 in
set_option maxHeartbeats 4000000 in
theorem awake6_any (w : World) : Calls Try.prog 20 #[] w fun e w' => e = .returned (.bool true) ∧ Below w.heap.size w w' := by
  go_enter Try.func20, Try.ntmps20
  go_wp2_with fail
  refine (made_none none 0 L0 (fun _ => rfl) w).mono ?_
  rintro e w1 ⟨g, c, F, rfl, ho, hm, hb⟩
  rw [at0] at ho ⊢
  have HO1 := Lib.hid ho
  have HM := Lib.hid hm
  have HB1 := Lib.hid hb
  clear ho hm hb
  go_wp2_with fail
  refine (hparse_any g 0 _ c F w1 HO1.out.rowB).mono ?_
  rintro e w2 ⟨⟨v, rfl, hr⟩, hb⟩
  obtain ⟨cs, g2, rfl, hv, hsl, hg2⟩ := hr.ok HM.out (by rw [at0]; exact Nat.le_refl _) (by omega) (by omega)
  have HB2 := Lib.hid (HB1.out.trans (hb.mono HB1.out.size))
  have HO2 := Lib.hid (HO1.out.below hb)
  have hS0 := sects0_of HM.out
  have h144 : (readS F 64).size = ((8192 : Nat) : Int) := HM.out.size
  have h148 : (readS F 64).headers = ((1024 : Nat) : Int) := HM.out.all.hd.hdrs
  have HL2 : Hid (HeadL w2 cs (readS F 64) g2 1 (sectsS F 328 1)) := Lib.hid ⟨hv, hsl, hg2, fun s hs => by
      simp only [sectsS, List.mem_map] at hs
      obtain ⟨j, _, rfl⟩ := hs
      exact sectS_bd HO1.out.by255 _, by simp [sectsS], by rw [h148]; omega, by rw [h148]; omega⟩
  have hone := hv.one rfl
  have HCZ := Lib.hid hv.size
  have H255 := Lib.hid HO1.out.by255
  clear hr hb hsl hv HB1 HO1
  go_wp2_with (first
    | (refine wpList_store_row rfl 32 _ _ rfl w2.heap.size cs rfl rfl 32 _ (heap_alloc_new _ _) (by rw [HCZ.out]; rfl) (by rw [HCZ.out]; rfl) hone ?_
       rw [zero_head]
       have HG3 := Lib.hid (setRow_heap (w2.alloc (.cells (headC 0 0 0 0 0 0) 32)) w2.heap.size _ cs _ _ (heap_alloc_new _ _))
       have hb : Below w2.heap.size w2 ((w2.alloc (.cells (headC 0 0 0 0 0 0) 32)).setRow w2.heap.size cs) := below_setRow ((Below.refl _ w2).alloc (Nat.le_refl _) _) (Nat.le_refl _) _
       have HB3 := Lib.hid (HB2.out.trans (hb.mono HB2.out.size))
       have HO3 := Lib.hid (HO2.out.below hb)
       have HL3 := Lib.hid (HL2.out.below hb)
       clear hb HB2 HO2 HL2 hone
       generalize (w2.alloc (.cells (headC 0 0 0 0 0 0) 32)).setRow w2.heap.size cs = w3 at *
       generalize w2.heap.size = gh at *)
    | (refine wpList_load_row rfl 32 _ rfl gh rfl 32 cs (0, 0) _ HG3.out rfl rfl (by rw [HCZ.out]; rfl) ?_))
  refine (of_any cs _ g2 1 _ 4096 w3 HL3.out (by omega) (by omega)).mono ?_
  rintro e w4 ⟨rfl, hb⟩
  rw [show ofS 4096 (sectsS F 328 1) 0 = some 0 by rw [hS0]; rfl]
  have HG4 := Lib.hid ((hb.block gh (Array.getElem?_eq_some_iff.1 HG3.out).1).trans HG3.out)
  have HB4 := Lib.hid (HB3.out.trans (hb.mono HB3.out.size))
  have HO4 := Lib.hid (HO3.out.below hb)
  have HL4 := Lib.hid (HL3.out.below hb)
  clear hb HG3 HB3 HO3 HL3
  go_wp2_with (refine wpList_load_row rfl 32 _ rfl gh rfl 32 cs (0, 0) _ HG4.out rfl rfl (by rw [HCZ.out]; rfl) ?_)
  refine (offset_any cs _ g2 1 _ 4097 w4 HL4.out (by omega) (by omega)).mono ?_
  rintro e w5 ⟨rfl, hb⟩
  rw [show offS (readS F 64).headers (sectsS F 328 1) 4097 = some 1025 by rw [hS0, h148]; rfl]
  have HG5 := Lib.hid ((hb.block gh (Array.getElem?_eq_some_iff.1 HG4.out).1).trans HG4.out)
  have HB5 := Lib.hid (HB4.out.trans (hb.mono HB4.out.size))
  have HO5 := Lib.hid (HO4.out.below hb)
  have HL5 := Lib.hid (HL4.out.below hb)
  clear hb HG4 HB4 HO4 HL4
  go_wp2_with (refine wpList_load_row rfl 32 _ rfl gh rfl 32 cs (0, 0) _ HG5.out rfl rfl (by rw [HCZ.out]; rfl) ?_)
  refine (offset_any cs _ g2 1 _ 4608 w5 HL5.out (by omega) (by omega)).mono ?_
  rintro e w6 ⟨rfl, hb⟩
  rw [show offS (readS F 64).headers (sectsS F 328 1) 4608 = none by rw [hS0, h148]; rfl]
  have HG6 := Lib.hid ((hb.block gh (Array.getElem?_eq_some_iff.1 HG5.out).1).trans HG5.out)
  have HB6 := Lib.hid (HB5.out.trans (hb.mono HB5.out.size))
  have HO6 := Lib.hid (HO5.out.below hb)
  have HL6 := Lib.hid (HL5.out.below hb)
  clear hb HG5 HB5 HO5 HL5
  go_wp2_with (refine wpList_load_row rfl 32 _ rfl gh rfl 32 cs (0, 0) _ HG6.out rfl rfl (by rw [HCZ.out]; rfl) ?_)
  refine (lays_any cs _ g2 1 _ g 0 1536 c F 8192 1024 w6 HL6.out HO6.out.rowB h144 (by omega) h148).mono ?_
  rintro e w7 ⟨gi, rfl, ho, hb⟩
  have HG7 := Lib.hid ((hb.block gh (Array.getElem?_eq_some_iff.1 HG6.out).1).trans HG6.out)
  have HB7 := Lib.hid (HB6.out.trans (hb.mono HB6.out.size))
  have HL7 := Lib.hid (HL6.out.below hb)
  have HOI := Lib.hid ho
  have himg : strF (imgF 8192 F 1536 1024 (sectsS F 328 1)) 0 2 = ⟨#[77, 90]⟩ := by
    rw [strF_congr (f := imgF 8192 F 1536 1024 (sectsS F 328 1)) (f' := litF [77, 90]) (o := 0) (o' := 0) (n := 2) (fun i hi => by
      have h0 := HM.out.all.hd.m0
      have h1 := HM.out.all.hd.m1
      rw [hS0]
      rcases (by omega : i = 0 ∨ i = 1) with rfl | rfl
      · simp [imgF, laysF, layF, byteS, litF, h0]
      · simp [imgF, laysF, layF, byteS, litF, h1])]
    rfl
  have HS := Lib.hid (fun (W : World) (hb : Below w7.heap.size w7 W) => run_str_at (cap := 8192) (o := 0) (n := 2) (HOI.out.below hb).row (by omega))
  rw [himg] at HS
  simp only [Nat.add_zero] at HS
  have HPR := Lib.hid (fun W => prot_any 1610612736 true false true W (by decide) (by decide) (by decide))
  have HPA := Lib.hid (protAt_none cs _ g2 1 _ 0 w7 HL7.out (by omega) (by rw [h148]; decide) (by rw [hS0]; rfl))
  clear ho hb HG6 HB6 HO6 HL6 himg
  go_wp2_with (first
    | (refine wpList_load_row_g (by rfl) 32 _ rfl gh rfl 32 cs (0, 0) _ HG7.out rfl rfl (by rw [HCZ.out]; rfl) ?_)
    | (go_fit (HPR.out _); rintro e u ⟨rfl, rfl⟩)
    | (go_fit HPA.out; rintro e w8 ⟨rfl, hb⟩; have hs := HS.out w8 hb))
  go_ret
  exact ⟨rfl, HB7.out.trans (hb.mono HB7.out.size)⟩
end Go.Proofs.Ytlgdaljbajebhaa
