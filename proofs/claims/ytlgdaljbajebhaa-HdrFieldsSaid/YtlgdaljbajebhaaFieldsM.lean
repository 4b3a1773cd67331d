/- HdrFields: what each row's numbers make of an image (written by wip/mkfields.py). -/
import Derived.Test.YtlgdaljbajebhaaHdrNumbers
namespace Go.Proofs.Ytlgdaljbajebhaa
open Go.ChangeShapes Go.WideShapes Go.ChangeAt Go.RowKit
set_option linter.unusedVariables false

/-- The numbers of an image of one section that are asked. -/
structure FR where
  f0 : Int
  f1 : Int
  pe : Int
  p0 : Int
  p1 : Int
  p2 : Int
  p3 : Int
  mach : Int
  opt : Int
  mg : Int
  nd : Int
  al : Int
  fal : Int
  base : Int
  size : Int
  cnt : Int
  hdrs : Int
  v : Int
  rva : Int
  raw : Int
  spot : Int
  ent : Int

structure FRof (f : Nat → Int) (x : FR) : Prop where
  f0 : f 0 = x.f0
  f1 : f 1 = x.f1
  p0 : f 64 = x.p0
  p1 : f 65 = x.p1
  p2 : f 66 = x.p2
  p3 : f 67 = x.p3
  pe : rdF f 60 4 = x.pe
  mach : rdF f 68 2 = x.mach
  opt : rdF f 84 2 = x.opt
  mg : rdF f 88 2 = x.mg
  nd : rdF f 196 4 = x.nd
  al : rdF f 120 4 = x.al
  fal : rdF f 124 4 = x.fal
  base : rdF f 112 8 = x.base
  size : rdF f 144 4 = x.size
  cnt : rdF f 70 2 = x.cnt
  hdrs : rdF f 148 4 = x.hdrs
  v : rdF f 336 4 = x.v
  rva : rdF f 340 4 = x.rva
  raw : rdF f 344 4 = x.raw
  spot : rdF f 348 4 = x.spot
  ent : rdF f 104 4 = x.ent

/-- What Parse tells of them, of 1,536 bytes. -/
def headX (x : FR) : Int :=
  if x.f0 ≠ 77 ∨ x.f1 ≠ 90 then 3 else
  if x.pe < 64 ∨ x.pe % 4 ≠ 0 ∨ 1536 < x.pe + 264 then 2 else
  if x.p0 ≠ 80 ∨ x.p1 ≠ 69 ∨ x.p2 ≠ 0 ∨ x.p3 ≠ 0 then 3 else
  if x.mach ≠ 34404 then 4 else
  if x.opt ≠ 240 ∨ x.mg ≠ 523 ∨ x.nd ≠ 16 then 5 else
  if ¬ (x.al = 4096 ∧ x.fal = 512 ∧ x.base % 65536 = 0 ∧ 65536 ≤ x.base ∧ x.base ≤ 35184372088832 ∧ x.size % 4096 = 0 ∧ 4096 ≤ x.size ∧ x.size ≤ 262144) then 6 else
  if ¬ (1 ≤ x.cnt ∧ x.cnt ≤ 16 ∧ 64 + 264 + 40 * x.cnt ≤ x.hdrs ∧ x.hdrs ≤ 4096 ∧ x.hdrs ≤ 1536) then 7 else
  if ¬ ((x.rva = roundS x.hdrs 4096 ∧ x.v ≠ 0 ∧ x.v ≤ x.size ∧ x.raw % 512 = 0 ∧ x.raw ≤ roundS x.v 4096 ∧ ¬ (0 < x.raw ∧ 1536 < x.spot + x.raw)) ∧ roundS x.hdrs 4096 + roundS x.v 4096 = x.size) then 7 else
  if x.size ≤ x.ent then 5 else 0

theorem headE_X {f : Nat → Int} {x : FR} (h : FRof f x) (hp : x.pe = 64 ∨ x.pe < 64 ∨ x.pe % 4 ≠ 0) (hc : x.cnt = 1 ∨ x.cnt < 1 ∨ 16 < x.cnt) : headE 1536 f = headX x := by
  unfold headX
  by_cases c1 : x.f0 ≠ 77 ∨ x.f1 ≠ 90
  · have hb : beginS 1536 f = (0, 3) := by unfold beginS; rw [if_neg (by omega), if_pos (by rw [h.f0, h.f1]; exact c1)]
    rw [if_pos c1]
    unfold headE
    rw [if_pos (by rw [hb]; simp), hb]
  rw [if_neg c1]
  by_cases c2 : x.pe < 64 ∨ x.pe % 4 ≠ 0 ∨ 1536 < x.pe + 264
  · have hb : beginS 1536 f = (0, 2) := by unfold beginS; rw [if_neg (by omega), if_neg (by rw [h.f0, h.f1]; exact c1), if_pos (by rw [h.pe]; omega)]
    rw [if_pos c2]
    unfold headE
    rw [if_pos (by rw [hb]; simp), hb]
  rw [if_neg c2]
  have hpe : x.pe = 64 := by omega
  have hr : rdF f 60 4 = 64 := by rw [h.pe, hpe]
  by_cases c3 : x.p0 ≠ 80 ∨ x.p1 ≠ 69 ∨ x.p2 ≠ 0 ∨ x.p3 ≠ 0
  · have hb : beginS 1536 f = (0, 3) := by
      unfold beginS
      rw [if_neg (by omega), if_neg (by rw [h.f0, h.f1]; exact c1), hr, if_neg (by omega)]
      show (if f 64 ≠ 80 ∨ f 65 ≠ 69 ∨ f 66 ≠ 0 ∨ f 67 ≠ 0 then ((0 : Int), (3 : Int)) else (64, 0)) = _
      rw [h.p0, h.p1, h.p2, h.p3, if_pos c3]
    rw [if_pos c3]
    unfold headE
    rw [if_pos (by rw [hb]; simp), hb]
  rw [if_neg c3]
  have hb : beginS 1536 f = (64, 0) := by
    unfold beginS
    rw [if_neg (by omega), if_neg (by rw [h.f0, h.f1]; exact c1), hr, if_neg (by omega)]
    show (if f 64 ≠ 80 ∨ f 65 ≠ 69 ∨ f 66 ≠ 0 ∨ f 67 ≠ 0 then ((0 : Int), (3 : Int)) else (64, 0)) = _
    rw [h.p0, h.p1, h.p2, h.p3, if_neg c3]
  have hb1 : (beginS 1536 f).1 = 64 := by rw [hb]
  have hb2 : (beginS 1536 f).2 = 0 := by rw [hb]
  unfold headE
  rw [if_neg (by omega), hb1, show ((64 : Int).toNat) = 64 from rfl]
  by_cases c4 : x.mach ≠ 34404
  · have ho : optS f 64 = 4 := by unfold optS; rw [show 64 + 4 = 68 from rfl, h.mach, if_pos c4]
    rw [if_pos c4, ho, if_pos (by omega)]
  rw [if_neg c4]
  by_cases c5 : x.opt ≠ 240 ∨ x.mg ≠ 523 ∨ x.nd ≠ 16
  · have ho : optS f 64 = 5 := by unfold optS; rw [show 64 + 4 = 68 from rfl, h.mach, if_neg c4, show 64 + 20 = 84 from rfl, show 64 + 24 = 88 from rfl, show 64 + 132 = 196 from rfl, h.opt, h.mg, h.nd, if_pos c5]
    rw [if_pos c5, ho, if_pos (by omega)]
  have ho : optS f 64 = 0 := by unfold optS; rw [show 64 + 4 = 68 from rfl, h.mach, if_neg c4, show 64 + 20 = 84 from rfl, show 64 + 24 = 88 from rfl, show 64 + 132 = 196 from rfl, h.opt, h.mg, h.nd, if_neg c5]
  rw [if_neg c5, ho, if_neg (by omega)]
  have ea : alignS f 64 (readS f 64).base (readS f 64).size ↔ (x.al = 4096 ∧ x.fal = 512 ∧ x.base % 65536 = 0 ∧ 65536 ≤ x.base ∧ x.base ≤ 35184372088832 ∧ x.size % 4096 = 0 ∧ 4096 ≤ x.size ∧ x.size ≤ 262144) := by
    unfold alignS
    simp only [readS]
    rw [show 64 + 56 = 120 from rfl, show 64 + 60 = 124 from rfl, show 64 + 48 = 112 from rfl, show 64 + 80 = 144 from rfl, h.al, h.fal, h.base, h.size]
  have eh : headersP 1536 64 (readS f 64).headers (rdF f (64 + 6) 2) ↔ (1 ≤ x.cnt ∧ x.cnt ≤ 16 ∧ 64 + 264 + 40 * x.cnt ≤ x.hdrs ∧ x.hdrs ≤ 4096 ∧ x.hdrs ≤ 1536) := by
    unfold headersP
    simp only [readS]
    rw [show 64 + 84 = 148 from rfl, show 64 + 6 = 70 from rfl, h.hdrs, h.cnt]
    omega
  by_cases c6 : alignS f 64 (readS f 64).base (readS f 64).size
  · rw [if_neg (show ¬ ¬ alignS f 64 (readS f 64).base (readS f 64).size from fun k => k c6), if_neg (show ¬ ¬ (x.al = 4096 ∧ x.fal = 512 ∧ x.base % 65536 = 0 ∧ 65536 ≤ x.base ∧ x.base ≤ 35184372088832 ∧ x.size % 4096 = 0 ∧ 4096 ≤ x.size ∧ x.size ≤ 262144) from fun k => k (ea.1 c6))]
    by_cases c7 : headersP 1536 64 (readS f 64).headers (rdF f (64 + 6) 2)
    · rw [if_neg (show ¬ ¬ headersP 1536 64 (readS f 64).headers (rdF f (64 + 6) 2) from fun k => k c7), if_neg (show ¬ ¬ (1 ≤ x.cnt ∧ x.cnt ≤ 16 ∧ 64 + 264 + 40 * x.cnt ≤ x.hdrs ∧ x.hdrs ≤ 4096 ∧ x.hdrs ≤ 1536) from fun k => k (eh.1 c7))]
      have hcnt : x.cnt = 1 := by have := eh.1 c7; omega
      have ec : chainP (readS f 64).size ((1536 : Nat) : Int) (roundS (readS f 64).headers 4096) (sectsS f (64 + 264) (rdF f (64 + 6) 2).toNat) ↔ ((x.rva = roundS x.hdrs 4096 ∧ x.v ≠ 0 ∧ x.v ≤ x.size ∧ x.raw % 512 = 0 ∧ x.raw ≤ roundS x.v 4096 ∧ ¬ (0 < x.raw ∧ 1536 < x.spot + x.raw)) ∧ roundS x.hdrs 4096 + roundS x.v 4096 = x.size) := by
        simp only [readS]
        rw [show 64 + 84 = 148 from rfl, show 64 + 6 = 70 from rfl, show 64 + 80 = 144 from rfl, h.hdrs, h.cnt, h.size, hcnt, show ((1 : Int).toNat) = 1 from rfl]
        have e1 : rdF f (328 + 8) 4 = x.v := h.v
        have e2 : rdF f (328 + 12) 4 = x.rva := h.rva
        have e3 : rdF f (328 + 16) 4 = x.raw := h.raw
        have e4 : rdF f (328 + 20) 4 = x.spot := h.spot
        show chainP x.size 1536 (roundS x.hdrs 4096) [sectS f (328 + 40 * 0)] ↔ _
        unfold sectS
        rw [show 328 + 40 * 0 = 328 from rfl, e1, e2, e3, e4]
        exact Iff.rfl
      by_cases c8 : chainP (readS f 64).size ((1536 : Nat) : Int) (roundS (readS f 64).headers 4096) (sectsS f (64 + 264) (rdF f (64 + 6) 2).toNat)
      · rw [if_neg (show ¬ ¬ chainP (readS f 64).size ((1536 : Nat) : Int) (roundS (readS f 64).headers 4096) (sectsS f (64 + 264) (rdF f (64 + 6) 2).toNat) from fun k => k c8), if_neg (show ¬ ¬ ((x.rva = roundS x.hdrs 4096 ∧ x.v ≠ 0 ∧ x.v ≤ x.size ∧ x.raw % 512 = 0 ∧ x.raw ≤ roundS x.v 4096 ∧ ¬ (0 < x.raw ∧ 1536 < x.spot + x.raw)) ∧ roundS x.hdrs 4096 + roundS x.v 4096 = x.size) from fun k => k (ec.1 c8))]
        have es : (readS f 64).size = x.size := h.size
        have ee : (readS f 64).entry = x.ent := h.ent
        by_cases c9 : x.size ≤ x.ent
        · rw [if_pos (show (readS f 64).size ≤ (readS f 64).entry by rw [es, ee]; exact c9), if_pos c9]
        · rw [if_neg (show ¬ (readS f 64).size ≤ (readS f 64).entry by rw [es, ee]; exact c9), if_neg c9]
      · rw [if_pos (show ¬ chainP (readS f 64).size ((1536 : Nat) : Int) (roundS (readS f 64).headers 4096) (sectsS f (64 + 264) (rdF f (64 + 6) 2).toNat) from c8), if_pos (show ¬ ((x.rva = roundS x.hdrs 4096 ∧ x.v ≠ 0 ∧ x.v ≤ x.size ∧ x.raw % 512 = 0 ∧ x.raw ≤ roundS x.v 4096 ∧ ¬ (0 < x.raw ∧ 1536 < x.spot + x.raw)) ∧ roundS x.hdrs 4096 + roundS x.v 4096 = x.size) from fun k => c8 (ec.2 k))]
    · rw [if_pos (show ¬ headersP 1536 64 (readS f 64).headers (rdF f (64 + 6) 2) from c7), if_pos (show ¬ (1 ≤ x.cnt ∧ x.cnt ≤ 16 ∧ 64 + 264 + 40 * x.cnt ≤ x.hdrs ∧ x.hdrs ≤ 4096 ∧ x.hdrs ≤ 1536) from fun k => c7 (eh.2 k))]
  · rw [if_pos (show ¬ alignS f 64 (readS f 64).base (readS f 64).size from c6), if_pos (show ¬ (x.al = 4096 ∧ x.fal = 512 ∧ x.base % 65536 = 0 ∧ 65536 ≤ x.base ∧ x.base ≤ 35184372088832 ∧ x.size % 4096 = 0 ∧ 4096 ≤ x.size ∧ x.size ≤ 262144) from fun k => c6 (ea.2 k))]

theorem fr_base {F : Nat → Int} (x : MadeP L0 1 F) : FRof F ⟨77, 90, 64, 80, 69, 0, 0, 34404, 240, 523, 16, 4096, 512, 65536, 8192, 1, 1024, 17, 4096, 512, 1024, 0⟩ := by
  have h := x.all.hd
  have s := x.all.sec 0 (by omega)
  exact ⟨h.m0, h.m1, h.p0, h.p1, h.p2, h.p3, h.pe, h.mach, h.opt, h.mg, h.nd, h.al, h.fal, h.base, x.size, h.cnt, h.hdrs, s.v, s.rva, s.raw, s.spot, h.ent⟩

theorem putI_at {f : Nat → Int} {o k j : Nat} {v : Int} (h : o ≤ j ∧ j < o + k) : putI f o v k j = byteOf v (j - o) := by unfold putI; rw [if_pos h]

/-- A row: where, how many bytes, a number that may be, one that may not, and what is told. -/
structure RowOk (o n : Nat) (good bad e : Int) : Prop where
  n1 : 1 ≤ n
  n8 : n ≤ 8
  le : o + n ≤ 1536
  g0 : 0 ≤ good
  g1 : good ≤ 18446744073709551615
  b0 : 0 ≤ bad
  b1 : bad ≤ 18446744073709551615
  ok : ∀ F, MadeP L0 1 F → headE 1536 (putI F o good n) = 0
  no : ∀ F, MadeP L0 1 F → headE 1536 (putI F o bad n) = e
  ne : e ≠ 0

theorem row_0 : RowOk 0 2 23117 23118 3 := by
  refine ⟨by omega, by omega, by omega, by omega, by omega, by omega, by omega, fun F x => ?_, fun F x => ?_, by omega⟩
  · rw [headE_X (x := ⟨77, 90, 64, 80, 69, 0, 0, 34404, 240, 523, 16, 4096, 512, 65536, 8192, 1, 1024, 17, 4096, 512, 1024, 0⟩) (by
      have hh := fr_base x
      refine ⟨?_, ?_, ?_, ?_, ?_, ?_, ?_, ?_, ?_, ?_, ?_, ?_, ?_, ?_, ?_, ?_, ?_, ?_, ?_, ?_, ?_, ?_⟩
      all_goals first
        | (simp (disch := omega) only [putI_ne, rd_put_ne, hh.f0, hh.f1, hh.p0, hh.p1, hh.p2, hh.p3, hh.pe, hh.mach, hh.opt, hh.mg, hh.nd, hh.al, hh.fal, hh.base, hh.size, hh.cnt, hh.hdrs, hh.v, hh.rva, hh.raw, hh.spot, hh.ent]; done)
        | (rw [rd_put_eq]; rfl)
        | (rw [putI_at (by omega)]; rfl)) (by decide) (by decide)]
    decide
  · rw [headE_X (x := ⟨78, 90, 64, 80, 69, 0, 0, 34404, 240, 523, 16, 4096, 512, 65536, 8192, 1, 1024, 17, 4096, 512, 1024, 0⟩) (by
      have hh := fr_base x
      refine ⟨?_, ?_, ?_, ?_, ?_, ?_, ?_, ?_, ?_, ?_, ?_, ?_, ?_, ?_, ?_, ?_, ?_, ?_, ?_, ?_, ?_, ?_⟩
      all_goals first
        | (simp (disch := omega) only [putI_ne, rd_put_ne, hh.f0, hh.f1, hh.p0, hh.p1, hh.p2, hh.p3, hh.pe, hh.mach, hh.opt, hh.mg, hh.nd, hh.al, hh.fal, hh.base, hh.size, hh.cnt, hh.hdrs, hh.v, hh.rva, hh.raw, hh.spot, hh.ent]; done)
        | (rw [rd_put_eq]; rfl)
        | (rw [putI_at (by omega)]; rfl)) (by decide) (by decide)]
    decide

theorem row_1 : RowOk 60 4 64 66 2 := by
  refine ⟨by omega, by omega, by omega, by omega, by omega, by omega, by omega, fun F x => ?_, fun F x => ?_, by omega⟩
  · rw [headE_X (x := ⟨77, 90, 64, 80, 69, 0, 0, 34404, 240, 523, 16, 4096, 512, 65536, 8192, 1, 1024, 17, 4096, 512, 1024, 0⟩) (by
      have hh := fr_base x
      refine ⟨?_, ?_, ?_, ?_, ?_, ?_, ?_, ?_, ?_, ?_, ?_, ?_, ?_, ?_, ?_, ?_, ?_, ?_, ?_, ?_, ?_, ?_⟩
      all_goals first
        | (simp (disch := omega) only [putI_ne, rd_put_ne, hh.f0, hh.f1, hh.p0, hh.p1, hh.p2, hh.p3, hh.pe, hh.mach, hh.opt, hh.mg, hh.nd, hh.al, hh.fal, hh.base, hh.size, hh.cnt, hh.hdrs, hh.v, hh.rva, hh.raw, hh.spot, hh.ent]; done)
        | (rw [rd_put_eq]; rfl)
        | (rw [putI_at (by omega)]; rfl)) (by decide) (by decide)]
    decide
  · rw [headE_X (x := ⟨77, 90, 66, 80, 69, 0, 0, 34404, 240, 523, 16, 4096, 512, 65536, 8192, 1, 1024, 17, 4096, 512, 1024, 0⟩) (by
      have hh := fr_base x
      refine ⟨?_, ?_, ?_, ?_, ?_, ?_, ?_, ?_, ?_, ?_, ?_, ?_, ?_, ?_, ?_, ?_, ?_, ?_, ?_, ?_, ?_, ?_⟩
      all_goals first
        | (simp (disch := omega) only [putI_ne, rd_put_ne, hh.f0, hh.f1, hh.p0, hh.p1, hh.p2, hh.p3, hh.pe, hh.mach, hh.opt, hh.mg, hh.nd, hh.al, hh.fal, hh.base, hh.size, hh.cnt, hh.hdrs, hh.v, hh.rva, hh.raw, hh.spot, hh.ent]; done)
        | (rw [rd_put_eq]; rfl)
        | (rw [putI_at (by omega)]; rfl)) (by decide) (by decide)]
    decide

theorem row_2 : RowOk 60 4 64 60 2 := by
  refine ⟨by omega, by omega, by omega, by omega, by omega, by omega, by omega, fun F x => ?_, fun F x => ?_, by omega⟩
  · rw [headE_X (x := ⟨77, 90, 64, 80, 69, 0, 0, 34404, 240, 523, 16, 4096, 512, 65536, 8192, 1, 1024, 17, 4096, 512, 1024, 0⟩) (by
      have hh := fr_base x
      refine ⟨?_, ?_, ?_, ?_, ?_, ?_, ?_, ?_, ?_, ?_, ?_, ?_, ?_, ?_, ?_, ?_, ?_, ?_, ?_, ?_, ?_, ?_⟩
      all_goals first
        | (simp (disch := omega) only [putI_ne, rd_put_ne, hh.f0, hh.f1, hh.p0, hh.p1, hh.p2, hh.p3, hh.pe, hh.mach, hh.opt, hh.mg, hh.nd, hh.al, hh.fal, hh.base, hh.size, hh.cnt, hh.hdrs, hh.v, hh.rva, hh.raw, hh.spot, hh.ent]; done)
        | (rw [rd_put_eq]; rfl)
        | (rw [putI_at (by omega)]; rfl)) (by decide) (by decide)]
    decide
  · rw [headE_X (x := ⟨77, 90, 60, 80, 69, 0, 0, 34404, 240, 523, 16, 4096, 512, 65536, 8192, 1, 1024, 17, 4096, 512, 1024, 0⟩) (by
      have hh := fr_base x
      refine ⟨?_, ?_, ?_, ?_, ?_, ?_, ?_, ?_, ?_, ?_, ?_, ?_, ?_, ?_, ?_, ?_, ?_, ?_, ?_, ?_, ?_, ?_⟩
      all_goals first
        | (simp (disch := omega) only [putI_ne, rd_put_ne, hh.f0, hh.f1, hh.p0, hh.p1, hh.p2, hh.p3, hh.pe, hh.mach, hh.opt, hh.mg, hh.nd, hh.al, hh.fal, hh.base, hh.size, hh.cnt, hh.hdrs, hh.v, hh.rva, hh.raw, hh.spot, hh.ent]; done)
        | (rw [rd_put_eq]; rfl)
        | (rw [putI_at (by omega)]; rfl)) (by decide) (by decide)]
    decide

theorem row_3 : RowOk 64 4 17744 17745 3 := by
  refine ⟨by omega, by omega, by omega, by omega, by omega, by omega, by omega, fun F x => ?_, fun F x => ?_, by omega⟩
  · rw [headE_X (x := ⟨77, 90, 64, 80, 69, 0, 0, 34404, 240, 523, 16, 4096, 512, 65536, 8192, 1, 1024, 17, 4096, 512, 1024, 0⟩) (by
      have hh := fr_base x
      refine ⟨?_, ?_, ?_, ?_, ?_, ?_, ?_, ?_, ?_, ?_, ?_, ?_, ?_, ?_, ?_, ?_, ?_, ?_, ?_, ?_, ?_, ?_⟩
      all_goals first
        | (simp (disch := omega) only [putI_ne, rd_put_ne, hh.f0, hh.f1, hh.p0, hh.p1, hh.p2, hh.p3, hh.pe, hh.mach, hh.opt, hh.mg, hh.nd, hh.al, hh.fal, hh.base, hh.size, hh.cnt, hh.hdrs, hh.v, hh.rva, hh.raw, hh.spot, hh.ent]; done)
        | (rw [rd_put_eq]; rfl)
        | (rw [putI_at (by omega)]; rfl)) (by decide) (by decide)]
    decide
  · rw [headE_X (x := ⟨77, 90, 64, 81, 69, 0, 0, 34404, 240, 523, 16, 4096, 512, 65536, 8192, 1, 1024, 17, 4096, 512, 1024, 0⟩) (by
      have hh := fr_base x
      refine ⟨?_, ?_, ?_, ?_, ?_, ?_, ?_, ?_, ?_, ?_, ?_, ?_, ?_, ?_, ?_, ?_, ?_, ?_, ?_, ?_, ?_, ?_⟩
      all_goals first
        | (simp (disch := omega) only [putI_ne, rd_put_ne, hh.f0, hh.f1, hh.p0, hh.p1, hh.p2, hh.p3, hh.pe, hh.mach, hh.opt, hh.mg, hh.nd, hh.al, hh.fal, hh.base, hh.size, hh.cnt, hh.hdrs, hh.v, hh.rva, hh.raw, hh.spot, hh.ent]; done)
        | (rw [rd_put_eq]; rfl)
        | (rw [putI_at (by omega)]; rfl)) (by decide) (by decide)]
    decide

theorem row_4 : RowOk 68 2 34404 332 4 := by
  refine ⟨by omega, by omega, by omega, by omega, by omega, by omega, by omega, fun F x => ?_, fun F x => ?_, by omega⟩
  · rw [headE_X (x := ⟨77, 90, 64, 80, 69, 0, 0, 34404, 240, 523, 16, 4096, 512, 65536, 8192, 1, 1024, 17, 4096, 512, 1024, 0⟩) (by
      have hh := fr_base x
      refine ⟨?_, ?_, ?_, ?_, ?_, ?_, ?_, ?_, ?_, ?_, ?_, ?_, ?_, ?_, ?_, ?_, ?_, ?_, ?_, ?_, ?_, ?_⟩
      all_goals first
        | (simp (disch := omega) only [putI_ne, rd_put_ne, hh.f0, hh.f1, hh.p0, hh.p1, hh.p2, hh.p3, hh.pe, hh.mach, hh.opt, hh.mg, hh.nd, hh.al, hh.fal, hh.base, hh.size, hh.cnt, hh.hdrs, hh.v, hh.rva, hh.raw, hh.spot, hh.ent]; done)
        | (rw [rd_put_eq]; rfl)
        | (rw [putI_at (by omega)]; rfl)) (by decide) (by decide)]
    decide
  · rw [headE_X (x := ⟨77, 90, 64, 80, 69, 0, 0, 332, 240, 523, 16, 4096, 512, 65536, 8192, 1, 1024, 17, 4096, 512, 1024, 0⟩) (by
      have hh := fr_base x
      refine ⟨?_, ?_, ?_, ?_, ?_, ?_, ?_, ?_, ?_, ?_, ?_, ?_, ?_, ?_, ?_, ?_, ?_, ?_, ?_, ?_, ?_, ?_⟩
      all_goals first
        | (simp (disch := omega) only [putI_ne, rd_put_ne, hh.f0, hh.f1, hh.p0, hh.p1, hh.p2, hh.p3, hh.pe, hh.mach, hh.opt, hh.mg, hh.nd, hh.al, hh.fal, hh.base, hh.size, hh.cnt, hh.hdrs, hh.v, hh.rva, hh.raw, hh.spot, hh.ent]; done)
        | (rw [rd_put_eq]; rfl)
        | (rw [putI_at (by omega)]; rfl)) (by decide) (by decide)]
    decide

theorem row_5 : RowOk 84 2 240 224 5 := by
  refine ⟨by omega, by omega, by omega, by omega, by omega, by omega, by omega, fun F x => ?_, fun F x => ?_, by omega⟩
  · rw [headE_X (x := ⟨77, 90, 64, 80, 69, 0, 0, 34404, 240, 523, 16, 4096, 512, 65536, 8192, 1, 1024, 17, 4096, 512, 1024, 0⟩) (by
      have hh := fr_base x
      refine ⟨?_, ?_, ?_, ?_, ?_, ?_, ?_, ?_, ?_, ?_, ?_, ?_, ?_, ?_, ?_, ?_, ?_, ?_, ?_, ?_, ?_, ?_⟩
      all_goals first
        | (simp (disch := omega) only [putI_ne, rd_put_ne, hh.f0, hh.f1, hh.p0, hh.p1, hh.p2, hh.p3, hh.pe, hh.mach, hh.opt, hh.mg, hh.nd, hh.al, hh.fal, hh.base, hh.size, hh.cnt, hh.hdrs, hh.v, hh.rva, hh.raw, hh.spot, hh.ent]; done)
        | (rw [rd_put_eq]; rfl)
        | (rw [putI_at (by omega)]; rfl)) (by decide) (by decide)]
    decide
  · rw [headE_X (x := ⟨77, 90, 64, 80, 69, 0, 0, 34404, 224, 523, 16, 4096, 512, 65536, 8192, 1, 1024, 17, 4096, 512, 1024, 0⟩) (by
      have hh := fr_base x
      refine ⟨?_, ?_, ?_, ?_, ?_, ?_, ?_, ?_, ?_, ?_, ?_, ?_, ?_, ?_, ?_, ?_, ?_, ?_, ?_, ?_, ?_, ?_⟩
      all_goals first
        | (simp (disch := omega) only [putI_ne, rd_put_ne, hh.f0, hh.f1, hh.p0, hh.p1, hh.p2, hh.p3, hh.pe, hh.mach, hh.opt, hh.mg, hh.nd, hh.al, hh.fal, hh.base, hh.size, hh.cnt, hh.hdrs, hh.v, hh.rva, hh.raw, hh.spot, hh.ent]; done)
        | (rw [rd_put_eq]; rfl)
        | (rw [putI_at (by omega)]; rfl)) (by decide) (by decide)]
    decide

theorem row_6 : RowOk 88 2 523 267 5 := by
  refine ⟨by omega, by omega, by omega, by omega, by omega, by omega, by omega, fun F x => ?_, fun F x => ?_, by omega⟩
  · rw [headE_X (x := ⟨77, 90, 64, 80, 69, 0, 0, 34404, 240, 523, 16, 4096, 512, 65536, 8192, 1, 1024, 17, 4096, 512, 1024, 0⟩) (by
      have hh := fr_base x
      refine ⟨?_, ?_, ?_, ?_, ?_, ?_, ?_, ?_, ?_, ?_, ?_, ?_, ?_, ?_, ?_, ?_, ?_, ?_, ?_, ?_, ?_, ?_⟩
      all_goals first
        | (simp (disch := omega) only [putI_ne, rd_put_ne, hh.f0, hh.f1, hh.p0, hh.p1, hh.p2, hh.p3, hh.pe, hh.mach, hh.opt, hh.mg, hh.nd, hh.al, hh.fal, hh.base, hh.size, hh.cnt, hh.hdrs, hh.v, hh.rva, hh.raw, hh.spot, hh.ent]; done)
        | (rw [rd_put_eq]; rfl)
        | (rw [putI_at (by omega)]; rfl)) (by decide) (by decide)]
    decide
  · rw [headE_X (x := ⟨77, 90, 64, 80, 69, 0, 0, 34404, 240, 267, 16, 4096, 512, 65536, 8192, 1, 1024, 17, 4096, 512, 1024, 0⟩) (by
      have hh := fr_base x
      refine ⟨?_, ?_, ?_, ?_, ?_, ?_, ?_, ?_, ?_, ?_, ?_, ?_, ?_, ?_, ?_, ?_, ?_, ?_, ?_, ?_, ?_, ?_⟩
      all_goals first
        | (simp (disch := omega) only [putI_ne, rd_put_ne, hh.f0, hh.f1, hh.p0, hh.p1, hh.p2, hh.p3, hh.pe, hh.mach, hh.opt, hh.mg, hh.nd, hh.al, hh.fal, hh.base, hh.size, hh.cnt, hh.hdrs, hh.v, hh.rva, hh.raw, hh.spot, hh.ent]; done)
        | (rw [rd_put_eq]; rfl)
        | (rw [putI_at (by omega)]; rfl)) (by decide) (by decide)]
    decide

theorem row_7 : RowOk 196 4 16 15 5 := by
  refine ⟨by omega, by omega, by omega, by omega, by omega, by omega, by omega, fun F x => ?_, fun F x => ?_, by omega⟩
  · rw [headE_X (x := ⟨77, 90, 64, 80, 69, 0, 0, 34404, 240, 523, 16, 4096, 512, 65536, 8192, 1, 1024, 17, 4096, 512, 1024, 0⟩) (by
      have hh := fr_base x
      refine ⟨?_, ?_, ?_, ?_, ?_, ?_, ?_, ?_, ?_, ?_, ?_, ?_, ?_, ?_, ?_, ?_, ?_, ?_, ?_, ?_, ?_, ?_⟩
      all_goals first
        | (simp (disch := omega) only [putI_ne, rd_put_ne, hh.f0, hh.f1, hh.p0, hh.p1, hh.p2, hh.p3, hh.pe, hh.mach, hh.opt, hh.mg, hh.nd, hh.al, hh.fal, hh.base, hh.size, hh.cnt, hh.hdrs, hh.v, hh.rva, hh.raw, hh.spot, hh.ent]; done)
        | (rw [rd_put_eq]; rfl)
        | (rw [putI_at (by omega)]; rfl)) (by decide) (by decide)]
    decide
  · rw [headE_X (x := ⟨77, 90, 64, 80, 69, 0, 0, 34404, 240, 523, 15, 4096, 512, 65536, 8192, 1, 1024, 17, 4096, 512, 1024, 0⟩) (by
      have hh := fr_base x
      refine ⟨?_, ?_, ?_, ?_, ?_, ?_, ?_, ?_, ?_, ?_, ?_, ?_, ?_, ?_, ?_, ?_, ?_, ?_, ?_, ?_, ?_, ?_⟩
      all_goals first
        | (simp (disch := omega) only [putI_ne, rd_put_ne, hh.f0, hh.f1, hh.p0, hh.p1, hh.p2, hh.p3, hh.pe, hh.mach, hh.opt, hh.mg, hh.nd, hh.al, hh.fal, hh.base, hh.size, hh.cnt, hh.hdrs, hh.v, hh.rva, hh.raw, hh.spot, hh.ent]; done)
        | (rw [rd_put_eq]; rfl)
        | (rw [putI_at (by omega)]; rfl)) (by decide) (by decide)]
    decide

theorem row_8 : RowOk 120 4 4096 8192 6 := by
  refine ⟨by omega, by omega, by omega, by omega, by omega, by omega, by omega, fun F x => ?_, fun F x => ?_, by omega⟩
  · rw [headE_X (x := ⟨77, 90, 64, 80, 69, 0, 0, 34404, 240, 523, 16, 4096, 512, 65536, 8192, 1, 1024, 17, 4096, 512, 1024, 0⟩) (by
      have hh := fr_base x
      refine ⟨?_, ?_, ?_, ?_, ?_, ?_, ?_, ?_, ?_, ?_, ?_, ?_, ?_, ?_, ?_, ?_, ?_, ?_, ?_, ?_, ?_, ?_⟩
      all_goals first
        | (simp (disch := omega) only [putI_ne, rd_put_ne, hh.f0, hh.f1, hh.p0, hh.p1, hh.p2, hh.p3, hh.pe, hh.mach, hh.opt, hh.mg, hh.nd, hh.al, hh.fal, hh.base, hh.size, hh.cnt, hh.hdrs, hh.v, hh.rva, hh.raw, hh.spot, hh.ent]; done)
        | (rw [rd_put_eq]; rfl)
        | (rw [putI_at (by omega)]; rfl)) (by decide) (by decide)]
    decide
  · rw [headE_X (x := ⟨77, 90, 64, 80, 69, 0, 0, 34404, 240, 523, 16, 8192, 512, 65536, 8192, 1, 1024, 17, 4096, 512, 1024, 0⟩) (by
      have hh := fr_base x
      refine ⟨?_, ?_, ?_, ?_, ?_, ?_, ?_, ?_, ?_, ?_, ?_, ?_, ?_, ?_, ?_, ?_, ?_, ?_, ?_, ?_, ?_, ?_⟩
      all_goals first
        | (simp (disch := omega) only [putI_ne, rd_put_ne, hh.f0, hh.f1, hh.p0, hh.p1, hh.p2, hh.p3, hh.pe, hh.mach, hh.opt, hh.mg, hh.nd, hh.al, hh.fal, hh.base, hh.size, hh.cnt, hh.hdrs, hh.v, hh.rva, hh.raw, hh.spot, hh.ent]; done)
        | (rw [rd_put_eq]; rfl)
        | (rw [putI_at (by omega)]; rfl)) (by decide) (by decide)]
    decide

theorem row_9 : RowOk 124 4 512 1024 6 := by
  refine ⟨by omega, by omega, by omega, by omega, by omega, by omega, by omega, fun F x => ?_, fun F x => ?_, by omega⟩
  · rw [headE_X (x := ⟨77, 90, 64, 80, 69, 0, 0, 34404, 240, 523, 16, 4096, 512, 65536, 8192, 1, 1024, 17, 4096, 512, 1024, 0⟩) (by
      have hh := fr_base x
      refine ⟨?_, ?_, ?_, ?_, ?_, ?_, ?_, ?_, ?_, ?_, ?_, ?_, ?_, ?_, ?_, ?_, ?_, ?_, ?_, ?_, ?_, ?_⟩
      all_goals first
        | (simp (disch := omega) only [putI_ne, rd_put_ne, hh.f0, hh.f1, hh.p0, hh.p1, hh.p2, hh.p3, hh.pe, hh.mach, hh.opt, hh.mg, hh.nd, hh.al, hh.fal, hh.base, hh.size, hh.cnt, hh.hdrs, hh.v, hh.rva, hh.raw, hh.spot, hh.ent]; done)
        | (rw [rd_put_eq]; rfl)
        | (rw [putI_at (by omega)]; rfl)) (by decide) (by decide)]
    decide
  · rw [headE_X (x := ⟨77, 90, 64, 80, 69, 0, 0, 34404, 240, 523, 16, 4096, 1024, 65536, 8192, 1, 1024, 17, 4096, 512, 1024, 0⟩) (by
      have hh := fr_base x
      refine ⟨?_, ?_, ?_, ?_, ?_, ?_, ?_, ?_, ?_, ?_, ?_, ?_, ?_, ?_, ?_, ?_, ?_, ?_, ?_, ?_, ?_, ?_⟩
      all_goals first
        | (simp (disch := omega) only [putI_ne, rd_put_ne, hh.f0, hh.f1, hh.p0, hh.p1, hh.p2, hh.p3, hh.pe, hh.mach, hh.opt, hh.mg, hh.nd, hh.al, hh.fal, hh.base, hh.size, hh.cnt, hh.hdrs, hh.v, hh.rva, hh.raw, hh.spot, hh.ent]; done)
        | (rw [rd_put_eq]; rfl)
        | (rw [putI_at (by omega)]; rfl)) (by decide) (by decide)]
    decide

theorem row_10 : RowOk 112 8 35184372088832 35184372154368 6 := by
  refine ⟨by omega, by omega, by omega, by omega, by omega, by omega, by omega, fun F x => ?_, fun F x => ?_, by omega⟩
  · rw [headE_X (x := ⟨77, 90, 64, 80, 69, 0, 0, 34404, 240, 523, 16, 4096, 512, 35184372088832, 8192, 1, 1024, 17, 4096, 512, 1024, 0⟩) (by
      have hh := fr_base x
      refine ⟨?_, ?_, ?_, ?_, ?_, ?_, ?_, ?_, ?_, ?_, ?_, ?_, ?_, ?_, ?_, ?_, ?_, ?_, ?_, ?_, ?_, ?_⟩
      all_goals first
        | (simp (disch := omega) only [putI_ne, rd_put_ne, hh.f0, hh.f1, hh.p0, hh.p1, hh.p2, hh.p3, hh.pe, hh.mach, hh.opt, hh.mg, hh.nd, hh.al, hh.fal, hh.base, hh.size, hh.cnt, hh.hdrs, hh.v, hh.rva, hh.raw, hh.spot, hh.ent]; done)
        | (rw [rd_put_eq]; rfl)
        | (rw [putI_at (by omega)]; rfl)) (by decide) (by decide)]
    decide
  · rw [headE_X (x := ⟨77, 90, 64, 80, 69, 0, 0, 34404, 240, 523, 16, 4096, 512, 35184372154368, 8192, 1, 1024, 17, 4096, 512, 1024, 0⟩) (by
      have hh := fr_base x
      refine ⟨?_, ?_, ?_, ?_, ?_, ?_, ?_, ?_, ?_, ?_, ?_, ?_, ?_, ?_, ?_, ?_, ?_, ?_, ?_, ?_, ?_, ?_⟩
      all_goals first
        | (simp (disch := omega) only [putI_ne, rd_put_ne, hh.f0, hh.f1, hh.p0, hh.p1, hh.p2, hh.p3, hh.pe, hh.mach, hh.opt, hh.mg, hh.nd, hh.al, hh.fal, hh.base, hh.size, hh.cnt, hh.hdrs, hh.v, hh.rva, hh.raw, hh.spot, hh.ent]; done)
        | (rw [rd_put_eq]; rfl)
        | (rw [putI_at (by omega)]; rfl)) (by decide) (by decide)]
    decide

theorem row_11 : RowOk 112 8 131072 65537 6 := by
  refine ⟨by omega, by omega, by omega, by omega, by omega, by omega, by omega, fun F x => ?_, fun F x => ?_, by omega⟩
  · rw [headE_X (x := ⟨77, 90, 64, 80, 69, 0, 0, 34404, 240, 523, 16, 4096, 512, 131072, 8192, 1, 1024, 17, 4096, 512, 1024, 0⟩) (by
      have hh := fr_base x
      refine ⟨?_, ?_, ?_, ?_, ?_, ?_, ?_, ?_, ?_, ?_, ?_, ?_, ?_, ?_, ?_, ?_, ?_, ?_, ?_, ?_, ?_, ?_⟩
      all_goals first
        | (simp (disch := omega) only [putI_ne, rd_put_ne, hh.f0, hh.f1, hh.p0, hh.p1, hh.p2, hh.p3, hh.pe, hh.mach, hh.opt, hh.mg, hh.nd, hh.al, hh.fal, hh.base, hh.size, hh.cnt, hh.hdrs, hh.v, hh.rva, hh.raw, hh.spot, hh.ent]; done)
        | (rw [rd_put_eq]; rfl)
        | (rw [putI_at (by omega)]; rfl)) (by decide) (by decide)]
    decide
  · rw [headE_X (x := ⟨77, 90, 64, 80, 69, 0, 0, 34404, 240, 523, 16, 4096, 512, 65537, 8192, 1, 1024, 17, 4096, 512, 1024, 0⟩) (by
      have hh := fr_base x
      refine ⟨?_, ?_, ?_, ?_, ?_, ?_, ?_, ?_, ?_, ?_, ?_, ?_, ?_, ?_, ?_, ?_, ?_, ?_, ?_, ?_, ?_, ?_⟩
      all_goals first
        | (simp (disch := omega) only [putI_ne, rd_put_ne, hh.f0, hh.f1, hh.p0, hh.p1, hh.p2, hh.p3, hh.pe, hh.mach, hh.opt, hh.mg, hh.nd, hh.al, hh.fal, hh.base, hh.size, hh.cnt, hh.hdrs, hh.v, hh.rva, hh.raw, hh.spot, hh.ent]; done)
        | (rw [rd_put_eq]; rfl)
        | (rw [putI_at (by omega)]; rfl)) (by decide) (by decide)]
    decide

theorem row_12 : RowOk 112 8 65536 0 6 := by
  refine ⟨by omega, by omega, by omega, by omega, by omega, by omega, by omega, fun F x => ?_, fun F x => ?_, by omega⟩
  · rw [headE_X (x := ⟨77, 90, 64, 80, 69, 0, 0, 34404, 240, 523, 16, 4096, 512, 65536, 8192, 1, 1024, 17, 4096, 512, 1024, 0⟩) (by
      have hh := fr_base x
      refine ⟨?_, ?_, ?_, ?_, ?_, ?_, ?_, ?_, ?_, ?_, ?_, ?_, ?_, ?_, ?_, ?_, ?_, ?_, ?_, ?_, ?_, ?_⟩
      all_goals first
        | (simp (disch := omega) only [putI_ne, rd_put_ne, hh.f0, hh.f1, hh.p0, hh.p1, hh.p2, hh.p3, hh.pe, hh.mach, hh.opt, hh.mg, hh.nd, hh.al, hh.fal, hh.base, hh.size, hh.cnt, hh.hdrs, hh.v, hh.rva, hh.raw, hh.spot, hh.ent]; done)
        | (rw [rd_put_eq]; rfl)
        | (rw [putI_at (by omega)]; rfl)) (by decide) (by decide)]
    decide
  · rw [headE_X (x := ⟨77, 90, 64, 80, 69, 0, 0, 34404, 240, 523, 16, 4096, 512, 0, 8192, 1, 1024, 17, 4096, 512, 1024, 0⟩) (by
      have hh := fr_base x
      refine ⟨?_, ?_, ?_, ?_, ?_, ?_, ?_, ?_, ?_, ?_, ?_, ?_, ?_, ?_, ?_, ?_, ?_, ?_, ?_, ?_, ?_, ?_⟩
      all_goals first
        | (simp (disch := omega) only [putI_ne, rd_put_ne, hh.f0, hh.f1, hh.p0, hh.p1, hh.p2, hh.p3, hh.pe, hh.mach, hh.opt, hh.mg, hh.nd, hh.al, hh.fal, hh.base, hh.size, hh.cnt, hh.hdrs, hh.v, hh.rva, hh.raw, hh.spot, hh.ent]; done)
        | (rw [rd_put_eq]; rfl)
        | (rw [putI_at (by omega)]; rfl)) (by decide) (by decide)]
    decide

theorem row_13 : RowOk 144 4 8192 8191 6 := by
  refine ⟨by omega, by omega, by omega, by omega, by omega, by omega, by omega, fun F x => ?_, fun F x => ?_, by omega⟩
  · rw [headE_X (x := ⟨77, 90, 64, 80, 69, 0, 0, 34404, 240, 523, 16, 4096, 512, 65536, 8192, 1, 1024, 17, 4096, 512, 1024, 0⟩) (by
      have hh := fr_base x
      refine ⟨?_, ?_, ?_, ?_, ?_, ?_, ?_, ?_, ?_, ?_, ?_, ?_, ?_, ?_, ?_, ?_, ?_, ?_, ?_, ?_, ?_, ?_⟩
      all_goals first
        | (simp (disch := omega) only [putI_ne, rd_put_ne, hh.f0, hh.f1, hh.p0, hh.p1, hh.p2, hh.p3, hh.pe, hh.mach, hh.opt, hh.mg, hh.nd, hh.al, hh.fal, hh.base, hh.size, hh.cnt, hh.hdrs, hh.v, hh.rva, hh.raw, hh.spot, hh.ent]; done)
        | (rw [rd_put_eq]; rfl)
        | (rw [putI_at (by omega)]; rfl)) (by decide) (by decide)]
    decide
  · rw [headE_X (x := ⟨77, 90, 64, 80, 69, 0, 0, 34404, 240, 523, 16, 4096, 512, 65536, 8191, 1, 1024, 17, 4096, 512, 1024, 0⟩) (by
      have hh := fr_base x
      refine ⟨?_, ?_, ?_, ?_, ?_, ?_, ?_, ?_, ?_, ?_, ?_, ?_, ?_, ?_, ?_, ?_, ?_, ?_, ?_, ?_, ?_, ?_⟩
      all_goals first
        | (simp (disch := omega) only [putI_ne, rd_put_ne, hh.f0, hh.f1, hh.p0, hh.p1, hh.p2, hh.p3, hh.pe, hh.mach, hh.opt, hh.mg, hh.nd, hh.al, hh.fal, hh.base, hh.size, hh.cnt, hh.hdrs, hh.v, hh.rva, hh.raw, hh.spot, hh.ent]; done)
        | (rw [rd_put_eq]; rfl)
        | (rw [putI_at (by omega)]; rfl)) (by decide) (by decide)]
    decide

theorem row_14 : RowOk 144 4 8192 266240 6 := by
  refine ⟨by omega, by omega, by omega, by omega, by omega, by omega, by omega, fun F x => ?_, fun F x => ?_, by omega⟩
  · rw [headE_X (x := ⟨77, 90, 64, 80, 69, 0, 0, 34404, 240, 523, 16, 4096, 512, 65536, 8192, 1, 1024, 17, 4096, 512, 1024, 0⟩) (by
      have hh := fr_base x
      refine ⟨?_, ?_, ?_, ?_, ?_, ?_, ?_, ?_, ?_, ?_, ?_, ?_, ?_, ?_, ?_, ?_, ?_, ?_, ?_, ?_, ?_, ?_⟩
      all_goals first
        | (simp (disch := omega) only [putI_ne, rd_put_ne, hh.f0, hh.f1, hh.p0, hh.p1, hh.p2, hh.p3, hh.pe, hh.mach, hh.opt, hh.mg, hh.nd, hh.al, hh.fal, hh.base, hh.size, hh.cnt, hh.hdrs, hh.v, hh.rva, hh.raw, hh.spot, hh.ent]; done)
        | (rw [rd_put_eq]; rfl)
        | (rw [putI_at (by omega)]; rfl)) (by decide) (by decide)]
    decide
  · rw [headE_X (x := ⟨77, 90, 64, 80, 69, 0, 0, 34404, 240, 523, 16, 4096, 512, 65536, 266240, 1, 1024, 17, 4096, 512, 1024, 0⟩) (by
      have hh := fr_base x
      refine ⟨?_, ?_, ?_, ?_, ?_, ?_, ?_, ?_, ?_, ?_, ?_, ?_, ?_, ?_, ?_, ?_, ?_, ?_, ?_, ?_, ?_, ?_⟩
      all_goals first
        | (simp (disch := omega) only [putI_ne, rd_put_ne, hh.f0, hh.f1, hh.p0, hh.p1, hh.p2, hh.p3, hh.pe, hh.mach, hh.opt, hh.mg, hh.nd, hh.al, hh.fal, hh.base, hh.size, hh.cnt, hh.hdrs, hh.v, hh.rva, hh.raw, hh.spot, hh.ent]; done)
        | (rw [rd_put_eq]; rfl)
        | (rw [putI_at (by omega)]; rfl)) (by decide) (by decide)]
    decide

theorem row_15 : RowOk 70 2 1 0 7 := by
  refine ⟨by omega, by omega, by omega, by omega, by omega, by omega, by omega, fun F x => ?_, fun F x => ?_, by omega⟩
  · rw [headE_X (x := ⟨77, 90, 64, 80, 69, 0, 0, 34404, 240, 523, 16, 4096, 512, 65536, 8192, 1, 1024, 17, 4096, 512, 1024, 0⟩) (by
      have hh := fr_base x
      refine ⟨?_, ?_, ?_, ?_, ?_, ?_, ?_, ?_, ?_, ?_, ?_, ?_, ?_, ?_, ?_, ?_, ?_, ?_, ?_, ?_, ?_, ?_⟩
      all_goals first
        | (simp (disch := omega) only [putI_ne, rd_put_ne, hh.f0, hh.f1, hh.p0, hh.p1, hh.p2, hh.p3, hh.pe, hh.mach, hh.opt, hh.mg, hh.nd, hh.al, hh.fal, hh.base, hh.size, hh.cnt, hh.hdrs, hh.v, hh.rva, hh.raw, hh.spot, hh.ent]; done)
        | (rw [rd_put_eq]; rfl)
        | (rw [putI_at (by omega)]; rfl)) (by decide) (by decide)]
    decide
  · rw [headE_X (x := ⟨77, 90, 64, 80, 69, 0, 0, 34404, 240, 523, 16, 4096, 512, 65536, 8192, 0, 1024, 17, 4096, 512, 1024, 0⟩) (by
      have hh := fr_base x
      refine ⟨?_, ?_, ?_, ?_, ?_, ?_, ?_, ?_, ?_, ?_, ?_, ?_, ?_, ?_, ?_, ?_, ?_, ?_, ?_, ?_, ?_, ?_⟩
      all_goals first
        | (simp (disch := omega) only [putI_ne, rd_put_ne, hh.f0, hh.f1, hh.p0, hh.p1, hh.p2, hh.p3, hh.pe, hh.mach, hh.opt, hh.mg, hh.nd, hh.al, hh.fal, hh.base, hh.size, hh.cnt, hh.hdrs, hh.v, hh.rva, hh.raw, hh.spot, hh.ent]; done)
        | (rw [rd_put_eq]; rfl)
        | (rw [putI_at (by omega)]; rfl)) (by decide) (by decide)]
    decide

theorem row_16 : RowOk 70 2 1 17 7 := by
  refine ⟨by omega, by omega, by omega, by omega, by omega, by omega, by omega, fun F x => ?_, fun F x => ?_, by omega⟩
  · rw [headE_X (x := ⟨77, 90, 64, 80, 69, 0, 0, 34404, 240, 523, 16, 4096, 512, 65536, 8192, 1, 1024, 17, 4096, 512, 1024, 0⟩) (by
      have hh := fr_base x
      refine ⟨?_, ?_, ?_, ?_, ?_, ?_, ?_, ?_, ?_, ?_, ?_, ?_, ?_, ?_, ?_, ?_, ?_, ?_, ?_, ?_, ?_, ?_⟩
      all_goals first
        | (simp (disch := omega) only [putI_ne, rd_put_ne, hh.f0, hh.f1, hh.p0, hh.p1, hh.p2, hh.p3, hh.pe, hh.mach, hh.opt, hh.mg, hh.nd, hh.al, hh.fal, hh.base, hh.size, hh.cnt, hh.hdrs, hh.v, hh.rva, hh.raw, hh.spot, hh.ent]; done)
        | (rw [rd_put_eq]; rfl)
        | (rw [putI_at (by omega)]; rfl)) (by decide) (by decide)]
    decide
  · rw [headE_X (x := ⟨77, 90, 64, 80, 69, 0, 0, 34404, 240, 523, 16, 4096, 512, 65536, 8192, 17, 1024, 17, 4096, 512, 1024, 0⟩) (by
      have hh := fr_base x
      refine ⟨?_, ?_, ?_, ?_, ?_, ?_, ?_, ?_, ?_, ?_, ?_, ?_, ?_, ?_, ?_, ?_, ?_, ?_, ?_, ?_, ?_, ?_⟩
      all_goals first
        | (simp (disch := omega) only [putI_ne, rd_put_ne, hh.f0, hh.f1, hh.p0, hh.p1, hh.p2, hh.p3, hh.pe, hh.mach, hh.opt, hh.mg, hh.nd, hh.al, hh.fal, hh.base, hh.size, hh.cnt, hh.hdrs, hh.v, hh.rva, hh.raw, hh.spot, hh.ent]; done)
        | (rw [rd_put_eq]; rfl)
        | (rw [putI_at (by omega)]; rfl)) (by decide) (by decide)]
    decide

theorem row_17 : RowOk 148 4 368 367 7 := by
  refine ⟨by omega, by omega, by omega, by omega, by omega, by omega, by omega, fun F x => ?_, fun F x => ?_, by omega⟩
  · rw [headE_X (x := ⟨77, 90, 64, 80, 69, 0, 0, 34404, 240, 523, 16, 4096, 512, 65536, 8192, 1, 368, 17, 4096, 512, 1024, 0⟩) (by
      have hh := fr_base x
      refine ⟨?_, ?_, ?_, ?_, ?_, ?_, ?_, ?_, ?_, ?_, ?_, ?_, ?_, ?_, ?_, ?_, ?_, ?_, ?_, ?_, ?_, ?_⟩
      all_goals first
        | (simp (disch := omega) only [putI_ne, rd_put_ne, hh.f0, hh.f1, hh.p0, hh.p1, hh.p2, hh.p3, hh.pe, hh.mach, hh.opt, hh.mg, hh.nd, hh.al, hh.fal, hh.base, hh.size, hh.cnt, hh.hdrs, hh.v, hh.rva, hh.raw, hh.spot, hh.ent]; done)
        | (rw [rd_put_eq]; rfl)
        | (rw [putI_at (by omega)]; rfl)) (by decide) (by decide)]
    decide
  · rw [headE_X (x := ⟨77, 90, 64, 80, 69, 0, 0, 34404, 240, 523, 16, 4096, 512, 65536, 8192, 1, 367, 17, 4096, 512, 1024, 0⟩) (by
      have hh := fr_base x
      refine ⟨?_, ?_, ?_, ?_, ?_, ?_, ?_, ?_, ?_, ?_, ?_, ?_, ?_, ?_, ?_, ?_, ?_, ?_, ?_, ?_, ?_, ?_⟩
      all_goals first
        | (simp (disch := omega) only [putI_ne, rd_put_ne, hh.f0, hh.f1, hh.p0, hh.p1, hh.p2, hh.p3, hh.pe, hh.mach, hh.opt, hh.mg, hh.nd, hh.al, hh.fal, hh.base, hh.size, hh.cnt, hh.hdrs, hh.v, hh.rva, hh.raw, hh.spot, hh.ent]; done)
        | (rw [rd_put_eq]; rfl)
        | (rw [putI_at (by omega)]; rfl)) (by decide) (by decide)]
    decide

theorem row_18 : RowOk 148 4 1024 4097 7 := by
  refine ⟨by omega, by omega, by omega, by omega, by omega, by omega, by omega, fun F x => ?_, fun F x => ?_, by omega⟩
  · rw [headE_X (x := ⟨77, 90, 64, 80, 69, 0, 0, 34404, 240, 523, 16, 4096, 512, 65536, 8192, 1, 1024, 17, 4096, 512, 1024, 0⟩) (by
      have hh := fr_base x
      refine ⟨?_, ?_, ?_, ?_, ?_, ?_, ?_, ?_, ?_, ?_, ?_, ?_, ?_, ?_, ?_, ?_, ?_, ?_, ?_, ?_, ?_, ?_⟩
      all_goals first
        | (simp (disch := omega) only [putI_ne, rd_put_ne, hh.f0, hh.f1, hh.p0, hh.p1, hh.p2, hh.p3, hh.pe, hh.mach, hh.opt, hh.mg, hh.nd, hh.al, hh.fal, hh.base, hh.size, hh.cnt, hh.hdrs, hh.v, hh.rva, hh.raw, hh.spot, hh.ent]; done)
        | (rw [rd_put_eq]; rfl)
        | (rw [putI_at (by omega)]; rfl)) (by decide) (by decide)]
    decide
  · rw [headE_X (x := ⟨77, 90, 64, 80, 69, 0, 0, 34404, 240, 523, 16, 4096, 512, 65536, 8192, 1, 4097, 17, 4096, 512, 1024, 0⟩) (by
      have hh := fr_base x
      refine ⟨?_, ?_, ?_, ?_, ?_, ?_, ?_, ?_, ?_, ?_, ?_, ?_, ?_, ?_, ?_, ?_, ?_, ?_, ?_, ?_, ?_, ?_⟩
      all_goals first
        | (simp (disch := omega) only [putI_ne, rd_put_ne, hh.f0, hh.f1, hh.p0, hh.p1, hh.p2, hh.p3, hh.pe, hh.mach, hh.opt, hh.mg, hh.nd, hh.al, hh.fal, hh.base, hh.size, hh.cnt, hh.hdrs, hh.v, hh.rva, hh.raw, hh.spot, hh.ent]; done)
        | (rw [rd_put_eq]; rfl)
        | (rw [putI_at (by omega)]; rfl)) (by decide) (by decide)]
    decide

theorem row_19 : RowOk 336 4 4096 4097 7 := by
  refine ⟨by omega, by omega, by omega, by omega, by omega, by omega, by omega, fun F x => ?_, fun F x => ?_, by omega⟩
  · rw [headE_X (x := ⟨77, 90, 64, 80, 69, 0, 0, 34404, 240, 523, 16, 4096, 512, 65536, 8192, 1, 1024, 4096, 4096, 512, 1024, 0⟩) (by
      have hh := fr_base x
      refine ⟨?_, ?_, ?_, ?_, ?_, ?_, ?_, ?_, ?_, ?_, ?_, ?_, ?_, ?_, ?_, ?_, ?_, ?_, ?_, ?_, ?_, ?_⟩
      all_goals first
        | (simp (disch := omega) only [putI_ne, rd_put_ne, hh.f0, hh.f1, hh.p0, hh.p1, hh.p2, hh.p3, hh.pe, hh.mach, hh.opt, hh.mg, hh.nd, hh.al, hh.fal, hh.base, hh.size, hh.cnt, hh.hdrs, hh.v, hh.rva, hh.raw, hh.spot, hh.ent]; done)
        | (rw [rd_put_eq]; rfl)
        | (rw [putI_at (by omega)]; rfl)) (by decide) (by decide)]
    decide
  · rw [headE_X (x := ⟨77, 90, 64, 80, 69, 0, 0, 34404, 240, 523, 16, 4096, 512, 65536, 8192, 1, 1024, 4097, 4096, 512, 1024, 0⟩) (by
      have hh := fr_base x
      refine ⟨?_, ?_, ?_, ?_, ?_, ?_, ?_, ?_, ?_, ?_, ?_, ?_, ?_, ?_, ?_, ?_, ?_, ?_, ?_, ?_, ?_, ?_⟩
      all_goals first
        | (simp (disch := omega) only [putI_ne, rd_put_ne, hh.f0, hh.f1, hh.p0, hh.p1, hh.p2, hh.p3, hh.pe, hh.mach, hh.opt, hh.mg, hh.nd, hh.al, hh.fal, hh.base, hh.size, hh.cnt, hh.hdrs, hh.v, hh.rva, hh.raw, hh.spot, hh.ent]; done)
        | (rw [rd_put_eq]; rfl)
        | (rw [putI_at (by omega)]; rfl)) (by decide) (by decide)]
    decide

theorem row_20 : RowOk 336 4 1 0 7 := by
  refine ⟨by omega, by omega, by omega, by omega, by omega, by omega, by omega, fun F x => ?_, fun F x => ?_, by omega⟩
  · rw [headE_X (x := ⟨77, 90, 64, 80, 69, 0, 0, 34404, 240, 523, 16, 4096, 512, 65536, 8192, 1, 1024, 1, 4096, 512, 1024, 0⟩) (by
      have hh := fr_base x
      refine ⟨?_, ?_, ?_, ?_, ?_, ?_, ?_, ?_, ?_, ?_, ?_, ?_, ?_, ?_, ?_, ?_, ?_, ?_, ?_, ?_, ?_, ?_⟩
      all_goals first
        | (simp (disch := omega) only [putI_ne, rd_put_ne, hh.f0, hh.f1, hh.p0, hh.p1, hh.p2, hh.p3, hh.pe, hh.mach, hh.opt, hh.mg, hh.nd, hh.al, hh.fal, hh.base, hh.size, hh.cnt, hh.hdrs, hh.v, hh.rva, hh.raw, hh.spot, hh.ent]; done)
        | (rw [rd_put_eq]; rfl)
        | (rw [putI_at (by omega)]; rfl)) (by decide) (by decide)]
    decide
  · rw [headE_X (x := ⟨77, 90, 64, 80, 69, 0, 0, 34404, 240, 523, 16, 4096, 512, 65536, 8192, 1, 1024, 0, 4096, 512, 1024, 0⟩) (by
      have hh := fr_base x
      refine ⟨?_, ?_, ?_, ?_, ?_, ?_, ?_, ?_, ?_, ?_, ?_, ?_, ?_, ?_, ?_, ?_, ?_, ?_, ?_, ?_, ?_, ?_⟩
      all_goals first
        | (simp (disch := omega) only [putI_ne, rd_put_ne, hh.f0, hh.f1, hh.p0, hh.p1, hh.p2, hh.p3, hh.pe, hh.mach, hh.opt, hh.mg, hh.nd, hh.al, hh.fal, hh.base, hh.size, hh.cnt, hh.hdrs, hh.v, hh.rva, hh.raw, hh.spot, hh.ent]; done)
        | (rw [rd_put_eq]; rfl)
        | (rw [putI_at (by omega)]; rfl)) (by decide) (by decide)]
    decide

theorem row_21 : RowOk 340 4 4096 8192 7 := by
  refine ⟨by omega, by omega, by omega, by omega, by omega, by omega, by omega, fun F x => ?_, fun F x => ?_, by omega⟩
  · rw [headE_X (x := ⟨77, 90, 64, 80, 69, 0, 0, 34404, 240, 523, 16, 4096, 512, 65536, 8192, 1, 1024, 17, 4096, 512, 1024, 0⟩) (by
      have hh := fr_base x
      refine ⟨?_, ?_, ?_, ?_, ?_, ?_, ?_, ?_, ?_, ?_, ?_, ?_, ?_, ?_, ?_, ?_, ?_, ?_, ?_, ?_, ?_, ?_⟩
      all_goals first
        | (simp (disch := omega) only [putI_ne, rd_put_ne, hh.f0, hh.f1, hh.p0, hh.p1, hh.p2, hh.p3, hh.pe, hh.mach, hh.opt, hh.mg, hh.nd, hh.al, hh.fal, hh.base, hh.size, hh.cnt, hh.hdrs, hh.v, hh.rva, hh.raw, hh.spot, hh.ent]; done)
        | (rw [rd_put_eq]; rfl)
        | (rw [putI_at (by omega)]; rfl)) (by decide) (by decide)]
    decide
  · rw [headE_X (x := ⟨77, 90, 64, 80, 69, 0, 0, 34404, 240, 523, 16, 4096, 512, 65536, 8192, 1, 1024, 17, 8192, 512, 1024, 0⟩) (by
      have hh := fr_base x
      refine ⟨?_, ?_, ?_, ?_, ?_, ?_, ?_, ?_, ?_, ?_, ?_, ?_, ?_, ?_, ?_, ?_, ?_, ?_, ?_, ?_, ?_, ?_⟩
      all_goals first
        | (simp (disch := omega) only [putI_ne, rd_put_ne, hh.f0, hh.f1, hh.p0, hh.p1, hh.p2, hh.p3, hh.pe, hh.mach, hh.opt, hh.mg, hh.nd, hh.al, hh.fal, hh.base, hh.size, hh.cnt, hh.hdrs, hh.v, hh.rva, hh.raw, hh.spot, hh.ent]; done)
        | (rw [rd_put_eq]; rfl)
        | (rw [putI_at (by omega)]; rfl)) (by decide) (by decide)]
    decide

theorem row_22 : RowOk 344 4 512 513 7 := by
  refine ⟨by omega, by omega, by omega, by omega, by omega, by omega, by omega, fun F x => ?_, fun F x => ?_, by omega⟩
  · rw [headE_X (x := ⟨77, 90, 64, 80, 69, 0, 0, 34404, 240, 523, 16, 4096, 512, 65536, 8192, 1, 1024, 17, 4096, 512, 1024, 0⟩) (by
      have hh := fr_base x
      refine ⟨?_, ?_, ?_, ?_, ?_, ?_, ?_, ?_, ?_, ?_, ?_, ?_, ?_, ?_, ?_, ?_, ?_, ?_, ?_, ?_, ?_, ?_⟩
      all_goals first
        | (simp (disch := omega) only [putI_ne, rd_put_ne, hh.f0, hh.f1, hh.p0, hh.p1, hh.p2, hh.p3, hh.pe, hh.mach, hh.opt, hh.mg, hh.nd, hh.al, hh.fal, hh.base, hh.size, hh.cnt, hh.hdrs, hh.v, hh.rva, hh.raw, hh.spot, hh.ent]; done)
        | (rw [rd_put_eq]; rfl)
        | (rw [putI_at (by omega)]; rfl)) (by decide) (by decide)]
    decide
  · rw [headE_X (x := ⟨77, 90, 64, 80, 69, 0, 0, 34404, 240, 523, 16, 4096, 512, 65536, 8192, 1, 1024, 17, 4096, 513, 1024, 0⟩) (by
      have hh := fr_base x
      refine ⟨?_, ?_, ?_, ?_, ?_, ?_, ?_, ?_, ?_, ?_, ?_, ?_, ?_, ?_, ?_, ?_, ?_, ?_, ?_, ?_, ?_, ?_⟩
      all_goals first
        | (simp (disch := omega) only [putI_ne, rd_put_ne, hh.f0, hh.f1, hh.p0, hh.p1, hh.p2, hh.p3, hh.pe, hh.mach, hh.opt, hh.mg, hh.nd, hh.al, hh.fal, hh.base, hh.size, hh.cnt, hh.hdrs, hh.v, hh.rva, hh.raw, hh.spot, hh.ent]; done)
        | (rw [rd_put_eq]; rfl)
        | (rw [putI_at (by omega)]; rfl)) (by decide) (by decide)]
    decide

theorem row_23 : RowOk 344 4 512 4608 7 := by
  refine ⟨by omega, by omega, by omega, by omega, by omega, by omega, by omega, fun F x => ?_, fun F x => ?_, by omega⟩
  · rw [headE_X (x := ⟨77, 90, 64, 80, 69, 0, 0, 34404, 240, 523, 16, 4096, 512, 65536, 8192, 1, 1024, 17, 4096, 512, 1024, 0⟩) (by
      have hh := fr_base x
      refine ⟨?_, ?_, ?_, ?_, ?_, ?_, ?_, ?_, ?_, ?_, ?_, ?_, ?_, ?_, ?_, ?_, ?_, ?_, ?_, ?_, ?_, ?_⟩
      all_goals first
        | (simp (disch := omega) only [putI_ne, rd_put_ne, hh.f0, hh.f1, hh.p0, hh.p1, hh.p2, hh.p3, hh.pe, hh.mach, hh.opt, hh.mg, hh.nd, hh.al, hh.fal, hh.base, hh.size, hh.cnt, hh.hdrs, hh.v, hh.rva, hh.raw, hh.spot, hh.ent]; done)
        | (rw [rd_put_eq]; rfl)
        | (rw [putI_at (by omega)]; rfl)) (by decide) (by decide)]
    decide
  · rw [headE_X (x := ⟨77, 90, 64, 80, 69, 0, 0, 34404, 240, 523, 16, 4096, 512, 65536, 8192, 1, 1024, 17, 4096, 4608, 1024, 0⟩) (by
      have hh := fr_base x
      refine ⟨?_, ?_, ?_, ?_, ?_, ?_, ?_, ?_, ?_, ?_, ?_, ?_, ?_, ?_, ?_, ?_, ?_, ?_, ?_, ?_, ?_, ?_⟩
      all_goals first
        | (simp (disch := omega) only [putI_ne, rd_put_ne, hh.f0, hh.f1, hh.p0, hh.p1, hh.p2, hh.p3, hh.pe, hh.mach, hh.opt, hh.mg, hh.nd, hh.al, hh.fal, hh.base, hh.size, hh.cnt, hh.hdrs, hh.v, hh.rva, hh.raw, hh.spot, hh.ent]; done)
        | (rw [rd_put_eq]; rfl)
        | (rw [putI_at (by omega)]; rfl)) (by decide) (by decide)]
    decide

theorem row_24 : RowOk 348 4 1024 1025 7 := by
  refine ⟨by omega, by omega, by omega, by omega, by omega, by omega, by omega, fun F x => ?_, fun F x => ?_, by omega⟩
  · rw [headE_X (x := ⟨77, 90, 64, 80, 69, 0, 0, 34404, 240, 523, 16, 4096, 512, 65536, 8192, 1, 1024, 17, 4096, 512, 1024, 0⟩) (by
      have hh := fr_base x
      refine ⟨?_, ?_, ?_, ?_, ?_, ?_, ?_, ?_, ?_, ?_, ?_, ?_, ?_, ?_, ?_, ?_, ?_, ?_, ?_, ?_, ?_, ?_⟩
      all_goals first
        | (simp (disch := omega) only [putI_ne, rd_put_ne, hh.f0, hh.f1, hh.p0, hh.p1, hh.p2, hh.p3, hh.pe, hh.mach, hh.opt, hh.mg, hh.nd, hh.al, hh.fal, hh.base, hh.size, hh.cnt, hh.hdrs, hh.v, hh.rva, hh.raw, hh.spot, hh.ent]; done)
        | (rw [rd_put_eq]; rfl)
        | (rw [putI_at (by omega)]; rfl)) (by decide) (by decide)]
    decide
  · rw [headE_X (x := ⟨77, 90, 64, 80, 69, 0, 0, 34404, 240, 523, 16, 4096, 512, 65536, 8192, 1, 1024, 17, 4096, 512, 1025, 0⟩) (by
      have hh := fr_base x
      refine ⟨?_, ?_, ?_, ?_, ?_, ?_, ?_, ?_, ?_, ?_, ?_, ?_, ?_, ?_, ?_, ?_, ?_, ?_, ?_, ?_, ?_, ?_⟩
      all_goals first
        | (simp (disch := omega) only [putI_ne, rd_put_ne, hh.f0, hh.f1, hh.p0, hh.p1, hh.p2, hh.p3, hh.pe, hh.mach, hh.opt, hh.mg, hh.nd, hh.al, hh.fal, hh.base, hh.size, hh.cnt, hh.hdrs, hh.v, hh.rva, hh.raw, hh.spot, hh.ent]; done)
        | (rw [rd_put_eq]; rfl)
        | (rw [putI_at (by omega)]; rfl)) (by decide) (by decide)]
    decide

theorem row_25 : RowOk 104 4 8191 8192 5 := by
  refine ⟨by omega, by omega, by omega, by omega, by omega, by omega, by omega, fun F x => ?_, fun F x => ?_, by omega⟩
  · rw [headE_X (x := ⟨77, 90, 64, 80, 69, 0, 0, 34404, 240, 523, 16, 4096, 512, 65536, 8192, 1, 1024, 17, 4096, 512, 1024, 8191⟩) (by
      have hh := fr_base x
      refine ⟨?_, ?_, ?_, ?_, ?_, ?_, ?_, ?_, ?_, ?_, ?_, ?_, ?_, ?_, ?_, ?_, ?_, ?_, ?_, ?_, ?_, ?_⟩
      all_goals first
        | (simp (disch := omega) only [putI_ne, rd_put_ne, hh.f0, hh.f1, hh.p0, hh.p1, hh.p2, hh.p3, hh.pe, hh.mach, hh.opt, hh.mg, hh.nd, hh.al, hh.fal, hh.base, hh.size, hh.cnt, hh.hdrs, hh.v, hh.rva, hh.raw, hh.spot, hh.ent]; done)
        | (rw [rd_put_eq]; rfl)
        | (rw [putI_at (by omega)]; rfl)) (by decide) (by decide)]
    decide
  · rw [headE_X (x := ⟨77, 90, 64, 80, 69, 0, 0, 34404, 240, 523, 16, 4096, 512, 65536, 8192, 1, 1024, 17, 4096, 512, 1024, 8192⟩) (by
      have hh := fr_base x
      refine ⟨?_, ?_, ?_, ?_, ?_, ?_, ?_, ?_, ?_, ?_, ?_, ?_, ?_, ?_, ?_, ?_, ?_, ?_, ?_, ?_, ?_, ?_⟩
      all_goals first
        | (simp (disch := omega) only [putI_ne, rd_put_ne, hh.f0, hh.f1, hh.p0, hh.p1, hh.p2, hh.p3, hh.pe, hh.mach, hh.opt, hh.mg, hh.nd, hh.al, hh.fal, hh.base, hh.size, hh.cnt, hh.hdrs, hh.v, hh.rva, hh.raw, hh.spot, hh.ent]; done)
        | (rw [rd_put_eq]; rfl)
        | (rw [putI_at (by omega)]; rfl)) (by decide) (by decide)]
    decide

set_option maxRecDepth 100000
def rowCells : Array Value := #[.int .i64 0, .int .i64 2, .int .u64 23117, .int .u64 23118, .int .i64 3, .int .i64 60, .int .i64 4, .int .u64 64, .int .u64 66, .int .i64 2, .int .i64 60, .int .i64 4, .int .u64 64, .int .u64 60, .int .i64 2, .int .i64 64, .int .i64 4, .int .u64 17744, .int .u64 17745, .int .i64 3, .int .i64 68, .int .i64 2, .int .u64 34404, .int .u64 332, .int .i64 4, .int .i64 84, .int .i64 2, .int .u64 240, .int .u64 224, .int .i64 5, .int .i64 88, .int .i64 2, .int .u64 523, .int .u64 267, .int .i64 5, .int .i64 196, .int .i64 4, .int .u64 16, .int .u64 15, .int .i64 5, .int .i64 120, .int .i64 4, .int .u64 4096, .int .u64 8192, .int .i64 6, .int .i64 124, .int .i64 4, .int .u64 512, .int .u64 1024, .int .i64 6, .int .i64 112, .int .i64 8, .int .u64 35184372088832, .int .u64 35184372154368, .int .i64 6, .int .i64 112, .int .i64 8, .int .u64 131072, .int .u64 65537, .int .i64 6, .int .i64 112, .int .i64 8, .int .u64 65536, .int .u64 0, .int .i64 6, .int .i64 144, .int .i64 4, .int .u64 8192, .int .u64 8191, .int .i64 6, .int .i64 144, .int .i64 4, .int .u64 8192, .int .u64 266240, .int .i64 6, .int .i64 70, .int .i64 2, .int .u64 1, .int .u64 0, .int .i64 7, .int .i64 70, .int .i64 2, .int .u64 1, .int .u64 17, .int .i64 7, .int .i64 148, .int .i64 4, .int .u64 368, .int .u64 367, .int .i64 7, .int .i64 148, .int .i64 4, .int .u64 1024, .int .u64 4097, .int .i64 7, .int .i64 336, .int .i64 4, .int .u64 4096, .int .u64 4097, .int .i64 7, .int .i64 336, .int .i64 4, .int .u64 1, .int .u64 0, .int .i64 7, .int .i64 340, .int .i64 4, .int .u64 4096, .int .u64 8192, .int .i64 7, .int .i64 344, .int .i64 4, .int .u64 512, .int .u64 513, .int .i64 7, .int .i64 344, .int .i64 4, .int .u64 512, .int .u64 4608, .int .i64 7, .int .i64 348, .int .i64 4, .int .u64 1024, .int .u64 1025, .int .i64 7, .int .i64 104, .int .i64 4, .int .u64 8191, .int .u64 8192, .int .i64 5]
theorem rows_lit : (#[.int .i64 0, .int .i64 2, .int .u64 23117, .int .u64 23118, .int .i64 3, .int .i64 60, .int .i64 4, .int .u64 64, .int .u64 66, .int .i64 2, .int .i64 60, .int .i64 4, .int .u64 64, .int .u64 60, .int .i64 2, .int .i64 64, .int .i64 4, .int .u64 17744, .int .u64 17745, .int .i64 3, .int .i64 68, .int .i64 2, .int .u64 34404, .int .u64 332, .int .i64 4, .int .i64 84, .int .i64 2, .int .u64 240, .int .u64 224, .int .i64 5, .int .i64 88, .int .i64 2, .int .u64 523, .int .u64 267, .int .i64 5, .int .i64 196, .int .i64 4, .int .u64 16, .int .u64 15, .int .i64 5, .int .i64 120, .int .i64 4, .int .u64 4096, .int .u64 8192, .int .i64 6, .int .i64 124, .int .i64 4, .int .u64 512, .int .u64 1024, .int .i64 6, .int .i64 112, .int .i64 8, .int .u64 35184372088832, .int .u64 35184372154368, .int .i64 6, .int .i64 112, .int .i64 8, .int .u64 131072, .int .u64 65537, .int .i64 6, .int .i64 112, .int .i64 8, .int .u64 65536, .int .u64 0, .int .i64 6, .int .i64 144, .int .i64 4, .int .u64 8192, .int .u64 8191, .int .i64 6, .int .i64 144, .int .i64 4, .int .u64 8192, .int .u64 266240, .int .i64 6, .int .i64 70, .int .i64 2, .int .u64 1, .int .u64 0, .int .i64 7, .int .i64 70, .int .i64 2, .int .u64 1, .int .u64 17, .int .i64 7, .int .i64 148, .int .i64 4, .int .u64 368, .int .u64 367, .int .i64 7, .int .i64 148, .int .i64 4, .int .u64 1024, .int .u64 4097, .int .i64 7, .int .i64 336, .int .i64 4, .int .u64 4096, .int .u64 4097, .int .i64 7, .int .i64 336, .int .i64 4, .int .u64 1, .int .u64 0, .int .i64 7, .int .i64 340, .int .i64 4, .int .u64 4096, .int .u64 8192, .int .i64 7, .int .i64 344, .int .i64 4, .int .u64 512, .int .u64 513, .int .i64 7, .int .i64 344, .int .i64 4, .int .u64 512, .int .u64 4608, .int .i64 7, .int .i64 348, .int .i64 4, .int .u64 1024, .int .u64 1025, .int .i64 7, .int .i64 104, .int .i64 4, .int .u64 8191, .int .u64 8192, .int .i64 5] : Array Value) = rowCells := rfl

theorem rows_at (K : Nat) (hK : K < 26) : ∃ (o n : Nat) (good bad e : Int), RowOk o n good bad e ∧ rowCells[K * 5]? = some (.int .i64 o) ∧ rowCells[K * 5 + 1]? = some (.int .i64 n) ∧ rowCells[K * 5 + 2]? = some (.int .u64 good) ∧ rowCells[K * 5 + 3]? = some (.int .u64 bad) ∧ rowCells[K * 5 + 4]? = some (.int .i64 e) := by
  rcases (by omega : K = 0 ∨ K = 1 ∨ K = 2 ∨ K = 3 ∨ K = 4 ∨ K = 5 ∨ K = 6 ∨ K = 7 ∨ K = 8 ∨ K = 9 ∨ K = 10 ∨ K = 11 ∨ K = 12 ∨ K = 13 ∨ K = 14 ∨ K = 15 ∨ K = 16 ∨ K = 17 ∨ K = 18 ∨ K = 19 ∨ K = 20 ∨ K = 21 ∨ K = 22 ∨ K = 23 ∨ K = 24 ∨ K = 25) with rfl | rfl | rfl | rfl | rfl | rfl | rfl | rfl | rfl | rfl | rfl | rfl | rfl | rfl | rfl | rfl | rfl | rfl | rfl | rfl | rfl | rfl | rfl | rfl | rfl | rfl
  · exact ⟨_, _, _, _, _, row_0, rfl, rfl, rfl, rfl, rfl⟩
  · exact ⟨_, _, _, _, _, row_1, rfl, rfl, rfl, rfl, rfl⟩
  · exact ⟨_, _, _, _, _, row_2, rfl, rfl, rfl, rfl, rfl⟩
  · exact ⟨_, _, _, _, _, row_3, rfl, rfl, rfl, rfl, rfl⟩
  · exact ⟨_, _, _, _, _, row_4, rfl, rfl, rfl, rfl, rfl⟩
  · exact ⟨_, _, _, _, _, row_5, rfl, rfl, rfl, rfl, rfl⟩
  · exact ⟨_, _, _, _, _, row_6, rfl, rfl, rfl, rfl, rfl⟩
  · exact ⟨_, _, _, _, _, row_7, rfl, rfl, rfl, rfl, rfl⟩
  · exact ⟨_, _, _, _, _, row_8, rfl, rfl, rfl, rfl, rfl⟩
  · exact ⟨_, _, _, _, _, row_9, rfl, rfl, rfl, rfl, rfl⟩
  · exact ⟨_, _, _, _, _, row_10, rfl, rfl, rfl, rfl, rfl⟩
  · exact ⟨_, _, _, _, _, row_11, rfl, rfl, rfl, rfl, rfl⟩
  · exact ⟨_, _, _, _, _, row_12, rfl, rfl, rfl, rfl, rfl⟩
  · exact ⟨_, _, _, _, _, row_13, rfl, rfl, rfl, rfl, rfl⟩
  · exact ⟨_, _, _, _, _, row_14, rfl, rfl, rfl, rfl, rfl⟩
  · exact ⟨_, _, _, _, _, row_15, rfl, rfl, rfl, rfl, rfl⟩
  · exact ⟨_, _, _, _, _, row_16, rfl, rfl, rfl, rfl, rfl⟩
  · exact ⟨_, _, _, _, _, row_17, rfl, rfl, rfl, rfl, rfl⟩
  · exact ⟨_, _, _, _, _, row_18, rfl, rfl, rfl, rfl, rfl⟩
  · exact ⟨_, _, _, _, _, row_19, rfl, rfl, rfl, rfl, rfl⟩
  · exact ⟨_, _, _, _, _, row_20, rfl, rfl, rfl, rfl, rfl⟩
  · exact ⟨_, _, _, _, _, row_21, rfl, rfl, rfl, rfl, rfl⟩
  · exact ⟨_, _, _, _, _, row_22, rfl, rfl, rfl, rfl, rfl⟩
  · exact ⟨_, _, _, _, _, row_23, rfl, rfl, rfl, rfl, rfl⟩
  · exact ⟨_, _, _, _, _, row_24, rfl, rfl, rfl, rfl, rfl⟩
  · exact ⟨_, _, _, _, _, row_25, rfl, rfl, rfl, rfl, rfl⟩
end Go.Proofs.Ytlgdaljbajebhaa
