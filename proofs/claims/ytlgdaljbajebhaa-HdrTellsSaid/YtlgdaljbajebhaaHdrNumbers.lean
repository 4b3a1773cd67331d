/- HdrNumbers. -/
import Derived.Test.YtlgdaljbajebhaaAwake5
import Derived.Test.YtlgdaljbajebhaaMask
namespace Go.Proofs.Ytlgdaljbajebhaa
open Go.ChangeShapes Go.WideShapes Go.ChangeAt Go.RowKit
set_option linter.unusedVariables false

open Classical in
/-- An image, by what stands at its places. -/
theorem headE_ok {N n : Nat} {f : Nat → Int} (hb : beginS N f = (64, 0)) (ho : optS f 64 = 0) (hal : alignS f 64 (rdF f 112 8) (rdF f 144 4)) (hhp : headersP N 64 (rdF f 148 4) (rdF f 70 2)) (hk : rdF f 70 2 = n)
    (hch : chainP (rdF f 144 4) N (roundS (rdF f 148 4) 4096) (sectsS f 328 n)) (he : rdF f 104 4 < rdF f 144 4) : headE N f = 0 ∧ headP N f = 64 ∧ headK N f = n := by
  have h1 : (beginS N f).1 = 64 := by rw [hb]
  have h2 : (beginS N f).2 = 0 := by rw [hb]
  have hp : headP N f = 64 := by unfold headP; rw [hb]; rfl
  refine ⟨?_, hp, by unfold headK; rw [hp, hk]; omega⟩
  unfold headE
  rw [if_neg (by omega), h1, show ((64 : Int).toNat) = 64 from rfl, if_neg (by rw [ho]; omega)]
  show (if ¬ alignS f 64 (rdF f 112 8) (rdF f 144 4) then 6 else if ¬ headersP N 64 (rdF f 148 4) (rdF f 70 2) then 7 else if ¬ chainP (rdF f 144 4) N (roundS (rdF f 148 4) 4096) (sectsS f (64 + 264) (rdF f 70 2).toNat) then 7 else if rdF f 144 4 ≤ rdF f 104 4 then 5 else 0) = _
  rw [hk, Int.toNat_natCast, if_neg (fun k => k hal), if_neg (fun k => k (by rw [← hk]; exact hhp)), if_neg (fun k => k hch), if_neg (by omega)]

theorem HeadR.is {w : World} {N : Nat} {f : Nat → Int} {v : Value} (h : HeadR w N f v) {n : Nat} (x : headE N f = 0 ∧ headP N f = 64 ∧ headK N f = n) :
    ∃ cs g, v = .tuple #[.agg cs, .int .i64 0] ∧ HeadV cs (readS f 64) (.slice (some ⟨g, 0, none⟩) n n) ∧ SlT SectN.cells 6 w (some ⟨g, 0, none⟩) (sectsS f 328 n) ∧ g < w.heap.size := by
  obtain ⟨h0, h1, h2⟩ := x
  obtain ⟨cs, hv, h | ⟨_, g, h4, h5, h6⟩⟩ := h
  · exact (h.1 h0).elim
  · rw [h0] at hv
    rw [h1, h2] at h4 h5
    exact ⟨cs, g, hv, h4, h5, h6⟩

/-- The one section of what is made of nothing. -/
abbrev L0 : Nat → Trip := fun _ => (16, 512, 3)
theorem at0 : atS L0 1 = 1536 := rfl

/-- A name of two bytes. -/
theorem name_two {f : Nat → Int} {o : Nat} {a b : Int} (h0 : f o = a) (h1 : f (o + 1) = b) (h2 : f (o + 2) = 0) (ha : a ≠ 0) (hb : b ≠ 0) : nameS f o = strF (litF [a, b]) 0 2 := by
  have hz : firstZ f o 8 = 2 := by
    unfold firstZ firstZ firstZ
    rw [if_neg (by omega), if_neg (by rw [h1]; exact hb), if_pos (by rw [show o + 1 + 1 = o + 2 by omega]; exact h2)]
  unfold nameS
  rw [hz]
  exact strF_congr fun i hi => by
    rcases (by omega : i = 0 ∨ i = 1) with rfl | rfl
    · simp [litF, h0]
    · simp [litF, h1]

/-- The numbers that are turned. -/
def numF (F : Nat → Int) (base stamp chars entry : Int) (k : Nat) (rva size : Int) : Nat → Int :=
  putI (putI (putI (putI (putI (putI F 112 base 8) 72 stamp 4) 86 chars 2) 104 entry 4) (200 + 8 * k) rva 4) (204 + 8 * k) size 4

theorem numF_img {F : Nat → Int} (x : MadeP L0 1 F) (base stamp chars entry : Int) (k : Nat) (rva size : Int) (hk : k < 16) (b0 : base % 65536 = 0) (b1 : 65536 ≤ base) (b2 : base ≤ 35184372088832) (e0 : 0 ≤ entry) (e1 : entry < 8192) :
    headE 1536 (numF F base stamp chars entry k rva size) = 0 ∧ headP 1536 (numF F base stamp chars entry k rva size) = 64 ∧ headK 1536 (numF F base stamp chars entry k rva size) = 1 := by
  have h := x.all.hd
  have hs := x.all.sec 0 (by omega)
  have hsz : rdF F 144 4 = 8192 := x.size
  have hp8 : (256 : Int) ^ 8 = 18446744073709551616 := rfl
  have hp4 : (256 : Int) ^ 4 = 4294967296 := rfl
  have g0 : rdF (numF F base stamp chars entry k rva size) 112 8 = base := by
    unfold numF
    simp (disch := omega) only [rd_put_ne, rd_put_eq, hp8]
    omega
  have g1 : rdF (numF F base stamp chars entry k rva size) 144 4 = 8192 := by
    unfold numF
    simp (disch := omega) only [rd_put_ne, hsz]
  have g2 : rdF (numF F base stamp chars entry k rva size) 148 4 = 1024 := by
    unfold numF
    simp (disch := omega) only [rd_put_ne, h.hdrs]
  have g3 : rdF (numF F base stamp chars entry k rva size) 70 2 = 1 := by
    unfold numF
    simp (disch := omega) only [rd_put_ne, h.cnt]
    rfl
  have g4 : rdF (numF F base stamp chars entry k rva size) 104 4 = entry := by
    unfold numF
    simp (disch := omega) only [rd_put_ne, rd_put_eq, hp4]
    omega
  refine headE_ok ?_ ?_ ?_ ?_ g3 ?_ ?_
  · unfold beginS
    have e1 : rdF (numF F base stamp chars entry k rva size) 60 4 = 64 := by
      unfold numF
      simp (disch := omega) only [rd_put_ne, h.pe]
    have e2 : ∀ q, q < 72 → numF F base stamp chars entry k rva size q = F q := fun q hq => by
      unfold numF
      simp (disch := omega) only [putI_ne]
    rw [e1, e2 0 (by omega), e2 1 (by omega), h.m0, h.m1, if_neg (by omega), if_neg (by omega), if_neg (by omega)]
    show (if numF F base stamp chars entry k rva size 64 ≠ 80 ∨ numF F base stamp chars entry k rva size 65 ≠ 69 ∨ numF F base stamp chars entry k rva size 66 ≠ 0 ∨ numF F base stamp chars entry k rva size 67 ≠ 0 then ((0 : Int), (3 : Int)) else (64, 0)) = _
    rw [e2 64 (by omega), e2 65 (by omega), e2 66 (by omega), e2 67 (by omega), h.p0, h.p1, h.p2, h.p3, if_neg (by omega)]
  · unfold optS
    have a1 : rdF (numF F base stamp chars entry k rva size) (64 + 4) 2 = 34404 := by unfold numF; simp (disch := omega) only [rd_put_ne, h.mach]
    have a2 : rdF (numF F base stamp chars entry k rva size) (64 + 20) 2 = 240 := by unfold numF; simp (disch := omega) only [rd_put_ne, h.opt]
    have a3 : rdF (numF F base stamp chars entry k rva size) (64 + 24) 2 = 523 := by unfold numF; simp (disch := omega) only [rd_put_ne, h.mg]
    have a4 : rdF (numF F base stamp chars entry k rva size) (64 + 132) 4 = 16 := by unfold numF; simp (disch := omega) only [rd_put_ne, h.nd]
    rw [a1, a2, a3, a4, if_neg (by omega), if_neg (by omega)]
  · rw [g0, g1]
    have a1 : rdF (numF F base stamp chars entry k rva size) (64 + 56) 4 = 4096 := by unfold numF; simp (disch := omega) only [rd_put_ne, h.al]
    have a2 : rdF (numF F base stamp chars entry k rva size) (64 + 60) 4 = 512 := by unfold numF; simp (disch := omega) only [rd_put_ne, h.fal]
    exact ⟨a1, a2, b0, b1, b2, by omega, by omega, by omega⟩
  · rw [g2, g3]
    unfold headersP
    omega
  · rw [g1, g2, show roundS 1024 4096 = 4096 by rfl]
    have a1 : rdF (numF F base stamp chars entry k rva size) (328 + 8) 4 = 17 := by unfold numF; simp (disch := omega) only [rd_put_ne, hs.v]; rfl
    have a2 : rdF (numF F base stamp chars entry k rva size) (328 + 12) 4 = 4096 := by unfold numF; simp (disch := omega) only [rd_put_ne, hs.rva]; rfl
    have a3 : rdF (numF F base stamp chars entry k rva size) (328 + 16) 4 = 512 := by unfold numF; simp (disch := omega) only [rd_put_ne, hs.raw]; rfl
    have a4 : rdF (numF F base stamp chars entry k rva size) (328 + 20) 4 = 1024 := by unfold numF; simp (disch := omega) only [rd_put_ne, hs.spot]; rfl
    show chainP 8192 _ 4096 [sectS (numF F base stamp chars entry k rva size) (328 + 40 * 0)]
    unfold sectS
    rw [show 328 + 40 * 0 = 328 from rfl, a1, a2, a3, a4]
    exact ⟨⟨rfl, show (17 : Int) ≠ 0 by decide, show (17 : Int) ≤ 8192 by decide, show (512 : Int) % 512 = 0 by decide, show (512 : Int) ≤ roundS 17 4096 by decide, show ¬ ((0 : Int) < 512 ∧ ((1536 : Nat) : Int) < 1024 + 512) by decide⟩, rfl⟩
  · rw [g1, g4]; exact e1

theorem numF_reads {F : Nat → Int} (x : MadeP L0 1 F) (base stamp chars entry : Int) (k : Nat) (rva size : Int) (hk : k < 16) (b1 : 65536 ≤ base) (b2 : base ≤ 35184372088832) (e0 : 0 ≤ entry) (e1 : entry < 8192) :
    (readS (numF F base stamp chars entry k rva size) 64).base = base ∧ (readS (numF F base stamp chars entry k rva size) 64).stamp = stamp % 4294967296 ∧ (readS (numF F base stamp chars entry k rva size) 64).chars = chars % 65536 ∧
    (readS (numF F base stamp chars entry k rva size) 64).entry = entry ∧ (readS (numF F base stamp chars entry k rva size) 64).dirs k = (rva % 4294967296, size % 4294967296) ∧
    sectsS (numF F base stamp chars entry k rva size) 328 1 = [⟨⟨#[115, 48]⟩, 17, 4096, 512, 1024, 1610612736⟩] := by
  have h := x.all.hd
  have hs := x.all.sec 0 (by omega)
  have hp8 : (256 : Int) ^ 8 = 18446744073709551616 := rfl
  have hp4 : (256 : Int) ^ 4 = 4294967296 := rfl
  have hp2 : (256 : Int) ^ 2 = 65536 := rfl
  refine ⟨?_, ?_, ?_, ?_, ?_, ?_⟩
  · simp only [readS, numF]
    simp (disch := omega) only [rd_put_ne, rd_put_eq, hp8]
    omega
  · simp only [readS, numF]
    simp (disch := omega) only [rd_put_ne, rd_put_eq, hp4]
  · simp only [readS, numF]
    simp (disch := omega) only [rd_put_ne, rd_put_eq, hp2]
  · simp only [readS, numF]
    simp (disch := omega) only [rd_put_ne, rd_put_eq, hp4]
    omega
  · have e : ∀ f, (readS f 64).dirs k = (rdF f (200 + 8 * k) 4, rdF f (204 + 8 * k) 4) := fun f => by
      simp only [readS]
      rw [show 64 + 136 + 8 * k = 200 + 8 * k by omega, show 200 + 8 * k + 4 = 204 + 8 * k by omega]
    rw [e]
    simp only [numF]
    simp (disch := omega) only [rd_put_ne, rd_put_eq, hp4]
  · have a1 : rdF (numF F base stamp chars entry k rva size) (328 + 8) 4 = 17 := by unfold numF; simp (disch := omega) only [rd_put_ne, hs.v]; rfl
    have a2 : rdF (numF F base stamp chars entry k rva size) (328 + 12) 4 = 4096 := by unfold numF; simp (disch := omega) only [rd_put_ne, hs.rva]; rfl
    have a3 : rdF (numF F base stamp chars entry k rva size) (328 + 16) 4 = 512 := by unfold numF; simp (disch := omega) only [rd_put_ne, hs.raw]; rfl
    have a4 : rdF (numF F base stamp chars entry k rva size) (328 + 20) 4 = 1024 := by unfold numF; simp (disch := omega) only [rd_put_ne, hs.spot]; rfl
    have a5 : rdF (numF F base stamp chars entry k rva size) (328 + 36) 4 = 1610612736 := by unfold numF; simp (disch := omega) only [rd_put_ne, hs.r]; rfl
    have e2 : ∀ q, 328 ≤ q → numF F base stamp chars entry k rva size q = F q := fun q hq => by
      unfold numF
      simp (disch := omega) only [putI_ne]
    have hn : nameS (numF F base stamp chars entry k rva size) 328 = ⟨#[115, 48]⟩ := by
      rw [name_two (a := 115) (b := 48) ((e2 328 (by omega)).trans hs.n0) ((e2 329 (by omega)).trans hs.n1) ((e2 330 (by omega)).trans (hs.nz 2 (by omega) (by omega))) (by omega) (by omega)]
      rfl
    show [sectS (numF F base stamp chars entry k rva size) (328 + 40 * 0)] = _
    unfold sectS
    rw [show 328 + 40 * 0 = 328 from rfl, hn, a1, a2, a3, a4, a5]
end Go.Proofs.Ytlgdaljbajebhaa
