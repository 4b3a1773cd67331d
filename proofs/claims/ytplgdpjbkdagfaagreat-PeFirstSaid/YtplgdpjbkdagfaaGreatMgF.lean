/- HdrNumbers. · package sect: Prot, behind, Of. · package sect: Of, Offset, ProtAt. · package sect: Offset, ProtAt. · package sect: ProtAt where no section has the place, byteAt, lay. · package sect: Lay. · package pe: Parse, where there is a head. · package pe: the readers, where there is no directory, or one that lies far beyond the image. · package pe: a head that is one, and readers of directories that are none or lie beyond the image, as PeD asks them. -/
import Derived.Test.YtplgdpjbkdagfaaGreatAwake5
import Derived.Test.YtplgdpjbkdagfaaGreatMask
import Derived.Test.YtplgdpjbkdagfaaGreatMade
import Derived.Test.YtplgdpjbkdagfaaGreatPeC
import Derived.Test.YtplgdpjbkdagfaaGreatRow
namespace Go.Proofs.YtplgdpjbkdagfaaGreat
set_option maxRecDepth 100000
open Go.ChangeShapes Go.WideShapes Go.ChangeAt Go.RowKit
set_option linter.unusedVariables false
set_option linter.unusedSimpArgs false

open Classical in
/-- An image, by what stands at its places. -/
theorem headE_ok {N n : Nat} {f : Nat → Int} (hb : beginS N f = (64, 0)) (ho : optS f 64 = 0) (hal : alignS f 64 (rdF f 112 8) (rdF f 144 4)) (hhp : headersP N 64 (rdF f 148 4) (rdF f 70 2)) (hk : rdF f 70 2 = n)
    (hch : chainP (rdF f 144 4) N (roundS (rdF f 148 4) 4096) (sectsS f 328 n)) (he : rdF f 104 4 < rdF f 144 4) : headE N f = 0 ∧ headP N f = 64 ∧ headK N f = n := by
  have h1 : (beginS N f).1 = 64 := by rw [hb]
  have h2 : (beginS N f).2 = 0 := by rw [hb]
  have hp : headP N f = 64 := by unfold headP; rw [hb]; rfl
  refine ⟨?_, hp, by unfold headK; rw [hp, hk]; omega⟩
  unfold headE
  rw [if_neg (by omega), h1, show ((64 : Int).toNat) = 64 from rfl, if_neg (by rw [ho]; omega)]
  show (if ¬ alignS f 64 (rdF f 112 8) (rdF f 144 4) then 6 else if ¬ headersP N 64 (rdF f 148 4) (rdF f 70 2) then 7 else if ¬ chainP (rdF f 144 4) N (roundS (rdF f 148 4) 4096) (sectsS f (64 + 264) (rdF f 70 2).toNat) then 7 else if rdF f 144 4 ≤ rdF f 104 4 then 5 else 0) = _
  rw [hk, Int.toNat_natCast, if_neg (fun k => k hal), if_neg (fun k => k (by rw [← hk]; exact hhp)), if_neg (fun k => k hch), if_neg (by omega)]

theorem HeadR.is {w : World} {N : Nat} {f : Nat → Int} {v : Value} (h : HeadR w N f v) {n : Nat} (x : headE N f = 0 ∧ headP N f = 64 ∧ headK N f = n) :
    ∃ cs g, v = .tuple #[.agg cs, .int .i64 0] ∧ HeadV cs (readS f 64) (.slice (some ⟨g, 0, none⟩) n n) ∧ SlT SectN.cells 6 w (some ⟨g, 0, none⟩) (sectsS f 328 n) ∧ g < w.heap.size := by
  obtain ⟨h0, h1, h2⟩ := x
  obtain ⟨cs, hv, h | ⟨_, g, h4, h5, h6⟩⟩ := h
  · exact (h.1 h0).elim
  · rw [h0] at hv
    rw [h1, h2] at h4 h5
    exact ⟨cs, g, hv, h4, h5, h6⟩

/-- The one section of what is made of nothing. -/
abbrev L0 : Nat → Trip := fun _ => (16, 512, 3)
theorem at0 : atS L0 1 = 1536 := rfl

/-- A name of two bytes. -/
theorem name_two {f : Nat → Int} {o : Nat} {a b : Int} (h0 : f o = a) (h1 : f (o + 1) = b) (h2 : f (o + 2) = 0) (ha : a ≠ 0) (hb : b ≠ 0) : nameS f o = strF (litF [a, b]) 0 2 := by
  have hz : firstZ f o 8 = 2 := by
    unfold firstZ firstZ firstZ
    rw [if_neg (by omega), if_neg (by rw [h1]; exact hb), if_pos (by rw [show o + 1 + 1 = o + 2 by omega]; exact h2)]
  unfold nameS
  rw [hz]
  exact strF_congr fun i hi => by
    rcases (by omega : i = 0 ∨ i = 1) with rfl | rfl
    · simp [litF, h0]
    · simp [litF, h1]

/-- The numbers that are turned. -/
def numF (F : Nat → Int) (base stamp chars entry : Int) (k : Nat) (rva size : Int) : Nat → Int :=
  putI (putI (putI (putI (putI (putI F 112 base 8) 72 stamp 4) 86 chars 2) 104 entry 4) (200 + 8 * k) rva 4) (204 + 8 * k) size 4

theorem numF_img {F : Nat → Int} (x : MadeP L0 1 F) (base stamp chars entry : Int) (k : Nat) (rva size : Int) (hk : k < 16) (b0 : base % 65536 = 0) (b1 : 65536 ≤ base) (b2 : base ≤ 35184372088832) (e0 : 0 ≤ entry) (e1 : entry < 8192) :
    headE 1536 (numF F base stamp chars entry k rva size) = 0 ∧ headP 1536 (numF F base stamp chars entry k rva size) = 64 ∧ headK 1536 (numF F base stamp chars entry k rva size) = 1 := by
  have h := x.all.hd
  have hs := x.all.sec 0 (by omega)
  have hsz : rdF F 144 4 = 8192 := x.size
  have hp8 : (256 : Int) ^ 8 = 18446744073709551616 := rfl
  have hp4 : (256 : Int) ^ 4 = 4294967296 := rfl
  have g0 : rdF (numF F base stamp chars entry k rva size) 112 8 = base := by
    unfold numF
    simp (disch := omega) only [rd_put_ne, rd_put_eq, hp8]
    omega
  have g1 : rdF (numF F base stamp chars entry k rva size) 144 4 = 8192 := by
    unfold numF
    simp (disch := omega) only [rd_put_ne, hsz]
  have g2 : rdF (numF F base stamp chars entry k rva size) 148 4 = 1024 := by
    unfold numF
    simp (disch := omega) only [rd_put_ne, h.hdrs]
  have g3 : rdF (numF F base stamp chars entry k rva size) 70 2 = 1 := by
    unfold numF
    simp (disch := omega) only [rd_put_ne, h.cnt]
    rfl
  have g4 : rdF (numF F base stamp chars entry k rva size) 104 4 = entry := by
    unfold numF
    simp (disch := omega) only [rd_put_ne, rd_put_eq, hp4]
    omega
  refine headE_ok ?_ ?_ ?_ ?_ g3 ?_ ?_
  · unfold beginS
    have e1 : rdF (numF F base stamp chars entry k rva size) 60 4 = 64 := by
      unfold numF
      simp (disch := omega) only [rd_put_ne, h.pe]
    have e2 : ∀ q, q < 72 → numF F base stamp chars entry k rva size q = F q := fun q hq => by
      unfold numF
      simp (disch := omega) only [putI_ne]
    rw [e1, e2 0 (by omega), e2 1 (by omega), h.m0, h.m1, if_neg (by omega), if_neg (by omega), if_neg (by omega)]
    show (if numF F base stamp chars entry k rva size 64 ≠ 80 ∨ numF F base stamp chars entry k rva size 65 ≠ 69 ∨ numF F base stamp chars entry k rva size 66 ≠ 0 ∨ numF F base stamp chars entry k rva size 67 ≠ 0 then ((0 : Int), (3 : Int)) else (64, 0)) = _
    rw [e2 64 (by omega), e2 65 (by omega), e2 66 (by omega), e2 67 (by omega), h.p0, h.p1, h.p2, h.p3, if_neg (by omega)]
  · unfold optS
    have a1 : rdF (numF F base stamp chars entry k rva size) (64 + 4) 2 = 34404 := by unfold numF; simp (disch := omega) only [rd_put_ne, h.mach]
    have a2 : rdF (numF F base stamp chars entry k rva size) (64 + 20) 2 = 240 := by unfold numF; simp (disch := omega) only [rd_put_ne, h.opt]
    have a3 : rdF (numF F base stamp chars entry k rva size) (64 + 24) 2 = 523 := by unfold numF; simp (disch := omega) only [rd_put_ne, h.mg]
    have a4 : rdF (numF F base stamp chars entry k rva size) (64 + 132) 4 = 16 := by unfold numF; simp (disch := omega) only [rd_put_ne, h.nd]
    rw [a1, a2, a3, a4, if_neg (by omega), if_neg (by omega)]
  · rw [g0, g1]
    have a1 : rdF (numF F base stamp chars entry k rva size) (64 + 56) 4 = 4096 := by unfold numF; simp (disch := omega) only [rd_put_ne, h.al]
    have a2 : rdF (numF F base stamp chars entry k rva size) (64 + 60) 4 = 512 := by unfold numF; simp (disch := omega) only [rd_put_ne, h.fal]
    exact ⟨a1, a2, b0, b1, b2, by omega, by omega, by omega⟩
  · rw [g2, g3]
    unfold headersP
    omega
  · rw [g1, g2, show roundS 1024 4096 = 4096 by rfl]
    have a1 : rdF (numF F base stamp chars entry k rva size) (328 + 8) 4 = 17 := by unfold numF; simp (disch := omega) only [rd_put_ne, hs.v]; rfl
    have a2 : rdF (numF F base stamp chars entry k rva size) (328 + 12) 4 = 4096 := by unfold numF; simp (disch := omega) only [rd_put_ne, hs.rva]; rfl
    have a3 : rdF (numF F base stamp chars entry k rva size) (328 + 16) 4 = 512 := by unfold numF; simp (disch := omega) only [rd_put_ne, hs.raw]; rfl
    have a4 : rdF (numF F base stamp chars entry k rva size) (328 + 20) 4 = 1024 := by unfold numF; simp (disch := omega) only [rd_put_ne, hs.spot]; rfl
    show chainP 8192 _ 4096 [sectS (numF F base stamp chars entry k rva size) (328 + 40 * 0)]
    unfold sectS
    rw [show 328 + 40 * 0 = 328 from rfl, a1, a2, a3, a4]
    exact ⟨⟨rfl, show (17 : Int) ≠ 0 by decide, show (17 : Int) ≤ 8192 by decide, show (512 : Int) % 512 = 0 by decide, show (512 : Int) ≤ roundS 17 4096 by decide, show ¬ ((0 : Int) < 512 ∧ ((1536 : Nat) : Int) < 1024 + 512) by decide⟩, rfl⟩
  · rw [g1, g4]; exact e1

theorem numF_reads {F : Nat → Int} (x : MadeP L0 1 F) (base stamp chars entry : Int) (k : Nat) (rva size : Int) (hk : k < 16) (b1 : 65536 ≤ base) (b2 : base ≤ 35184372088832) (e0 : 0 ≤ entry) (e1 : entry < 8192) :
    (readS (numF F base stamp chars entry k rva size) 64).base = base ∧ (readS (numF F base stamp chars entry k rva size) 64).stamp = stamp % 4294967296 ∧ (readS (numF F base stamp chars entry k rva size) 64).chars = chars % 65536 ∧
    (readS (numF F base stamp chars entry k rva size) 64).entry = entry ∧ (readS (numF F base stamp chars entry k rva size) 64).dirs k = (rva % 4294967296, size % 4294967296) ∧
    sectsS (numF F base stamp chars entry k rva size) 328 1 = [⟨⟨#[115, 48]⟩, 17, 4096, 512, 1024, 1610612736⟩] := by
  have h := x.all.hd
  have hs := x.all.sec 0 (by omega)
  have hp8 : (256 : Int) ^ 8 = 18446744073709551616 := rfl
  have hp4 : (256 : Int) ^ 4 = 4294967296 := rfl
  have hp2 : (256 : Int) ^ 2 = 65536 := rfl
  refine ⟨?_, ?_, ?_, ?_, ?_, ?_⟩
  · simp only [readS, numF]
    simp (disch := omega) only [rd_put_ne, rd_put_eq, hp8]
    omega
  · simp only [readS, numF]
    simp (disch := omega) only [rd_put_ne, rd_put_eq, hp4]
  · simp only [readS, numF]
    simp (disch := omega) only [rd_put_ne, rd_put_eq, hp2]
  · simp only [readS, numF]
    simp (disch := omega) only [rd_put_ne, rd_put_eq, hp4]
    omega
  · have e : ∀ f, (readS f 64).dirs k = (rdF f (200 + 8 * k) 4, rdF f (204 + 8 * k) 4) := fun f => by
      simp only [readS]
      rw [show 64 + 136 + 8 * k = 200 + 8 * k by omega, show 200 + 8 * k + 4 = 204 + 8 * k by omega]
    rw [e]
    simp only [numF]
    simp (disch := omega) only [rd_put_ne, rd_put_eq, hp4]
  · have a1 : rdF (numF F base stamp chars entry k rva size) (328 + 8) 4 = 17 := by unfold numF; simp (disch := omega) only [rd_put_ne, hs.v]; rfl
    have a2 : rdF (numF F base stamp chars entry k rva size) (328 + 12) 4 = 4096 := by unfold numF; simp (disch := omega) only [rd_put_ne, hs.rva]; rfl
    have a3 : rdF (numF F base stamp chars entry k rva size) (328 + 16) 4 = 512 := by unfold numF; simp (disch := omega) only [rd_put_ne, hs.raw]; rfl
    have a4 : rdF (numF F base stamp chars entry k rva size) (328 + 20) 4 = 1024 := by unfold numF; simp (disch := omega) only [rd_put_ne, hs.spot]; rfl
    have a5 : rdF (numF F base stamp chars entry k rva size) (328 + 36) 4 = 1610612736 := by unfold numF; simp (disch := omega) only [rd_put_ne, hs.r]; rfl
    have e2 : ∀ q, 328 ≤ q → numF F base stamp chars entry k rva size q = F q := fun q hq => by
      unfold numF
      simp (disch := omega) only [putI_ne]
    have hn : nameS (numF F base stamp chars entry k rva size) 328 = ⟨#[115, 48]⟩ := by
      rw [name_two (a := 115) (b := 48) ((e2 328 (by omega)).trans hs.n0) ((e2 329 (by omega)).trans hs.n1) ((e2 330 (by omega)).trans (hs.nz 2 (by omega) (by omega))) (by omega) (by omega)]
      rfl
    show [sectS (numF F base stamp chars entry k rva size) (328 + 40 * 0)] = _
    unfold sectS
    rw [show 328 + 40 * 0 = 328 from rfl, hn, a1, a2, a3, a4, a5]
end Go.Proofs.YtplgdpjbkdagfaaGreat
namespace Go.Proofs.YtplgdpjbkdagfaaGreat
set_option maxRecDepth 100000
open Go.ChangeShapes Go.WideShapes Go.ChangeAt Go.RowKit
set_option linter.unusedVariables false
set_option linter.unusedSimpArgs false

def protV (a b c : Bool) : Int := (if a then 1 else 0) + (if b then 2 else 0) + (if c then 4 else 0)

/-- How far a place is behind a section's beginning, if it has it. -/
def behindS (s : SectN) (r : Int) : Option Int := if r < s.rva then none else if roundS s.vsize 4096 ≤ r - s.rva then none else some (r - s.rva)

end Go.Proofs.YtplgdpjbkdagfaaGreat
namespace Go.Proofs.YtplgdpjbkdagfaaGreat
set_option maxRecDepth 100000
open Go.ChangeShapes Go.WideShapes Go.ChangeAt Go.RowKit
set_option linter.unusedVariables false
set_option linter.unusedSimpArgs false

/-- The first section of l, counted from i on, that has a place. -/
def ofS (r : Int) : List SectN → Nat → Option Nat
  | [], _ => none
  | s :: l, i => if (behindS s r).isSome then some i else ofS r l (i + 1)

theorem ofS_drop (r : Int) (l : List SectN) (i : Nat) (h : i < l.length) : ofS r (l.drop i) i = if (behindS l[i] r).isSome then some i else ofS r (l.drop (i + 1)) (i + 1) := by
  rw [List.drop_eq_getElem_cons h]
  rfl

/-- A head, and its sections, as they are handed to a function. -/
structure HeadL (w : World) (cs : Array Value) (h : HeadN) (g c : Nat) (l : List SectN) : Prop where
  hv : HeadV cs h (.slice (some ⟨g, 0, none⟩) l.length c)
  sl : SlT SectN.cells 6 w (some ⟨g, 0, none⟩) l
  lt : g < w.heap.size
  bd : ∀ s ∈ l, SectBd s
  len : l.length ≤ 16
  hd0 : 0 ≤ h.headers
  hd1 : h.headers < 4294967296

theorem HeadL.below {w w' : World} {cs : Array Value} {h : HeadN} {g c : Nat} {l : List SectN} (x : HeadL w cs h g c l) (hb : Below w.heap.size w w') : HeadL w' cs h g c l :=
  ⟨x.hv, x.sl.below hb, Nat.lt_of_lt_of_le x.lt hb.size, x.bd, x.len, x.hd0, x.hd1⟩

end Go.Proofs.YtplgdpjbkdagfaaGreat
namespace Go.Proofs.YtplgdpjbkdagfaaGreat
set_option maxRecDepth 100000
open Go.ChangeShapes Go.WideShapes Go.ChangeAt Go.RowKit
set_option linter.unusedVariables false
set_option linter.unusedSimpArgs false

theorem ofS_some {r : Int} : ∀ {l : List SectN} {k i : Nat}, ofS r l k = some i → k ≤ i ∧ ∃ s d, l[i - k]? = some s ∧ behindS s r = some d
  | [], k, i, h => by cases h
  | s :: l, k, i, h => by
    unfold ofS at h
    split at h
    · rename_i hs
      injection h with h
      subst h
      obtain ⟨d, hd⟩ := Option.isSome_iff_exists.1 hs
      exact ⟨Nat.le_refl _, s, d, by simp, hd⟩
    · obtain ⟨h1, s', d, h2, h3⟩ := ofS_some h
      refine ⟨by omega, s', d, ?_, h3⟩
      rw [show i - k = (i - (k + 1)) + 1 by omega]
      simpa using h2

/-- Where the byte at a place stands in the file. -/
def offS (hd : Int) (l : List SectN) (r : Int) : Option Int :=
  if 0 ≤ r ∧ r < hd then some r else (ofS r l 0).bind fun i => l[i]?.bind fun s => (behindS s r).bind fun d => if s.raw ≤ d then none else some (s.spot + d)

theorem behindS_bd {s : SectN} {r d : Int} (hb : SectBd s) (h : behindS s r = some d) : 0 ≤ d ∧ d < 4294967296 := by
  have := roundS_bd4 s.vsize hb.v1
  unfold behindS at h
  split at h
  · cases h
  · split at h
    · cases h
    · injection h with h
      omega

end Go.Proofs.YtplgdpjbkdagfaaGreat
namespace Go.Proofs.YtplgdpjbkdagfaaGreat
set_option maxRecDepth 100000
open Go.ChangeShapes Go.WideShapes Go.ChangeAt Go.RowKit
set_option linter.unusedVariables false
set_option linter.unusedSimpArgs false

/-- The byte of n bytes F that stands at a place, or a nought. -/
def byteS (F : Nat → Int) (n k : Nat) : Int := if k < n then F k else 0
theorem byteS_bd {F : Nat → Int} (h : Bytes255 F) (n k : Nat) : 0 ≤ byteS F n k ∧ byteS F n k ≤ 255 := by
  unfold byteS; split
  · exact h k
  · omega

theorem byteAt_any (b off n cap : Nat) (F : Nat → Int) (k i : Nat) (w : World) (h : RowB w b off n cap F) (hk : k ≤ 4611686018427387904) (hi : i ≤ 4611686018427387904) :
    Calls Tryz.prog 107 #[.slice (some ⟨b, off, none⟩) n cap, .int .i64 k, .int .i64 i] w fun e u => e = .returned (.int .u8 (byteS F n (k + i))) ∧ w = u := by
  have hl := h.len
  have hm := h.most
  have k0 : (0 : Int) ≤ k := by omega
  by_cases c : k + i < n
  · have hc := h.row (k + i) c
    have hsum : (k : Int) + i = ((k + i : Nat) : Int) := by omega
    have c1 : (k : Int) < n := by omega
    have c2 : (i : Int) < n - k := by omega
    have hb : byteS F n (k + i) = F (k + i) := by unfold byteS; rw [if_pos c]
    rw [hb]
    have hkn : (k + i : Nat) < n := c
    clear h
    generalize k + i = q at *
    go_enter Tryz.func107, Tryz.ntmps107
    go_wp2_with fail
    go_ret
    exact ⟨rfl, rfl⟩
  · have hb : byteS F n (k + i) = 0 := by unfold byteS; rw [if_neg c]
    rw [hb]
    clear h
    by_cases c1 : (k : Int) < n
    · have c2 : (n : Int) - k ≤ i := by omega
      go_enter Tryz.func107, Tryz.ntmps107
      go_wp2_with fail
      go_ret
      exact ⟨rfl, rfl⟩
    · have c1' : (n : Int) ≤ k := by omega
      go_enter Tryz.func107, Tryz.ntmps107
      go_wp2_with fail
      go_ret
      exact ⟨rfl, rfl⟩

/-- What lies in memory when n bytes from k on are laid at r. -/
def layF (N : Nat) (F : Nat → Int) (nb : Nat) (f : Nat → Int) (r k n : Nat) (q : Nat) : Int := if r ≤ q ∧ q < r + n ∧ q < N then byteS F nb (k + (q - r)) else f q

set_option maxRecDepth 100000 in
set_option maxHeartbeats 2000000 in
theorem lay_any (g N : Nat) (f : Nat → Int) (b off nb cap : Nat) (F : Nat → Int) (r k n base : Nat) (w : World) (ho : OwnC w base g N N f) (h : RowB w b off nb cap F) (hne : b < base) (hN : N ≤ 1000000) (hr : r ≤ 4294967296) (hk : k ≤ 4294967296) (hn : n ≤ 4294967296) :
    Calls Tryz.prog 69 #[.slice (some ⟨g, 0, none⟩) N N, .int .i64 r, .slice (some ⟨b, off, none⟩) nb cap, .int .i64 k, .int .i64 n] w fun e u => e = .returned (.tuple #[]) ∧ OwnC u base g N N (layF N F nb f r k n) ∧ Below base w u := by
  have HO := Lib.hid ho
  have HR := Lib.hid h
  have r0 : (0 : Int) ≤ r := by omega
  clear ho h
  go_enter Tryz.func69, Tryz.ntmps69
  by_cases c : (N : Int) ≤ r
  · go_wp2_with fail
    go_returns
    exact ⟨rfl, HO.out.congr (fun q => by
      unfold layF
      split
      · exact byteS_bd HR.out.by255 _ _
      · exact HO.out.by255 q) (fun q hq => by unfold layF; rw [if_neg (by omega)]), Below.refl _ _⟩
  · have c' : (r : Int) < N := by omega
    obtain ⟨M, hM⟩ : ∃ M : Nat, min (n : Int) ((N : Int) - r) = M := ⟨(min (n : Int) ((N : Int) - r)).toNat, by omega⟩
    have HMM := Lib.hid hM
    have hM1 : r + M ≤ N := by omega
    go_wp2_with fail
    go_loopw [12] (fun o12 wr => ∃ i : Nat, i ≤ M ∧ o12 = .int .i64 i ∧ OwnC wr base g N N (layF N F nb f r k i) ∧ Below base w wr) (fun o12 _ => M - (intOf o12).toNat)
    case atStart => exact ⟨0, by omega, rfl, HO.out.congr (fun q => by
      unfold layF
      split
      · exact byteS_bd HR.out.by255 _ _
      · exact HO.out.by255 q) (fun q hq => by unfold layF; rw [if_neg (by omega)]), Below.refl _ _⟩
    case round =>
      obtain ⟨i, hi, rfl, ho, hb⟩ := hrel
      have HOI := Lib.hid ho
      have HB := Lib.hid hb
      clear ho hb hM
      by_cases hlt : i < M
      · have hlt' : (i : Int) < M := by omega
        have HBY := Lib.hid (byteAt_any b off nb cap F k i wr ⟨fun j hj => (HB.out.cell (p := ⟨b, _, none⟩) hne).trans (HR.out.row j hj), HR.out.by255, Nat.lt_of_lt_of_le HR.out.lt HB.out.size, HR.out.len, HR.out.most⟩ (by omega) (by omega))
        have hsum : (r : Int) + i = ((r + i : Nat) : Int) := by omega
        have x0 := HOI.out.row (r + i) (by omega)
        rw [Nat.zero_add] at x0
        have z0 := (HOI.out.wr (r + i) (by omega)).2
        have hbd := byteS_bd HR.out.by255 nb (k + i)
        have hri : r + i < N := by omega
        obtain ⟨p, hp⟩ : ∃ p, r + i = p := ⟨_, rfl⟩
        have HP := Lib.hid hp
        rw [hp] at hsum x0 z0 hri
        clear hp
        go_wp2_with (go_fit HBY.out; rintro e u ⟨rfl, rfl⟩)
        go_roundw
        case rel => exact ⟨i + 1, by omega, by go_num, (HOI.out.set p (byteS F nb (k + i)) hri hbd.1 hbd.2).congr (fun q => by
            unfold layF
            split
            · exact byteS_bd HR.out.by255 _ _
            · exact HO.out.by255 q) (fun q hq => by
            have hp := HP.out
            unfold setF
            by_cases e : q = p
            · subst e
              rw [if_pos rfl]
              unfold layF
              rw [if_pos (by omega), show q - r = i by omega]
            · rw [if_neg e]
              unfold layF
              by_cases e2 : r ≤ q ∧ q < r + i ∧ q < N
              · rw [if_pos e2, if_pos (by omega)]
              · rw [if_neg e2, if_neg (by omega)]), HB.out.setCell HOI.out.le _⟩
        case measure => simp [intOf]; omega
      · obtain rfl : i = M := by omega
        go_wp2_with fail
        go_returns
        exact ⟨rfl, HOI.out.congr (fun q => by
          unfold layF
          split
          · exact byteS_bd HR.out.by255 _ _
          · exact HO.out.by255 q) (fun q hq => by
          have hM := HMM.out
          unfold layF
          by_cases e : r ≤ q ∧ q < r + i ∧ q < N
          · rw [if_pos e, if_pos (by omega)]
          · rw [if_neg e, if_neg (by omega)]), HB.out⟩
end Go.Proofs.YtplgdpjbkdagfaaGreat
namespace Go.Proofs.YtplgdpjbkdagfaaGreat
set_option maxRecDepth 100000
open Go.ChangeShapes Go.WideShapes Go.ChangeAt Go.RowKit
set_option linter.unusedVariables false
set_option linter.unusedSimpArgs false

def laysF (N : Nat) (F : Nat → Int) (nb : Nat) : List SectN → (Nat → Int) → (Nat → Int)
  | [], f => f
  | s :: l, f => laysF N F nb l (layF N F nb f s.rva.toNat s.spot.toNat s.raw.toNat)

/-- What lies in memory. -/
def imgF (N : Nat) (F : Nat → Int) (nb : Nat) (hd : Nat) (l : List SectN) : Nat → Int := laysF N F nb l (layF N F nb (fun _ => 0) 0 0 hd)

set_option maxRecDepth 100000 in
set_option maxHeartbeats 2000000 in
theorem lays_any (cs : Array Value) (h : HeadN) (g c : Nat) (l : List SectN) (b off nb cap : Nat) (F : Nat → Int) (N hd : Nat) (w : World) (hh : HeadL w cs h g c l) (hr : RowB w b off nb cap F) (hN : h.size = N) (hN2 : N ≤ 262144) (hhd : h.headers = hd) :
    Calls Tryz.prog 24 #[.agg cs, .slice (some ⟨b, off, none⟩) nb cap] w fun e u => ∃ gi, e = .returned (.slice (some ⟨gi, 0, none⟩) N N) ∧ OwnC u w.heap.size gi N N (imgF N F nb hd l) ∧ Below w.heap.size w u := by
  have HH := Lib.hid hh
  have HR := Lib.hid hr
  have HB0 := Lib.hid ((Below.refl w.heap.size w).alloc (Nat.le_refl _) (.cells cs 41))
  have HG := Lib.hid (heap_alloc_new w (.cells cs 41))
  have c4 := hh.hv.c4
  have c5 := hh.hv.c5
  have c38 := hh.hv.c38
  have hlen := hh.len
  have hd1 := hh.hd1
  rw [hN] at c4
  rw [hhd] at c5 hd1
  obtain ⟨IM, hIM⟩ : ∃ IM, imgF N F nb hd l = IM := ⟨_, rfl⟩
  have HIM := Lib.hid hIM
  rw [hIM]
  have HS1 : Hid ((w.alloc (.cells cs 41)).heap.size = w.heap.size + 1) := Lib.hid (by simp)
  have n0 : decide ((N : Int) < 0) = false := decide_eq_false (by omega)
  have n1 : decide ((262144 : Int) < (N : Int)) = false := decide_eq_false (by omega)
  have HN2 := Lib.hid hN2
  clear hh hr hIM hN hhd hN2
  go_enter Tryz.func24, Tryz.ntmps24
  go_wp2_with (at_make; have k5 := (cell_of_row _ _ 5 _ _ _ HG.out).trans c5; have k38 := (cell_of_row _ _ 38 _ _ _ HG.out).trans c38; generalize w.alloc (.cells cs 41) = w1 at *; refine wpList_makeC rfl _ _ rfl w1.heap.size .i64 .i64 N rfl rfl (by have := HN2.out; omega) (Nat.le_refl _) ?_; intro w2 ho hb hs; have HO2 := Lib.hid ho; have HB12 := Lib.hid hb; have k5 := (hb.cell (p := ⟨w.heap.size, 5, none⟩) (by have := HS1.out; show w.heap.size < w1.heap.size; omega)).trans k5; clear ho hb hs)
  have HB2 := Lib.hid (HB0.out.trans (HB12.out.mono HB0.out.size))
  have hb01 : b < w1.heap.size := by have := HR.out.lt; have := HS1.out; omega
  refine (lay_any w1.heap.size N (fun _ => 0) b off nb cap F 0 0 hd w1.heap.size w2 HO2.out (HR.out.below HB2.out) hb01 (by have := HN2.out; omega) (by omega) (by omega) (by omega)).mono ?_
  rintro e w3 ⟨rfl, ho, hb⟩
  have HO3 := Lib.hid ho
  have HB13 := Lib.hid (HB12.out.trans hb)
  have k38' := (HB13.out.cell (p := ⟨w.heap.size, 38, none⟩) (by have := HS1.out; show w.heap.size < w1.heap.size; omega)).trans ((cell_of_row _ _ 38 _ _ _ HG.out).trans c38)
  clear ho hb k5 HO2 HB12 HB2
  go_wp2_with fail
  clear k38' c38 c4 c5 n0 n1
  go_loopw [7, 27] (fun _ o27 wr => ∃ (i : Nat) (f : Nat → Int), i ≤ l.length ∧ o27 = .int .i64 i ∧ OwnC wr w1.heap.size w1.heap.size N N f ∧ laysF N F nb (l.drop i) f = IM ∧ Below w1.heap.size w1 wr) (fun _ o27 _ => l.length - (intOf o27).toNat)
  case atStart => exact ⟨0, _, by omega, rfl, HO3.out, HIM.out, HB13.out⟩
  case round =>
    obtain ⟨i, f, hi, rfl, ho, hf, hb⟩ := hrel
    have HO := Lib.hid ho
    have HF := Lib.hid hf
    have HB := Lib.hid hb
    have HBW : Hid (Below w.heap.size w wr) := Lib.hid (HB0.out.trans (hb.mono HB0.out.size))
    clear ho hf hb HO3 HB13
    by_cases hlt : i < l.length
    · have hlt' : (i : Int) < l.length := by omega
      obtain ⟨d0, d1, d2, d3, d4, d5⟩ := (HH.out.sl.below HBW.out).at6 i hlt
      have hs := HH.out.bd l[i] (List.getElem_mem hlt)
      have hd := HF.out
      rw [List.drop_eq_getElem_cons hlt] at hd
      have HD := Lib.hid hd
      clear hd
      generalize l[i] = s at *
      obtain ⟨nm, v, rva, raw, spot, ch⟩ := s
      obtain ⟨v0, v1, p0, p1, a0, a1, s0, s1, x0, x1⟩ := hs
      simp only at d0 d1 d2 d3 d4 d5 v0 v1 p0 p1 a0 a1 s0 s1 x0 x1
      obtain ⟨rv, rfl⟩ : ∃ n : Nat, rva = n := ⟨rva.toNat, by omega⟩
      obtain ⟨rw', rfl⟩ : ∃ n : Nat, raw = n := ⟨raw.toNat, by omega⟩
      obtain ⟨sp, rfl⟩ : ∃ n : Nat, spot = n := ⟨spot.toNat, by omega⟩
      go_wp2_with fail
      have hba := (Below.refl wr.heap.size wr).alloc (Nat.le_refl _) (.cells #[.string nm, .int .i64 v, .int .i64 (rv : Int), .int .i64 (rw' : Int), .int .i64 (sp : Int), .int .i64 ch] 72)
      refine (lay_any w1.heap.size N f b off nb cap F rv sp rw' w1.heap.size _ (HO.out.below hba) (HR.out.below (HBW.out.trans (hba.mono HBW.out.size))) hb01 (by have := HN2.out; omega) (by omega) (by omega) (by omega)).mono ?_
      rintro e u ⟨rfl, ho, hb⟩
      have HOU := Lib.hid ho
      have HBU := Lib.hid ((HB.out.trans (hba.mono HB.out.size)).trans hb)
      clear ho hb hba
      go_wp2_with fail
      go_roundw
      case rel => exact ⟨i + 1, _, by omega, by go_num, HOU.out, by have := HD.out; simp only [laysF, Int.toNat_natCast] at this; exact this, HBU.out⟩
      case measure => simp [intOf]; omega
    · obtain rfl : i = l.length := by omega
      have hf := HF.out
      rw [List.drop_length] at hf
      have hf' : f = IM := hf
      subst hf'
      go_wp2_with fail
      go_ret
      exact ⟨_, rfl, HO.out.weaken (by have := HS1.out; omega), HBW.out⟩
end Go.Proofs.YtplgdpjbkdagfaaGreat
namespace Go.Proofs.YtplgdpjbkdagfaaGreat
open Go.ChangeShapes Go.WideShapes Go.ChangeAt Go.RowKit
set_option linter.unusedVariables false
set_option linter.unusedSimpArgs false
set_option maxRecDepth 100000

/-- What a head's reader and what lays the image tell, as far as Parse asks. -/
structure HeadK (w : World) (sl : Value) (N : Nat) (IM : Nat → Int) (HG : World → Array Value → Prop) (rv sz : Nat → Int) (base : Int) : Prop where
  parse : ∀ W, Below w.heap.size w W → Calls Tryz.prog 23 #[sl] W fun x u => (∃ cs, x = .returned (.tuple #[.agg cs, .int .i64 0]) ∧ HG u cs) ∧ Below W.heap.size W u
  sized : ∀ u cs, HG u cs → cs.size = 39 ∧ cs.all (·.oneCell') = true
  stays : ∀ u u' cs, HG u cs → Below u.heap.size u u' → HG u' cs
  lay : ∀ W cs, Below w.heap.size w W → HG W cs → Calls Tryz.prog 24 #[.agg cs, sl] W fun x u => ∃ gi, x = .returned (.slice (some ⟨gi, 0, none⟩) N N) ∧ OwnC u W.heap.size gi N N IM ∧ Below W.heap.size W u
  dirs : ∀ u cs, HG u cs → ∀ i, i < 16 → cs[6 + 2 * i]? = some (.int .i64 (rv i)) ∧ cs[6 + 2 * i + 1]? = some (.int .i64 (sz i))
  base0 : ∀ u cs, HG u cs → cs[0]? = some (.int .u64 base)
/-- A reader, at any image that was laid. -/
def ReadE1 (w : World) (N : Nat) (IM : Nat → Int) (fn : Nat) (rest : List Value) (er : Int) (S : Nat → Value → World → Prop) : Prop :=
  ∀ W gi P, OwnC W w.heap.size gi N N IM → Below w.heap.size w W → P < W.heap.size → gi ≠ P → Reads1 fn (.slice (some ⟨gi, 0, none⟩) N N :: rest).toArray P W er (S gi)
def ReadE3 (w : World) (N : Nat) (IM : Nat → Int) (fn : Nat) (rest : List Value) (er : Int) (S : Nat → Value → Value → Value → World → Prop) : Prop :=
  ∀ W gi P, OwnC W w.heap.size gi N N IM → Below w.heap.size w W → P < W.heap.size → gi ≠ P → Reads3 fn (.slice (some ⟨gi, 0, none⟩) N N :: rest).toArray P W er (S gi)
theorem arr_range (cs : Array Value) (n : Nat) (h : cs.size = n) : ((List.range n).map (fun j => cs.getD j undef)).toArray = cs := by
  apply Array.ext
  · simp [h]
  · intro i h1 h2
    simp [h2]
theorem peAt_alloc {w : World} {g : Nat} {x : PeV} (h : w.heap[g]? = some (.cells (peC x) 50 (0, 0))) : PeAt w g x :=
  ⟨lt_of_row' h, fun i hi => ⟨by rw [cell_of_row' h, peC_cell x hi], by simp [World.frozen?, h]⟩⟩
theorem pe0_one {hd : Nat → Value} {im : Value} (h : ∀ j, j < 39 → (hd j).oneCell' = true) (hi : im.oneCell' = true) : (peC (pe0 hd im)).all (·.oneCell') = true := by
  refine all_oneCell_toArray (fun v hv => ?_)
  obtain ⟨j, hj, rfl⟩ := List.mem_map.mp hv
  have hj := List.mem_range.1 hj
  by_cases c : j < 39
  · rw [peF_hd _ c]; exact h j c
  · rcases (by omega : j = 39 ∨ j = 40 ∨ j = 41 ∨ j = 42 ∨ j = 43 ∨ j = 44 ∨ j = 45 ∨ j = 46 ∨ j = 47 ∨ j = 48 ∨ j = 49) with rfl | rfl | rfl | rfl | rfl | rfl | rfl | rfl | rfl | rfl | rfl
    · exact hi
    all_goals rfl

/-- What Parse tells: the first error, or the image. -/
inductive PeTold (w : World) (N : Nat) (IM : Nat → Int) (HG : World → Array Value → Prop) (FE : Int) (SE : Nat → Value → Value → Value → World → Prop) (SI SR : Nat → Value → World → Prop) (ST : Nat → Value → Value → Value → World → Prop) (SB SD : Nat → Value → World → Prop) : Ending → World → Prop
  | bad {u : World} (h : ¬ FE = 0) : PeTold w N IM HG FE SE SI SR ST SB SD (.returned (.tuple #[.agg (peC peZ), .int .i64 FE])) u
  | good {u : World} (h : FE = 0) (y : PeV) (cs : Array Value) (gi W : Nat) (hk : ∃ wb, HG wb cs ∧ wb.heap[w.heap.size]? = some (.cells (peC peZ) 50 (0, 0)) ∧ Kept (fun k => k < wb.heap.size ∧ k ≠ w.heap.size) wb u) (hh : ∀ j, j < 39 → cs[j]? = some (y.hd j)) (hi : y.img = .slice (some ⟨gi, 0, none⟩) N N) (ho : OwnC u w.heap.size gi N N IM) (hW : w.heap.size ≤ W)
      (lE : Lasts W (SE gi y.e0 y.e1 y.e2) u) (lI : Lasts W (SI gi y.im) u) (lR : Lasts W (SR gi y.re) u) (lT : Lasts W (ST gi y.t0 y.t1 y.t2) u) (lB : Lasts W (SB gi y.bo) u) (lD : Lasts W (SD gi y.de) u) :
      PeTold w N IM HG FE SE SI SR ST SB SD (.returned (.tuple #[.agg (peC y), .int .i64 0])) u

theorem yieldsIf_build {P : Program} {ops : Array Oper} {T : World → Prop} {o : Oper} {a : Act} (t : TypeId) (parts : Array (Nat × Operand)) (l : List (Nat × Value)) (cells : Array Value) (hgd : o.guard = none) (ho : o.op = .build t parts)
    (hl : (parts.map fun (i, x) => (i, a.eval x)).toList = l) (hf : P.built t l = some cells) : YieldsIf P ops T o (.agg cells) a := by
  subst hl
  refine Or.inl ⟨by simp [Region.wanted, hgd], fun w hw => ?_⟩
  unfold execOp
  simp only [ho, Sem.run_bind, run_build w t _ cells hf, Result.andThen_ok]
  rfl
/-- The image is laid. -/
def PeLaid (w : World) (N : Nat) (IM : Nat → Int) (HG : World → Array Value → Prop) (cs : Array Value) (HD : Nat → Value) (v : Value) (W : World) : Prop :=
  ∃ P gi, v = .pointer (some ⟨P, 0, none⟩) ∧ PeAt W P (pe0 HD (.slice (some ⟨gi, 0, none⟩) N N)) ∧ OwnC W w.heap.size gi N N IM ∧ Below w.heap.size w W ∧ w.heap.size < P ∧ w.heap.size < gi ∧ gi ≠ P ∧ (∃ wb, HG wb cs ∧ Below wb.heap.size wb W ∧ wb.heap.size ≤ P ∧ wb.heap[w.heap.size]? = some (.cells (peC peZ) 50 (0, 0))) ∧ W.heap[w.heap.size]? = some (.cells (peC peZ) 50 (0, 0))
theorem cell_one {cs : Array Value} (h : cs.size = 39) (h1 : cs.all (·.oneCell') = true) {j : Nat} (hj : j < 39) : (cs.getD j undef).oneCell' = true := by
  have := Array.all_eq_true_iff_forall_mem.1 h1 (cs.getD j undef) (by simp [Array.getD, h, hj])
  exact this
theorem OwnC.setRow {w : World} {b g n c : Nat} {f : Nat → Int} (h : OwnC w b g n c f) {P : Nat} (hn : g ≠ P) (cells : Array Value) : OwnC (w.setRow P cells) b g n c f := h.of_block (by simp [World.setRow]) (setRow_other w P g cells hn)

theorem peC_one (y : PeV) (h : ∀ j, j < 39 → (y.hd j).oneCell' = true) (hi : y.img.oneCell' = true) (ho : (y.e0.oneCell' = true ∧ y.e1.oneCell' = true ∧ y.e2.oneCell' = true) ∧ y.im.oneCell' = true ∧ y.re.oneCell' = true ∧ (y.t0.oneCell' = true ∧ y.t1.oneCell' = true ∧ y.t2.oneCell' = true) ∧ y.bo.oneCell' = true ∧ y.de.oneCell' = true) : (peC y).all (·.oneCell') = true := by
  obtain ⟨⟨h0, h1, h2⟩, h3, h4, ⟨h5, h6, h7⟩, h8, h9⟩ := ho
  refine all_oneCell_toArray (fun v hv => ?_)
  obtain ⟨j, hj, rfl⟩ := List.mem_map.mp hv
  have hj := List.mem_range.1 hj
  by_cases c : j < 39
  · rw [peF_hd _ c]; exact h j c
  · rcases (by omega : j = 39 ∨ j = 40 ∨ j = 41 ∨ j = 42 ∨ j = 43 ∨ j = 44 ∨ j = 45 ∨ j = 46 ∨ j = 47 ∨ j = 48 ∨ j = 49) with rfl | rfl | rfl | rfl | rfl | rfl | rfl | rfl | rfl | rfl | rfl
    · exact hi
    · exact h0
    · exact h1
    · exact h2
    · exact h3
    · exact h9
    · exact h8
    · exact h4
    · exact h5
    · exact h6
    · exact h7
theorem Kept.setRow_ne (w : World) (g : Nat) (cs : Array Value) : Kept (fun k => k ≠ g) w (w.setRow g cs) := ⟨rfl, rfl, rfl, by simp [World.setRow], fun k hk => setRow_other w g k cs hk⟩

set_option maxHeartbeats 4000000 in
theorem peparse_head (sl : Value) (N : Nat) (IM : Nat → Int) (HG : World → Array Value → Prop) (rv sz : Nat → Int) (base : Int) (w : World) (hk : HeadK w sl N IM HG rv sz base)
    (eE eI eR eT eB eD : Int) (SE : Nat → Value → Value → Value → World → Prop) (SI SR : Nat → Value → World → Prop) (ST : Nat → Value → Value → Value → World → Prop) (SB SD : Nat → Value → World → Prop)
    (hE : ReadE3 w N IM 79 [.agg #[.int .i64 (rv 0), .int .i64 (sz 0)]] eE SE)
    (hI : ReadE1 w N IM 80 [.agg #[.int .i64 (rv 1), .int .i64 (sz 1)]] eI SI)
    (hR : ReadE1 w N IM 81 [.agg #[.int .i64 (rv 5), .int .i64 (sz 5)]] eR SR)
    (hT : ReadE3 w N IM 82 [.agg #[.int .i64 (rv 9), .int .i64 (sz 9)], .int .u64 base] eT ST)
    (hB : ReadE1 w N IM 83 [.agg #[.int .i64 (rv 11), .int .i64 (sz 11)]] eB SB)
    (hD : ReadE1 w N IM 84 [.agg #[.int .i64 (rv 13), .int .i64 (sz 13)]] eD SD) :
    Calls Tryz.prog 11 #[sl] w fun x u => Below w.heap.size w u ∧ PeTold w N IM HG (firstE eE eI eR eT eB eD) SE SI SR ST SB SD x u := by
  obtain ⟨FE, hFE⟩ : ∃ FE, firstE eE eI eR eT eB eD = FE := ⟨_, rfl⟩
  rw [hFE]
  have HFE := Lib.hid hFE
  clear hFE
  have HK := Lib.hid hk
  have HBE := Lib.hid hE
  have HBI := Lib.hid hI
  have HBR := Lib.hid hR
  have HBT := Lib.hid hT
  have HBB := Lib.hid hB
  have HBD := Lib.hid hD
  have HB0 := Lib.hid ((Below.refl w.heap.size w).alloc (Nat.le_refl _) (.cells (peC peZ) 50))
  have hZ := heap_alloc_new w (.cells (peC peZ) 50)
  have hs1 : (w.alloc (.cells (peC peZ) 50)).heap.size = w.heap.size + 1 := by simp
  clear hk hE hI hR hT hB hD
  go_enter Tryz.func11, Tryz.ntmps11
  go_wp2_with fail
  rw [zero_pe]
  generalize w.alloc (.cells (peC peZ) 50) = w1 at hZ HB0 hs1 ⊢
  refine (HK.out.parse w1 HB0.out).mono ?_
  rintro e w2 ⟨⟨cs, rfl, hg⟩, hb⟩
  have hZ2 := (hb.block w.heap.size (by omega)).trans hZ
  have HB2 := Lib.hid (HB0.out.trans (hb.mono (by omega)))
  have hlt : w.heap.size < w2.heap.size := by have := hb.size; omega
  obtain ⟨hcz, hone⟩ := HK.out.sized _ _ hg
  have hsz : (Tryz.prog.info? 41).map (·.size) = some cs.size := by rw [hcz]; kernel_rfl
  have hsz2 : (headC 0 0 0 0 0 0).size = cs.size := by rw [hcz]; kernel_rfl
  have HZ3 := Lib.hid ((setRow_other (w2.alloc (.cells (headC 0 0 0 0 0 0) 41)) w2.heap.size w.heap.size cs (by omega)).trans ((heap_alloc_old w2 (.cells (headC 0 0 0 0 0 0) 41) hlt).trans hZ2))
  have hb23 : Below w2.heap.size w2 ((w2.alloc (.cells (headC 0 0 0 0 0 0) 41)).setRow w2.heap.size cs) := below_setRow ((Below.refl _ w2).alloc (Nat.le_refl _) _) (Nat.le_refl _) _
  have HB3 := Lib.hid (HB2.out.trans (hb23.mono HB2.out.size))
  have HG3 := Lib.hid (HK.out.stays _ _ _ hg hb23)
  have HH3 := Lib.hid (setRow_heap (w2.alloc (.cells (headC 0 0 0 0 0 0) 41)) w2.heap.size _ cs _ _ (heap_alloc_new _ _))
  have HCZ := Lib.hid hcz
  have HLT := Lib.hid hlt
  have HONE := Lib.hid hone
  clear hcz hZ2 HB2 hlt hZ hb hs1 HB0 hg hb23
  go_upto_region 4 with (first
    | (refine wpList_store_row rfl 41 (.tmp 4) (.tmp 11) rfl w2.heap.size cs rfl rfl 41 (headC 0 0 0 0 0 0) (heap_alloc_new _ _) hsz hsz2 hone ?_; rw [zero_head]; generalize (w2.alloc (.cells (headC 0 0 0 0 0 0) 41)).setRow w2.heap.size cs = w3 at *; generalize w2.heap.size = gh at *)
    | fail)
  obtain ⟨HD, hHD⟩ : ∃ HD : Nat → Value, (fun j => cs.getD j undef) = HD := ⟨_, rfl⟩
  have HHD := Lib.hid (show ((List.range 39).map HD).toArray = cs ∧ ∀ j, j < 39 → (HD j).oneCell' = true from ⟨by rw [← hHD]; exact arr_range cs 39 HCZ.out, fun j hj => by rw [← hHD]; exact cell_one HCZ.out HONE.out hj⟩)
  clear hHD
  go_cut [6] from 8 (fun v6 wc => PeLaid w N IM HG cs HD v6 wc)
  case first =>
    rename_i J1 K1 hJ1 hK1
    have HJ1 := Lib.hid hJ1
    have HK1 := Lib.hid hK1
    have HB4 := Lib.hid HB3.out.drew
    have HG4 := Lib.hid (HK.out.stays _ _ _ HG3.out ((Below.refl _ w3).drew))
    have HLG := Lib.hid (show gh < w3.drew.heap.size from lt_of_row' (HH3.out : w3.drew.heap[gh]? = _))
    clear hJ1 hK1
    have HS := Lib.hid (show w3.drew.heap[gh]? = some (.cells cs 41 (0, 0)) from HH3.out)
    refine wp_region_noPanic ?_
    refine wp_region_K (fun W => W.heap[gh]? = some (.cells cs 41 (0, 0))) (fun _ => True) 99 (by kernel_rfl) ?_
    refine wpAnyK_take (i := 0) (oi := ?_) (v := ?_) ?_ (by kernel_rfl) (by kernel_rfl) (by kernel_rfl) (fun _ _ _ h => h) (by decide) ?_ HS.out (fun _ => trivial) ?_
    rotate_left 2
    · (simp only [List.getElem?_toArray, List.getElem?_cons_succ, List.getElem?_cons_zero]; rfl)
    · refine yieldsIf_load_row 41 (.tmp 4) gh 41 cs (0, 0) ?_ ?_ ?_ (fun W hW => hW) ?_ hsz
      · rfl
      · rfl
      · rfl
      · kernel_rfl
    try simp only [Act.put, List.setIfInBounds_toArray, List.set_cons_zero, List.set_cons_succ]
    refine wpAnyK_take (i := 1) (oi := ?_) (v := ?_) ?_ (by kernel_rfl) (by kernel_rfl) (by kernel_rfl) (fun _ _ _ h => h) (by decide) ?_ HS.out (fun _ => trivial) ?_
    rotate_left 2
    · (simp only [List.getElem?_toArray, List.getElem?_cons_succ, List.getElem?_cons_zero]; rfl)
    · refine yieldsIf_load_row 41 (.tmp 4) gh 41 cs (0, 0) ?_ ?_ ?_ (fun W hW => hW) ?_ hsz
      · rfl
      · rfl
      · rfl
      · kernel_rfl
    try simp only [Act.put, List.setIfInBounds_toArray, List.set_cons_zero, List.set_cons_succ]
    refine wpAnyK_take (i := 2) (oi := ?_) (v := ?_) ?_ (by kernel_rfl) (by kernel_rfl) (by kernel_rfl) (fun _ _ _ h => h) (by decide) ?_ HS.out (fun _ => trivial) ?_
    rotate_left 2
    · (simp only [List.getElem?_toArray, List.getElem?_cons_succ, List.getElem?_cons_zero]; rfl)
    · (first | exact Or.inr ⟨by rfl, rfl⟩ | (refine Or.inl ⟨by rfl, ?_⟩; intro W hSw; clear hSw; go_simp; try with_reducible rfl))
    try simp only [Act.put, List.setIfInBounds_toArray, List.set_cons_zero, List.set_cons_succ]
    have HZ4 := Lib.hid (show w3.drew.heap[w.heap.size]? = _ from HZ3.out)
    generalize w3.drew = w4 at *
    refine wpAnyK_two (i := 3) (j := 5) (by kernel_rfl) rfl rfl (fun K hK => ?_) (fun K hK => ?_)
    · skip
      go_simp
      go_at_call 24
      refine (HK.out.lay w4 cs HB4.out HG4.out).mono ?_
      rintro e w5 ⟨gi, rfl, ho, hb⟩
      have hle := HB4.out.size
      have hlz := HLT.out
      have HS5 := Lib.hid ((hb.block gh HLG.out).trans HS.out)
      have HB5 := Lib.hid (HB4.out.trans (hb.mono hle))
      have HG5 := Lib.hid (HK.out.stays _ _ _ HG4.out hb)
      have HZ5 := Lib.hid ((hb.block w.heap.size (lt_of_row' HZ4.out)).trans HZ4.out)
      have HO5 := Lib.hid (ho.weaken (Nat.succ_le_of_lt (lt_of_row' HZ4.out)))
      clear ho hb hle hlz
      refine hK.out _ _ HS5.out (fun _ => trivial) ?_
      clear hK K
      try simp only [Act.put, List.setIfInBounds_toArray, List.set_cons_zero, List.set_cons_succ]
      --B1
      refine wpAnyK_take (i := 4) (oi := ?_) (v := ?_) ?_ (by kernel_rfl) (by kernel_rfl) (by kernel_rfl) (fun _ _ _ h => h) (by decide) ?_ HS5.out (fun _ => trivial) ?_
      rotate_left 2
      · (simp only [List.getElem?_toArray, List.getElem?_cons_succ, List.getElem?_cons_zero]; rfl)
      · refine yieldsIf_build 50 #[(0, .tmp 17), (1, .tmp 20)] [(0, .agg cs), (1, .slice (some ⟨gi, 0, none⟩) N N)] (peC (pe0 HD (.slice (some ⟨gi, 0, none⟩) N N))) ?_ ?_ ?_ ?_
        · rfl
        · rfl
        · simp [Act.eval]
        · have h := built_pe HD (some ⟨gi, 0, none⟩) N N
          rw [HHD.out.1] at h
          exact h
      try simp only [Act.put, List.setIfInBounds_toArray, List.set_cons_zero, List.set_cons_succ]
      refine wpAnyK_one (i := 5) (o := ?_) (by kernel_rfl) ?_ (fun K hK => ?_)
      rotate_left 1
      · (simp only [List.getElem?_toArray, List.getElem?_cons_succ, List.getElem?_cons_zero]; rfl)
      go_simp
      rw [zero_pe]
      have hb : Below w5.heap.size w5 (w5.alloc (.cells (peC peZ) 50)) := (Below.refl _ w5).alloc (Nat.le_refl _) _
      have HS6 := Lib.hid ((hb.block gh (lt_of_row' HS5.out)).trans HS5.out)
      have HB6 := Lib.hid (HB5.out.trans (hb.mono HB5.out.size))
      have HZ6 := Lib.hid ((hb.block w.heap.size (lt_of_row' HZ5.out)).trans HZ5.out)
      have HO6 := Lib.hid (HO5.out.below hb)
      obtain ⟨P, hP⟩ : ∃ P, w5.heap.size = P := ⟨_, rfl⟩
      have HP6 := Lib.hid (show (w5.alloc (.cells (peC peZ) 50)).heap[P]? = some (.cells (peC peZ) 50) from by rw [← hP]; exact heap_alloc_new w5 (.cells (peC peZ) 50))
      have HLP := Lib.hid (show w.heap.size < P ∧ gi ≠ P ∧ gh ≠ P from by rw [← hP]; exact ⟨lt_of_row' HZ5.out, Nat.ne_of_lt HO5.out.lt, Nat.ne_of_lt (lt_of_row' HS5.out)⟩)
      have HGB := Lib.hid (show HG w5 cs ∧ Below w5.heap.size w5 (w5.alloc (.cells (peC peZ) 50)) ∧ w5.heap.size ≤ P ∧ w5.heap[w.heap.size]? = some (.cells (peC peZ) 50 (0, 0)) from ⟨HG5.out, hb, Nat.le_of_eq hP, HZ5.out⟩)
      simp only [hP]
      generalize w5.alloc (.cells (peC peZ) 50) = w6 at *
      clear hb hP
      refine hK.out _ _ HS6.out (fun _ => trivial) ?_
      clear hK K
      try simp only [Act.put, List.setIfInBounds_toArray, List.set_cons_zero, List.set_cons_succ]
      refine wpAnyK_one (i := 6) (o := ?_) (by kernel_rfl) ?_ (fun K hK => ?_)
      rotate_left 1
      · (simp only [List.getElem?_toArray, List.getElem?_cons_succ, List.getElem?_cons_zero]; rfl)
      refine step_store_row' rfl 50 (.tmp 6) (.tmp 21) rfl P (peC (pe0 HD (.slice (some ⟨gi, 0, none⟩) N N))) rfl rfl 50 (peC peZ) HP6.out (by rw [peC_size]; kernel_rfl) (by rw [peC_size, peC_size]) (pe0_one (fun j hj => HHD.out.2 j hj) rfl) ?_
      have HS7 := Lib.hid ((setRow_other w6 P gh (peC (pe0 HD (.slice (some ⟨gi, 0, none⟩) N N))) HLP.out.2.2).trans HS6.out)
      have HL7 := Lib.hid (show PeLaid w N IM HG cs HD (.pointer (some ⟨P, 0, none⟩)) (w6.setRow P (peC (pe0 HD (.slice (some ⟨gi, 0, none⟩) N N)))) from
        ⟨P, gi, rfl, peAt_alloc (setRow_heap w6 P _ (peC (pe0 HD (.slice (some ⟨gi, 0, none⟩) N N))) _ _ HP6.out), (HO6.out.weaken (Nat.le_succ _)).setRow HLP.out.2.1 _, below_setRow HB6.out (Nat.le_of_lt HLP.out.1) _, HLP.out.1, HO6.out.le, HLP.out.2.1, ⟨_, HGB.out.1, below_setRow HGB.out.2.1 HGB.out.2.2.1 _, HGB.out.2.2.1, HGB.out.2.2.2⟩, (setRow_other w6 P w.heap.size _ (Nat.ne_of_lt HLP.out.1)).trans HZ6.out⟩)
      generalize w6.setRow P (peC (pe0 HD (.slice (some ⟨gi, 0, none⟩) N N))) = w7 at *
      refine hK.out _ _ HS7.out (fun _ => trivial) ?_
      clear hK K
      try simp only [Act.put, List.setIfInBounds_toArray, List.set_cons_zero, List.set_cons_succ]
      refine wpAnyK_done (by kernel_rfl) ?_ _
      refine NoPanic.normal ?_
      --MET
      refine HK1.out _ _ ?_
      refine Met.intro (HJ1.out _ _ ?_)
      repeat apply Exists.intro
      exact ⟨HL7.out, rfl⟩
    · skip
      go_simp
      rw [zero_pe]
      have hb : Below w4.heap.size w4 (w4.alloc (.cells (peC peZ) 50)) := (Below.refl _ w4).alloc (Nat.le_refl _) _
      have HS5 := Lib.hid ((hb.block gh HLG.out).trans HS.out)
      have HB5 := Lib.hid (HB4.out.trans (hb.mono HB4.out.size))
      have HG5 := Lib.hid (HK.out.stays _ _ _ HG4.out hb)
      have HZ5 := Lib.hid ((hb.block w.heap.size (lt_of_row' HZ4.out)).trans HZ4.out)
      obtain ⟨P, hP⟩ : ∃ P, w4.heap.size = P := ⟨_, rfl⟩
      have HP5 := Lib.hid (show (w4.alloc (.cells (peC peZ) 50)).heap[P]? = some (.cells (peC peZ) 50) from by rw [← hP]; exact heap_alloc_new w4 (.cells (peC peZ) 50))
      have HLQ := Lib.hid (show w.heap.size < P ∧ gh ≠ P from by rw [← hP]; exact ⟨lt_of_row' HZ4.out, Nat.ne_of_lt HLG.out⟩)
      have HGA := Lib.hid (show HG w4 cs ∧ Below w4.heap.size w4 (w4.alloc (.cells (peC peZ) 50)) ∧ w4.heap.size ≤ P ∧ w4.heap[w.heap.size]? = some (.cells (peC peZ) 50 (0, 0)) from ⟨HG4.out, hb, Nat.le_of_eq hP, HZ4.out⟩)
      simp only [hP]
      generalize w4.alloc (.cells (peC peZ) 50) = w5 at *
      clear hb hP
      refine hK.out _ _ HS5.out (fun _ => trivial) ?_
      clear hK K
      try simp only [Act.put, List.setIfInBounds_toArray, List.set_cons_zero, List.set_cons_succ]
      --B2
      refine wpAnyK_one (i := 3) (o := ?_) (by kernel_rfl) ?_ (fun K hK => ?_)
      rotate_left 1
      · (simp only [List.getElem?_toArray, List.getElem?_cons_succ, List.getElem?_cons_zero]; rfl)
      go_simp
      go_at_call 24
      refine (HK.out.lay w5 cs HB5.out HG5.out).mono ?_
      rintro e w6 ⟨gi, rfl, ho, hb⟩
      have hle := HB5.out.size
      have hlz := HLT.out
      have HS6 := Lib.hid ((hb.block gh (lt_of_row' HS5.out)).trans HS5.out)
      have HB6 := Lib.hid (HB5.out.trans (hb.mono hle))
      have HZ6 := Lib.hid ((hb.block w.heap.size (lt_of_row' HZ5.out)).trans HZ5.out)
      have HP6 := Lib.hid ((hb.block P (lt_of_row' HP5.out)).trans HP5.out)
      have HGB := Lib.hid (show HG w4 cs ∧ Below w4.heap.size w4 w6 ∧ w4.heap.size ≤ P ∧ w4.heap[w.heap.size]? = some (.cells (peC peZ) 50 (0, 0)) from ⟨HGA.out.1, HGA.out.2.1.trans (hb.mono HGA.out.2.1.size), HGA.out.2.2.1, HGA.out.2.2.2⟩)
      have HO6 := Lib.hid (ho.weaken (Nat.succ_le_of_lt (lt_of_row' HZ5.out)))
      have HLP := Lib.hid (show w.heap.size < P ∧ gi ≠ P ∧ gh ≠ P from ⟨HLQ.out.1, fun e => by have := ho.le; have := lt_of_row' HP5.out; omega, HLQ.out.2⟩)
      clear ho hb hle hlz
      refine hK.out _ _ HS6.out (fun _ => trivial) ?_
      clear hK K
      try simp only [Act.put, List.setIfInBounds_toArray, List.set_cons_zero, List.set_cons_succ]
      refine wpAnyK_take (i := 4) (oi := ?_) (v := ?_) ?_ (by kernel_rfl) (by kernel_rfl) (by kernel_rfl) (fun _ _ _ h => h) (by decide) ?_ HS6.out (fun _ => trivial) ?_
      rotate_left 2
      · (simp only [List.getElem?_toArray, List.getElem?_cons_succ, List.getElem?_cons_zero]; rfl)
      · refine yieldsIf_build 50 #[(0, .tmp 17), (1, .tmp 20)] [(0, .agg cs), (1, .slice (some ⟨gi, 0, none⟩) N N)] (peC (pe0 HD (.slice (some ⟨gi, 0, none⟩) N N))) ?_ ?_ ?_ ?_
        · rfl
        · rfl
        · simp [Act.eval]
        · have h := built_pe HD (some ⟨gi, 0, none⟩) N N
          rw [HHD.out.1] at h
          exact h
      try simp only [Act.put, List.setIfInBounds_toArray, List.set_cons_zero, List.set_cons_succ]
      refine wpAnyK_one (i := 6) (o := ?_) (by kernel_rfl) ?_ (fun K hK => ?_)
      rotate_left 1
      · (simp only [List.getElem?_toArray, List.getElem?_cons_succ, List.getElem?_cons_zero]; rfl)
      refine step_store_row' rfl 50 (.tmp 6) (.tmp 21) rfl P (peC (pe0 HD (.slice (some ⟨gi, 0, none⟩) N N))) rfl rfl 50 (peC peZ) HP6.out (by rw [peC_size]; kernel_rfl) (by rw [peC_size, peC_size]) (pe0_one (fun j hj => HHD.out.2 j hj) rfl) ?_
      have HS7 := Lib.hid ((setRow_other w6 P gh (peC (pe0 HD (.slice (some ⟨gi, 0, none⟩) N N))) HLP.out.2.2).trans HS6.out)
      have HL7 := Lib.hid (show PeLaid w N IM HG cs HD (.pointer (some ⟨P, 0, none⟩)) (w6.setRow P (peC (pe0 HD (.slice (some ⟨gi, 0, none⟩) N N)))) from
        ⟨P, gi, rfl, peAt_alloc (setRow_heap w6 P _ (peC (pe0 HD (.slice (some ⟨gi, 0, none⟩) N N))) _ _ HP6.out), (HO6.out.weaken (Nat.le_succ _)).setRow HLP.out.2.1 _, below_setRow HB6.out (Nat.le_of_lt HLP.out.1) _, HLP.out.1, HO6.out.le, HLP.out.2.1, ⟨_, HGB.out.1, below_setRow HGB.out.2.1 HGB.out.2.2.1 _, HGB.out.2.2.1, HGB.out.2.2.2⟩, (setRow_other w6 P w.heap.size _ (Nat.ne_of_lt HLP.out.1)).trans HZ6.out⟩)
      generalize w6.setRow P (peC (pe0 HD (.slice (some ⟨gi, 0, none⟩) N N))) = w7 at *
      refine hK.out _ _ HS7.out (fun _ => trivial) ?_
      clear hK K
      try simp only [Act.put, List.setIfInBounds_toArray, List.set_cons_zero, List.set_cons_succ]
      refine wpAnyK_done (by kernel_rfl) ?_ _
      refine NoPanic.normal ?_
      --MET
      refine HK1.out _ _ ?_
      refine Met.intro (HJ1.out _ _ ?_)
      repeat apply Exists.intro
      exact ⟨HL7.out, rfl⟩
  case rest =>
    --R1
    obtain ⟨P, gi, rfl, hp, ho, hb, hP, hgi, hne, hgb, hz⟩ := hcut
    have HO := Lib.hid ho
    have HB := Lib.hid hb
    have HPP := Lib.hid (And.intro hP (And.intro hgi hne))
    have HGB := Lib.hid hgb
    have HZ := Lib.hid hz
    have hcs : ∀ j, j < 39 → cs[j]? = some (HD j) := fun j hj => by rw [← HHD.out.1]; simp [hj]
    have HCS := Lib.hid hcs
    obtain ⟨wb, hw1, _, _, _⟩ := hgb
    have hdr : ∀ i, i < 16 → HD (6 + 2 * i) = .int .i64 (rv i) ∧ HD (6 + 2 * i + 1) = .int .i64 (sz i) := fun i hi => by
      have h := HK.out.dirs wb cs hw1 i hi
      rw [hcs _ (by omega), hcs _ (by omega)] at h
      exact ⟨Option.some.inj h.1, Option.some.inj h.2⟩
    have hb0 : HD 0 = .int .u64 base := by
      have h := HK.out.base0 wb cs hw1
      rw [hcs 0 (by omega)] at h
      exact Option.some.inj h
    have hplt := hp.1
    have HC := Lib.hid (dirs_any wc P (pe0 HD (.slice (some ⟨gi, 0, none⟩) N N)) hp rv sz hdr base hb0 eE eI eR eT eB eD (SE gi) (SI gi) (SR gi) (ST gi) (SB gi) (SD gi) (HBE.out wc gi P ho hb hplt hne) (HBI.out wc gi P ho hb hplt hne) (HBR.out wc gi P ho hb hplt hne) (HBT.out wc gi P ho hb hplt hne) (HBB.out wc gi P ho hb hplt hne) (HBD.out wc gi P ho hb hplt hne))
    have HPL := Lib.hid hplt
    rw [HFE.out] at HC
    clear hp ho hb hP hgi hne hw1 hdr hb0 hz hplt hcs HFE HBE HBI HBR HBT HBB HBD hsz hsz2 hone
    go_wp2_with fail
    --R2
    refine HC.out.mono ?_
    rintro e w5 ⟨rfl, hk, hq⟩
    have HKB := Lib.hid hk
    have HQ := Lib.hid hq
    have HZ5 := Lib.hid ((hk.block w.heap.size ⟨lt_of_row' HZ.out, Nat.ne_of_lt HPP.out.1⟩).trans HZ.out)
    have HB5 := Lib.hid (HB.out.trans (hk.below (fun k hk => ⟨Nat.lt_of_lt_of_le hk HB.out.size, by have := HPP.out.1; omega⟩)))
    clear hk hq HC HZ
    by_cases hfe : ¬ FE = 0
    · have e1 : (FE != 0) = true := by simpa using hfe
      --R3
      go_wp2_with (refine wpList_store_row rfl 50 (.tmp 2) (.tmp 25) rfl w.heap.size _ rfl rfl 50 (peC peZ) HZ5.out (by kernel_rfl) (peC_size _) (by kernel_rfl) ?_; rw [zero_pe])
      exact bodyPost_ret (v := .tuple #[.agg (peC peZ), .int .i64 FE]) (results_cell_tmp rfl _ _ w.heap.size 50 _ (0, 0) _ _ rfl rfl (setRow_heap _ _ _ _ _ _ HZ5.out) Tryz.underlying50 rfl (by rw [peC_size]; kernel_rfl)) rfl ⟨below_setRow HB5.out (Nat.le_refl _) _, .bad hfe⟩
    · have hfe : FE = 0 := Decidable.not_not.1 hfe
      subst hfe
      obtain ⟨y, hy⟩ := HQ.out rfl
      have HY := Lib.hid hy
      have hrg : w5.rangeAt P 0 ((List.range 50).map (peF y)) := fun j v hv => by
        have hj : j < 50 := by
          rcases Nat.lt_or_ge j 50 with hj | hj
          · exact hj
          · simp [hj] at hv
        simp [hj] at hv
        subst hv
        rw [Nat.zero_add, Own.cell hy.pe hj]
      have HRG := Lib.hid hrg
      clear hrg hy HQ
      --R4
      go_wp2_with (first
        | (refine wpList_load_mid rfl 50 (.tmp 6) rfl P 0 rfl ((List.range 50).map (peF y)) _ HRG.out Tryz.underlying50 rfl (by rw [List.length_map, List.length_range]; kernel_rfl) ?_)
        | (refine wpList_store_row rfl 50 (.tmp 2) (.tmp 27) rfl w.heap.size (peC y) rfl rfl 50 (peC peZ) HZ5.out (by rw [peC_size]; kernel_rfl) (by rw [peC_size, peC_size]) (peC_one y (by rw [HY.out.hd]; exact HHD.out.2) (by rw [HY.out.img]; rfl) HY.out.ones) ?_))
      --R5
      have hks : Kept (fun k => k ≠ w.heap.size) w5 (w5.setRow w.heap.size (peC y)) := Kept.setRow_ne w5 w.heap.size (peC y)
      have hpl := HPL.out
      have hgk : ∃ wb, HG wb cs ∧ wb.heap[w.heap.size]? = some (.cells (peC peZ) 50 (0, 0)) ∧ Kept (fun k => k < wb.heap.size ∧ k ≠ w.heap.size) wb (w5.setRow w.heap.size (peC y)) := by
        obtain ⟨wb, g1, g2, g3, g4⟩ := HGB.out
        have q1 : Kept (fun k => k < wb.heap.size ∧ k ≠ w.heap.size) wb wc := Kept.of_below g2 (fun k hk => hk.1)
        have q2 := q1.trans (HKB.out.mono (fun k hk => ⟨Nat.lt_of_lt_of_le hk.1 g2.size, by have := hk.1; omega⟩))
        exact ⟨wb, g1, g4, q2.trans (hks.mono (fun k hk => hk.2))⟩
      have hpp := HPP.out
      have ll : ∀ S : World → Prop, Lasts wc.heap.size S w5 → Lasts wc.heap.size S (w5.setRow w.heap.size (peC y)) := fun S h => h.wrote (by omega) hks
      exact bodyPost_ret (v := .tuple #[.agg (peC y), .int .i64 0]) (results_cell_tmp rfl _ _ w.heap.size 50 _ (0, 0) _ _ rfl rfl (setRow_heap _ _ _ _ _ _ HZ5.out) Tryz.underlying50 rfl (by rw [peC_size]; kernel_rfl)) rfl
        ⟨below_setRow HB5.out (Nat.le_refl _) _, .good rfl y cs gi wc.heap.size hgk (fun j hj => by rw [HY.out.hd]; exact HCS.out j hj) HY.out.img ((HO.out.of_block HKB.out.size (HKB.out.block gi ⟨HO.out.lt, hpp.2.2⟩)).setRow (by omega) _) HB.out.size (ll _ HY.out.e) (ll _ HY.out.i) (ll _ HY.out.r) (ll _ HY.out.t) (ll _ HY.out.b) (ll _ HY.out.d)⟩
end Go.Proofs.YtplgdpjbkdagfaaGreat
namespace Go.Proofs.YtplgdpjbkdagfaaGreat
open Go.ChangeShapes Go.WideShapes Go.ChangeAt Go.RowKit
set_option linter.unusedVariables false
set_option linter.unusedSimpArgs false
set_option maxRecDepth 100000

theorem inFar (A : Option Addr) (n cap k : Nat) (hn : n ≤ 262144) (hk : k ≤ 100) (W : World) : Calls Tryz.prog 113 #[.slice A n cap, .int .i64 1048576, .int .i64 k] W fun e w' => e = .returned (.bool false) ∧ W = w' :=
  rowIn_any A n cap 1048576 k false W (by omega) (by omega) (by omega) ⟨(fun h => by cases h), (fun h => by omega)⟩
theorem noughtsFar (A : Option Addr) (n cap k : Nat) (hn : n ≤ 262144) (hk : k ≤ 100) (w : World) : Calls Tryz.prog 118 #[.slice A n cap, .int .i64 1048576, .int .i64 k] w fun e w' => e = .returned (.bool false) ∧ w = w' := by
  have HIN := Lib.hid (fun W => inFar A n cap k hn hk W)
  go_enter Tryz.func118, Tryz.ntmps118
  go_wp2_with (first | (refine (HIN.out _).mono ?_; rintro e w' ⟨rfl, rfl⟩) | fail)
  go_ret
  exact ⟨rfl, rfl⟩
theorem relZ (A : Option Addr) (n cap : Nat) (sz : Int) (w : World) : Calls Tryz.prog 81 #[.slice A n cap, .agg #[.int .i64 0, .int .i64 sz]] w fun e u => e = .returned (.tuple #[.slice none 0 0, .int .i64 0]) ∧ Below w.heap.size w u := by
  have HB0 := Lib.hid ((Below.refl w.heap.size w).alloc (Nat.le_refl _) (.cells #[.int .i64 0, .int .i64 sz] 37))
  go_enter Tryz.func81, Tryz.ntmps81
  go_wp2_with fail
  go_ret2
  exact ⟨rfl, HB0.out⟩
theorem bndZ (A : Option Addr) (n cap : Nat) (sz : Int) (w : World) : Calls Tryz.prog 83 #[.slice A n cap, .agg #[.int .i64 0, .int .i64 sz]] w fun e u => e = .returned (.tuple #[.slice none 0 0, .int .i64 0]) ∧ Below w.heap.size w u := by
  have HB0 := Lib.hid ((Below.refl w.heap.size w).alloc (Nat.le_refl _) (.cells #[.int .i64 0, .int .i64 sz] 37))
  go_enter Tryz.func83, Tryz.ntmps83
  go_wp2_with fail
  go_ret2
  exact ⟨rfl, HB0.out⟩
--P1
theorem expZ (A : Option Addr) (n cap : Nat) (sz : Int) (w : World) : Calls Tryz.prog 79 #[.slice A n cap, .agg #[.int .i64 0, .int .i64 sz]] w fun e w' => e = .returned (.tuple #[.agg #[.int .i64 0, .slice none 0 0, .slice none 0 0], .int .i64 0]) ∧ Below w.heap.size w w' := by
  have HB0 := Lib.hid (((Below.refl w.heap.size w).alloc (Nat.le_refl _) (.cells #[.int .i64 0, .int .i64 sz] 37)).alloc (by simp) (.cells #[.int .i64 0, .slice none 0 0, .slice none 0 0] 45))
  have HZ0 := Lib.hid (heap_alloc_new (w.alloc (.cells #[.int .i64 0, .int .i64 sz] 37)) (.cells #[.int .i64 0, .slice none 0 0, .slice none 0 0] 45))
  have HZS := Lib.hid (show (w.alloc (.cells #[.int .i64 0, .int .i64 sz] 37)).heap.size = w.heap.size + 1 by simp)
  rw [HZS.out] at HZ0
  go_enter Tryz.func79, Tryz.ntmps79
  go_wp2_with (refine wpList_store_row rfl 45 _ _ rfl (w.heap.size + 1) #[.int .i64 0, .slice none 0 0, .slice none 0 0] rfl rfl 45 _ HZ0.out rfl rfl (by simp [Value.oneCell']) ?_)
  exact bodyPost_ret (v := .tuple #[.agg #[.int .i64 0, .slice none 0 0, .slice none 0 0], .int .i64 0]) (results_cell_tmp rfl _ _ (w.heap.size + 1) 45 _ (0, 0) _ _ rfl rfl (setRow_heap _ _ _ _ _ _ HZ0.out) rfl rfl rfl) rfl ⟨rfl, below_setRow HB0.out (by omega) _⟩
theorem tlsZ (A : Option Addr) (n cap : Nat) (sz : Int) (b : Int) (w : World) : Calls Tryz.prog 82 #[.slice A n cap, .agg #[.int .i64 0, .int .i64 sz], .int .u64 b] w fun e w' => e = .returned (.tuple #[.agg #[.bool false, .int .i64 0, .slice none 0 0], .int .i64 0]) ∧ Below w.heap.size w w' := by
  have HB0 := Lib.hid (((Below.refl w.heap.size w).alloc (Nat.le_refl _) (.cells #[.int .i64 0, .int .i64 sz] 37)).alloc (by simp) (.cells #[.bool false, .int .i64 0, .slice none 0 0] 48))
  have HZ0 := Lib.hid (heap_alloc_new (w.alloc (.cells #[.int .i64 0, .int .i64 sz] 37)) (.cells #[.bool false, .int .i64 0, .slice none 0 0] 48))
  have HZS := Lib.hid (show (w.alloc (.cells #[.int .i64 0, .int .i64 sz] 37)).heap.size = w.heap.size + 1 by simp)
  rw [HZS.out] at HZ0
  go_enter Tryz.func82, Tryz.ntmps82
  go_wp2_with (refine wpList_store_row rfl 48 _ _ rfl (w.heap.size + 1) #[.bool false, .int .i64 0, .slice none 0 0] rfl rfl 48 _ HZ0.out rfl rfl (by simp [Value.oneCell']) ?_)
  exact bodyPost_ret (v := .tuple #[.agg #[.bool false, .int .i64 0, .slice none 0 0], .int .i64 0]) (results_cell_tmp rfl _ _ (w.heap.size + 1) 48 _ (0, 0) _ _ rfl rfl (setRow_heap _ _ _ _ _ _ HZ0.out) rfl rfl rfl) rfl ⟨rfl, below_setRow HB0.out (by omega) _⟩
--P2
theorem relF (A : Option Addr) (n cap : Nat) (hn : n ≤ 262144) (w : World) : Calls Tryz.prog 81 #[.slice A n cap, .agg #[.int .i64 1048576, .int .i64 64]] w fun e u => e = .returned (.tuple #[.slice none 0 0, .int .i64 9]) ∧ Below w.heap.size w u := by
  have HB0 := Lib.hid ((Below.refl w.heap.size w).alloc (Nat.le_refl _) (.cells #[.int .i64 1048576, .int .i64 64] 37))
  have HIN := Lib.hid (fun W => inFar A n cap 64 hn (by omega) W)
  go_enter Tryz.func81, Tryz.ntmps81
  go_wp2_with (first | (refine (HIN.out _).mono ?_; rintro e w' ⟨rfl, rfl⟩) | fail)
  go_ret2
  exact ⟨rfl, HB0.out⟩
--P3
set_option maxHeartbeats 2000000 in
theorem bndF (A : Option Addr) (n cap : Nat) (hn : n ≤ 262144) (w : World) : Calls Tryz.prog 83 #[.slice A n cap, .agg #[.int .i64 1048576, .int .i64 64]] w fun e u => e = .returned (.tuple #[.slice none 0 0, .int .i64 8]) ∧ Below w.heap.size w u := by
  have hb1 : Below w.heap.size w ((w.alloc (.cells #[.int .i64 1048576, .int .i64 64] 37)).alloc (.cells #[] 80)) := ((Below.refl w.heap.size w).alloc (Nat.le_refl _) _).alloc (by simp) _
  have HB1 := Lib.hid hb1
  have HIN := Lib.hid (fun W => inFar A n cap 8 hn (by omega) W)
  have HNO := Lib.hid (fun W => noughtsFar A n cap 8 hn (by omega) W)
  clear hb1
  go_enter Tryz.func83, Tryz.ntmps83
  go_wp2_with fail
  generalize (w.alloc (.cells #[.int .i64 1048576, .int .i64 64] 37)).alloc (.cells #[] 80) = w1 at *
  go_loopw [7, 8] (fun v7 v8 wr => v8 = .int .i64 1048576 ∧ v7 = .int .i64 0 ∧ Below w.heap.size w wr) (fun _ v8 _ => 0)
  case atStart => exact ⟨rfl, rfl, HB1.out⟩
  case round =>
    obtain ⟨rfl, rfl, hb⟩ := hrel
    have HB := Lib.hid hb
    clear hb
    go_wp2_with (first | (refine (HIN.out _).mono ?_; rintro e w' ⟨rfl, rfl⟩) | (refine (HNO.out _).mono ?_; rintro e w' ⟨rfl, rfl⟩) | fail)
    go_ret2
    exact ⟨rfl, HB.out⟩
--P4im
set_option maxHeartbeats 2000000 in
theorem imp (A : Option Addr) (n cap : Nat) (hn : n ≤ 262144) (w : World) : Calls Tryz.prog 111 #[.slice A n cap, .agg #[.int .i64 1048576, .int .i64 64], .int .i64 20, .func (.func 112) #[] #[]] w fun e u => e = .returned (.tuple #[.slice none 0 0, .int .i64 10]) ∧ Below w.heap.size w u := by
  have hb1 : Below w.heap.size w ((w.alloc (.cells #[.int .i64 1048576, .int .i64 64] 37)).alloc (.cells #[] 78)) := ((Below.refl w.heap.size w).alloc (Nat.le_refl _) _).alloc (by simp) _
  have HB1 := Lib.hid hb1
  have HIN := Lib.hid (fun W => inFar A n cap 20 hn (by omega) W)
  have HNO := Lib.hid (fun W => noughtsFar A n cap 20 hn (by omega) W)
  clear hb1
  go_enter Tryz.func111, Tryz.ntmps111
  go_wp2_with fail
  generalize (w.alloc (.cells #[.int .i64 1048576, .int .i64 64] 37)).alloc (.cells #[] 78) = w1 at *
  go_loopw [11] (fun v11 wr => v11 = .int .i64 1048576 ∧ Below w.heap.size w wr) (fun _ _ => 0)
  case atStart => exact ⟨rfl, HB1.out⟩
  case round =>
    obtain ⟨rfl, hb⟩ := hrel
    have HB := Lib.hid hb
    clear hb
    go_wp2_with (first | (refine (HIN.out _).mono ?_; rintro e w' ⟨rfl, rfl⟩) | (refine (HNO.out _).mono ?_; rintro e w' ⟨rfl, rfl⟩) | fail)
    go_ret2
    exact ⟨rfl, HB.out⟩
theorem imzp (A : Option Addr) (n cap : Nat) (sz : Int) (w : World) : Calls Tryz.prog 111 #[.slice A n cap, .agg #[.int .i64 0, .int .i64 sz], .int .i64 20, .func (.func 112) #[] #[]] w fun e u => e = .returned (.tuple #[.slice none 0 0, .int .i64 0]) ∧ Below w.heap.size w u := by
  have HB0 := Lib.hid ((Below.refl w.heap.size w).alloc (Nat.le_refl _) (.cells #[.int .i64 0, .int .i64 sz] 37))
  go_enter Tryz.func111, Tryz.ntmps111
  go_wp2_with fail
  go_ret2
  exact ⟨rfl, HB0.out⟩
theorem imF (A : Option Addr) (n cap : Nat) (hn : n ≤ 262144) (w : World) : Calls Tryz.prog 80 #[.slice A n cap, .agg #[.int .i64 1048576, .int .i64 64]] w fun e u => e = .returned (.tuple #[.slice none 0 0, .int .i64 10]) ∧ Below w.heap.size w u := by
  have HB0 := Lib.hid ((Below.refl w.heap.size w).alloc (Nat.le_refl _) (.cells #[.int .i64 1048576, .int .i64 64] 37))
  have HP := Lib.hid (fun W => imp A n cap hn W)
  go_enter Tryz.func80, Tryz.ntmps80
  go_wp2_with fail
  refine (HP.out _).mono ?_
  rintro e w2 ⟨rfl, hb⟩
  have HB2 := Lib.hid (HB0.out.trans (hb.mono HB0.out.size))
  clear hb
  go_wp2_with fail
  go_ret2
  exact ⟨rfl, HB2.out⟩
theorem imZ (A : Option Addr) (n cap : Nat) (sz : Int) (w : World) : Calls Tryz.prog 80 #[.slice A n cap, .agg #[.int .i64 0, .int .i64 sz]] w fun e u => e = .returned (.tuple #[.slice none 0 0, .int .i64 0]) ∧ Below w.heap.size w u := by
  have HB0 := Lib.hid ((Below.refl w.heap.size w).alloc (Nat.le_refl _) (.cells #[.int .i64 0, .int .i64 sz] 37))
  have HP := Lib.hid (fun W => imzp A n cap sz W)
  go_enter Tryz.func80, Tryz.ntmps80
  go_wp2_with fail
  refine (HP.out _).mono ?_
  rintro e w2 ⟨rfl, hb⟩
  have HB2 := Lib.hid (HB0.out.trans (hb.mono HB0.out.size))
  clear hb
  go_wp2_with fail
  go_ret2
  exact ⟨rfl, HB2.out⟩
--P4de
set_option maxHeartbeats 2000000 in
theorem dep (A : Option Addr) (n cap : Nat) (hn : n ≤ 262144) (w : World) : Calls Tryz.prog 111 #[.slice A n cap, .agg #[.int .i64 1048576, .int .i64 64], .int .i64 32, .func (.func 120) #[] #[]] w fun e u => e = .returned (.tuple #[.slice none 0 0, .int .i64 10]) ∧ Below w.heap.size w u := by
  have hb1 : Below w.heap.size w ((w.alloc (.cells #[.int .i64 1048576, .int .i64 64] 37)).alloc (.cells #[] 78)) := ((Below.refl w.heap.size w).alloc (Nat.le_refl _) _).alloc (by simp) _
  have HB1 := Lib.hid hb1
  have HIN := Lib.hid (fun W => inFar A n cap 32 hn (by omega) W)
  have HNO := Lib.hid (fun W => noughtsFar A n cap 32 hn (by omega) W)
  clear hb1
  go_enter Tryz.func111, Tryz.ntmps111
  go_wp2_with fail
  generalize (w.alloc (.cells #[.int .i64 1048576, .int .i64 64] 37)).alloc (.cells #[] 78) = w1 at *
  go_loopw [11] (fun v11 wr => v11 = .int .i64 1048576 ∧ Below w.heap.size w wr) (fun _ _ => 0)
  case atStart => exact ⟨rfl, HB1.out⟩
  case round =>
    obtain ⟨rfl, hb⟩ := hrel
    have HB := Lib.hid hb
    clear hb
    go_wp2_with (first | (refine (HIN.out _).mono ?_; rintro e w' ⟨rfl, rfl⟩) | (refine (HNO.out _).mono ?_; rintro e w' ⟨rfl, rfl⟩) | fail)
    go_ret2
    exact ⟨rfl, HB.out⟩
theorem dezp (A : Option Addr) (n cap : Nat) (sz : Int) (w : World) : Calls Tryz.prog 111 #[.slice A n cap, .agg #[.int .i64 0, .int .i64 sz], .int .i64 32, .func (.func 120) #[] #[]] w fun e u => e = .returned (.tuple #[.slice none 0 0, .int .i64 0]) ∧ Below w.heap.size w u := by
  have HB0 := Lib.hid ((Below.refl w.heap.size w).alloc (Nat.le_refl _) (.cells #[.int .i64 0, .int .i64 sz] 37))
  go_enter Tryz.func111, Tryz.ntmps111
  go_wp2_with fail
  go_ret2
  exact ⟨rfl, HB0.out⟩
theorem deF (A : Option Addr) (n cap : Nat) (hn : n ≤ 262144) (w : World) : Calls Tryz.prog 84 #[.slice A n cap, .agg #[.int .i64 1048576, .int .i64 64]] w fun e u => e = .returned (.tuple #[.slice none 0 0, .int .i64 10]) ∧ Below w.heap.size w u := by
  have HB0 := Lib.hid ((Below.refl w.heap.size w).alloc (Nat.le_refl _) (.cells #[.int .i64 1048576, .int .i64 64] 37))
  have HP := Lib.hid (fun W => dep A n cap hn W)
  go_enter Tryz.func84, Tryz.ntmps84
  go_wp2_with fail
  refine (HP.out _).mono ?_
  rintro e w2 ⟨rfl, hb⟩
  have HB2 := Lib.hid (HB0.out.trans (hb.mono HB0.out.size))
  clear hb
  go_wp2_with fail
  go_ret2
  exact ⟨rfl, HB2.out⟩
theorem deZ (A : Option Addr) (n cap : Nat) (sz : Int) (w : World) : Calls Tryz.prog 84 #[.slice A n cap, .agg #[.int .i64 0, .int .i64 sz]] w fun e u => e = .returned (.tuple #[.slice none 0 0, .int .i64 0]) ∧ Below w.heap.size w u := by
  have HB0 := Lib.hid ((Below.refl w.heap.size w).alloc (Nat.le_refl _) (.cells #[.int .i64 0, .int .i64 sz] 37))
  have HP := Lib.hid (fun W => dezp A n cap sz W)
  go_enter Tryz.func84, Tryz.ntmps84
  go_wp2_with fail
  refine (HP.out _).mono ?_
  rintro e w2 ⟨rfl, hb⟩
  have HB2 := Lib.hid (HB0.out.trans (hb.mono HB0.out.size))
  clear hb
  go_wp2_with fail
  go_ret2
  exact ⟨rfl, HB2.out⟩
theorem tlsF (A : Option Addr) (n cap : Nat) (hn : n ≤ 262144) (b : Int) (w : World) : Calls Tryz.prog 82 #[.slice A n cap, .agg #[.int .i64 1048576, .int .i64 64], .int .u64 b] w fun e w' => e = .returned (.tuple #[.agg #[.bool false, .int .i64 0, .slice none 0 0], .int .i64 12]) ∧ Below w.heap.size w w' := by
  have HB0 := Lib.hid (((Below.refl w.heap.size w).alloc (Nat.le_refl _) (.cells #[.int .i64 1048576, .int .i64 64] 37)).alloc (by simp) (.cells #[.bool false, .int .i64 0, .slice none 0 0] 48))
  have HZ0 := Lib.hid (heap_alloc_new (w.alloc (.cells #[.int .i64 1048576, .int .i64 64] 37)) (.cells #[.bool false, .int .i64 0, .slice none 0 0] 48))
  have HZS := Lib.hid (show (w.alloc (.cells #[.int .i64 1048576, .int .i64 64] 37)).heap.size = w.heap.size + 1 by simp)
  rw [HZS.out] at HZ0
  have HIN := Lib.hid (fun W => inFar A n cap 40 hn (by omega) W)
  go_enter Tryz.func82, Tryz.ntmps82
  go_wp2_with (first | (refine (HIN.out _).mono ?_; rintro e w' ⟨rfl, rfl⟩) | (refine wpList_store_row rfl 48 _ _ rfl (w.heap.size + 1) #[.bool false, .int .i64 0, .slice none 0 0] rfl rfl 48 _ HZ0.out rfl rfl (by simp [Value.oneCell']) ?_))
  exact bodyPost_ret (v := .tuple #[.agg #[.bool false, .int .i64 0, .slice none 0 0], .int .i64 12]) (results_cell_tmp rfl _ _ (w.heap.size + 1) 48 _ (0, 0) _ _ rfl rfl (setRow_heap _ _ _ _ _ _ HZ0.out) rfl rfl rfl) rfl ⟨rfl, below_setRow HB0.out (by omega) _⟩
--P5
theorem findF (A : Option Addr) (n cap : Nat) (hn : n ≤ 262144) (w : World) : Calls Tryz.prog 108 #[.slice A n cap, .agg #[.int .i64 1048576, .int .i64 64]] w fun e w' => e = .returned (.tuple #[.agg #[.int .i64 0, .int .i64 0, .int .i64 0, .int .i64 0, .int .i64 0, .int .i64 0], .bool false]) ∧ Below w.heap.size w w' := by
  have HB0 := Lib.hid (((Below.refl w.heap.size w).alloc (Nat.le_refl _) (.cells #[.int .i64 1048576, .int .i64 64] 37)).alloc (by simp) (.cells #[.int .i64 0, .int .i64 0, .int .i64 0, .int .i64 0, .int .i64 0, .int .i64 0] 187))
  have HZ0 := Lib.hid (heap_alloc_new (w.alloc (.cells #[.int .i64 1048576, .int .i64 64] 37)) (.cells #[.int .i64 0, .int .i64 0, .int .i64 0, .int .i64 0, .int .i64 0, .int .i64 0] 187))
  have HZS := Lib.hid (show (w.alloc (.cells #[.int .i64 1048576, .int .i64 64] 37)).heap.size = w.heap.size + 1 by simp)
  rw [HZS.out] at HZ0
  have HIN := Lib.hid (fun W => inFar A n cap 64 hn (by omega) W)
  go_enter Tryz.func108, Tryz.ntmps108
  go_wp2_with (first | (refine (HIN.out _).mono ?_; rintro e w' ⟨rfl, rfl⟩) | (refine wpList_store_row rfl 187 _ _ rfl (w.heap.size + 1) #[.int .i64 0, .int .i64 0, .int .i64 0, .int .i64 0, .int .i64 0, .int .i64 0] rfl rfl 187 _ HZ0.out rfl rfl (by simp [Value.oneCell']) ?_))
  exact bodyPost_ret (v := .tuple #[.agg #[.int .i64 0, .int .i64 0, .int .i64 0, .int .i64 0, .int .i64 0, .int .i64 0], .bool false]) (results_cell_tmp rfl _ _ (w.heap.size + 1) 187 _ (0, 0) _ _ rfl rfl (setRow_heap _ _ _ _ _ _ HZ0.out) rfl rfl rfl) rfl ⟨rfl, below_setRow HB0.out (by omega) _⟩
--P6
theorem expF (A : Option Addr) (n cap : Nat) (hn : n ≤ 262144) (w : World) : Calls Tryz.prog 79 #[.slice A n cap, .agg #[.int .i64 1048576, .int .i64 64]] w fun e w' => e = .returned (.tuple #[.agg #[.int .i64 0, .slice none 0 0, .slice none 0 0], .int .i64 11]) ∧ Below w.heap.size w w' := by
  have HB0 := Lib.hid (((Below.refl w.heap.size w).alloc (Nat.le_refl _) (.cells #[.int .i64 1048576, .int .i64 64] 37)).alloc (by simp) (.cells #[.int .i64 0, .slice none 0 0, .slice none 0 0] 45))
  have HZ0 := Lib.hid (heap_alloc_new (w.alloc (.cells #[.int .i64 1048576, .int .i64 64] 37)) (.cells #[.int .i64 0, .slice none 0 0, .slice none 0 0] 45))
  have HZS := Lib.hid (show (w.alloc (.cells #[.int .i64 1048576, .int .i64 64] 37)).heap.size = w.heap.size + 1 by simp)
  rw [HZS.out] at HZ0
  have HF := Lib.hid (fun W => findF A n cap hn W)
  go_enter Tryz.func79, Tryz.ntmps79
  go_wp2_with fail
  generalize (w.alloc (.cells #[.int .i64 1048576, .int .i64 64] 37)).alloc (.cells #[.int .i64 0, .slice none 0 0, .slice none 0 0] 45) = w1 at *
  refine (HF.out _).mono ?_
  rintro e w2 ⟨rfl, hb⟩
  have hlt : w.heap.size + 1 < w1.heap.size := (Array.getElem?_eq_some_iff.1 HZ0.out).1
  have HZ2 := Lib.hid ((hb.block (w.heap.size + 1) hlt).trans HZ0.out)
  have HB2 := Lib.hid (HB0.out.trans (hb.mono HB0.out.size))
  have HL2 := Lib.hid (show w.heap.size + 1 < w2.heap.size by have := hb.size; omega)
  clear hb hlt HB0 HZ0
  have HZ3 := Lib.hid (show ((w2.alloc (.cells #[.int .i64 0, .int .i64 0, .int .i64 0, .int .i64 0, .int .i64 0, .int .i64 0] 187)).setRow w2.heap.size #[.int .i64 0, .int .i64 0, .int .i64 0, .int .i64 0, .int .i64 0, .int .i64 0]).heap[w.heap.size + 1]? = some (.cells #[.int .i64 0, .slice none 0 0, .slice none 0 0] 45 (0, 0)) from (setRow_other _ w2.heap.size (w.heap.size + 1) _ (by have := HL2.out; omega)).trans ((((Below.refl w2.heap.size w2).alloc (Nat.le_refl _) _).block _ HL2.out).trans HZ2.out))
  have HB3 := Lib.hid (show Below w.heap.size w ((w2.alloc (.cells #[.int .i64 0, .int .i64 0, .int .i64 0, .int .i64 0, .int .i64 0, .int .i64 0] 187)).setRow w2.heap.size #[.int .i64 0, .int .i64 0, .int .i64 0, .int .i64 0, .int .i64 0, .int .i64 0]) from below_setRow (HB2.out.alloc HB2.out.size _) HB2.out.size _)
  clear HZ2 HB2
  --P7
  go_wp2_with (first
    | (refine wpList_store_row rfl 187 (.tmp 6) (.tmp 18) rfl w2.heap.size #[.int .i64 0, .int .i64 0, .int .i64 0, .int .i64 0, .int .i64 0, .int .i64 0] rfl rfl 187 #[.int .i64 0, .int .i64 0, .int .i64 0, .int .i64 0, .int .i64 0, .int .i64 0] (heap_alloc_new _ _) rfl rfl (by simp [Value.oneCell']) ?_; generalize ((w2.alloc (.cells #[.int .i64 0, .int .i64 0, .int .i64 0, .int .i64 0, .int .i64 0, .int .i64 0] 187)).setRow w2.heap.size #[.int .i64 0, .int .i64 0, .int .i64 0, .int .i64 0, .int .i64 0, .int .i64 0]) = w3 at *)
    | (refine wpList_store_row rfl 45 (.tmp 4) (.tmp 22) rfl (w.heap.size + 1) #[.int .i64 0, .slice none 0 0, .slice none 0 0] rfl rfl 45 _ HZ3.out rfl rfl (by simp [Value.oneCell']) ?_))
  exact bodyPost_ret (v := .tuple #[.agg #[.int .i64 0, .slice none 0 0, .slice none 0 0], .int .i64 11]) (results_cell_tmp rfl _ _ (w.heap.size + 1) 45 _ (0, 0) _ _ rfl rfl (setRow_heap _ _ _ _ _ _ HZ3.out) rfl rfl rfl) rfl ⟨rfl, below_setRow HB3.out (by omega) _⟩
--PE
end Go.Proofs.YtplgdpjbkdagfaaGreat
namespace Go.Proofs.YtplgdpjbkdagfaaGreat
open Go.ChangeShapes Go.WideShapes Go.ChangeAt Go.RowKit
set_option linter.unusedVariables false
set_option linter.unusedSimpArgs false
set_option maxRecDepth 100000

/-- A directory that is none, or one that lies far beyond. -/
def rvB (b : Bool) : Int := if b then 1048576 else 0
def szB (b : Bool) : Int := if b then 64 else 0
def erB (b : Bool) (e : Int) : Int := if b then e else 0
def noRowS (_ : Nat) (v : Value) (_ : World) : Prop := v = .slice none 0 0
def noExpS (_ : Nat) (a b c : Value) (_ : World) : Prop := a = .int .i64 0 ∧ b = .slice none 0 0 ∧ c = .slice none 0 0
def noTlsS (_ : Nat) (a b c : Value) (_ : World) : Prop := a = .bool false ∧ b = .int .i64 0 ∧ c = .slice none 0 0

theorem read1_of {w : World} {N : Nat} {IM : Nat → Int} {fn : Nat} (er : Int) (b : Bool)
    (hz : ∀ (A : Option Addr) (n cap : Nat) (sz : Int) (w : World), Calls Tryz.prog fn #[.slice A n cap, .agg #[.int .i64 0, .int .i64 sz]] w fun e u => e = .returned (.tuple #[.slice none 0 0, .int .i64 0]) ∧ Below w.heap.size w u)
    (hf : ∀ (A : Option Addr) (n cap : Nat) (hn : n ≤ 262144) (w : World), Calls Tryz.prog fn #[.slice A n cap, .agg #[.int .i64 1048576, .int .i64 64]] w fun e u => e = .returned (.tuple #[.slice none 0 0, .int .i64 er]) ∧ Below w.heap.size w u)
    (hN : N ≤ 262144) : ReadE1 w N IM fn [.agg #[.int .i64 (rvB b), .int .i64 (szB b)]] (erB b er) noRowS := fun W gi P ho hb hp hn W2 hk hs => by
  cases b with
  | false => exact (hz _ N N _ W2).mono (by rintro e u ⟨rfl, hb⟩; exact ⟨_, rfl, rfl, hb, Lasts.const (fun _ => rfl)⟩)
  | true => exact (hf _ N N hN W2).mono (by rintro e u ⟨rfl, hb⟩; exact ⟨_, rfl, rfl, hb, Lasts.const (fun _ => rfl)⟩)
theorem readE {w : World} {N : Nat} {IM : Nat → Int} (hN : N ≤ 262144) (b : Bool) : ReadE3 w N IM 79 [.agg #[.int .i64 (rvB b), .int .i64 (szB b)]] (erB b 11) noExpS := fun W gi P ho hb hp hn W2 hk hs => by
  cases b with
  | false => exact (expZ _ N N _ W2).mono (by rintro e u ⟨rfl, hb⟩; exact ⟨_, _, _, rfl, ⟨rfl, rfl, rfl⟩, hb, Lasts.const (fun _ => ⟨rfl, rfl, rfl⟩)⟩)
  | true => exact (expF _ N N hN W2).mono (by rintro e u ⟨rfl, hb⟩; exact ⟨_, _, _, rfl, ⟨rfl, rfl, rfl⟩, hb, Lasts.const (fun _ => ⟨rfl, rfl, rfl⟩)⟩)
theorem readT {w : World} {N : Nat} {IM : Nat → Int} (hN : N ≤ 262144) (b : Bool) (base : Int) : ReadE3 w N IM 82 [.agg #[.int .i64 (rvB b), .int .i64 (szB b)], .int .u64 base] (erB b 12) noTlsS := fun W gi P ho hb hp hn W2 hk hs => by
  cases b with
  | false => exact (tlsZ _ N N _ base W2).mono (by rintro e u ⟨rfl, hb⟩; exact ⟨_, _, _, rfl, ⟨rfl, rfl, rfl⟩, hb, Lasts.const (fun _ => ⟨rfl, rfl, rfl⟩)⟩)
  | true => exact (tlsF _ N N hN base W2).mono (by rintro e u ⟨rfl, hb⟩; exact ⟨_, _, _, rfl, ⟨rfl, rfl, rfl⟩, hb, Lasts.const (fun _ => ⟨rfl, rfl, rfl⟩)⟩)

theorem headE_is {n : Nat} {f : Nat → Int} (hE : headE n f = 0) : alignS f (headP n f) (readS f (headP n f)).base (readS f (headP n f)).size ∧ headersP n (headP n f) (readS f (headP n f)).headers (rdF f (headP n f + 6) 2) := by
  unfold headE at hE
  by_cases h0 : (beginS n f).2 ≠ 0
  · rw [if_pos h0] at hE; exact absurd hE h0
  rw [if_neg h0] at hE
  by_cases h1 : optS f (beginS n f).1.toNat ≠ 0
  · rw [if_pos h1] at hE; exact absurd hE h1
  rw [if_neg h1] at hE
  by_cases h2 : ¬ alignS f (beginS n f).1.toNat (readS f (beginS n f).1.toNat).base (readS f (beginS n f).1.toNat).size
  · rw [if_pos h2] at hE; exact absurd hE (by decide)
  rw [if_neg h2] at hE
  by_cases h3 : ¬ headersP n (beginS n f).1.toNat (readS f (beginS n f).1.toNat).headers (rdF f ((beginS n f).1.toNat + 6) 2)
  · rw [if_pos h3] at hE; exact absurd hE (by decide)
  exact ⟨Classical.not_not.1 h2, Classical.not_not.1 h3⟩

/-- A head that lies in a world. -/
def HeadG (n : Nat) (f : Nat → Int) (W : World) (cs : Array Value) : Prop := ∃ g, HeadL W cs (readS f (headP n f)) g (headK n f) (sectsS f (headP n f + 264) (headK n f))
theorem headK_any (b off n cap : Nat) (f : Nat → Int) (w : World) (h : RowB w b off n cap f) (hE : headE n f = 0) (N hd : Nat) (hN : (readS f (headP n f)).size = N) (hhd : (readS f (headP n f)).headers = hd) :
    N ≤ 262144 ∧ HeadK w (.slice (some ⟨b, off, none⟩) n cap) N (imgF N f n hd (sectsS f (headP n f + 264) (headK n f))) (HeadG n f) (fun i => ((readS f (headP n f)).dirs i).1) (fun i => ((readS f (headP n f)).dirs i).2) (readS f (headP n f)).base := by
  obtain ⟨h1, h2⟩ := headE_is hE
  have hN2 : N ≤ 262144 := by have := h1.2.2.2.2.2.2.2; omega
  have hlen : (sectsS f (headP n f + 264) (headK n f)).length = headK n f := by simp [sectsS]
  have hK16 : headK n f ≤ 16 := by
    have a := h2.1; have b := h2.2.1
    unfold headK
    omega
  refine ⟨hN2, ?_, ?_, ?_, ?_, ?_, ?_⟩
  · intro W hb
    refine (hparse_any b off n cap f W (h.below hb)).mono ?_
    rintro e u ⟨⟨v, rfl, cs, hv, hr⟩, hb2⟩
    rw [hE] at hv
    subst hv
    refine ⟨⟨cs, rfl, ?_⟩, hb2⟩
    rcases hr with ⟨hx, _⟩ | ⟨_, g, k2, k3, k4⟩
    · exact absurd hE hx
    · refine ⟨g, by rw [hlen]; exact k2, k3, k4, ?_, by rw [hlen]; exact hK16, by rw [hhd]; omega, by rw [hhd]; have := h2.2.2.2.1; omega⟩
      intro s hs
      simp only [sectsS, List.mem_map] at hs
      obtain ⟨j, _, rfl⟩ := hs
      exact sectS_bd h.by255 _
  · rintro u cs ⟨g, x⟩
    exact ⟨x.hv.size, x.hv.one rfl⟩
  · rintro u u' cs ⟨g, x⟩ hb
    exact ⟨g, x.below hb⟩
  · rintro W cs hb ⟨g, x⟩
    exact lays_any cs _ g _ _ b off n cap f N hd W x (h.below hb) hN hN2 hhd
  · rintro u cs ⟨g, x⟩ i hi
    exact ⟨x.hv.dir0 i hi, x.hv.dir1 i hi⟩
  · rintro u cs ⟨g, x⟩
    exact x.hv.c0

/-- pe.Parse of an image whose six directories are none, or lie far beyond it. -/
theorem peparse_few (b off n cap : Nat) (f : Nat → Int) (w : World) (h : RowB w b off n cap f) (hE : headE n f = 0) (N hd : Nat) (hN : (readS f (headP n f)).size = N) (hhd : (readS f (headP n f)).headers = hd)
    (S : Nat → Bool) (hS : ∀ i, i < 16 → i ∈ [0, 1, 5, 9, 11, 13] → (readS f (headP n f)).dirs i = (rvB (S i), szB (S i))) :
    Calls Tryz.prog 11 #[.slice (some ⟨b, off, none⟩) n cap] w fun x u => Below w.heap.size w u ∧ PeTold w N (imgF N f n hd (sectsS f (headP n f + 264) (headK n f))) (HeadG n f) (firstE (erB (S 0) 11) (erB (S 1) 10) (erB (S 5) 9) (erB (S 9) 12) (erB (S 11) 8) (erB (S 13) 10)) noExpS noRowS noRowS noTlsS noRowS noRowS x u := by
  obtain ⟨hN2, hk⟩ := headK_any b off n cap f w h hE N hd hN hhd
  refine peparse_head _ N _ _ _ _ _ w hk _ _ _ _ _ _ _ _ _ _ _ _ ?_ ?_ ?_ ?_ ?_ ?_
  · simp only [hS 0 (by omega) (by decide)]; exact readE hN2 _
  · simp only [hS 1 (by omega) (by decide)]; exact read1_of 10 _ imZ imF hN2
  · simp only [hS 5 (by omega) (by decide)]; exact read1_of 9 _ relZ relF hN2
  · simp only [hS 9 (by omega) (by decide)]; exact readT hN2 _ _
  · simp only [hS 11 (by omega) (by decide)]; exact read1_of 8 _ bndZ bndF hN2
  · simp only [hS 13 (by omega) (by decide)]; exact read1_of 10 _ deZ deF hN2
end Go.Proofs.YtplgdpjbkdagfaaGreat
