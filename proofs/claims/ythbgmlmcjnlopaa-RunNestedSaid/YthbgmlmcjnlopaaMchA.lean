/- package cpu: what a machine is; a number is loaded. -/
import Derived.Test.YthbgmlmcjnlopaaMgB
import Derived.Test.YthbgmlmcjnlopaaBytes
import Derived.Test.YthbgmlmcjnlopaaNum
import Derived.Test.YthbgmlmcjnlopaaRegK
import Derived.Test.YthbgmlmcjnlopaaMask
import Derived.Deep.MidRow
import Derived.Deep.Draws
import Derived.Deep.Upon
namespace Go.Proofs.Ythbgmlmcjnlopaa
open Go.ChangeShapes Go.WideShapes Go.ChangeAt Go.RowKit
set_option linter.unusedVariables false
set_option linter.unusedSimpArgs false
set_option maxRecDepth 100000

/-- What an instruction may change. -/
structure StV where
  r : Nat → Int
  ip : Int
  z : Bool
  s : Bool
  c : Bool
  o : Bool
def stF (s : StV) (j : Nat) : Value := if j < 16 then .int .u64 (s.r j) else if j = 16 then .int .u64 s.ip else if j = 17 then .bool s.z else if j = 18 then .bool s.s else if j = 19 then .bool s.c else .bool s.o
def cpuF (M : Nat) (s : StV) (fk fa : Int) (j : Nat) : Value := if j = 0 then .pointer (some ⟨M, 0, none⟩) else if j < 22 then stF s (j - 1) else if j = 22 then .int .i64 fk else .int .u64 fa

/-- A memory as it can be. -/
structure MpOk (mp : Int → Option Pg) : Prop where
  prot : ∀ x g, mp x = some g → 0 ≤ g.prot ∧ g.prot ≤ 15
  low : ∀ x g, mp x = some g → 0 ≤ x ∧ x ≤ 140737488351232
  dat : ∀ x g, mp x = some g → ∀ j, 0 ≤ g.dat j ∧ g.dat j ≤ 255

theorem MpOk.addr {mp : Int → Option Pg} (h : MpOk mp) {a n : Int} (h0 : 0 ≤ a) (h1 : a < 18446744073709551616) (hn : n ≤ 65536) : a + n ≤ 9223372036854775807 ∨ (mp (a - a % 4096) = none ∧ a < 18446744073709551616) := by
  by_cases c : a + n ≤ 9223372036854775807
  · exact .inl c
  · refine .inr ⟨?_, h1⟩
    cases hm : mp (a - a % 4096) with
    | none => rfl
    | some g => have := h.low _ g hm; omega
theorem MpOk.addr_in {mp : Int → Option Pg} (h : MpOk mp) {a n : Int} {need kind : Int} {k : Nat} (h0 : 0 ≤ a) (h1 : a < 18446744073709551616) (hn : n ≤ 65536) (hn0 : 0 < n) (hk : 0 < k) (hf : (askS mp need kind k a n).1 = 0) : a + n ≤ 9223372036854775807 := by
  obtain ⟨k, rfl⟩ : ∃ j, k = j + 1 := ⟨k - 1, by omega⟩
  unfold askS at hf
  rw [if_neg (by omega)] at hf
  cases hm : mp (a - a % 4096) with
  | none => rw [hm] at hf; exact absurd hf (by simp)
  | some g => have := h.low _ g hm; omega
/-- The number of eight bytes at an address. -/
def numM (mp : Int → Option Pg) (a : Int) : Int := rdF (fun q => byteAt mp (a + q)) 0 8
theorem MpOk.bytes {mp : Int → Option Pg} (h : MpOk mp) (x : Int) : 0 ≤ byteAt mp x ∧ byteAt mp x ≤ 255 := by
  unfold byteAt
  cases hm : mp (x - x % 4096) with
  | none => exact ⟨by simp, by simp⟩
  | some g => exact h.dat _ g hm _
theorem MpOk.bytes255 {mp : Int → Option Pg} (h : MpOk mp) (a : Int) : Bytes255 (fun q => byteAt mp (a + q)) := fun q => h.bytes (a + q)
theorem numM_bd {mp : Int → Option Pg} (h : MpOk mp) (a : Int) : 0 ≤ numM mp a ∧ numM mp a < 18446744073709551616 := by
  have := rdF_bd _ (h.bytes255 a) 8 0
  unfold numM
  omega
theorem MemAt.sz {R : Nat → Prop} {w : World} {M m : Nat} {most : Int} {mp : Int → Option Pg} (h : MemAt R w M m most mp) : ∀ k, R k → k < w.heap.size := by
  obtain ⟨bm, f, S, _, _, _, h⟩ := h
  exact h
theorem MemAt.kept {R : Nat → Prop} {w w' : World} {M m : Nat} {most : Int} {mp : Int → Option Pg} (h : MemAt R w M m most mp) (hs : w.heap.size ≤ w'.heap.size) (hk : ∀ k, k < w.heap.size → ¬ R k → w'.heap[k]? = w.heap[k]?) : MemAt R w' M m most mp := by
  obtain ⟨bm, f, S, hRM, hRb, hRB, hR⟩ := h
  exact ⟨bm, f, ⟨(World.cell?_of_block (hk M S.mlt hRM)).trans S.c0, (World.cell?_of_block (hk M S.mlt hRM)).trans S.c1, Nat.lt_of_lt_of_le S.mlt hs, S.map.of_block (hk bm S.map.lt hRb), S.both, fun a B g h1 h2 => (S.page a B g h1 h2).of_block (hk B (S.page a B g h1 h2).1 (hRB a B h1)) hs, S.inj, S.nos, S.low, S.high, S.fits⟩, hRM, hRb, hRB, fun k hk => Nat.lt_of_lt_of_le (hR k hk) hs⟩

theorem cpu_mem {w : World} {C M : Nat} {s : StV} {fk fa : Int} (h : Own w C 24 (cpuF M s fk fa)) : w.cell? ⟨C, 0, none⟩ = some (.pointer (some ⟨M, 0, none⟩)) := h.cell (i := 0) (by omega)
theorem cpu_fault {w : World} {C M : Nat} {s : StV} {fk fa : Int} (h : Own w C 24 (cpuF M s fk fa)) (k a : Int) : Own ((w.setCell ⟨C, 22, none⟩ (.int .i64 k)).setCell ⟨C, 23, none⟩ (.int .u64 a)) C 24 (cpuF M s k a) := by
  refine ((h.set (i := 22) (by omega) (.int .i64 k)).set (i := 23) (by omega) (.int .u64 a)).congr fun j hj => ?_
  unfold cpuF
  by_cases e : j = 23
  · subst e; simp
  · by_cases e2 : j = 22
    · subst e2; simp
    · simp only [if_neg e, if_neg e2]
      by_cases e0 : j = 0
      · simp [e0]
      · rw [if_neg e0, if_neg e0, if_pos (by omega), if_pos (by omega)]

set_option maxHeartbeats 4000000 in
theorem load_no (R : Nat → Prop) (w : World) (C M m : Nat) (most : Int) (mp : Int → Option Pg) (s : StV) (fk fa at' : Int) (tov : Value) (HO : MpOk mp) (h0 : 0 ≤ at') (h1 : at' < 18446744073709551616) (hm : MemAt R w M m most mp) (hc : Own w C 24 (cpuF M s fk fa)) (hRC : R C) (hf : (askS mp 1 2 8 at' 8).1 ≠ 0) :
    Calls Try.prog 65 #[.pointer (some ⟨C, 0, none⟩), .int .u64 at', tov] w fun e w' =>
      e = .returned (.bool false) ∧ MemAt R w' M m most (askM mp (askS mp 1 2 8 at' 8)) ∧ Own w' C 24 (cpuF M s (askS mp 1 2 8 at' 8).1 (askS mp 1 2 8 at' 8).2.1) ∧ Kept (fun k => R k ∧ k ≠ C) w w' := by
  have HRD := Lib.hid (read_no R w M m most mp at' 8 8 h0 (HO.addr h0 h1 (by omega)) (by omega) (by omega) (by omega) HO.prot hf hm)
  have hcm := cpu_mem hc
  obtain ⟨r, hr⟩ : ∃ r, askS mp 1 2 8 at' 8 = r := ⟨_, rfl⟩
  obtain ⟨r1, r2, r3⟩ := r
  rw [hr] at hf HRD ⊢
  have HC := Lib.hid hc
  have HRC := Lib.hid hRC
  have HSZ := Lib.hid hm.sz
  have hb : (r1 == 0) = false := by simpa using hf
  clear hr hf hm hc hRC
  go_enter Try.func65, Try.ntmps65
  go_wp2_with fail
  refine HRD.out.mono ?_
  rintro e w1 ⟨rfl, hm1, hk1⟩
  have HM1 := Lib.hid hm1
  have HK1 := Lib.hid hk1
  have hc1 : Own w1 C 24 (cpuF M s fk fa) := hk1.own HC.out HRC.out
  have HC1 := Lib.hid hc1
  have c22 := hc1.cell (i := 22) (by omega)
  have c23 := hc1.cell (i := 23) (by omega)
  have f22 := hc1.frozen (i := 22) (by omega)
  have f23 := hc1.frozen (i := 23) (by omega)
  have hlt := hc1.1
  simp only [cpuF] at c22 c23
  clear hm1 hk1 hc1 HRD hcm
  go_wp2
  go_ret
  have hs := cpu_fault HC1.out r1 r2
  refine ⟨rfl, ?_, hs.alloc _, ?_⟩
  · exact ((HM1.out.setFar HRC.out _).setFar HRC.out _).below ((Below.refl _ _).alloc (Nat.le_refl _) _)
  · exact ((((HK1.out.mono (R' := fun k => R k ∧ k ≠ C) (fun k hk => hk.1)).setCell (fun h => h.2 rfl) _).setCell (fun h => h.2 rfl) _)).alloc (fun k hk => HSZ.out k hk.1) _

set_option maxHeartbeats 4000000 in
theorem load_yes (R : Nat → Prop) (w : World) (C M m : Nat) (most : Int) (mp : Int → Option Pg) (s : StV) (fk fa at' : Int) (B o : Nat) (old : Int) (HO : MpOk mp) (h0 : 0 ≤ at') (h1 : at' < 18446744073709551616) (hm : MemAt R w M m most mp) (hc : Own w C 24 (cpuF M s fk fa)) (hRC : R C) (hRB : R B)
    (hB : w.cell? ⟨B, o, none⟩ = some (.int .u64 old)) (hBz : w.frozen? ⟨B, o, none⟩ = false) (hf : (askS mp 1 2 8 at' 8).1 = 0) :
    Calls Try.prog 65 #[.pointer (some ⟨C, 0, none⟩), .int .u64 at', .pointer (some ⟨B, o, none⟩)] w fun e w' =>
      e = .returned (.bool true) ∧ ∃ w1, Kept R w w1 ∧ MemAt R w1 M m most mp ∧ w' = w1.setCell ⟨B, o, none⟩ (.int .u64 (numM mp at')) := by
  have HRD := Lib.hid (read_yes R w M m most mp at' 8 h0 (by have := HO.addr_in (need := 1) (kind := 2) (k := 8) h0 h1 (n := 8) (by omega) (by omega) (by omega) hf; omega) (by omega) HO.prot hf hm)
  have hcm := cpu_mem hc
  have HRB := Lib.hid hRB
  have HBC := Lib.hid (And.intro hB hBz)
  have HSZ := Lib.hid hm.sz
  have HBY := Lib.hid (HO.bytes255 at')
  clear hf hm hc hRC hB hBz hRB HO
  go_enter Try.func65, Try.ntmps65
  go_wp2_with fail
  refine HRD.out.mono ?_
  rintro e w1 ⟨g, hg, rfl, hog, hm1, hk1⟩
  have HM1 := Lib.hid (hm1.weaken (R := R) (fun k hk => .inl hk))
  have HK1 := Lib.hid hk1
  have HG := Lib.hid hog
  clear hm1 hk1 hog HRD
  obtain ⟨W, hW⟩ : ∃ W, w1.alloc (.cells #[.int .i64 0, .int .u64 0] 57) = W := ⟨_, rfl⟩
  have HE := Lib.hid hW
  have HM2 := Lib.hid (show MemAt R W M m most mp from by rw [← hW]; exact HM1.out.below ((Below.refl _ _).alloc (Nat.le_refl _) _))
  have HK2 := Lib.hid (show Kept R w W from by rw [← hW]; exact HK1.out.alloc HSZ.out _)
  have HG2 := Lib.hid (show Own W g 8 (fun q => .int .u8 (byteAt mp (at' + q))) from by rw [← hW]; exact HG.out.alloc _)
  have c0 : W.cell? ⟨w1.heap.size, 0, none⟩ = some (.int .i64 0) := by rw [← hW]; simp [go_sem]
  clear hW
  have HU := Lib.hid (u64_yes g 0 8 8 (fun q => byteAt mp (at' + q)) 0 W (by omega) (by omega) HBY.out (fun i hi => by rw [Nat.zero_add]; exact HG2.out.cell hi))
  go_upto_region 2 with (fail)
  refine (congrArg _ HE.out).mpr ?_
  go_wp2_with fail
  refine HU.out.mono ?_
  rintro e w2 ⟨rfl, rfl⟩
  have hb1 : W.cell? ⟨B, o, none⟩ = some (.int .u64 old) := (HK2.out.cell HRB.out).trans HBC.out.1
  have hb2 : W.frozen? ⟨B, o, none⟩ = false := (HK2.out.frozen HRB.out).trans HBC.out.2
  go_wp2
  go_ret
  exact ⟨rfl, W, HK2.out, HM2.out, rfl⟩
end Go.Proofs.Ythbgmlmcjnlopaa
