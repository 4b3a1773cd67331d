/- package rel: add, Apply, Sites. -/
import Derived.Test.YtcommphfjkggkaaRelParse
import Derived.Test.YtcommphfjkggkaaShelf
namespace Go.Proofs.Ytcommphfjkggkaa
open Go.ChangeShapes Go.WideShapes Go.ChangeAt Go.RowKit
set_option linter.unusedVariables false

/-- The bytes f, n of them, with d added at the site x. -/
def addI (n : Nat) (d : Int) (f : Nat → Int) (x : Site) : Nat → Int :=
  if relLen x.1 ≠ 0 ∧ 0 ≤ x.2 ∧ x.2 + relLen x.1 ≤ n then putI f x.2.toNat ((rdF f x.2.toNat (relLen x.1).toNat + d) % 18446744073709551616) (relLen x.1).toNat else f

theorem addI255 {n : Nat} {d : Int} {f : Nat → Int} (hf : Bytes255 f) (x : Site) : Bytes255 (addI n d f x) := by
  unfold addI
  split
  · exact putI255 hf _ _ _
  · exact hf

theorem relLen_cases (k : Int) : (k = 3 ∧ relLen k = 4) ∨ (k = 10 ∧ relLen k = 8) ∨ relLen k = 0 := by
  unfold relLen
  split
  · exact .inl ⟨by assumption, rfl⟩
  · split
    · exact .inr (.inl ⟨by assumption, rfl⟩)
    · exact .inr (.inr rfl)

set_option maxRecDepth 100000 in
set_option maxHeartbeats 1000000 in
theorem add_any (g n cap : Nat) (f : Nat → Int) (k r d : Int) (w : World) (hn : n ≤ 9223372036854775807) (hb : Bytes255 f) (ho : Own w g n (fun i => .int .u8 (f i)))
    (r0 : -9223372036854775808 ≤ r) (r1 : r ≤ 9223372036854775807) (d0 : 0 ≤ d) (d1 : d ≤ 18446744073709551615) :
    Calls Try.prog 30 #[.slice (some ⟨g, 0, none⟩) n cap, .agg #[.int .i64 k, .int .i64 r], .int .u64 d] w fun e w' =>
      e = .returned (.tuple #[]) ∧ Own w' g n (fun i => .int .u8 (addI n d f (k, r) i)) ∧ w.grownBy w' (some g) := by
  have HO := Lib.hid ho
  have HB := Lib.hid hb
  have hglt := ho.1
  have HB0 := Lib.hid (show Below w.heap.size w (w.alloc (.cells #[.int .i64 k, .int .i64 r] 30)) from (Below.refl w.heap.size w).alloc (Nat.le_refl _) _)
  have HT0 := Lib.hid (own_two w (.int .i64 k) (.int .i64 r) 30)
  have hlc := relLen_cases k
  have HLC := Lib.hid hlc
  have hlb := relLen_bd k
  obtain ⟨f2, hf2⟩ : ∃ f2, addI n d f (k, r) = f2 := ⟨_, rfl⟩
  rw [hf2]
  have HF2 := Lib.hid hf2
  clear ho hb hlc hf2
  go_enter Try.func30, Try.ntmps30
  go_wp2_with fail
  go_fit (length_any k r (w.alloc (.cells #[.int .i64 k, .int .i64 r] 30)))
  rintro e w1 ⟨rfl, hb1⟩
  have HB1 := Lib.hid (HB0.out.trans (hb1.mono (by simp)))
  have HT1 := Lib.hid (HT0.out.below hb1 (by simp))
  clear hb1 HT0 HB0
  have c0 := HT1.out.cell (i := 0) (by omega)
  have c1 := HT1.out.cell (i := 1) (by omega)
  simp only [if_pos, if_neg, Nat.one_ne_zero] at c0 c1
  obtain ⟨L, hL⟩ : ∃ L, relLen k = L := ⟨_, rfl⟩
  rw [hL] at hlb
  have HL := Lib.hid hL
  try simp only [hL]
  clear hL
  obtain ⟨l0, l1⟩ := hlb
  have HOW1 := Lib.hid (HO.out.below HB1.out hglt)
  have HG1 := Lib.hid (grown_below HB1.out (some g))
  by_cases e0 : L = 0
  · subst e0
    have hf : f2 = f := by
      rw [← HF2.out]
      unfold addI
      rw [if_neg (fun h => h.1 HL.out)]
    subst hf
    clear HF2
    go_wp2
    exact bodyPost_ret (v := .tuple #[]) (by simp [results, Try.results30, go_sem]) rfl ⟨rfl, HOW1.out, HG1.out⟩
  · have e1 : (L == 0) = false := by simpa using e0
    by_cases c : 0 ≤ r ∧ 0 ≤ L ∧ r ≤ n - L
    · have hin := rowIn_any (some ⟨g, 0, none⟩) n cap r L true w1 hn (by omega) (by omega) ⟨fun _ => c, fun _ => rfl⟩
      have HIN := Lib.hid hin
      obtain ⟨x0, x1, x2⟩ := c
      obtain ⟨R, rfl⟩ : ∃ R : Nat, r = R := ⟨r.toNat, by omega⟩
      obtain ⟨N, rfl⟩ : ∃ N : Nat, L = N := ⟨L.toNat, by omega⟩
      have hN : N = 4 ∨ N = 8 := by have := HLC.out; rw [HL.out] at this; omega
      have hrd := rdF_bd f HB.out N R
      obtain ⟨v, hv⟩ : ∃ v, rdF f R N = v := ⟨_, rfl⟩
      rw [hv] at hrd
      obtain ⟨v0, v1⟩ := hrd
      have hf : f2 = putI f R ((v + d) % 18446744073709551616) N := by
        rw [← HF2.out]
        unfold addI
        simp only [HL.out, Int.toNat_natCast]
        rw [if_pos ⟨e0, by omega, by omega⟩, hv]
      subst hf
      have hrow := own_row HOW1.out (f' := f) (fun i _ => rfl)
      have hp := put_yes g n cap (fun i => .int .u8 (f i)) R N ((v + d) % 18446744073709551616) w1 hn (by omega) (by omega) (by omega) HOW1.out (by omega) (by omega)
      have HP := Lib.hid hp
      have HNN := Lib.hid hN
      clear hin HF2 hp
      have hwr : IntKind.u64.wrap (v + d) = (v + d) % 18446744073709551616 := by rw [IntKind.wrap_u64]
      rcases hN with rfl | rfl
      · have hu := u32_yes g 0 n cap f R w1 hn (by omega) HB.out hrow
        rw [hv] at hu
        have HU := Lib.hid hu
        have v2 : v < 4294967296 := by simpa using v1
        clear hu hv v1 hrow
        go_wp2_with fail
        go_fit HIN.out
        rintro e w' ⟨rfl, rfl⟩
        go_wp2_with fail
        go_fit HU.out
        rintro e w' ⟨rfl, rfl⟩
        go_wp2_with fail
        go_fit HP.out
        rintro e w2 ⟨rfl, ho2, hg2⟩
        have ho3 := ho2.congr (fun i _ => putF_int f R ((v + d) % 18446744073709551616) 4 i)
        have hg3 := HG1.out.trans hg2
        go_wp2
        go_end0
        exact ⟨rfl, ho3, hg3⟩
      · have hu := u64_yes g 0 n cap f R w1 hn (by omega) HB.out hrow
        rw [hv] at hu
        have HU := Lib.hid hu
        have v2 : v < 18446744073709551616 := by simpa using v1
        clear hu hv v1 hrow
        go_wp2_with fail
        go_fit HIN.out
        rintro e w' ⟨rfl, rfl⟩
        go_wp2_with fail
        go_fit HU.out
        rintro e w' ⟨rfl, rfl⟩
        go_wp2_with fail
        go_fit HP.out
        rintro e w2 ⟨rfl, ho2, hg2⟩
        have ho3 := ho2.congr (fun i _ => putF_int f R ((v + d) % 18446744073709551616) 8 i)
        have hg3 := HG1.out.trans hg2
        go_wp2
        go_end0
        exact ⟨rfl, ho3, hg3⟩
    · have hin := rowIn_any (some ⟨g, 0, none⟩) n cap r L false w1 hn (by omega) (by omega) ⟨(fun h => by cases h), fun h => absurd h c⟩
      have HIN := Lib.hid hin
      have hf : f2 = f := by
        rw [← HF2.out]
        unfold addI
        simp only [HL.out]
        rw [if_neg (fun h => c ⟨h.2.1, l0, by omega⟩)]
      subst hf
      clear HF2 hin c
      go_wp2_with fail
      go_fit HIN.out
      rintro e w' ⟨rfl, rfl⟩
      go_wp2_with fail
      exact bodyPost_ret (v := .tuple #[]) (by simp [results, Try.results30, go_sem]) rfl ⟨rfl, HOW1.out, HG1.out⟩
end Go.Proofs.Ytcommphfjkggkaa
