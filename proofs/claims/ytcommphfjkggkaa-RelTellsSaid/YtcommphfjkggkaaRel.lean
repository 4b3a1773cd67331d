/- package rel: sites, blocks' heads. -/
import Derived.Test.YtcommphfjkggkaaRow
namespace Go.Proofs.Ytcommphfjkggkaa
open Go.ChangeShapes Go.WideShapes Go.ChangeAt Go.RowKit
set_option linter.unusedVariables false

/-- How many bytes a site of a kind has. -/
def relLen (k : Int) : Int := if k = 3 then 4 else if k = 10 then 8 else 0
theorem relLen_bd (k : Int) : 0 ≤ relLen k ∧ relLen k ≤ 8 := by unfold relLen; split <;> (try split) <;> omega

theorem length_any (k r : Int) (w : World) : Calls Try.prog 28 #[.agg #[.int .i64 k, .int .i64 r]] w fun e w' => e = .returned (.int .i64 (relLen k)) ∧ Below w.heap.size w w' := by
  unfold relLen
  by_cases c1 : k = 3
  · subst c1
    go_enter Try.func28, Try.ntmps28
    go_wp2
    go_ret
    exact ⟨rfl, by go_grown⟩
  · by_cases c2 : k = 10
    · subst c2
      go_enter Try.func28, Try.ntmps28
      go_wp2
      go_ret
      exact ⟨rfl, by go_grown⟩
    · have e1 : (k == 3) = false := by simpa using c1
      have e2 : (k == 10) = false := by simpa using c2
      rw [if_neg c1, if_neg c2]
      go_enter Try.func28, Try.ntmps28
      go_wp2
      go_ret
      exact ⟨rfl, by go_grown⟩

/-- A block's head at place o of a directory that ends at e: its page, and how long it is. -/
def headS (f : Nat → Int) (o e : Nat) : Option (Int × Int) :=
  if e < o + 8 then none else
  if rdF f o 4 % 4096 ≠ 0 ∨ rdF f (o + 4) 4 < 8 ∨ rdF f (o + 4) 4 % 4 ≠ 0 ∨ (e : Int) - o < rdF f (o + 4) 4 then none else
  some (rdF f o 4, rdF f (o + 4) 4)

theorem headS_some {f : Nat → Int} {o e : Nat} {p n : Int} (h : headS f o e = some (p, n)) : o + 8 ≤ e ∧ p = rdF f o 4 ∧ p % 4096 = 0 ∧ 8 ≤ n ∧ n % 4 = 0 ∧ n ≤ (e : Int) - o := by
  unfold headS at h
  by_cases c : e < o + 8
  · rw [if_pos c] at h; cases h
  · rw [if_neg c] at h
    by_cases c2 : rdF f o 4 % 4096 ≠ 0 ∨ rdF f (o + 4) 4 < 8 ∨ rdF f (o + 4) 4 % 4 ≠ 0 ∨ (e : Int) - o < rdF f (o + 4) 4
    · rw [if_pos c2] at h; cases h
    · rw [if_neg c2] at h
      injection h with h
      injection h with h1 h2
      subst h1 h2
      refine ⟨by omega, rfl, ?_, ?_, ?_, ?_⟩ <;> (have := c2; simp only [not_or, Int.not_lt] at this; omega)

set_option maxRecDepth 100000 in
theorem head_any (b off len cap : Nat) (f : Nat → Int) (o e : Nat) (w : World) (h0 : len ≤ 9223372036854775807) (ho : o ≤ e) (he : e ≤ len) (hb : Bytes255 f) (hc : Row w b off len f) :
    Calls Try.prog 25 #[.slice (some ⟨b, off, none⟩) len cap, .int .i64 o, .int .i64 e] w fun e' w' =>
      e' = .returned (.tuple #[.int .i64 ((headS f o e).getD (0, 0)).1, .int .i64 ((headS f o e).getD (0, 0)).2, .bool (headS f o e).isSome]) ∧ w = w' := by
  have HC := Lib.hid hc
  have HB := Lib.hid hb
  obtain ⟨r, hr⟩ : ∃ r, headS f o e = r := ⟨_, rfl⟩
  rw [hr]
  have HR := Lib.hid hr
  clear hr hc hb
  by_cases c0 : e < o + 8
  · have hr := HR.out
    unfold headS at hr
    rw [if_pos c0] at hr
    subst hr
    have c1 : (e : Int) - o < 8 := by omega
    go_enter Try.func25, Try.ntmps25
    go_wp2
    exact bodyPost_ret (v := .tuple #[.int .i64 0, .int .i64 0, .bool false]) (by simp [results, Try.results25, go_sem]) rfl ⟨rfl, rfl⟩
  · have hp := rdF_bd f HB.out 4 o
    have hn := rdF_bd f HB.out 4 (o + 4)
    obtain ⟨p, hpe⟩ : ∃ p, rdF f o 4 = p := ⟨_, rfl⟩
    obtain ⟨n, hne⟩ : ∃ n, rdF f (o + 4) 4 = n := ⟨_, rfl⟩
    rw [hpe] at hp
    rw [hne] at hn
    obtain ⟨p0, p1⟩ := hp
    obtain ⟨n0, n1⟩ := hn
    have hr := HR.out
    unfold headS at hr
    rw [if_neg c0, hpe, hne] at hr
    have HR2 := Lib.hid hr
    have HP := Lib.hid hpe
    have HN := Lib.hid hne
    clear hr hpe hne
    have c1 : 8 ≤ (e : Int) - o := by omega
    have hu1 := u32_yes b off len cap f o w h0 (by omega) HB.out HC.out
    have hu2 := u32_yes b off len cap f (o + 4) w h0 (by omega) HB.out HC.out
    rw [HP.out] at hu1
    rw [HN.out, show ((o + 4 : Nat) : Int) = (o : Int) + 4 by omega] at hu2
    have HU1 := Lib.hid hu1
    have HU2 := Lib.hid hu2
    clear hu1 hu2 c0
    have p2 : p < 4294967296 := by omega
    have n2 : n < 4294967296 := by omega
    clear p1 n1
    have hcs : ((p % 4096 != 0) = true ∧ r = none) ∨ ((p % 4096 != 0) = false ∧ n < 8 ∧ r = none) ∨ ((p % 4096 != 0) = false ∧ 8 ≤ n ∧ (n % 4 != 0) = true ∧ r = none) ∨
        ((p % 4096 != 0) = false ∧ 8 ≤ n ∧ (n % 4 != 0) = false ∧ (e : Int) - o < n ∧ r = none) ∨ ((p % 4096 != 0) = false ∧ 8 ≤ n ∧ (n % 4 != 0) = false ∧ n ≤ (e : Int) - o ∧ r = some (p, n)) := by
      have h := HR2.out
      by_cases d1 : p % 4096 = 0
      · right
        by_cases d2 : n < 8
        · left; rw [if_pos (by omega)] at h; exact ⟨by simp [d1], d2, h.symm⟩
        · right
          by_cases d3 : n % 4 = 0
          · right
            by_cases d4 : (e : Int) - o < n
            · left; rw [if_pos (by omega)] at h; exact ⟨by simp [d1], by omega, by simp [d3], d4, h.symm⟩
            · right; rw [if_neg (by omega)] at h; exact ⟨by simp [d1], by omega, by simp [d3], by omega, h.symm⟩
          · left; rw [if_pos (by omega)] at h; exact ⟨by simp [d1], by omega, by simp [d3], h.symm⟩
      · left; rw [if_pos (by omega)] at h; exact ⟨by simp [d1], h.symm⟩
    clear HR2 HR
    rcases hcs with ⟨d1, rfl⟩ | ⟨d1, d2, rfl⟩ | ⟨d1, d2, d3, rfl⟩ | ⟨d1, d2, d3, d4, rfl⟩ | ⟨d1, d2, d3, d4, rfl⟩
    all_goals
      go_enter Try.func25, Try.ntmps25
      go_wp2_with fail
      refine HU1.out.mono ?_
      rintro e w' ⟨rfl, rfl⟩
      go_wp2_with fail
      refine HU2.out.mono ?_
      rintro e w' ⟨rfl, rfl⟩
      go_wp2
      first
      | exact bodyPost_ret (v := .tuple #[.int .i64 0, .int .i64 0, .bool false]) (by simp [results, Try.results25, go_sem]) rfl ⟨rfl, rfl⟩
      | exact bodyPost_ret (v := .tuple #[.int .i64 p, .int .i64 n, .bool true]) (by simp [results, Try.results25, go_sem]) rfl ⟨rfl, rfl⟩
end Go.Proofs.Ytcommphfjkggkaa
