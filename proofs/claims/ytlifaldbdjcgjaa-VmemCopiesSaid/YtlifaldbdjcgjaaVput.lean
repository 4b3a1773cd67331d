/- Memory of pages: put. -/
import Derived.Test.YtlifaldbdjcgjaaVbytes
namespace Go.Proofs.Ytlifaldbdjcgjaa
open Go.ChangeShapes Go.WideShapes Go.ChangeAt Go.RowKit
open Go.Maps (Keyed)
set_option linter.unusedVariables false
set_option linter.unusedSimpArgs false

/-- n bytes h laid at a. -/
def putP (mp : Int → Option Pg) (a : Int) (n : Nat) (h : Nat → Int) : Int → Option Pg :=
  fun p => (mp p).map fun g => ⟨g.prot, fun j => if p % 4096 = 0 ∧ j < 4096 ∧ a ≤ p + j ∧ p + j < a + n then h (p + j - a).toNat else g.dat j⟩

theorem putP_zero (mp : Int → Option Pg) (a : Int) (h : Nat → Int) : putP mp a 0 h = mp := by
  funext p
  unfold putP
  cases mp p with
  | none => rfl
  | some g =>
    simp only [Option.map_some]
    congr 1
    cases g with
    | mk pr d =>
      congr 1
      funext j
      rw [if_neg (by omega)]

theorem putP_none {mp : Int → Option Pg} {a : Int} {n : Nat} {h : Nat → Int} {p : Int} : putP mp a n h p = none ↔ mp p = none := by
  unfold putP; cases mp p <;> simp

theorem putP_step {mp : Int → Option Pg} {a : Int} {i k r : Nat} {h : Nat → Int} {g' : Pg} (hr : r = ((a + i) % 4096).toNat) (hrk : r + k ≤ 4096) (hg : putP mp a i h (a + i - (a + i) % 4096) = some g') :
    putP mp a (i + k) h = upd (putP mp a i h) (a + i - (a + i) % 4096) (some ⟨g'.prot, fun j => if r ≤ j ∧ j < r + k then h (i + (j - r)) else g'.dat j⟩) := by
  funext x
  by_cases e : x = a + i - (a + i) % 4096
  · rw [e, upd_same]
    unfold putP at hg ⊢
    cases hm : mp (a + i - (a + i) % 4096) with
    | none => rw [hm] at hg; cases hg
    | some g =>
      rw [hm] at hg
      simp only [Option.map_some, Option.some.injEq] at hg ⊢
      subst hg
      simp only [Pg.mk.injEq, true_and]
      funext j
      by_cases c1 : r ≤ j ∧ j < r + k
      · rw [if_pos c1, if_pos (by omega), show (a + (i : Int) - (a + i) % 4096 + j - a).toNat = i + (j - r) by omega]
      · rw [if_neg c1]
        by_cases c2 : (a + (i : Int) - (a + i) % 4096) % 4096 = 0 ∧ j < 4096 ∧ a ≤ a + (i : Int) - (a + i) % 4096 + j ∧ a + (i : Int) - (a + i) % 4096 + j < a + i
        · rw [if_pos c2, if_pos (by omega)]
        · rw [if_neg c2, if_neg (by omega)]
  · rw [upd_other _ _ e]
    unfold putP
    cases mp x with
    | none => rfl
    | some g =>
      simp only [Option.map_some, Option.some.injEq, Pg.mk.injEq, true_and]
      funext j
      by_cases c2 : x % 4096 = 0 ∧ j < 4096 ∧ a ≤ x + j ∧ x + j < a + i
      · rw [if_pos c2, if_pos (by omega)]
      · rw [if_neg c2, if_neg (by omega)]

/-- A slice of n bytes h that lies in one of the blocks R. -/
def SrcR (R : Nat → Prop) (w : World) (A : Option Addr) (n : Nat) (h : Nat → Int) : Prop := n = 0 ∨ ∃ b off, A = some ⟨b, off, none⟩ ∧ R b ∧ ∀ j, j < n → w.cell? ⟨b, off + j, none⟩ = some (.int .u8 (h j))

set_option maxRecDepth 100000 in
theorem put_any (R : Nat → Prop) (w : World) (M m : Nat) (most : Int) (mp : Int → Option Pg) (a : Int) (A : Option Addr) (n cap : Nat) (h : Nat → Int) (h0 : 0 ≤ a) (h1 : a + n ≤ 9223372036854775807) (hn : n ≤ 65536) (hcap : n ≤ cap) (hcap2 : cap ≤ 9223372036854775807) (hin : InM mp a n) (hsrc : SrcR R w A n h) (H : MemAt R w M m most mp) :
    Calls Try.prog 43 #[.pointer (some ⟨M, 0, none⟩), .int .u64 a, .slice A n cap] w fun e w' =>
      e = .returned (.tuple #[]) ∧ MemAt R w' M m most (putP mp a n h) ∧ Kept R w w' := by
  have HM := Lib.hid H
  have HIN := Lib.hid hin
  have HSR := Lib.hid hsrc
  have HR0 : Hid (∀ k, R k → k < w.heap.size) := by obtain ⟨bm, f, S, _, _, _, h⟩ := H; exact h
  clear H hin hsrc
  go_enter Try.func43, Try.ntmps43
  go_wp2_with fail
  go_loopw [6] (fun o wr => ∃ i : Nat, i ≤ n ∧ o = .int .i64 i ∧ MemAt R wr M m most (putP mp a i h) ∧ Kept R w wr) (fun o _ => n - (intOf o).toNat)
  case atStart => exact ⟨0, Nat.zero_le _, rfl, by rw [putP_zero]; exact HM.out, Kept.refl R w⟩
  case round =>
    obtain ⟨i, hi, rfl, hm, hk⟩ := hrel
    have HMr := Lib.hid hm
    have HKr := Lib.hid hk
    clear hk HM
    by_cases hlt : i < n
    · obtain ⟨bm, f, S, hRs⟩ := hm
      have HRs := Lib.hid hRs
      obtain ⟨g, hg⟩ := Option.ne_none_iff_exists'.1 (mt putP_none.1 (HIN.out i (by omega) (by omega)) : putP mp a i h _ ≠ none)
      obtain ⟨B, hf⟩ := f_some S hg
      obtain ⟨b, off, rfl, hRb, hcell⟩ : ∃ b off, A = some ⟨b, off, none⟩ ∧ R b ∧ ∀ j, j < n → w.cell? ⟨b, off + j, none⟩ = some (.int .u8 (h j)) := by
        rcases HSR.out with h | h
        · omega
        · exact h
      have HS := Lib.hid S
      have HG := Lib.hid hg
      have HF := Lib.hid hf
      have e1 : 0 ≤ a + i := by omega
      have e2 : a + i < 18446744073709551616 := by omega
      have wr1 : IntKind.u64.wrap (i : Int) = i := by rw [IntKind.wrap_u64]; omega
      have wr2 : IntKind.u64.wrap (a + i) = a + i := by rw [IntKind.wrap_u64]; omega
      have hne : ¬ cap = i := by omega
      obtain ⟨r, hr⟩ : ∃ r, r = ((a + i) % 4096).toNat := ⟨_, rfl⟩
      have hr2 : r < 4096 := by omega
      obtain ⟨k, hk⟩ : ∃ k, k = Nat.min (n - i) (4096 - r) := ⟨_, rfl⟩
      have hk1 : 0 < k ∧ i + k ≤ n ∧ r + k ≤ 4096 := by simp only [Nat.min_def] at hk; split at hk <;> omega
      have HSRC : Hid (∀ j, j < k → wr.cell? ⟨b, off + i + j, none⟩ = some (.int .u8 (h (i + j)))) := fun j hj => by rw [Nat.add_assoc]; exact (HKr.out.cell (p := ⟨b, off + (i + j), none⟩) hRb).trans (hcell _ (by omega))
      have HO := Lib.hid (S.page _ B g hf hg)
      have HK := Lib.hid hk
      have HK1 := Lib.hid hk1
      have HRE := Lib.hid (show ((a + i) % 4096).toNat = r from hr.symm)
      have HR2 := Lib.hid hr2
      have wr3 : IntKind.i64.wrap ((i : Int) + (k : Int)) = i + k := by rw [IntKind.wrap_i64]; omega
      clear hg hf hRs S hk hk1 hr hr2 hcell
      go_wp2_with fail
      go_region_law (first | (go_simp; go_at_call 49; refine (rest_any wr.drew M bm m most f (putP mp a i h) (a + i) B g e1 e2 HS.out.drew HG.out HF.out).mono ?_; rw [HRE.out]; rintro e w3 ⟨rfl, n3, rfl⟩) | (refine step_copy_own rfl (.tmp 17) (.tmp 20) 43 43 rfl 5 (by kernel_rfl) (by kernel_rfl) B (1 + r) (4096 - r) (4096 - r) b (off + i) (n - i) (cap - i) (by simp [Act.eval, Act.put, hne]) (by simp [Act.eval, Act.put, hne]) k 4097 (pgF g) (fun j => .int .u8 (h (i + j))) HK.out (HO.out.drew.drewN n3) (by have := HK1.out; omega) HSRC.out (fun _ => rfl) ?_; intro w4 hg4 ho4))
      have hS2 := MemIn.turned (g' := ⟨g.prot, fun j => if r ≤ j ∧ j < r + k then h (i + (j - r)) else g.dat j⟩) (HS.out.drewN (1 + n3)) HF.out HG.out hg4 (ho4.congr fun q hq => by
        have h3 := HK1.out
        unfold pgF
        by_cases c0 : q = 0
        · rw [if_pos c0, if_neg (by omega), if_pos c0]
        · rw [if_neg c0, if_neg c0]
          by_cases c1 : 1 + r ≤ q ∧ q < 1 + r + k
          · rw [if_pos c1]
            show _ = Value.int .u8 (if r ≤ q - 1 ∧ q - 1 < r + k then h (i + (q - 1 - r)) else g.dat (q - 1))
            rw [if_pos (by omega), show q - (1 + r) = q - 1 - r by omega]
          · rw [if_neg c1]
            show _ = Value.int .u8 (if r ≤ q - 1 ∧ q - 1 < r + k then h (i + (q - 1 - r)) else g.dat (q - 1))
            rw [if_neg (by omega)])
      rw [← putP_step HRE.out.symm HK1.out.2.2 HG.out] at hS2
      have HM4 : Hid (MemAt R w4 M m most (putP mp a (i + k) h)) := ⟨bm, f, hS2, HRs.out.1, HRs.out.2.1, HRs.out.2.2.1, fun k hk => Nat.lt_of_lt_of_le (HRs.out.2.2.2 k hk) hg4.size⟩
      have HK4 := Lib.hid ((HKr.out.trans (Kept.drewN R wr (1 + n3))).grown hg4 HR0.out (fun k hk hr => by injection hk with hk; subst hk; exact HRs.out.2.2.1 _ _ HF.out hr))
      clear hS2 hg4 ho4
      simp only [Act.put, List.getElem_toArray, List.getElem_cons_succ, List.getElem_cons_zero, List.setIfInBounds_toArray, List.set_cons_succ, List.set_cons_zero]
      go_wp2
      go_roundw
      case rel => exact ⟨i + k, HK1.out.2.1, by go_num, HM4.out, HK4.out⟩
      case measure => have := HK1.out; simp [intOf]; omega
    · obtain rfl : i = n := by omega
      go_wp2
      go_end0
      exact ⟨rfl, HMr.out, HKr.out⟩
end Go.Proofs.Ytlifaldbdjcgjaa
