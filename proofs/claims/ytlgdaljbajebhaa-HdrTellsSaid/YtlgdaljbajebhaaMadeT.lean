/- law 5: a number that is put anywhere: it goes in, or the bytes are a copy. -/
import Derived.Test.YtlgdaljbajebhaaMade
namespace Go.Proofs.Ytlgdaljbajebhaa
open Go.ChangeShapes Go.WideShapes Go.ChangeAt Go.RowKit
set_option linter.unusedVariables false

theorem put_over (b n cap : Nat) (f : Nat → Int) (o k v : Int) (w : World) (h : RowB w b 0 n cap f) (hn : n ≤ 1000000) (hno : ¬ (1 ≤ k ∧ k ≤ 8 ∧ 0 ≤ o ∧ o ≤ n - k)) :
    Calls Try.prog 17 #[.slice (some ⟨b, 0, none⟩) n cap, .int .i64 o, .int .i64 k, .int .u64 v] w fun e w' =>
      ∃ g c, e = .returned (.slice (some ⟨g, 0, none⟩) n c) ∧ OwnC w' w.heap.size g n c f ∧ Below w.heap.size w w' := by
  have hs := run_str (cap := cap) h.row
  have hsz : (strF f 0 n).size = n := strF_size f 0 n
  have HP := Lib.hid (rput_no (strF f 0 n) o k v w (by omega) (by rw [hsz]; exact hno))
  have h255 := h.by255
  have hbt : ∀ i, i < n → PlainAid.bt (strF f 0 n) i = f i := fun i hi => by rw [bt_strF h255 hi, Nat.zero_add]
  have HBT := Lib.hid hbt
  generalize strF f 0 n = S at *
  have hcv := fun (W : World) => run_bytes_of_string (P := Try.prog) W 9 23 5 S Try.underlying9 Try.underlying23 Try.underlying5
  clear hbt h hno
  go_enter Try.func17, Try.ntmps17
  go_wp2_with fail
  refine HP.out.mono ?_
  rintro e w1 ⟨rfl, rfl⟩
  go_wp2_with fail
  go_ret
  have hcap := grownCap_ge w n 0 5
  have hcm := grownCap_le_maxLen w n 0 5 (by simp only [maxLen]; omega)
  simp only [maxLen] at hcm
  have hbz : (bytesRow S (grownCap w n 0 5)).size = grownCap w n 0 5 := by
    have : S.data.size = S.size := rfl
    simp [bytesRow]
    omega
  have ho := OwnC.bytes w S (grownCap w n 0 5) (bytesRow S (grownCap w n 0 5)).size ((bytesRow S (grownCap w n 0 5)).size + 1) (by omega) (by omega) (by omega)
  rw [hsz] at ho
  exact ⟨_, _, rfl, (ho.congr h255 HBT.out).drew, ((Below.refl w.heap.size w).alloc (Nat.le_refl _) _).drew⟩

/-- put, anywhere. -/
theorem put_some (base b n cap : Nat) (f : Nat → Int) (o k v : Int) (w : World) (h : OwnC w base b n cap f) (hb : base ≤ w.heap.size) (hn : n ≤ 1000000) (o0 : 0 ≤ o) (o1 : o ≤ 1000000) (k1 : 1 ≤ k) (k8 : k ≤ 8) (v0 : 0 ≤ v) (v1 : v ≤ 18446744073709551615) :
    Calls Try.prog 17 #[.slice (some ⟨b, 0, none⟩) n cap, .int .i64 o, .int .i64 k, .int .u64 v] w fun e w' =>
      ∃ g c F, e = .returned (.slice (some ⟨g, 0, none⟩) n c) ∧ OwnC w' base g n c F ∧ Below w.heap.size w w' := by
  by_cases c : o + k ≤ n
  · refine (put_at base b n cap f o k o.toNat k.toNat v w h hb (by omega) (by omega) hn (by omega) (by omega) (by omega) v0 v1).mono ?_
    rintro e w' ⟨g, c, rfl, h1, h2⟩
    exact ⟨g, c, _, rfl, h1, h2⟩
  · refine (put_over b n cap f o k v w h.rowB hn (by omega)).mono ?_
    rintro e w' ⟨g, c, rfl, h1, h2⟩
    exact ⟨g, c, _, rfl, h1.weaken hb, h2⟩
end Go.Proofs.Ytlgdaljbajebhaa
