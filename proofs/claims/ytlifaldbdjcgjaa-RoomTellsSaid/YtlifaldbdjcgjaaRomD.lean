/- The document's memory of pages (slipwayref3): the first place that has room; pages that are mapped. -/
import Derived.Test.YtlifaldbdjcgjaaRomC
import Derived.Test.YtlifaldbdjcgjaaCopy
import Derived.Test.YtlifaldbdjcgjaaRegK
import Derived.Deep.Cut
namespace Go.Proofs.Ytlifaldbdjcgjaa
open Go.ChangeShapes Go.WideShapes Go.ChangeAt Go.RowKit
set_option linter.unusedVariables false
set_option linter.unusedSimpArgs false

def FitR (L : List RPg) (n : Int) (q : Nat) : Prop := RoomR L (65536 * (q + 1)) n ∧ (65536 * (q + 1) : Nat) + n * 4096 ≤ 16777216
set_option maxHeartbeats 2000000 in
theorem rroom_any (w : World) (B : Nat) (L : List RPg) (n : Int) (h : RefM w B L) (hr : RiseP L) :
    Calls Try.prog 21 #[.pointer (some ⟨B, 0, none⟩), .int .i64 n] w fun e w' =>
      ((∃ X : Nat, e = .returned (.tuple #[.int .u64 (65536 * (X + 1) : Nat), .bool true]) ∧ X < 255 ∧ FitR L n X ∧ ∀ q, q < X → ¬ FitR L n q) ∨ (e = .returned (.tuple #[.int .u64 0, .bool false]) ∧ ∀ q, q < 255 → ¬ FitR L n q)) ∧ Below w.heap.size w w' := by
  have H := Lib.hid (fun W (hW : Below w.heap.size w W) a (ha : a < 18446744073709551616) => ris_any W B L a n (h.below hW) hr ha)
  clear h hr
  go_enter Try.func21, Try.ntmps21
  go_wp2_with fail
  go_loopw [6] (fun v6 wr => ∃ q z : Nat, q ≤ 255 ∧ v6 = .int .u64 z ∧ 65536 * (q + 1) = z ∧ Hid (∀ p, p < q → ¬ FitR L n p) ∧ Below w.heap.size w wr) (fun v6 _ => 16777216 - (intOf v6).toNat)
  case atStart => exact ⟨0, 65536, by omega, rfl, by omega, Lib.hid (fun p hp => by omega), Below.refl _ _⟩
  case round =>
    obtain ⟨q, z, hq, rfl, hz, HQ, hb⟩ := hrel
    have HB := Lib.hid hb
    clear hb
    have HZ := Lib.hid hz
    by_cases hlt : q < 255
    · have hz16 : (z : Int) < 16777216 := by omega
      have HI := Lib.hid (H.out _ HB.out z (by omega))
      have HLT := Lib.hid hlt
      have hzb : 65536 ≤ z := by omega
      clear hz hlt hq
      go_wp2_with fail
      refine HI.out.mono ?_
      rintro e w' ⟨hq2, hb2⟩
      have HB2 := Lib.hid (HB.out.trans (hb2.mono HB.out.size))
      clear hb2
      rcases hq2 with ⟨rfl, hroom⟩ | ⟨rfl, hroom⟩
      · have hn1 := hroom.2.2.1.2.1
        have hn2 := hroom.2.2.1.2.2.1
        have HRM := Lib.hid hroom
        obtain ⟨m, hm⟩ : ∃ m : Nat, n = (m : Int) := ⟨n.toNat, by omega⟩
        obtain ⟨m4, hm4⟩ : ∃ m4 : Nat, m * 4096 = m4 := ⟨_, rfl⟩
        have en : n * 4096 = (m4 : Int) := by omega
        have wn : IntKind.u64.wrap n = n := by rw [IntKind.wrap_u64]; omega
        have wm : IntKind.u64.wrap (m4 : Int) = (m4 : Int) := by rw [IntKind.wrap_u64]; omega
        have HEN := Lib.hid en
        clear hroom hm hm4
        by_cases hfit : (m4 : Int) ≤ 16777216 - (z : Int)
        · have hd : decide ((m4 : Int) ≤ 16777216 - (z : Int)) = true := decide_eq_true hfit
          have HF := Lib.hid hfit
          clear hfit
          go_wp2_with fail
          refine bodyPost_ret (v := .tuple #[.int .u64 (65536 * (q + 1) : Nat), .bool true]) (by simp [results, Try.results21, go_sem, HZ.out]) rfl ⟨.inl ⟨q, rfl, HLT.out, ⟨by rw [HZ.out]; exact HRM.out, by rw [HZ.out, HEN.out]; have := HF.out; omega⟩, HQ.out⟩, HB2.out⟩
        · have hd : decide ((m4 : Int) ≤ 16777216 - (z : Int)) = false := decide_eq_false hfit
          have HF := Lib.hid hfit
          obtain ⟨z2, hz2⟩ : ∃ z2, z + 65536 = z2 := ⟨_, rfl⟩
          have ez2 : (z : Int) + 65536 = (z2 : Int) := by omega
          have wz2 : IntKind.u64.wrap (z2 : Int) = (z2 : Int) := by rw [IntKind.wrap_u64]; omega
          have HZ2 := Lib.hid hz2
          clear hfit hz2
          go_wp2_with fail
          go_roundw
          case rel => exact ⟨q + 1, z2, by have := HLT.out; omega, by simp, by have := HZ.out; have := HZ2.out; omega, Lib.hid (fun p hp hf => by
            rcases Nat.lt_or_ge p q with h1 | h1
            · exact HQ.out p h1 hf
            · obtain rfl : p = q := by omega
              have h2 := hf.2
              rw [HZ.out, HEN.out] at h2
              have := HF.out
              omega), HB2.out⟩
          case measure =>
            have := HZ2.out
            simp [intOf]
            omega
      · obtain ⟨z2, hz2⟩ : ∃ z2, z + 65536 = z2 := ⟨_, rfl⟩
        have ez2 : (z : Int) + 65536 = (z2 : Int) := by omega
        have wz2 : IntKind.u64.wrap (z2 : Int) = (z2 : Int) := by rw [IntKind.wrap_u64]; omega
        have HZ2 := Lib.hid hz2
        have HRM := Lib.hid hroom
        clear hz2 hroom
        go_wp2_with fail
        go_roundw
        case rel => exact ⟨q + 1, z2, by have := HLT.out; omega, by simp, by have := HZ.out; have := HZ2.out; omega, Lib.hid (fun p hp hf => by
          rcases Nat.lt_or_ge p q with h1 | h1
          · exact HQ.out p h1 hf
          · obtain rfl : p = q := by omega
            have h2 := hf.1
            rw [HZ.out] at h2
            exact HRM.out h2), HB2.out⟩
        case measure =>
          have := HZ2.out
          simp [intOf]
          omega
    · obtain rfl : q = 255 := by omega
      obtain rfl : z = 16777216 := by omega
      clear hz
      go_wp2_with fail
      refine bodyPost_ret (v := .tuple #[.int .u64 0, .bool false]) (by simp [results, Try.results21, go_sem]) rfl ⟨.inr ⟨rfl, HQ.out⟩, HB.out⟩
end Go.Proofs.Ytlifaldbdjcgjaa
