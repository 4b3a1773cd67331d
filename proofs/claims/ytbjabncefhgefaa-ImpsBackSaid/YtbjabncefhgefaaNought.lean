/- row.Noughts at eight bytes. -/
import Derived.Test.YtbjabncefhgefaaLst
import Derived.Test.YtbjabncefhgefaaRow
namespace Go.Proofs.Ytbjabncefhgefaa
open Go.ChangeShapes Go.WideShapes Go.ChangeAt Go.RowKit
set_option linter.unusedVariables false
set_option linter.unusedSimpArgs false

/-- Are n bytes from o on all there, and all noughts? -/
def noughtsL (b : List Nat) (o n : Nat) : Bool := decide (o + n ≤ b.length) && ((b.drop o).take n).all (· == 0)
theorem noughtsL_out {b : List Nat} {o n : Nat} (h : ¬ o + n ≤ b.length) : noughtsL b o n = false := by unfold noughtsL; rw [decide_eq_false h]; rfl
theorem noughtsL_iff {b : List Nat} {o n : Nat} (h : o + n ≤ b.length) : noughtsL b o n = true ↔ ∀ i, i < n → lF b (o + i) = 0 := by
  unfold noughtsL
  rw [decide_eq_true h, Bool.true_and, List.all_eq_true]
  constructor
  · intro k i hi
    have hb : o + i < b.length := by omega
    have hm : b[o + i] ∈ (b.drop o).take n := by
      rw [List.mem_iff_getElem]
      exact ⟨i, by rw [List.length_take, List.length_drop]; omega, by rw [List.getElem_take, List.getElem_drop]⟩
    have := k _ hm
    unfold lF
    simp only [List.getD, List.getElem?_eq_getElem hb, Option.getD_some]
    simpa using this
  · intro k v hv
    obtain ⟨i, hi, rfl⟩ := List.mem_iff_getElem.mp hv
    rw [List.length_take, List.length_drop] at hi
    have := k i (by omega)
    have hb : o + i < b.length := by omega
    unfold lF at this
    simp only [List.getD, List.getElem?_eq_getElem hb, Option.getD_some] at this
    rw [List.getElem_take, List.getElem_drop]
    simpa using this

set_option maxHeartbeats 1000000 in
theorem noughts_any (A : Option Addr) (cap : Nat) (bs : List Nat) (o n : Nat) (w : World) (hl : bs.length ≤ cap) (hc : cap ≤ 9223372036854775807) (hs : SlB w A bs.length (lF bs)) (ho : o ≤ 4611686018427387904) (hn : 1 ≤ n) (hn' : n ≤ 1000) :
    Calls Try.prog 53 #[.slice A bs.length cap, .int .i64 o, .int .i64 n] w fun e w' => e = .returned (.bool (noughtsL bs o n)) ∧ w = w' := by
  by_cases h : o + n ≤ bs.length
  · rcases hs with h' | ⟨b, off, rfl, hlt, hr⟩
    · omega
    have HIN := Lib.hid (fun W => rowIn_any (some ⟨b, off, none⟩) bs.length cap o n true W (by omega) (by omega) (by omega) ⟨fun _ => ⟨by omega, by omega, by omega⟩, fun _ => rfl⟩)
    have HB := Lib.hid (noughtsL_iff h)
    have HC := Lib.hid hr
    have HBS := Lib.hid h
    have hcap : ¬ cap = o := by omega
    obtain ⟨q, hq⟩ : ∃ q, o + n = q := ⟨_, rfl⟩
    have e1 : (o : Int) + (n : Int) = (q : Int) := by omega
    have hle : (q : Int) ≤ (cap : Int) := by omega
    have hlo : (o : Int) ≤ (q : Int) := by omega
    have h63 : (q : Int) < 9223372036854775808 := by omega
    have HQ := Lib.hid hq
    have hqo : q - o = n := by omega
    clear hr hl h hq
    go_enter Try.func53, Try.ntmps53
    go_wp2_with (first | (refine (HIN.out _).mono ?_; rintro e w' ⟨rfl, rfl⟩) | fail)
    go_loop [8, 21] (fun _ i => ∃ k : Nat, k ≤ n ∧ i = .int .i64 k ∧ ∀ j, j < k → lF bs (o + j) = 0) (fun _ i => n - (intOf i).toNat)
    case atStart => exact ⟨0, Nat.zero_le _, rfl, fun j hj => by omega⟩
    case round =>
      obtain ⟨k, hk, rfl, hz⟩ := hrel
      have HZ := Lib.hid hz
      clear hz
      by_cases hlt : k < n
      · have hcell : w.cell? ⟨b, off + o + k, none⟩ = some (.int .u8 (lF bs (o + k))) := by have := HC.out (o + k) (by have := HBS.out; omega); rwa [Nat.add_assoc]
        have hn63 : n ≤ 1000 := hn'
        by_cases h0 : lF bs (o + k) = 0
        · rw [h0] at hcell
          have hz' : ∀ j, j < k + 1 → lF bs (o + j) = 0 := fun j hj => by
            rcases (by omega : j < k ∨ j = k) with h | rfl
            · exact HZ.out j h
            · exact h0
          have HZ' := Lib.hid hz'
          clear h0 hz'
          go_wp2
          refine ⟨⟨k + 1, by omega, by go_num, HZ'.out⟩, by simp [intOf]; omega⟩
        · have hne : (lF bs (o + k) != 0) = true := by simpa using h0
          have HF := Lib.hid (show noughtsL bs o n = false from by
            rcases hb : noughtsL bs o n
            · rfl
            · exact absurd (HB.out.1 hb k hlt) h0)
          clear h0
          go_wp2
          go_ret
          exact ⟨by rw [HF.out]; rfl, rfl⟩
      · obtain rfl : k = n := by omega
        have HT := Lib.hid (show noughtsL bs o k = true from HB.out.2 HZ.out)
        have hnl : ¬ ((k : Int) < ((q - o : Nat) : Int)) := by omega
        have hnl2 : ¬ (k < q - o) := by omega
        clear hqo hlt
        go_wp2
        go_ret
        exact ⟨by rw [HT.out]; rfl, rfl⟩
  · have HIN := Lib.hid (fun W => rowIn_any A bs.length cap o n false W (by omega) (by omega) (by omega) ⟨fun q => by simp at q, fun q => by omega⟩)
    rw [noughtsL_out h]
    clear hl hs h
    go_enter Try.func53, Try.ntmps53
    go_wp2_with (first | (refine (HIN.out _).mono ?_; rintro e w' ⟨rfl, rfl⟩) | fail)
    go_ret
    exact ⟨rfl, rfl⟩
end Go.Proofs.Ytbjabncefhgefaa
