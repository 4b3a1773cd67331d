/- package bound: a row is read. -/
import Derived.Test.YtbghgjhenahcgaaNought
namespace Go.Proofs.Ytbghgjhenahcgaa
open Go.ChangeShapes Go.WideShapes Go.ChangeAt Go.RowKit
set_option linter.unusedVariables false

def readL (b : List Nat) (rva o : Nat) : Option (List Nat × Nat) :=
  match textL b (rva + numL (b.drop (o + 4)) 2) 40 with
  | some t => if okNm t then some (t, numL (b.drop o) 4) else none
  | none => none

/-- What read tells: a row, or that there is none. -/
def ReadQ (b : List Nat) (rva o : Nat) (e : Ending) : Prop := ∃ (S : ByteArray) (ok : Bool), e = .returned (.tuple #[.agg #[.string S, .int .i64 (numL (b.drop o) 4)], .bool ok]) ∧
  (readL b rva o = none → ok = false) ∧ (∀ x, readL b rva o = some x → ok = true ∧ S = txt x.1 ∧ numL (b.drop o) 4 = x.2)

theorem textL_lb {b : List Nat} (h : Lb b) {o most : Nat} {t : List Nat} (ht : textL b o most = some t) : Lb t ∧ t.length ≤ most := by
  obtain ⟨_, h2, _, _, h5⟩ := textL_some ht
  exact ⟨by rw [h5]; exact (h.drop o).take _, h2⟩

set_option maxHeartbeats 1000000 in
theorem read_any (A : Option Addr) (cap : Nat) (bs : List Nat) (rva o : Nat) (sz : Int) (w : World) (hb : Lb bs) (hl : bs.length ≤ cap) (hc : cap ≤ 9223372036854775807) (hs : SlB w A bs.length (lF bs)) (h : o + 8 ≤ bs.length) (hr : rva ≤ 1099511627776) (ho : o ≤ 1099511627776) :
    Calls Try.prog 13 #[.slice A bs.length cap, .agg #[.int .i64 rva, .int .i64 sz], .int .i64 o] w fun e w' => ReadQ bs rva o e ∧ Below w.heap.size w w' := by
  have n2 := numL_lt (hb.drop (o + 4)) 2
  have n4 := numL_lt (hb.drop o) 4
  have HS := Lib.hid (fun W (hW : Below w.heap.size w W) => SlB.below hs hW)
  have H32 := Lib.hid (fun W (hW : Below w.heap.size w W) => u32_list A cap bs o W (by omega) hb (by omega) (HS.out W hW))
  have H16 := Lib.hid (fun W (hW : Below w.heap.size w W) => u16_list A cap bs (o + 4) W (by omega) hb (by omega) (HS.out W hW))
  have HTX := Lib.hid (fun W (hW : Below w.heap.size w W) => text_list A cap bs (rva + numL (bs.drop (o + 4)) 2) 40 W hc hl (HS.out W hW))
  have HOK := Lib.hid (fun t (ht : textL bs (rva + numL (bs.drop (o + 4)) 2) 40 = some t) W => okNm_any t W (textL_lb hb ht).1 (by have := (textL_lb hb ht).2; omega))
  obtain ⟨P, hP⟩ : ∃ P, numL (bs.drop (o + 4)) 2 = P := ⟨_, rfl⟩
  obtain ⟨V, hV⟩ : ∃ V, numL (bs.drop o) 4 = V := ⟨_, rfl⟩
  have HRD := Lib.hid (show readL bs rva o = match textL bs (rva + P) 40 with | some t => if okNm t then some (t, V) else none | none => none by unfold readL; rw [hP, hV])
  unfold ReadQ
  rw [hP] at H16 HTX HOK n2
  rw [hV] at H32 n4 ⊢
  obtain ⟨o4, ho4⟩ : ∃ q, o + 4 = q := ⟨_, rfl⟩
  obtain ⟨rp, hrp⟩ : ∃ q, rva + P = q := ⟨_, rfl⟩
  rw [ho4] at H16
  rw [hrp] at HTX HOK HRD
  have e4 : (o : Int) + 4 = (o4 : Int) := by omega
  have erp : (rva : Int) + (P : Int) = (rp : Int) := by omega
  have l4 : (o4 : Int) < 9223372036854775808 := by omega
  have lrp : (rp : Int) < 9223372036854775808 := by omega
  have e16 : (256 : Nat) ^ 2 = 65536 := rfl
  have e32 : (256 : Nat) ^ 4 = 4294967296 := rfl
  rw [e16] at n2
  rw [e32] at n4
  clear hP hV ho4 hrp e16 e32 hs
  rcases ht : textL bs rp 40 with _ | t
  · rw [ht] at HTX HRD
    simp only at HTX HRD
    go_enter Try.func13, Try.ntmps13
    go_wp2_with (first | (refine (H32.out _ (by go_grown)).mono ?_; rintro e w' ⟨rfl, rfl⟩) | (refine (H16.out _ (by go_grown)).mono ?_; rintro e w' ⟨rfl, rfl⟩) | (refine (HTX.out _ (by go_grown)).mono ?_; rintro e w' ⟨rfl, rfl⟩) | fail)
    refine bodyPost_ret (v := .tuple #[.agg #[.string ByteArray.empty, .int .i64 V], .bool false]) (by simp [results, Try.results13, go_sem]) rfl ⟨⟨_, _, rfl, fun _ => rfl, fun x hx => ?_⟩, by go_grown⟩
    rw [HRD.out] at hx
    exact absurd hx (by simp)
  · rw [ht] at HTX HRD
    have HO := Lib.hid (HOK.out t ht)
    simp only at HTX HRD
    go_enter Try.func13, Try.ntmps13
    go_wp2_with (first | (refine (H32.out _ (by go_grown)).mono ?_; rintro e w' ⟨rfl, rfl⟩) | (refine (H16.out _ (by go_grown)).mono ?_; rintro e w' ⟨rfl, rfl⟩) | (refine (HTX.out _ (by go_grown)).mono ?_; rintro e w' ⟨rfl, rfl⟩) | (refine (HO.out _).mono ?_; rintro e w' ⟨rfl, rfl⟩) | fail)
    refine bodyPost_ret (v := .tuple #[.agg #[.string (txt t), .int .i64 V], .bool (okNm t)]) (by simp [results, Try.results13, go_sem]) rfl ⟨⟨_, _, rfl, fun hx => ?_, fun x hx => ?_⟩, by go_grown⟩
    · rw [HRD.out] at hx
      by_cases k : okNm t = true
      · rw [if_pos k] at hx; exact absurd hx (by simp)
      · simpa using k
    · rw [HRD.out] at hx
      by_cases k : okNm t = true
      · rw [if_pos k] at hx; injection hx with hx; subst hx; exact ⟨k, rfl, rfl⟩
      · rw [if_neg k] at hx; exact absurd hx (by simp)
end Go.Proofs.Ytbghgjhenahcgaa
