/- The walk of the law LeReads. -/
import Derived.Test.YtplgdpjbkdagfaaGreatRef1
namespace Go.Proofs.YtplgdpjbkdagfaaGreat
set_option maxRecDepth 100000
open Go.ChangeShapes Go.WideShapes Go.ChangeAt Go.RowKit
set_option linter.unusedVariables false
set_option linter.unusedSimpArgs false

/-- A slice of bytes and the text of it. -/
structure Two (w : World) (A : Option Addr) (len cap : Nat) (f : Nat → Int) (S : ByteArray) : Prop where
  le : len ≤ cap
  max : cap ≤ 9223372036854775807
  byte : Bytes255 f
  sl : SlB w A len f
  size : S.size = len
  same : ∀ i, i < len → PlainAid.bt S i = f i

theorem num_both {w : World} {A : Option Addr} {len cap : Nat} {f : Nat → Int} {S : ByteArray} (h : Two w A len cap f S) (at' : Int) (n : Nat) (h1 : 1 ≤ n) (h8 : n ≤ 8) :
    ∃ (v : Int) (b : Bool), 0 ≤ v ∧ v < 256 ^ n ∧
      (Calls Tryz.prog 130 #[.slice A len cap, .int .i64 at', .int .i64 n] w fun e w' => e = .returned (.tuple #[.int .u64 v, .bool b]) ∧ w = w') ∧
      (Calls Tryz.prog 74 #[.string S, .int .i64 at', .int .i64 n] w fun e w' => e = .returned (.tuple #[.int .u64 v, .bool b]) ∧ w = w') := by
  have hle := h.le
  have hmax := h.max
  have hsz := h.size
  by_cases hc : 0 ≤ at' ∧ at' ≤ len - n
  · obtain ⟨o, rfl⟩ := Int.eq_ofNat_of_zero_le hc.1
    have hbd := rdF_bd f h.byte n o
    rcases h.sl with hs | ⟨b, off, rfl, hlt, hr⟩
    · omega
    · refine ⟨rdF f o n, true, hbd.1, hbd.2, number_yes _ _ _ _ f o n _ (by omega) h8 (by omega) h.byte hr, ?_⟩
      have e : rdF (PlainAid.bt S) o n = rdF f o n := rdF_congr n o (fun i hi => h.same (o + i) (by omega))
      rw [← e]
      exact rnum_yes S o n w (by omega) h8 (by omega)
  · exact ⟨0, false, by omega, Int.pow_pos (by omega), number_no _ _ _ _ _ _ (by omega) (by omega) (by omega) hc, rnum_no S at' n w (by omega) (by omega) (by rw [hsz]; exact hc)⟩

theorem text_both {w : World} {A : Option Addr} {len cap : Nat} {f : Nat → Int} {S : ByteArray} (h : Two w A len cap f S) (at' most : Int) :
    ∃ (t : ByteArray) (b : Bool),
      (Calls Tryz.prog 135 #[.slice A len cap, .int .i64 at', .int .i64 most] w fun e w' => e = .returned (.tuple #[.string t, .bool b]) ∧ w = w') ∧
      (Calls Tryz.prog 75 #[.string S, .int .i64 at', .int .i64 most] w fun e w' => e = .returned (.tuple #[.string t, .bool b]) ∧ w = w') := by
  have hle := h.le
  have hmax := h.max
  have hsz := h.size
  by_cases hc : 0 ≤ at' ∧ at' < len
  · obtain ⟨o, rfl⟩ := Int.eq_ofNat_of_zero_le hc.1
    rcases h.sl with hs | ⟨b, off, rfl, hlt, hr⟩
    · omega
    · by_cases hz : ∃ n : Nat, o + n < len ∧ (n = 0 ∨ n ≤ most) ∧ f (o + n) = 0 ∧ ∀ i, i < n → f (o + i) ≠ 0
      · obtain ⟨n, h1, h2, h3, h4⟩ := hz
        refine ⟨strF f o n, true, text_yes _ _ _ _ f o n _ _ hmax hle h1 h2 h3 h4 hr, ?_⟩
        have e : strF (PlainAid.bt S) o n = strF f o n := strF_congr fun i hi => h.same (o + i) (by omega)
        rw [← e]
        exact rtext_yes S o n most w (by omega) (by omega) h2 (by rw [h.same _ h1]; exact h3) (fun i hi => by rw [h.same _ (by omega)]; exact h4 i hi)
      · have hno : ∀ i : Nat, o + i < len → (i = 0 ∨ i ≤ most) → f (o + i) ≠ 0 := by
          intro i
          induction i using Nat.strongRecOn with
          | ind i ih => exact fun hi hm h0 => hz ⟨i, hi, hm, h0, fun j hj => ih j hj (by omega) (by omega)⟩
        exact ⟨ByteArray.empty, false, text_no _ _ _ _ f o _ _ hmax hle (by omega) hno hr,
          rtext_no S o most w (by omega) (by omega) (fun i hi hk => by rw [h.same _ (by omega)]; exact hno i (by omega) hk)⟩
  · exact ⟨ByteArray.empty, false, text_out _ _ _ _ _ _ (by omega) (by omega), rtext_out S at' most w (by omega) (by omega)⟩

/-- What the readers of two, four and eight bytes answer: the number, whether it is there. -/
def NumAt (w : World) (A : Option Addr) (len cap : Nat) (S : ByteArray) (at' : Int) (n : Int) (v : Int) (b : Bool) : Prop :=
  (Calls Tryz.prog 130 #[.slice A len cap, .int .i64 at', .int .i64 n] w fun e w' => e = .returned (.tuple #[.int .u64 v, .bool b]) ∧ w = w') ∧
  (Calls Tryz.prog 74 #[.string S, .int .i64 at', .int .i64 n] w fun e w' => e = .returned (.tuple #[.int .u64 v, .bool b]) ∧ w = w')
def TextAt (w : World) (A : Option Addr) (len cap : Nat) (S : ByteArray) (at' most : Int) (t : ByteArray) (b : Bool) : Prop :=
  (Calls Tryz.prog 135 #[.slice A len cap, .int .i64 at', .int .i64 most] w fun e w' => e = .returned (.tuple #[.string t, .bool b]) ∧ w = w') ∧
  (Calls Tryz.prog 75 #[.string S, .int .i64 at', .int .i64 most] w fun e w' => e = .returned (.tuple #[.string t, .bool b]) ∧ w = w')

theorem u16_at {w : World} {A : Option Addr} {len cap : Nat} {S : ByteArray} {at' v : Int} {b : Bool} (h : NumAt w A len cap S at' 2 v b) (h0 : 0 ≤ v) (h1 : v < 65536) :
    Calls Tryz.prog 104 #[.slice A len cap, .int .i64 at'] w fun e w' => e = .returned (.tuple #[.int .i64 v, .bool b]) ∧ w = w' := by
  have H := Lib.hid h.1
  clear h
  go_enter Tryz.func104, Tryz.ntmps104
  go_wp2_with (go_at_call 130; refine H.out.mono ?_; rintro e w' ⟨rfl, rfl⟩)
  go_ret2
  exact ⟨rfl, rfl⟩
theorem u32_at {w : World} {A : Option Addr} {len cap : Nat} {S : ByteArray} {at' v : Int} {b : Bool} (h : NumAt w A len cap S at' 4 v b) (h0 : 0 ≤ v) (h1 : v < 4294967296) :
    Calls Tryz.prog 129 #[.slice A len cap, .int .i64 at'] w fun e w' => e = .returned (.tuple #[.int .i64 v, .bool b]) ∧ w = w' := by
  have H := Lib.hid h.1
  clear h
  go_enter Tryz.func129, Tryz.ntmps129
  go_wp2_with (go_at_call 130; refine H.out.mono ?_; rintro e w' ⟨rfl, rfl⟩)
  go_ret2
  exact ⟨rfl, rfl⟩
theorem u64_at {w : World} {A : Option Addr} {len cap : Nat} {S : ByteArray} {at' v : Int} {b : Bool} (h : NumAt w A len cap S at' 8 v b) :
    Calls Tryz.prog 103 #[.slice A len cap, .int .i64 at'] w fun e w' => e = .returned (.tuple #[.int .u64 v, .bool b]) ∧ w = w' := by
  have H := Lib.hid h.1
  clear h
  go_enter Tryz.func103, Tryz.ntmps103
  go_wp2_with (go_at_call 130; refine H.out.mono ?_; rintro e w' ⟨rfl, rfl⟩)
  go_ret2
  exact ⟨rfl, rfl⟩

end Go.Proofs.YtplgdpjbkdagfaaGreat
