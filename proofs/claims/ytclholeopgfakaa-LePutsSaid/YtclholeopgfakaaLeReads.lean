/- The walk of the law LeReads. -/
import Derived.Test.YtclholeopgfakaaRef1
namespace Go.Proofs.Ytclholeopgfakaa
open Go.ChangeShapes Go.WideShapes Go.ChangeAt Go.RowKit
set_option linter.unusedVariables false

/-- A slice of bytes and the text of it. -/
structure Two (w : World) (A : Option Addr) (len cap : Nat) (f : Nat → Int) (S : ByteArray) : Prop where
  le : len ≤ cap
  max : cap ≤ 9223372036854775807
  byte : Bytes255 f
  sl : SlB w A len f
  size : S.size = len
  same : ∀ i, i < len → PlainAid.bt S i = f i

theorem num_both {w : World} {A : Option Addr} {len cap : Nat} {f : Nat → Int} {S : ByteArray} (h : Two w A len cap f S) (at' : Int) (n : Nat) (h1 : 1 ≤ n) (h8 : n ≤ 8) :
    ∃ (v : Int) (b : Bool), 0 ≤ v ∧ v < 256 ^ n ∧
      (Calls Try.prog 28 #[.slice A len cap, .int .i64 at', .int .i64 n] w fun e w' => e = .returned (.tuple #[.int .u64 v, .bool b]) ∧ w = w') ∧
      (Calls Try.prog 17 #[.string S, .int .i64 at', .int .i64 n] w fun e w' => e = .returned (.tuple #[.int .u64 v, .bool b]) ∧ w = w') := by
  have hle := h.le
  have hmax := h.max
  have hsz := h.size
  by_cases hc : 0 ≤ at' ∧ at' ≤ len - n
  · obtain ⟨o, rfl⟩ := Int.eq_ofNat_of_zero_le hc.1
    have hbd := rdF_bd f h.byte n o
    rcases h.sl with hs | ⟨b, off, rfl, hlt, hr⟩
    · omega
    · refine ⟨rdF f o n, true, hbd.1, hbd.2, number_yes _ _ _ _ f o n _ (by omega) h8 (by omega) h.byte hr, ?_⟩
      have e : rdF (PlainAid.bt S) o n = rdF f o n := rdF_congr n o (fun i hi => h.same (o + i) (by omega))
      rw [← e]
      exact rnum_yes S o n w (by omega) h8 (by omega)
  · exact ⟨0, false, by omega, Int.pow_pos (by omega), number_no _ _ _ _ _ _ (by omega) (by omega) (by omega) hc, rnum_no S at' n w (by omega) (by omega) (by rw [hsz]; exact hc)⟩

theorem text_both {w : World} {A : Option Addr} {len cap : Nat} {f : Nat → Int} {S : ByteArray} (h : Two w A len cap f S) (at' most : Int) :
    ∃ (t : ByteArray) (b : Bool),
      (Calls Try.prog 16 #[.slice A len cap, .int .i64 at', .int .i64 most] w fun e w' => e = .returned (.tuple #[.string t, .bool b]) ∧ w = w') ∧
      (Calls Try.prog 18 #[.string S, .int .i64 at', .int .i64 most] w fun e w' => e = .returned (.tuple #[.string t, .bool b]) ∧ w = w') := by
  have hle := h.le
  have hmax := h.max
  have hsz := h.size
  by_cases hc : 0 ≤ at' ∧ at' < len
  · obtain ⟨o, rfl⟩ := Int.eq_ofNat_of_zero_le hc.1
    rcases h.sl with hs | ⟨b, off, rfl, hlt, hr⟩
    · omega
    · by_cases hz : ∃ n : Nat, o + n < len ∧ (n = 0 ∨ n ≤ most) ∧ f (o + n) = 0 ∧ ∀ i, i < n → f (o + i) ≠ 0
      · obtain ⟨n, h1, h2, h3, h4⟩ := hz
        refine ⟨strF f o n, true, text_yes _ _ _ _ f o n _ _ hmax hle h1 h2 h3 h4 hr, ?_⟩
        have e : strF (PlainAid.bt S) o n = strF f o n := strF_congr fun i hi => h.same (o + i) (by omega)
        rw [← e]
        exact rtext_yes S o n most w (by omega) (by omega) h2 (by rw [h.same _ h1]; exact h3) (fun i hi => by rw [h.same _ (by omega)]; exact h4 i hi)
      · have hno : ∀ i : Nat, o + i < len → (i = 0 ∨ i ≤ most) → f (o + i) ≠ 0 := by
          intro i
          induction i using Nat.strongRecOn with
          | ind i ih => exact fun hi hm h0 => hz ⟨i, hi, hm, h0, fun j hj => ih j hj (by omega) (by omega)⟩
        exact ⟨ByteArray.empty, false, text_no _ _ _ _ f o _ _ hmax hle (by omega) hno hr,
          rtext_no S o most w (by omega) (by omega) (fun i hi hk => by rw [h.same _ (by omega)]; exact hno i (by omega) hk)⟩
  · exact ⟨ByteArray.empty, false, text_out _ _ _ _ _ _ (by omega) (by omega), rtext_out S at' most w (by omega) (by omega)⟩

/-- What the readers of two, four and eight bytes answer: the number, whether it is there. -/
def NumAt (w : World) (A : Option Addr) (len cap : Nat) (S : ByteArray) (at' : Int) (n : Int) (v : Int) (b : Bool) : Prop :=
  (Calls Try.prog 28 #[.slice A len cap, .int .i64 at', .int .i64 n] w fun e w' => e = .returned (.tuple #[.int .u64 v, .bool b]) ∧ w = w') ∧
  (Calls Try.prog 17 #[.string S, .int .i64 at', .int .i64 n] w fun e w' => e = .returned (.tuple #[.int .u64 v, .bool b]) ∧ w = w')
def TextAt (w : World) (A : Option Addr) (len cap : Nat) (S : ByteArray) (at' most : Int) (t : ByteArray) (b : Bool) : Prop :=
  (Calls Try.prog 16 #[.slice A len cap, .int .i64 at', .int .i64 most] w fun e w' => e = .returned (.tuple #[.string t, .bool b]) ∧ w = w') ∧
  (Calls Try.prog 18 #[.string S, .int .i64 at', .int .i64 most] w fun e w' => e = .returned (.tuple #[.string t, .bool b]) ∧ w = w')

theorem u16_at {w : World} {A : Option Addr} {len cap : Nat} {S : ByteArray} {at' v : Int} {b : Bool} (h : NumAt w A len cap S at' 2 v b) (h0 : 0 ≤ v) (h1 : v < 65536) :
    Calls Try.prog 14 #[.slice A len cap, .int .i64 at'] w fun e w' => e = .returned (.tuple #[.int .i64 v, .bool b]) ∧ w = w' := by
  have H := Lib.hid h.1
  clear h
  go_enter Try.func14, Try.ntmps14
  go_wp2_with (go_at_call 28; refine H.out.mono ?_; rintro e w' ⟨rfl, rfl⟩)
  go_ret2
  exact ⟨rfl, rfl⟩
theorem u32_at {w : World} {A : Option Addr} {len cap : Nat} {S : ByteArray} {at' v : Int} {b : Bool} (h : NumAt w A len cap S at' 4 v b) (h0 : 0 ≤ v) (h1 : v < 4294967296) :
    Calls Try.prog 13 #[.slice A len cap, .int .i64 at'] w fun e w' => e = .returned (.tuple #[.int .i64 v, .bool b]) ∧ w = w' := by
  have H := Lib.hid h.1
  clear h
  go_enter Try.func13, Try.ntmps13
  go_wp2_with (go_at_call 28; refine H.out.mono ?_; rintro e w' ⟨rfl, rfl⟩)
  go_ret2
  exact ⟨rfl, rfl⟩
theorem u64_at {w : World} {A : Option Addr} {len cap : Nat} {S : ByteArray} {at' v : Int} {b : Bool} (h : NumAt w A len cap S at' 8 v b) :
    Calls Try.prog 12 #[.slice A len cap, .int .i64 at'] w fun e w' => e = .returned (.tuple #[.int .u64 v, .bool b]) ∧ w = w' := by
  have H := Lib.hid h.1
  clear h
  go_enter Try.func12, Try.ntmps12
  go_wp2_with (go_at_call 28; refine H.out.mono ?_; rintro e w' ⟨rfl, rfl⟩)
  go_ret2
  exact ⟨rfl, rfl⟩

set_option maxRecDepth 100000 in
set_option maxHeartbeats 1000000 in
theorem leReads_walk (A : Option Addr) (len cap : Nat) (f : Nat → Int) (at' most : Int) (w : World) (hl : len ≤ cap) (hm : cap ≤ 9223372036854775807) (hb : Bytes255 f) (hs : SlB w A len f) :
    Calls Try.prog 6 #[.slice A len cap, .int .i64 at', .int .i64 most] w fun e w' => e = .returned (.bool true) ∧ Below w.heap.size w w' := by
  by_cases h300 : 300 < len
  · have h300' : (300 : Int) < len := by omega
    go_enter Try.func6, Try.ntmps6
    go_wp2_with (go_at_call 11; refine (awake1 _).mono ?_; rintro e w' ⟨rfl, hbel⟩)
    go_ret
    exact ⟨rfl, hbel⟩
  have h300' : ¬ (300 : Int) < len := by omega
  obtain ⟨S, hT, hconv⟩ : ∃ S, Two w A len cap f S ∧ (convert 22 9 (.slice A len cap)).run Try.prog w = .ok (.string S) w := by
    refine ⟨strF f 0 len, ⟨hl, hm, hb, hs, strF_size f 0 len, fun i hi => by rw [bt_strF hb hi, Nat.zero_add]⟩, ?_⟩
    rcases hs with rfl | ⟨b, off, rfl, _, hr⟩
    · rw [run_str0]; rfl
    · exact run_str hr
  have HT := Lib.hid hT
  clear hs hT
  go_enter Try.func6, Try.ntmps6
  go_wp2
  clear hconv
  go_loop [1, 2, 8] (fun x y i => ∃ (k : Nat) (a m : Int), k ≤ 2 ∧ x = .int .i64 a ∧ y = .int .i64 m ∧ i = .int .i64 k) (fun _ _ i => 2 - (intOf i).toNat)
  case atStart => exact ⟨0, at', most, by omega, rfl, rfl, rfl⟩
  case round =>
    obtain ⟨k, a, m, hk, rfl, rfl, rfl⟩ := hrel
    by_cases hlt : k < 2
    · obtain ⟨v2, b2, p20, p21, c2⟩ := num_both HT.out a 2 (by omega) (by omega)
      obtain ⟨v4, b4, p40, p41, c4⟩ := num_both HT.out a 4 (by omega) (by omega)
      obtain ⟨v8, b8, p80, p81, c8⟩ := num_both HT.out a 8 (by omega) (by omega)
      obtain ⟨t, bt, ct⟩ := text_both HT.out a m
      have q2 : NumAt w A len cap S a 2 v2 b2 := c2
      have q4 : NumAt w A len cap S a 4 v4 b4 := c4
      have q8 : NumAt w A len cap S a 8 v8 b8 := c8
      have qt : TextAt w A len cap S a m t bt := ct
      have HQ := Lib.hid (And.intro q2 (And.intro q4 (And.intro q8 qt)))
      clear c2 c4 c8 ct q2 q4 q8 qt
      have m1 := and_ffff a
      have m2 := and_63 m
      have r21 : v2 < 65536 := by omega
      have r41 : v4 < 4294967296 := by omega
      have r81 : v8 ≤ 18446744073709551615 := by omega
      clear p21 p41 p81
      go_wp2_with fail
      refine (u16_at HQ.out.1 p20 r21).mono ?_
      rintro e w' ⟨rfl, rfl⟩
      go_wp2_with fail
      refine (u32_at HQ.out.2.1 p40 r41).mono ?_
      rintro e w' ⟨rfl, rfl⟩
      go_wp2_with fail
      refine (u64_at HQ.out.2.2.1).mono ?_
      rintro e w' ⟨rfl, rfl⟩
      go_wp2_with fail
      refine HQ.out.1.2.mono ?_
      rintro e w' ⟨rfl, rfl⟩
      go_wp2_with fail
      refine HQ.out.2.1.2.mono ?_
      rintro e w' ⟨rfl, rfl⟩
      go_wp2_with fail
      refine HQ.out.2.2.1.2.mono ?_
      rintro e w' ⟨rfl, rfl⟩
      go_wp2_with fail
      refine HQ.out.2.2.2.1.mono ?_
      rintro e w' ⟨rfl, rfl⟩
      go_wp2_with fail
      refine HQ.out.2.2.2.2.mono ?_
      rintro e w' ⟨rfl, rfl⟩
      go_wp2
      go_round
      case rel => exact ⟨k + 1, _, _, by omega, rfl, rfl, by go_num⟩
      case measure => simp [intOf]; omega
    · obtain rfl : k = 2 := by omega
      go_wp2_with (go_at_call 11; refine (awake1 _).mono ?_; rintro e w' ⟨rfl, hbel⟩)
      go_ret
      exact ⟨rfl, hbel⟩
end Go.Proofs.Ytclholeopgfakaa
