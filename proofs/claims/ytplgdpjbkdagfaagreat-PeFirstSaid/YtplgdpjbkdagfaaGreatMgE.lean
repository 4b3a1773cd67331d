/- The contracts of the document's answer on numbers in bytes. · The walk of the law LeReads. · The contracts of Bytes and Put, the program's and the document's answer, at any number. · law 5: rows of bytes of the call's own, with what is spare; put. · law 5: append onto such a row, a store into it. · law 5: what Made makes: plain lemmas. · law 5: Made. · law 5: Made of nothing. · law 5: what Parse tells of what is made. · law 5: awake. -/
import Derived.Test.YtplgdpjbkdagfaaGreatMgA
import Derived.Deep.RegionHeld3
import Derived.Test.YtplgdpjbkdagfaaGreatMgC
import Derived.Test.YtplgdpjbkdagfaaGreatMgB
import Derived.Test.YtplgdpjbkdagfaaGreatMgD
namespace Go.Proofs.YtplgdpjbkdagfaaGreat
set_option maxRecDepth 100000
open Go.ChangeShapes Go.WideShapes Go.ChangeAt Go.RowKit
set_option linter.unusedVariables false
set_option linter.unusedSimpArgs false

theorem in_yes (long at' n : Int) (w : World) (hl : long ≤ 9223372036854775807) (h1 : 0 ≤ at') (h2 : 0 ≤ n) (h3 : at' ≤ long - n) :
    Calls Tryz.prog 73 #[.int .i64 long, .int .i64 at', .int .i64 n] w fun e w' => e = .returned (.bool true) ∧ w = w' := by
  have h4 : at' ≤ long := by omega
  have h5 : n ≤ long - at' := by omega
  go_enter Tryz.func73, Tryz.ntmps73
  go_wp2
  go_ret
  exact ⟨rfl, rfl⟩

theorem in_no (long at' n : Int) (w : World) (hl0 : 0 ≤ long) (hl : long ≤ 9223372036854775807) (h : ¬ (0 ≤ at' ∧ 0 ≤ n ∧ at' ≤ long - n)) :
    Calls Tryz.prog 73 #[.int .i64 long, .int .i64 at', .int .i64 n] w fun e w' => e = .returned (.bool false) ∧ w = w' := by
  by_cases h1 : 0 ≤ at'
  · by_cases h2 : 0 ≤ n
    · by_cases h3 : at' ≤ long
      · have h4 : ¬ n ≤ long - at' := by omega
        go_enter Tryz.func73, Tryz.ntmps73
        go_wp2
        go_ret
        exact ⟨rfl, rfl⟩
      · go_enter Tryz.func73, Tryz.ntmps73
        go_wp2
        go_ret
        exact ⟨rfl, rfl⟩
    · go_enter Tryz.func73, Tryz.ntmps73
      go_wp2
      go_ret
      exact ⟨rfl, rfl⟩
  · go_enter Tryz.func73, Tryz.ntmps73
    go_wp2
    go_ret
    exact ⟨rfl, rfl⟩

theorem or_disj {v c : Int} (k : Nat) (hk : k ≤ 56) (v0 : 0 ≤ v) (v1 : v < 2 ^ k) (c0 : 0 ≤ c) (c1 : c ≤ 255) :
    bits BinOp.or IntKind.u64 v (c * 2 ^ k) = v + 2 ^ k * c := by
  obtain ⟨x, rfl⟩ := Int.eq_ofNat_of_zero_le v0
  obtain ⟨y, rfl⟩ := Int.eq_ofNat_of_zero_le c0
  have hx : x < 2 ^ k := by
    have : ((x : Nat) : Int) < ((2 ^ k : Nat) : Int) := by rw [Int.natCast_pow]; exact v1
    omega
  have hp : 2 ^ k ≤ 2 ^ 56 := Nat.pow_le_pow_right (by omega) hk
  have hy : y * 2 ^ k ≤ 255 * 2 ^ 56 := Nat.mul_le_mul (by omega) hp
  have e1 : ((y : Int) * 2 ^ k) = ((y * 2 ^ k : Nat) : Int) := by rw [Int.natCast_mul, Int.natCast_pow]; rfl
  rw [e1, u64_or _ _ (by omega) (by omega) (by omega) (by omega)]
  have e2 : ((x : Int)).toNat = x := by omega
  have e3 : (((y * 2 ^ k : Nat) : Int)).toNat = y * 2 ^ k := by omega
  rw [e2, e3, Nat.or_comm, Nat.mul_comm, ← Nat.two_pow_add_eq_or_of_lt hx]
  rw [Int.natCast_add, Int.natCast_mul, Int.natCast_pow]
  exact Int.add_comm _ _

theorem rnum_no (s : ByteArray) (at' n : Int) (w : World) (hs : s.size ≤ 9223372036854775807) (h0 : 0 ≤ n) (h : ¬ (0 ≤ at' ∧ at' ≤ s.size - n)) :
    Calls Tryz.prog 74 #[.string s, .int .i64 at', .int .i64 n] w fun e w' => e = .returned (.tuple #[.int .u64 0, .bool false]) ∧ w = w' := by
  go_enter Tryz.func74, Tryz.ntmps74
  go_wp2_with (go_at_call 73; refine (in_no _ _ _ _ (by omega) (by omega) (by omega)).mono ?_; rintro e w' ⟨rfl, rfl⟩)
  go_ret2
  exact ⟨rfl, rfl⟩

theorem rnum_yes (s : ByteArray) (o n : Nat) (w : World) (hs : s.size ≤ 9223372036854775807) (hn : n ≤ 8) (h : o + n ≤ s.size) :
    Calls Tryz.prog 74 #[.string s, .int .i64 o, .int .i64 n] w fun e w' => e = .returned (.tuple #[.int .u64 (rdF (PlainAid.bt s) o n), .bool true]) ∧ w = w' := by
  have gb := PlainAid.get_bt s
  go_enter Tryz.func74, Tryz.ntmps74
  go_wp2_with (go_at_call 73; refine (in_yes _ _ _ _ (by omega) (by omega) (by omega) (by omega)).mono ?_; rintro e w' ⟨rfl, rfl⟩)
  go_loop [8, 9] (fun v i => ∃ k : Nat, k ≤ n ∧ i = .int .i64 k ∧ v = .int .u64 (rdF (PlainAid.bt s) o k)) (fun _ i => n - (intOf i).toNat)
  case atStart => exact ⟨0, by omega, rfl, rfl⟩
  case round =>
    obtain ⟨k, hk, rfl, rfl⟩ := hrel
    by_cases hlt : k < n
    · have h5 := bt255 s (o + k)
      have h5a := h5.1
      have h5b := h5.2
      have h3 := rdF_bd (PlainAid.bt s) (bt255 s) k o
      have hp : (256 : Int) ^ k = 2 ^ (8 * k) := by rw [Int.pow_mul]; rfl
      have hm1 : 0 ≤ PlainAid.bt s (o + k) * 2 ^ (8 * k) := Int.mul_nonneg h5.1 (Int.pow_nonneg (by omega))
      have hm2 : PlainAid.bt s (o + k) * 2 ^ (8 * k) ≤ 18446744073709551615 := by
        have h6 : (2 : Int) ^ (8 * k) ≤ 2 ^ 56 := by
          rw [← hp]; have := pow256_le (show k ≤ 7 by omega); omega
        have h7 : (0 : Int) ≤ 2 ^ (8 * k) := Int.pow_nonneg (by omega)
        have := Int.mul_le_mul h5.2 h6 h7 (by omega)
        omega
      have H : Hid (rdF (PlainAid.bt s) o (k + 1) = bits BinOp.or IntKind.u64 (rdF (PlainAid.bt s) o k) (PlainAid.bt s (o + k) * 2 ^ (8 * k))) := by
        rw [or_disj (8 * k) (by omega) h3.1 (by rw [← hp]; exact h3.2) h5.1 h5.2, rdF_snoc, hp]; exact rfl
      clear h3 hp h5
      go_wp2
      go_round
      case rel => exact ⟨k + 1, by omega, by go_num, by rw [H.out]⟩
      case measure => simp [intOf]; omega
    · obtain rfl : k = n := by omega
      go_wp2
      go_ret2
      exact ⟨rfl, rfl⟩

theorem rtext_out (s : ByteArray) (at' most : Int) (w : World) (hs : s.size ≤ 9223372036854775807) (h : at' < 0 ∨ s.size ≤ at') :
    Calls Tryz.prog 75 #[.string s, .int .i64 at', .int .i64 most] w fun e w' => e = .returned (.tuple #[.string ByteArray.empty, .bool false]) ∧ w = w' := by
  by_cases h1 : at' < 0
  · go_enter Tryz.func75, Tryz.ntmps75
    go_wp2
    go_ret2
    exact ⟨rfl, rfl⟩
  · have h2 : (s.size : Int) ≤ at' := by omega
    go_enter Tryz.func75, Tryz.ntmps75
    go_wp2
    go_ret2
    exact ⟨rfl, rfl⟩

theorem rtext_yes (s : ByteArray) (o n : Nat) (most : Int) (w : World) (hs : s.size ≤ 9223372036854775807) (h : o + n < s.size) (hm : n = 0 ∨ n ≤ most) (hz : PlainAid.bt s (o + n) = 0)
    (hnz : ∀ i, i < n → PlainAid.bt s (o + i) ≠ 0) :
    Calls Tryz.prog 75 #[.string s, .int .i64 o, .int .i64 most] w fun e w' => e = .returned (.tuple #[.string (strF (PlainAid.bt s) o n), .bool true]) ∧ w = w' := by
  have gb := PlainAid.get_bt s
  have HX := Lib.hid (extract_bt s o n (by omega))
  have HZ := Lib.hid hz
  clear hz
  by_cases hm0 : 0 ≤ most
  · have hmm : max most 0 = most := by omega
    have hnm : (n : Int) ≤ most := by omega
    go_enter Tryz.func75, Tryz.ntmps75
    go_wp2
    go_loop [8] (fun i => ∃ k : Nat, k ≤ n ∧ i = .int .i64 k) (fun i => n - (intOf i).toNat)
    case atStart => exact ⟨0, by omega, rfl⟩
    case round =>
      obtain ⟨k, hk, rfl⟩ := hrel
      have hkm : (k : Int) ≤ most := by omega
      have hks : (k : Int) < (s.size : Int) - o := by omega
      by_cases hlt : k < n
      · have hf : (PlainAid.bt s (o + k) == 0) = false := by simpa using hnz k hlt
        go_wp2
        go_round
        case rel => exact ⟨k + 1, by omega, by go_num⟩
        case measure => simp [intOf]; omega
      · obtain rfl : k = n := by omega
        have hf : (PlainAid.bt s (o + k) == 0) = true := by simpa using HZ.out
        have d1 : (o : Int) ≤ (o : Int) + k := by omega
        have d2 : (o : Int) + k ≤ s.size := by omega
        go_wp2
        go_ret2
        exact ⟨by rw [← HX.out]; rfl, rfl⟩
  · have hmm : max most 0 = 0 := by omega
    obtain rfl : n = 0 := by omega
    have hf : (PlainAid.bt s o == 0) = true := by simpa using HZ.out
    have d3 : (o : Int) < s.size := by omega
    have d4 : (o : Int) ≤ s.size := by omega
    have d5 : o ≤ s.size := by omega
    go_enter Tryz.func75, Tryz.ntmps75
    go_wp2
    refine wp_loop_rounds 1 ?_
    rw [rounds_succ]
    go_wp2
    go_ret2
    exact ⟨rfl, rfl⟩

theorem rtext_no (s : ByteArray) (o : Nat) (most : Int) (w : World) (hs : s.size ≤ 9223372036854775807) (h : o < s.size) (hno : ∀ i : Nat, o + i < s.size → (i = 0 ∨ i ≤ most) → PlainAid.bt s (o + i) ≠ 0) :
    Calls Tryz.prog 75 #[.string s, .int .i64 o, .int .i64 most] w fun e w' => e = .returned (.tuple #[.string ByteArray.empty, .bool false]) ∧ w = w' := by
  have gb := PlainAid.get_bt s
  by_cases hm0 : 0 ≤ most
  · have hmm : max most 0 = most := by omega
    go_enter Tryz.func75, Tryz.ntmps75
    go_wp2
    go_loop [8] (fun i => ∃ k : Nat, k ≤ s.size - o ∧ i = .int .i64 k) (fun i => s.size - (intOf i).toNat)
    case atStart => exact ⟨0, by omega, rfl⟩
    case round =>
      obtain ⟨k, hk, rfl⟩ := hrel
      by_cases hkm : (k : Int) ≤ most
      · by_cases hlt : (k : Int) < (s.size : Int) - o
        · have hf : (PlainAid.bt s (o + k) == 0) = false := by simpa using hno k (by omega) (by omega)
          go_wp2
          go_round
          case rel => exact ⟨k + 1, by omega, by go_num⟩
          case measure => simp [intOf]; omega
        · go_wp2
          go_ret2
          exact ⟨rfl, rfl⟩
      · go_wp2
        go_ret2
        exact ⟨rfl, rfl⟩
  · have hmm : max most 0 = 0 := by omega
    have hf : (PlainAid.bt s o == 0) = false := by simpa using hno 0 (by omega) (.inl rfl)
    have d3 : (o : Int) < s.size := by omega
    go_enter Tryz.func75, Tryz.ntmps75
    go_wp2
    refine wp_loop_rounds 2 ?_
    rw [rounds_succ]
    go_wp2
    rw [rounds_succ]
    go_wp2
    go_ret2
    exact ⟨rfl, rfl⟩

end Go.Proofs.YtplgdpjbkdagfaaGreat
namespace Go.Proofs.YtplgdpjbkdagfaaGreat
set_option maxRecDepth 100000
open Go.ChangeShapes Go.WideShapes Go.ChangeAt Go.RowKit
set_option linter.unusedVariables false
set_option linter.unusedSimpArgs false

/-- A slice of bytes and the text of it. -/
structure Two (w : World) (A : Option Addr) (len cap : Nat) (f : Nat → Int) (S : ByteArray) : Prop where
  le : len ≤ cap
  max : cap ≤ 9223372036854775807
  byte : Bytes255 f
  sl : SlB w A len f
  size : S.size = len
  same : ∀ i, i < len → PlainAid.bt S i = f i

theorem num_both {w : World} {A : Option Addr} {len cap : Nat} {f : Nat → Int} {S : ByteArray} (h : Two w A len cap f S) (at' : Int) (n : Nat) (h1 : 1 ≤ n) (h8 : n ≤ 8) :
    ∃ (v : Int) (b : Bool), 0 ≤ v ∧ v < 256 ^ n ∧
      (Calls Tryz.prog 130 #[.slice A len cap, .int .i64 at', .int .i64 n] w fun e w' => e = .returned (.tuple #[.int .u64 v, .bool b]) ∧ w = w') ∧
      (Calls Tryz.prog 74 #[.string S, .int .i64 at', .int .i64 n] w fun e w' => e = .returned (.tuple #[.int .u64 v, .bool b]) ∧ w = w') := by
  have hle := h.le
  have hmax := h.max
  have hsz := h.size
  by_cases hc : 0 ≤ at' ∧ at' ≤ len - n
  · obtain ⟨o, rfl⟩ := Int.eq_ofNat_of_zero_le hc.1
    have hbd := rdF_bd f h.byte n o
    rcases h.sl with hs | ⟨b, off, rfl, hlt, hr⟩
    · omega
    · refine ⟨rdF f o n, true, hbd.1, hbd.2, number_yes _ _ _ _ f o n _ (by omega) h8 (by omega) h.byte hr, ?_⟩
      have e : rdF (PlainAid.bt S) o n = rdF f o n := rdF_congr n o (fun i hi => h.same (o + i) (by omega))
      rw [← e]
      exact rnum_yes S o n w (by omega) h8 (by omega)
  · exact ⟨0, false, by omega, Int.pow_pos (by omega), number_no _ _ _ _ _ _ (by omega) (by omega) (by omega) hc, rnum_no S at' n w (by omega) (by omega) (by rw [hsz]; exact hc)⟩

theorem text_both {w : World} {A : Option Addr} {len cap : Nat} {f : Nat → Int} {S : ByteArray} (h : Two w A len cap f S) (at' most : Int) :
    ∃ (t : ByteArray) (b : Bool),
      (Calls Tryz.prog 135 #[.slice A len cap, .int .i64 at', .int .i64 most] w fun e w' => e = .returned (.tuple #[.string t, .bool b]) ∧ w = w') ∧
      (Calls Tryz.prog 75 #[.string S, .int .i64 at', .int .i64 most] w fun e w' => e = .returned (.tuple #[.string t, .bool b]) ∧ w = w') := by
  have hle := h.le
  have hmax := h.max
  have hsz := h.size
  by_cases hc : 0 ≤ at' ∧ at' < len
  · obtain ⟨o, rfl⟩ := Int.eq_ofNat_of_zero_le hc.1
    rcases h.sl with hs | ⟨b, off, rfl, hlt, hr⟩
    · omega
    · by_cases hz : ∃ n : Nat, o + n < len ∧ (n = 0 ∨ n ≤ most) ∧ f (o + n) = 0 ∧ ∀ i, i < n → f (o + i) ≠ 0
      · obtain ⟨n, h1, h2, h3, h4⟩ := hz
        refine ⟨strF f o n, true, text_yes _ _ _ _ f o n _ _ hmax hle h1 h2 h3 h4 hr, ?_⟩
        have e : strF (PlainAid.bt S) o n = strF f o n := strF_congr fun i hi => h.same (o + i) (by omega)
        rw [← e]
        exact rtext_yes S o n most w (by omega) (by omega) h2 (by rw [h.same _ h1]; exact h3) (fun i hi => by rw [h.same _ (by omega)]; exact h4 i hi)
      · have hno : ∀ i : Nat, o + i < len → (i = 0 ∨ i ≤ most) → f (o + i) ≠ 0 := by
          intro i
          induction i using Nat.strongRecOn with
          | ind i ih => exact fun hi hm h0 => hz ⟨i, hi, hm, h0, fun j hj => ih j hj (by omega) (by omega)⟩
        exact ⟨ByteArray.empty, false, text_no _ _ _ _ f o _ _ hmax hle (by omega) hno hr,
          rtext_no S o most w (by omega) (by omega) (fun i hi hk => by rw [h.same _ (by omega)]; exact hno i (by omega) hk)⟩
  · exact ⟨ByteArray.empty, false, text_out _ _ _ _ _ _ (by omega) (by omega), rtext_out S at' most w (by omega) (by omega)⟩

/-- What the readers of two, four and eight bytes answer: the number, whether it is there. -/
def NumAt (w : World) (A : Option Addr) (len cap : Nat) (S : ByteArray) (at' : Int) (n : Int) (v : Int) (b : Bool) : Prop :=
  (Calls Tryz.prog 130 #[.slice A len cap, .int .i64 at', .int .i64 n] w fun e w' => e = .returned (.tuple #[.int .u64 v, .bool b]) ∧ w = w') ∧
  (Calls Tryz.prog 74 #[.string S, .int .i64 at', .int .i64 n] w fun e w' => e = .returned (.tuple #[.int .u64 v, .bool b]) ∧ w = w')
def TextAt (w : World) (A : Option Addr) (len cap : Nat) (S : ByteArray) (at' most : Int) (t : ByteArray) (b : Bool) : Prop :=
  (Calls Tryz.prog 135 #[.slice A len cap, .int .i64 at', .int .i64 most] w fun e w' => e = .returned (.tuple #[.string t, .bool b]) ∧ w = w') ∧
  (Calls Tryz.prog 75 #[.string S, .int .i64 at', .int .i64 most] w fun e w' => e = .returned (.tuple #[.string t, .bool b]) ∧ w = w')

theorem u16_at {w : World} {A : Option Addr} {len cap : Nat} {S : ByteArray} {at' v : Int} {b : Bool} (h : NumAt w A len cap S at' 2 v b) (h0 : 0 ≤ v) (h1 : v < 65536) :
    Calls Tryz.prog 104 #[.slice A len cap, .int .i64 at'] w fun e w' => e = .returned (.tuple #[.int .i64 v, .bool b]) ∧ w = w' := by
  have H := Lib.hid h.1
  clear h
  go_enter Tryz.func104, Tryz.ntmps104
  go_wp2_with (go_at_call 130; refine H.out.mono ?_; rintro e w' ⟨rfl, rfl⟩)
  go_ret2
  exact ⟨rfl, rfl⟩
theorem u32_at {w : World} {A : Option Addr} {len cap : Nat} {S : ByteArray} {at' v : Int} {b : Bool} (h : NumAt w A len cap S at' 4 v b) (h0 : 0 ≤ v) (h1 : v < 4294967296) :
    Calls Tryz.prog 129 #[.slice A len cap, .int .i64 at'] w fun e w' => e = .returned (.tuple #[.int .i64 v, .bool b]) ∧ w = w' := by
  have H := Lib.hid h.1
  clear h
  go_enter Tryz.func129, Tryz.ntmps129
  go_wp2_with (go_at_call 130; refine H.out.mono ?_; rintro e w' ⟨rfl, rfl⟩)
  go_ret2
  exact ⟨rfl, rfl⟩
theorem u64_at {w : World} {A : Option Addr} {len cap : Nat} {S : ByteArray} {at' v : Int} {b : Bool} (h : NumAt w A len cap S at' 8 v b) :
    Calls Tryz.prog 103 #[.slice A len cap, .int .i64 at'] w fun e w' => e = .returned (.tuple #[.int .u64 v, .bool b]) ∧ w = w' := by
  have H := Lib.hid h.1
  clear h
  go_enter Tryz.func103, Tryz.ntmps103
  go_wp2_with (go_at_call 130; refine H.out.mono ?_; rintro e w' ⟨rfl, rfl⟩)
  go_ret2
  exact ⟨rfl, rfl⟩

end Go.Proofs.YtplgdpjbkdagfaaGreat
namespace Go.Proofs.YtplgdpjbkdagfaaGreat
set_option maxRecDepth 100000
open Go.ChangeShapes Go.WideShapes Go.ChangeAt Go.RowKit
set_option linter.unusedVariables false
set_option linter.unusedSimpArgs false

theorem run_str1 {w : World} {g : Nat} {x : Int} (hg : g = w.heap.size) : (convert 25 9 (.slice (some ⟨g, 0, none⟩) 1 1)).run Tryz.prog (w.alloc (.cells #[.int .u8 x] 5)) = .ok (.string (strF (fun _ => x) 0 1)) (w.alloc (.cells #[.int .u8 x] 5)) := by
  have h := run_str (cap := 1) (row_lit (t := 5) (fr := (0, 0)) [x] hg)
  rw [strF_congr (f' := fun _ => x) (o' := 0) (fun i hi => by
    have hi' : i < 1 := hi
    obtain rfl : i = 0 := by omega
    rfl)] at h
  exact h

theorem strF_one (f : Nat → Int) (k : Nat) (x : Int) (h : f k = x) : strF f 0 k ++ strF (fun _ => x) 0 1 = strF f 0 (k + 1) := by
  rw [← strF_cat f 0 k 1]
  congr 1
  exact strF_congr fun i hi => by
    obtain rfl : i = 0 := by omega
    simp [h]

theorem rbytes_any (v n : Int) (m : Nat) (w : World) (h0 : 0 ≤ v) (h1 : v ≤ 18446744073709551615) (hm : min (max n 0) 8 = (m : Int)) :
    Calls Tryz.prog 10 #[.int .u64 v, .int .i64 n] w fun e w' => e = .returned (.string (strF (byteOf v) 0 m)) ∧ Below w.heap.size w w' := by
  have hm8 : m ≤ 8 := by omega
  have hs1 := fun (W : World) (x : Int) (g : Nat) (hg : g = W.heap.size) => run_str1 (w := W) (x := x) hg
  by_cases hn : n ≤ 8
  · have HM := Lib.hid hm
    clear hm
    go_enter Tryz.func10, Tryz.ntmps10
    go_wp2
    go_loopw [5, 6] (fun s i wr => ∃ k : Nat, k ≤ m ∧ i = .int .i64 k ∧ s = .string (strF (byteOf v) 0 k) ∧ Below w.heap.size w wr) (fun _ i _ => m - (intOf i).toNat)
    case atStart => exact ⟨0, by omega, rfl, rfl, Below.refl _ _⟩
    case round =>
      obtain ⟨k, hk, rfl, rfl, hbel⟩ := hrel
      by_cases hlt : k < m
      · have hlt' : (k : Int) < n := by have := HM.out; omega
        have hs2 : (strF (byteOf v) 0 k).size ≤ 8 := by rw [strF_size]; omega
        have hs3 : (strF (fun _ => v / 2 ^ (8 * k) % 256) 0 1).size ≤ 1 := by rw [strF_size]; omega
        go_wp2
        go_roundw
        case rel => exact ⟨k + 1, by omega, by go_num, congrArg Value.string (strF_one (byteOf v) k _ rfl), hbel.alloc hbel.size _⟩
        case measure => simp [intOf]; omega
      · have hlt' : ¬ (k : Int) < n := by have := HM.out; omega
        obtain rfl : k = m := by omega
        go_wp2
        go_ret
        exact ⟨rfl, hbel⟩
  · obtain rfl : m = 8 := by omega
    clear hm
    go_enter Tryz.func10, Tryz.ntmps10
    go_wp2
    go_loopw [5, 6] (fun s i wr => ∃ k : Nat, k ≤ 8 ∧ i = .int .i64 k ∧ s = .string (strF (byteOf v) 0 k) ∧ Below w.heap.size w wr) (fun _ i _ => 8 - (intOf i).toNat)
    case atStart => exact ⟨0, by omega, rfl, rfl, Below.refl _ _⟩
    case round =>
      obtain ⟨k, hk, rfl, rfl, hbel⟩ := hrel
      by_cases hlt : k < 8
      · have hlt' : (k : Int) < 8 := by omega
        have hs2 : (strF (byteOf v) 0 k).size ≤ 8 := by rw [strF_size]; omega
        have hs3 : (strF (fun _ => v / 2 ^ (8 * k) % 256) 0 1).size ≤ 1 := by rw [strF_size]; omega
        go_wp2
        go_roundw
        case rel => exact ⟨k + 1, by omega, by go_num, congrArg Value.string (strF_one (byteOf v) k _ rfl), hbel.alloc hbel.size _⟩
        case measure => simp [intOf]; omega
      · obtain rfl : k = 8 := by omega
        go_wp2
        go_ret
        exact ⟨rfl, hbel⟩

theorem rput_no (S : ByteArray) (at' n v : Int) (w : World) (hs : S.size ≤ 9223372036854775807) (h : ¬ (1 ≤ n ∧ n ≤ 8 ∧ 0 ≤ at' ∧ at' ≤ S.size - n)) :
    Calls Tryz.prog 78 #[.string S, .int .i64 at', .int .i64 n, .int .u64 v] w fun e w' => e = .returned (.tuple #[.string S, .bool false]) ∧ w = w' := by
  by_cases h1 : n < 1
  · go_enter Tryz.func78, Tryz.ntmps78
    go_wp2
    go_ret2
    exact ⟨rfl, rfl⟩
  · by_cases h2 : 8 < n
    · go_enter Tryz.func78, Tryz.ntmps78
      go_wp2
      go_ret2
      exact ⟨rfl, rfl⟩
    · go_enter Tryz.func78, Tryz.ntmps78
      go_wp2_with (go_at_call 73; refine (in_no _ _ _ _ (by omega) (by omega) (by omega)).mono ?_; rintro e w' ⟨rfl, rfl⟩)
      go_ret2
      exact ⟨rfl, rfl⟩

theorem put_text (S : ByteArray) (o n : Nat) (v : Int) (h : o + n ≤ S.size) :
    S.extract 0 o ++ strF (byteOf v) 0 n ++ S.extract (o + n) S.size = strF (putI (PlainAid.bt S) o v n) 0 S.size := by
  have e1 := extract_bt S 0 o (by omega)
  rw [Nat.zero_add] at e1
  have e2 := extract_bt S (o + n) (S.size - (o + n)) (by omega)
  rw [show o + n + (S.size - (o + n)) = S.size by omega] at e2
  rw [e1, e2, strF_congr (f := PlainAid.bt S) (f' := putI (PlainAid.bt S) o v n) (o := 0) (o' := 0) (n := o) (fun i hi => by unfold putI; rw [if_neg (by omega)]),
    strF_congr (f := byteOf v) (f' := putI (PlainAid.bt S) o v n) (o := 0) (o' := 0 + o) (n := n) (fun i hi => by unfold putI; rw [if_pos (by omega)]; congr 1; omega),
    strF_cat, strF_congr (f := PlainAid.bt S) (f' := putI (PlainAid.bt S) o v n) (o := o + n) (o' := 0 + (o + n)) (n := S.size - (o + n)) (fun i hi => by rw [Nat.zero_add]; unfold putI; rw [if_neg (by omega)]),
    strF_cat]
  congr 1
  omega

set_option maxHeartbeats 4000000 in
theorem rput_yes (S : ByteArray) (o n : Nat) (v : Int) (w : World) (hs : S.size ≤ 1000000) (h1 : 1 ≤ n) (h8 : n ≤ 8) (h : o + n ≤ S.size) (v0 : 0 ≤ v) (v1 : v ≤ 18446744073709551615) :
    Calls Tryz.prog 78 #[.string S, .int .i64 o, .int .i64 n, .int .u64 v] w fun e w' => e = .returned (.tuple #[.string (strF (putI (PlainAid.bt S) o v n) 0 S.size), .bool true]) ∧ Below w.heap.size w w' := by
  have HT := Lib.hid (put_text S o n v h)
  have d0 : (0 : Int) ≤ (o : Int) := by omega
  have d1 : (o : Int) ≤ S.size := by omega
  have d2 : (o : Int) + n ≤ S.size := by omega
  have d3 : (0 : Int) ≤ (o : Int) + n := by omega
  have d4 : IntKind.i64.wrap ((o : Int) + n) = (o : Int) + n := IntWalk.i64_in _ ⟨by omega, by omega⟩
  have d5 : ((o : Int) + n).toNat = o + n := by omega
  have z1 : (S.extract 0 o).size ≤ 1000000 := by rw [ByteArray.size_extract]; omega
  have z2 : (strF (byteOf v) 0 n).size ≤ 8 := by rw [strF_size]; omega
  have z3 : (S.extract (o + n) S.size).size ≤ 1000000 := by rw [ByteArray.size_extract]; omega
  have z4 : (S.extract 0 o ++ strF (byteOf v) 0 n).size ≤ 1000008 := by rw [ByteArray.size_append]; omega
  go_enter Tryz.func78, Tryz.ntmps78
  go_wp2_with (go_at_call 73; refine (in_yes _ _ _ _ (by omega) (by omega) (by omega) (by omega)).mono ?_; rintro e w' ⟨rfl, rfl⟩)
  have a1 := fun (W : World) => run_string_add_sum (P := Tryz.prog) W (S.extract 0 o) (strF (byteOf v) 0 n) (by omega)
  have a2 := fun (W : World) => run_string_add_sum (P := Tryz.prog) W (S.extract 0 o ++ strF (byteOf v) 0 n) (S.extract (o + n) S.size) (by omega)
  clear z1 z2 z3 z4
  go_region_held3 (fun w' => w.heap.size ≤ w'.heap.size) (first | exact Nat.le_refl _ | assumption | exact Nat.le_trans (by assumption) hb1.size | (simp; done)) ((go_at_call 10; refine (rbytes_any v n n _ v0 v1 (by omega)).mono ?_; rintro e w1 ⟨rfl, hb1⟩))
  go_wp2
  go_ret2
  exact ⟨by rw [← HT.out]; rfl, (Below.refl w.heap.size w).drew.trans hb1⟩
end Go.Proofs.YtplgdpjbkdagfaaGreat
namespace Go.Proofs.YtplgdpjbkdagfaaGreat
set_option maxRecDepth 100000
open Go.ChangeShapes Go.WideShapes Go.ChangeAt Go.RowKit
set_option linter.unusedVariables false
set_option linter.unusedSimpArgs false

/-- A slice of n bytes f in a block g of the call's own, cap of which may be written. -/
structure OwnC (w : World) (base g n cap : Nat) (f : Nat → Int) : Prop where
  le : base ≤ g
  lt : g < w.heap.size
  row : Row w g 0 n f
  by255 : Bytes255 f
  len : n ≤ cap
  most : cap ≤ 9223372036854775807
  wr : ∀ j, j < cap → (w.cell? ⟨g, j, none⟩).isSome = true ∧ w.frozen? ⟨g, j, none⟩ = false

theorem OwnC.rowB {w : World} {base g n cap : Nat} {f : Nat → Int} (h : OwnC w base g n cap f) : RowB w g 0 n cap f := ⟨h.row, h.by255, h.lt, h.len, h.most⟩

theorem OwnC.of_block {w w' : World} {base g n cap : Nat} {f : Nat → Int} (h : OwnC w base g n cap f) (hs : w.heap.size ≤ w'.heap.size) (hb : w'.heap[g]? = w.heap[g]?) : OwnC w' base g n cap f :=
  ⟨h.le, Nat.lt_of_lt_of_le h.lt hs, fun i hi => (World.cell?_of_block (a := ⟨g, _, none⟩) hb).trans (h.row i hi), h.by255, h.len, h.most, fun j hj => by
    rw [World.cell?_of_block (a := ⟨g, j, none⟩) hb, World.frozen?_of_block (a := ⟨g, j, none⟩) hb]; exact h.wr j hj⟩

theorem OwnC.below {w w' : World} {base g n cap : Nat} {f : Nat → Int} (h : OwnC w base g n cap f) (hb : Below w.heap.size w w') : OwnC w' base g n cap f := h.of_block hb.size (hb.block g h.lt)

theorem OwnC.congr {w : World} {base g n cap : Nat} {f f' : Nat → Int} (h : OwnC w base g n cap f) (h255 : Bytes255 f') (he : ∀ i, i < n → f i = f' i) : OwnC w base g n cap f' :=
  ⟨h.le, h.lt, fun i hi => by rw [h.row i hi, he i hi], h255, h.len, h.most, h.wr⟩

theorem OwnC.bytes (w : World) (S : ByteArray) (cap lo hi : Nat) (h : S.size ≤ cap) (hm : cap ≤ 9223372036854775807) (h1 : cap ≤ lo) :
    OwnC (w.alloc (.cells (bytesRow S cap) 5 (lo, hi))) w.heap.size w.heap.size S.size cap (PlainAid.bt S) := by
  have hz : (bytesRow S cap).size = cap := by
    have : S.data.size = S.size := rfl
    simp [bytesRow]
    omega
  refine ⟨Nat.le_refl _, by simp, fun i hi' => ?_, bt255 S, h, hm, fun j hj => ⟨?_, ?_⟩⟩
  · have hi2 : i < S.data.size := hi'
    rw [Nat.zero_add, World.cell?_alloc_mark w (bytesRow S cap) 5 (lo, hi) i, bytesRow_at S cap i hi2]
    unfold PlainAid.bt
    rw [dif_pos hi']
    rfl
  · rw [World.cell?_alloc_mark w (bytesRow S cap) 5 (lo, hi) j, Array.getElem?_eq_getElem (by omega)]
    rfl
  · rw [World.frozen?_alloc_mark w (bytesRow S cap) 5 lo hi j]
    simp only [Bool.and_eq_false_iff, decide_eq_false_iff_not]
    left
    omega

theorem OwnC.weaken {w : World} {base base' g n cap : Nat} {f : Nat → Int} (h : OwnC w base g n cap f) (hb : base' ≤ base) : OwnC w base' g n cap f := ⟨Nat.le_trans hb h.le, h.lt, h.row, h.by255, h.len, h.most, h.wr⟩

theorem OwnC.drew {w : World} {base g n cap : Nat} {f : Nat → Int} (h : OwnC w base g n cap f) : OwnC w.drew base g n cap f := h.of_block (Nat.le_refl _) rfl

theorem put_any (b n cap : Nat) (f : Nat → Int) (o k : Nat) (v : Int) (w : World) (h : RowB w b 0 n cap f) (hn : n ≤ 1000000) (k1 : 1 ≤ k) (k8 : k ≤ 8) (ho : o + k ≤ n) (v0 : 0 ≤ v) (v1 : v ≤ 18446744073709551615) :
    Calls Tryz.prog 70 #[.slice (some ⟨b, 0, none⟩) n cap, .int .i64 o, .int .i64 k, .int .u64 v] w fun e w' =>
      ∃ g c, e = .returned (.slice (some ⟨g, 0, none⟩) n c) ∧ OwnC w' w.heap.size g n c (putI f o v k) ∧ Below w.heap.size w w' := by
  have hs := run_str (cap := cap) h.row
  have hsz : (strF f 0 n).size = n := strF_size f 0 n
  have hp := rput_yes (strF f 0 n) o k v w (by omega) k1 k8 (by omega) v0 v1
  rw [hsz, strF_congr (f := putI (PlainAid.bt (strF f 0 n)) o v k) (f' := putI f o v k) (o := 0) (o' := 0) (n := n) (fun i hi => by
    unfold putI
    split
    · rfl
    · rw [Nat.zero_add, bt_strF h.by255 hi, Nat.zero_add])] at hp
  have h255 : Bytes255 (putI f o v k) := putI255 h.by255 o v k
  have hsz2 : (strF (putI f o v k) 0 n).size = n := strF_size _ 0 n
  have hbt : ∀ i, i < n → PlainAid.bt (strF (putI f o v k) 0 n) i = putI f o v k i := fun i hi => by rw [bt_strF h255 hi, Nat.zero_add]
  generalize strF (putI f o v k) 0 n = S' at *
  generalize strF f 0 n = S at *
  generalize putI f o v k = f' at *
  have hcv := fun (W : World) => run_bytes_of_string (P := Tryz.prog) W 9 25 5 S' Tryz.underlying9 Tryz.underlying25 Tryz.underlying5
  have HBT := Lib.hid hbt
  have HP := Lib.hid hp
  clear hp hbt hsz h
  go_enter Tryz.func70, Tryz.ntmps70
  go_wp2_with fail
  refine HP.out.mono ?_
  rintro e w1 ⟨rfl, hb1⟩
  go_wp2_with fail
  go_ret
  have hcap := grownCap_ge w1 n 0 5
  have hcm := grownCap_le_maxLen w1 n 0 5 (by simp only [maxLen]; omega)
  simp only [maxLen] at hcm
  have hbz : (bytesRow S' (grownCap w1 n 0 5)).size = grownCap w1 n 0 5 := by
    have : S'.data.size = S'.size := rfl
    simp [bytesRow]
    omega
  have ho := OwnC.bytes w1 S' (grownCap w1 n 0 5) (bytesRow S' (grownCap w1 n 0 5)).size ((bytesRow S' (grownCap w1 n 0 5)).size + 1) (by omega) (by omega) (by omega)
  rw [hsz2] at ho
  exact ⟨_, _, rfl, ((ho.congr h255 HBT.out).weaken hb1.size).drew, (hb1.alloc hb1.size _).drew⟩
end Go.Proofs.YtplgdpjbkdagfaaGreat
namespace Go.Proofs.YtplgdpjbkdagfaaGreat
set_option maxRecDepth 100000
open Go.ChangeShapes Go.WideShapes Go.ChangeAt Go.RowKit
set_option linter.unusedVariables false
set_option linter.unusedSimpArgs false

def setF (f : Nat → Int) (o : Nat) (v : Int) (j : Nat) : Int := if j = o then v else f j
theorem setF255 {f : Nat → Int} (hf : Bytes255 f) (o : Nat) {v : Int} (h0 : 0 ≤ v) (h1 : v ≤ 255) : Bytes255 (setF f o v) := fun i => by
  unfold setF; split
  · exact ⟨h0, h1⟩
  · exact hf i

theorem OwnC.set {w : World} {base g n cap : Nat} {f : Nat → Int} (h : OwnC w base g n cap f) (o : Nat) (v : Int) (ho : o < n) (h0 : 0 ≤ v) (h1 : v ≤ 255) :
    OwnC (w.setCell ⟨g, o, none⟩ (.int .u8 v)) base g n cap (setF f o v) := by
  refine ⟨h.le, by simpa using h.lt, fun i hi => ?_, setF255 h.by255 o h0 h1, h.len, h.most, fun j hj => ⟨?_, by rw [World.frozen?_setCell]; exact (h.wr j hj).2⟩⟩
  · unfold setF
    rw [Nat.zero_add]
    have hi' := h.row i hi
    rw [Nat.zero_add] at hi'
    by_cases e : i = o
    · subst e
      rw [if_pos rfl, World.cell?_setCell_same _ _ _ hi']
    · rw [if_neg e, World.cell?_setCell_other _ _ _ _ (by intro h; injection h with _ h2; omega)]
      exact hi'
  · obtain ⟨u, hu⟩ := Option.isSome_iff_exists.1 (h.wr j hj).1
    by_cases e : j = o
    · subst e
      rw [World.cell?_setCell_same _ _ _ hu]; rfl
    · rw [World.cell?_setCell_other _ _ _ _ (by intro h; injection h with _ h2; omega), hu]; rfl

theorem wpList_appC {w : World} {ops : Array Oper} {rest : List Oper} {o : Oper} {a : Act} {Q : Exit → Act → World → Prop} (hgd : o.guard = none) (s x : Operand)
    (ho : o.op = .call { callee := .builtin .append, args := #[s, x], argTypes := #[25, 25] })
    {base g n cap m c : Nat} {A : Option Addr} {f h : Nat → Int} (hown : OwnC w base g n cap f) (hsl : SlB w A m h) (h255 : Bytes255 h) (hnm : n + m ≤ 1000000) (hbase : base ≤ w.heap.size)
    (hv : a.eval s = .slice (some ⟨g, 0, none⟩) n cap) (hx : a.eval x = .slice A m c)
    (hK : ∀ g' cap' w', OwnC w' base g' (n + m) cap' (catF n f h) → Below base w w' → wpList Tryz.prog ops Q rest (a.put o.dst (.slice (some ⟨g', 0, none⟩) (n + m) cap')) w') : wpList Tryz.prog ops Q (o :: rest) a w := by
  obtain ⟨i0, hi, hz0, hz1, hz2⟩ := info_parts infoU8
  have hs : Src Tryz.prog i0.size 25 (.slice A m c) m (bytesL m h) w := by rw [hz1]; exact src_sl hsl
  have hrun : ∃ g' cap' w', (Builtin.append_ #[25, 25] o.type #[.slice (some ⟨g, 0, none⟩) n cap, .slice A m c]).run Tryz.prog w = .ok (.slice (some ⟨g', 0, none⟩) (n + m) cap') w' ∧ OwnC w' base g' (n + m) cap' (catF n f h) ∧ Below base w w' := by
    by_cases hroom : n + m ≤ cap
    · have hin : ∀ j, j < (bytesL m h).length → (w.cell? ⟨g, n + j, none⟩).isSome = true := fun j hj => (hown.wr (n + j) (by rw [bytesL_len] at hj; omega)).1
      have hr := run_append_room_src (P := Tryz.prog) w 25 25 o.type 5 i0 Tryz.underlying25 hi g 0 n cap (.slice A m c) m _ hs hroom
        (fun j hj => by rw [hz1, Nat.mul_one, Nat.zero_add]; exact hin j hj) (fun j hj => by rw [hz1, Nat.mul_one, Nat.zero_add]; exact (hown.wr (n + j) (by rw [bytesL_len] at hj; omega)).2)
      rw [hz1, Nat.mul_one, Nat.zero_add] at hr
      refine ⟨_, _, _, hr, ⟨hown.le, by rw [size_setCells]; exact hown.lt, fun i hi => ?_, cat255 hown.by255 h255, hroom, hown.most, fun j hj => ⟨World.isSome_setCells _ _ _ _ _ (hown.wr j hj).1, by rw [World.frozen?_setCells]; exact (hown.wr j hj).2⟩⟩, below_setCells hown.le _ _ _ (Below.refl base w)⟩
      unfold catF
      rw [Nat.zero_add]
      by_cases e : i < n
      · rw [if_pos e, World.cell?_setCells_out _ _ _ _ _ (fun _ _ => .inl e)]
        have := hown.row i e
        rwa [Nat.zero_add] at this
      · rw [if_neg e]
        have := World.cell?_setCells_in g (bytesL m h) n w hin (i - n) (by rw [bytesL_len]; omega)
        rw [show n + (i - n) = i by omega] at this
        rw [this]
        simp [bytesL]
    · have hold : (Builtin.firstCells i0.size n (.slice (some ⟨g, 0, none⟩) n cap)).run Tryz.prog w.drew = .ok (bytesL n f).toArray w.drew := by
        rw [hz1]
        refine run_firstCells_some w.drew 1 n ⟨g, 0, none⟩ n cap (bytesL n f) (by rw [bytesL_len, Nat.mul_one]) fun j u hu => ?_
        have hj : j < n := by
          rcases Nat.lt_or_ge j n with hj | hj
          · exact hj
          · rw [List.getElem?_eq_none (by rw [bytesL_len]; omega)] at hu; cases hu
        rw [bytesL_get n f hj] at hu
        injection hu with hu
        subst hu
        have hadd : (⟨g, 0, none⟩ : Addr).add j = ⟨g, 0 + j, none⟩ := by unfold Addr.add; split <;> simp_all
        rw [hadd]
        exact hown.row j hj
      have hr := run_append_grow_src (P := Tryz.prog) w 25 25 o.type 5 i0 (.int .u8 0) Tryz.underlying25 hi hz0 (some ⟨g, 0, none⟩) n cap (bytesL n f) hold (.slice A m c) m _ hs (by omega) (by omega) (growslice_fits (by omega) (by rw [hz2]; omega))
      have hcap := grownCap_ge w (n + m) cap 5
      have hcm := grownCap_le_maxLen w (n + m) cap 5 (by simp only [maxLen]; omega)
      simp only [maxLen] at hcm
      have hz : (Value.int .u8 0).cells = #[.int .u8 0] := rfl
      have hh := heap_alloc_new w.drew (.cells ((bytesL n f ++ bytesL m h).toArray ++ Builtin.zeroCells (Value.int .u8 0).cells (grownCap w (n + m) cap 5 - (n + m))) 5)
      have hsz : ((bytesL n f ++ bytesL m h).toArray ++ Builtin.zeroCells (Value.int .u8 0).cells (grownCap w (n + m) cap 5 - (n + m))).size = grownCap w (n + m) cap 5 := by
        rw [Array.size_append, size_zeroCells, hz]
        simp [bytesL_len]
        omega
      refine ⟨_, _, _, hr, ⟨hbase, by simp, fun i hi => ?_, cat255 hown.by255 h255, hcap, by omega, fun j hj => ⟨?_, frozen_of_row _ _ _ _ _ hh⟩⟩, ((Below.refl base w).drew).alloc (by simpa using hbase) _⟩
      · rw [Nat.zero_add]
        have := cell_of_row _ _ i _ _ _ hh
        refine Eq.trans this ?_
        rw [bytesL_cat, Array.getElem?_append_left (by simpa [bytesL_len] using hi), List.getElem?_toArray, bytesL_get _ _ hi]
      · have := cell_of_row _ _ j _ _ _ hh
        refine Eq.trans (congrArg Option.isSome this) ?_
        rw [Array.getElem?_eq_getElem (by omega)]
        rfl
  refine wpList_plain hgd fun K hK' => ?_
  obtain ⟨g', cap', w', hrun, r1, r2⟩ := hrun
  unfold Oper.wp execOp
  simp only [ho, resolve, invoke, builtin, Sem.run_bind, Sem.run_pure, Result.andThen_ok, List.map_toArray, List.map_cons, List.map_nil, hv, hx, hrun]
  exact hK' _ _ (hK g' cap' w' r1 r2)
end Go.Proofs.YtplgdpjbkdagfaaGreat
namespace Go.Proofs.YtplgdpjbkdagfaaGreat
set_option maxRecDepth 100000
open Go.ChangeShapes Go.WideShapes Go.ChangeAt Go.RowKit
set_option linter.unusedVariables false
set_option linter.unusedSimpArgs false

/-- f, with the bytes of a text from o on. -/
def copyF (f : Nat → Int) (o : Nat) (t : ByteArray) (j : Nat) : Int := if o ≤ j ∧ j < o + t.size then PlainAid.bt t (j - o) else f j
theorem copyF255 {f : Nat → Int} (hf : Bytes255 f) (o : Nat) (t : ByteArray) : Bytes255 (copyF f o t) := fun i => by
  unfold copyF; split
  · exact bt255 t _
  · exact hf i

theorem putI_ne {f : Nat → Int} {o k j : Nat} {v : Int} (h : j < o ∨ o + k ≤ j) : putI f o v k j = f j := by unfold putI; rw [if_neg (by omega)]
theorem setF_ne {f : Nat → Int} {o j : Nat} {v : Int} (h : j ≠ o) : setF f o v j = f j := by unfold setF; rw [if_neg h]
theorem copyF_ne {f : Nat → Int} {o j : Nat} {t : ByteArray} (h : j < o ∨ o + t.size ≤ j) : copyF f o t j = f j := by unfold copyF; rw [if_neg (by omega)]
theorem catF_lt {f h : Nat → Int} {n j : Nat} (e : j < n) : catF n f h j = f j := by unfold catF; rw [if_pos e]
theorem rd_put_ne {f : Nat → Int} {o k o' n : Nat} {v : Int} (h : o' + n ≤ o ∨ o + k ≤ o') : rdF (putI f o v k) o' n = rdF f o' n := rdF_congr n o' fun i hi => putI_ne (by omega)
theorem rd_put_eq (f : Nat → Int) (o k : Nat) (v : Int) : rdF (putI f o v k) o k = v % 256 ^ k := by
  have h := rdF_put f v k k o 0 (by omega)
  simpa using h
theorem rd_set_ne {f : Nat → Int} {o o' n : Nat} {v : Int} (h : o' + n ≤ o ∨ o < o') : rdF (setF f o v) o' n = rdF f o' n := rdF_congr n o' fun i hi => setF_ne (by omega)
theorem rd_copy_ne {f : Nat → Int} {o o' n : Nat} {t : ByteArray} (h : o' + n ≤ o ∨ o + t.size ≤ o') : rdF (copyF f o t) o' n = rdF f o' n := rdF_congr n o' fun i hi => copyF_ne (by omega)
theorem rd_cat_lt {f h : Nat → Int} {m o n : Nat} (e : o + n ≤ m) : rdF (catF m f h) o n = rdF f o n := rdF_congr n o fun i hi => catF_lt (by omega)
theorem rd_zero (n : Nat) : ∀ o, rdF (fun _ => 0) o n = 0 := by
  induction n with
  | zero => intro o; rfl
  | succ n ih => intro o; simp [rdF, ih]

abbrev Trip := Int × Int × Int
def tripC (t : Trip) : List Value := [.int .i64 t.1, .int .i64 t.2.1, .int .i64 t.2.2]
def vS (t : Trip) : Int := t.1 % 16384 + 1
def fullS (t : Trip) : Int := roundS (vS t) 4096
def rawS (t : Trip) : Int := t.2.1 % 8192 / 512 * 512 % (fullS t + 512)
def rightS (t : Trip) : Int := t.2.2 % 8
def rvaS (L : Nat → Trip) : Nat → Int
  | 0 => 4096
  | i + 1 => rvaS L i + fullS (L i)
def atS (L : Nat → Trip) : Nat → Nat
  | 0 => 1024
  | i + 1 => atS L i + (rawS (L i)).toNat

theorem vS_bd (t : Trip) : 1 ≤ vS t ∧ vS t ≤ 16384 := by unfold vS; omega
theorem roundS_eq {n : Int} (h : 1 ≤ n) (h2 : n ≤ 1099511627776) : roundS n 4096 = ((n - 1) / 4096 + 1) * 4096 := by
  unfold roundS
  rw [if_neg (by omega), show max (4096 : Int) 1 = 4096 by omega, show min n 1099511627776 = n by omega]
theorem fullS_bd (t : Trip) : 4096 ≤ fullS t ∧ fullS t ≤ 16384 ∧ fullS t % 4096 = 0 ∧ vS t ≤ fullS t := by
  have h := vS_bd t
  unfold fullS
  rw [roundS_eq (by omega) (by omega)]
  omega
theorem rawS_bd (t : Trip) : 0 ≤ rawS t ∧ rawS t < 8192 ∧ rawS t % 512 = 0 ∧ rawS t ≤ fullS t := by
  have h := fullS_bd t
  unfold rawS
  generalize fullS t = r at *
  obtain ⟨k, hk⟩ : ∃ k, r = 4096 * k := ⟨r / 4096, by omega⟩
  subst hk
  obtain ⟨a, ha⟩ : ∃ a, t.2.1 % 8192 / 512 = a := ⟨_, rfl⟩
  have h1 : 0 ≤ a ∧ a < 16 := by omega
  rw [ha]
  have h2 : 1 ≤ k ∧ k ≤ 4 := by omega
  have h3 := Int.emod_nonneg (a * 512) (show 4096 * k + 512 ≠ 0 by omega)
  have h4 := Int.emod_lt_of_pos (a * 512) (show (0 : Int) < 4096 * k + 512 by omega)
  have h5 := Int.emod_add_mul_ediv (a * 512) (4096 * k + 512)
  rcases (by omega : k = 1 ∨ k = 2 ∨ k = 3 ∨ k = 4) with rfl | rfl | rfl | rfl <;> omega
theorem rightS_bd (t : Trip) : 0 ≤ rightS t ∧ rightS t < 8 := by unfold rightS; omega
theorem rvaS_bd (L : Nat → Trip) (i : Nat) : 4096 ≤ rvaS L i ∧ rvaS L i ≤ 4096 + 16384 * i ∧ rvaS L i % 4096 = 0 := by
  induction i with
  | zero => simp [rvaS]
  | succ i ih => have := fullS_bd (L i); simp only [rvaS]; omega
theorem atS_bd (L : Nat → Trip) (i : Nat) : 1024 ≤ atS L i ∧ atS L i ≤ 1024 + 8192 * i ∧ atS L i % 512 = 0 := by
  induction i with
  | zero => simp [atS]
  | succ i ih => have := rawS_bd (L i); simp only [atS]; omega
theorem atS_mono (L : Nat → Trip) {i j : Nat} (h : i ≤ j) : atS L i ≤ atS L j := by
  induction j with
  | zero => obtain rfl : i = 0 := by omega
            exact Nat.le_refl _
  | succ j ih =>
    rcases Nat.lt_or_ge j i with h1 | h1
    · obtain rfl : i = j + 1 := by omega
      exact Nat.le_refl _
    · have := ih h1
      simp only [atS]
      omega

/-- What stands at fixed places. -/
structure MadeH (f : Nat → Int) (n : Int) : Prop where
  m0 : f 0 = 77
  m1 : f 1 = 90
  pe : rdF f 60 4 = 64
  p0 : f 64 = 80
  p1 : f 65 = 69
  p2 : f 66 = 0
  p3 : f 67 = 0
  mach : rdF f 68 2 = 34404
  cnt : rdF f 70 2 = n
  stamp : rdF f 72 4 = 77
  opt : rdF f 84 2 = 240
  chars : rdF f 86 2 = 8226
  mg : rdF f 88 2 = 523
  ent : rdF f 104 4 = 0
  base : rdF f 112 8 = 65536
  al : rdF f 120 4 = 4096
  fal : rdF f 124 4 = 512
  hdrs : rdF f 148 4 = 1024
  nd : rdF f 196 4 = 16
  dirs : ∀ i, i < 32 → rdF f (200 + 4 * i) 4 = 0

theorem MadeH.congr {f f' : Nat → Int} {n : Int} (h : MadeH f n) (e : ∀ q, q < 328 → (q < 144 ∨ 148 ≤ q) → f' q = f q) : MadeH f' n := by
  have k : ∀ o m, o + m ≤ 328 → (o + m ≤ 144 ∨ 148 ≤ o) → rdF f' o m = rdF f o m := fun o m h1 h2 => rdF_congr m o fun i hi => e _ (by omega) (by omega)
  exact ⟨(e 0 (by omega) (by omega)).trans h.m0, (e 1 (by omega) (by omega)).trans h.m1, (k _ _ (by omega) (by omega)).trans h.pe, (e _ (by omega) (by omega)).trans h.p0, (e _ (by omega) (by omega)).trans h.p1, (e _ (by omega) (by omega)).trans h.p2, (e _ (by omega) (by omega)).trans h.p3,
    (k _ _ (by omega) (by omega)).trans h.mach, (k _ _ (by omega) (by omega)).trans h.cnt, (k _ _ (by omega) (by omega)).trans h.stamp, (k _ _ (by omega) (by omega)).trans h.opt, (k _ _ (by omega) (by omega)).trans h.chars, (k _ _ (by omega) (by omega)).trans h.mg, (k _ _ (by omega) (by omega)).trans h.ent, (k _ _ (by omega) (by omega)).trans h.base,
    (k _ _ (by omega) (by omega)).trans h.al, (k _ _ (by omega) (by omega)).trans h.fal, (k _ _ (by omega) (by omega)).trans h.hdrs, (k _ _ (by omega) (by omega)).trans h.nd, fun i hi => (k _ _ (by omega) (by omega)).trans (h.dirs i hi)⟩

/-- The bytes of the head, ahead of its sections. -/
def preF (n : Int) : Nat → Int :=
  putI (putI (putI (putI (putI (putI (putI (putI (putI (putI (putI (copyF (putI (copyF (fun _ => 0) 0 ⟨#[77, 90]⟩) 60 64 4) 64 ⟨#[80, 69, 0, 0]⟩) 68 34404 2) 70 n 2) 72 77 4) 84 240 2) 86 8226 2) 88 523 2) 112 65536 8) 120 4096 4) 124 512 4) 148 1024 4) 196 16 4

theorem preF_head (n : Int) (h0 : 0 ≤ n) (h1 : n < 65536) : MadeH (preF n) n := by
  have z1 : (⟨#[77, 90]⟩ : ByteArray).size = 2 := rfl
  have z2 : (⟨#[80, 69, 0, 0]⟩ : ByteArray).size = 4 := rfl
  have hn : n % 256 ^ 2 = n := by rw [show (256 : Int) ^ 2 = 65536 by rfl]; omega
  unfold preF
  refine ⟨?_, ?_, ?_, ?_, ?_, ?_, ?_, ?_, ?_, ?_, ?_, ?_, ?_, ?_, ?_, ?_, ?_, ?_, ?_, fun i hi => ?_⟩
  all_goals simp (disch := omega) only [rd_put_ne, rd_put_eq, putI_ne, rd_copy_ne, copyF_ne, rd_zero, hn]
  all_goals first | rfl | skip

theorem preF_nul (n : Int) (q : Nat) (h : 328 ≤ q) : preF n q = 0 := by
  have z1 : (⟨#[77, 90]⟩ : ByteArray).size = 2 := rfl
  have z2 : (⟨#[80, 69, 0, 0]⟩ : ByteArray).size = 4 := rfl
  unfold preF
  simp (disch := omega) only [putI_ne, copyF_ne]

/-- A section's row at o. -/
structure SecF (f : Nat → Int) (o : Nat) (v rva raw spot r : Int) (i : Nat) : Prop where
  n0 : f o = 115
  n1 : f (o + 1) = 48 + i
  nz : ∀ q, 2 ≤ q → q < 8 → f (o + q) = 0
  v : rdF f (o + 8) 4 = v
  rva : rdF f (o + 12) 4 = rva
  raw : rdF f (o + 16) 4 = raw
  spot : rdF f (o + 20) 4 = spot
  r : rdF f (o + 36) 4 = r * 536870912

theorem SecF.congr {f f' : Nat → Int} {o : Nat} {v rva raw spot r : Int} {i : Nat} (h : SecF f o v rva raw spot r i) (e : ∀ q, o ≤ q → q < o + 40 → f' q = f q) : SecF f' o v rva raw spot r i := by
  have k : ∀ d, d + 4 ≤ 40 → rdF f' (o + d) 4 = rdF f (o + d) 4 := fun d h1 => rdF_congr 4 _ fun i hi => e _ (by omega) (by omega)
  exact ⟨(e _ (by omega) (by omega)).trans h.n0, (e _ (by omega) (by omega)).trans h.n1, fun q h1 h2 => (e _ (by omega) (by omega)).trans (h.nz q h1 h2), (k _ (by omega)).trans h.v, (k _ (by omega)).trans h.rva, (k _ (by omega)).trans h.raw, (k _ (by omega)).trans h.spot, (k _ (by omega)).trans h.r⟩

/-- i sections are made. -/
structure MadeI (L : Nat → Trip) (n : Int) (i : Nat) (f : Nat → Int) : Prop where
  hd : MadeH f n
  sec : ∀ j, j < i → SecF f (328 + 40 * j) (vS (L j)) (rvaS L j) (rawS (L j)) (atS L j) (rightS (L j)) j
  dat : ∀ (j k : Nat), j < i → (k : Int) < rawS (L j) → f (atS L j + k) = (7 * k + j + 1) % 256
  nul : ∀ q, 328 + 40 * i ≤ q → q < 1024 → f q = 0

theorem MadeI.start (L : Nat → Trip) (n : Int) (h0 : 0 ≤ n) (h1 : n < 65536) : MadeI L n 0 (preF n) :=
  ⟨preF_head n h0 h1, fun j hj => by omega, fun j k hj => by omega, fun q h _ => preF_nul n q (by omega)⟩

/-- What a round makes of the bytes. -/
def secF (L : Nat → Trip) (i : Nat) (f h : Nat → Int) : Nat → Int :=
  catF (atS L i) (putI (putI (putI (putI (putI (setF (setF f (328 + 40 * i) 115) (328 + 40 * i + 1) (48 + i)) (328 + 40 * i + 8) (vS (L i)) 4) (328 + 40 * i + 12) (rvaS L i) 4) (328 + 40 * i + 16) (rawS (L i)) 4) (328 + 40 * i + 20) (atS L i) 4) (328 + 40 * i + 36) (rightS (L i) * 536870912) 4) h

theorem MadeI.next {L : Nat → Trip} {n : Int} {i : Nat} {f : Nat → Int} (x : MadeI L n i f) (hi : i < 6) (h : Nat → Int) (hh : ∀ k : Nat, (k : Int) < rawS (L i) → h k = (7 * k + i + 1) % 256) :
    MadeI L n (i + 1) (secF L i f h) := by
  have ha := atS_bd L i
  have hv := vS_bd (L i)
  have hr := rvaS_bd L i
  have hw := rawS_bd (L i)
  have hg := rightS_bd (L i)
  have hlow : ∀ q, q < 328 + 40 * i → secF L i f h q = f q := fun q hq => by
    unfold secF
    simp (disch := omega) only [catF_lt, putI_ne, setF_ne]
  have hmid : ∀ q, 368 + 40 * i ≤ q → q < atS L i → secF L i f h q = f q := fun q h1 h2 => by
    unfold secF
    simp (disch := omega) only [catF_lt, putI_ne, setF_ne]
  refine ⟨x.hd.congr fun q h1 _ => hlow q (by omega), fun j hj => ?_, fun j k hj hk => ?_, fun q h1 h2 => ?_⟩
  · by_cases e : j = i
    · subst e
      have hpow : (256 : Int) ^ 4 = 4294967296 := rfl
      refine ⟨?_, ?_, fun q h1 h2 => ?_, ?_, ?_, ?_, ?_, ?_⟩
      all_goals unfold secF
      · simp (disch := omega) only [catF_lt, putI_ne, setF_ne]; simp [setF]
      · simp (disch := omega) only [catF_lt, putI_ne]; simp [setF]
      · simp (disch := omega) only [catF_lt, putI_ne, setF_ne]
        exact x.nul _ (by omega) (by omega)
      all_goals
        simp (disch := omega) only [rd_cat_lt, rd_put_ne, rd_put_eq, hpow]
        omega
    · exact (x.sec j (by omega)).congr fun q h1 h2 => hlow q (by omega)
  · by_cases e : j = i
    · subst e
      unfold secF catF
      rw [if_neg (by omega), show atS L j + k - atS L j = k by omega]
      exact hh k hk
    · have h1 := atS_mono L (show j + 1 ≤ i by omega)
      simp only [atS] at h1
      have h2 := atS_bd L j
      rw [hmid _ (by omega) (by omega)]
      exact x.dat j k (by omega) hk
  · rw [hmid q (by omega) (by omega)]
    exact x.nul q (by omega) h2

/-- What is made of n sections. -/
structure MadeP (L : Nat → Trip) (n : Nat) (f : Nat → Int) : Prop where
  all : MadeI L n n f
  size : rdF f 144 4 = rvaS L n

theorem MadeI.done {L : Nat → Trip} {n : Nat} {f : Nat → Int} (x : MadeI L n n f) (hn : n ≤ 6) : MadeP L n (putI f 144 (rvaS L n) 4) := by
  have hr := rvaS_bd L n
  refine ⟨⟨x.hd.congr fun q _ h => putI_ne (by omega), fun j hj => (x.sec j hj).congr fun q h1 h2 => putI_ne (by omega), fun j k hj hk => ?_, fun q h1 h2 => ?_⟩, ?_⟩
  · have := atS_bd L j
    rw [putI_ne (by omega)]
    exact x.dat j k hj hk
  · rw [putI_ne (by omega)]
    exact x.nul q h1 h2
  · rw [rd_put_eq, show (256 : Int) ^ 4 = 4294967296 by rfl]
    omega
end Go.Proofs.YtplgdpjbkdagfaaGreat
namespace Go.Proofs.YtplgdpjbkdagfaaGreat
set_option maxRecDepth 100000
open Go.ChangeShapes Go.WideShapes Go.ChangeAt Go.RowKit
set_option linter.unusedVariables false
set_option linter.unusedSimpArgs false

theorem OwnC.made (w : World) (n : Nat) (hn : n ≤ 9223372036854775807) : OwnC (w.alloc (.cells (madeCells (Value.int .u8 0).cells n) 5)) w.heap.size w.heap.size n n (fun _ => 0) := by
  have h := own_made w 5 n (.int .u8 0) rfl
  exact ⟨Nat.le_refl _, by simp, fun i hi => by rw [Nat.zero_add]; exact h.cell hi, fun _ => by omega, Nat.le_refl _, hn, fun j hj => ⟨by rw [h.cell hj]; rfl, h.frozen hj⟩⟩

theorem wpList_makeC {w : World} {ops : Array Oper} {rest : List Oper} {o : Oper} {a : Act} {Q : Exit → Act → World → Prop}
    (hg : o.guard = none) (l c : Operand) (hop : o.op = Op.makeSlice 25 l c) (base : Nat) (kl kc : IntKind) (n : Nat) (hl : a.eval l = .int kl n) (hc : a.eval c = .int kc n) (b2 : n ≤ 281474976710656) (b4 : base ≤ w.heap.size)
    (hK : ∀ w', OwnC w' base w.heap.size n n (fun _ => 0) → Below w.heap.size w w' → w'.heap.size = w.heap.size + 1 → wpList Tryz.prog ops Q rest (a.put o.dst (.slice (some ⟨w.heap.size, 0, none⟩) n n)) w') :
    wpList Tryz.prog ops Q (o :: rest) a w := by
  obtain ⟨i0, hi, hz0, hz1, hz2⟩ := info_parts infoU8
  refine wpList_plain hg fun K hK' => ?_
  have hbb : (i0.bytes : Int) * (n : Int) ≤ 281474976710656 := by rw [hz2]; omega
  have hrun := run_make (P := Tryz.prog) w 25 5 i0 (.int .u8 0) Tryz.underlying25 hi hz0 kl kc n n (by omega) (Int.le_refl _) hbb (by omega)
  rw [hz1] at hrun
  simp only [Int.toNat_natCast, Nat.mul_one] at hrun
  unfold Oper.wp
  simp [execOp, hop, hl, hc, hrun, Result.andThen]
  exact hK' _ _ (hK _ ((OwnC.made w n (by omega)).weaken b4) ((Below.refl w.heap.size w).alloc (Nat.le_refl _) _) (by simp))

theorem below_setCells' {B : Nat} {a : World} {g : Nat} (hg : B ≤ g) (vs : List Value) (o : Nat) (w : World) (h : Below B a w) : Below B a (w.setCells g o vs) := below_setCells hg vs o w h

theorem wpList_copyC {w : World} {ops : Array Oper} {rest : List Oper} {o : Oper} {a : Act} {Q : Exit → Act → World → Prop} (hgd : o.guard = none) (d x : Operand)
    (ho : o.op = .call { callee := .builtin .copy, args := #[d, x], argTypes := #[25, 9] })
    {base g n cap off len c : Nat} {t : ByteArray} {f : Nat → Int} (hown : OwnC w base g n cap f) (hle : t.size ≤ len) (hfit : off + t.size ≤ n)
    (hd : a.eval d = .slice (some ⟨g, off, none⟩) len c) (hx : a.eval x = .string t)
    (hK : ∀ w', OwnC w' base g n cap (copyF f off t) → Below base w w' → w'.heap.size = w.heap.size → wpList Tryz.prog ops Q rest (a.put o.dst (goInt t.size)) w') : wpList Tryz.prog ops Q (o :: rest) a w := by
  obtain ⟨i0, hi, hz0, hz1, hz2⟩ := info_parts infoU8
  have hl : (t.data.toList.map fun x => Value.int .u8 (x.toNat : Int)).length = t.size := by rw [List.length_map]; rfl
  have hlen := hown.len
  have hin : ∀ j, j < t.size → (w.cell? ⟨g, off + j, none⟩).isSome = true := fun j hj => (hown.wr (off + j) (by omega)).1
  have hrun := run_copy_string (P := Tryz.prog) w 25 9 o.type 5 g off len c t Tryz.underlying25 (fun w => by simp [sizeOf, typeInfo, hi, hz1]) hle hin (fun j hj => (hown.wr (off + j) (by omega)).2)
  refine wpList_plain hgd fun K hK' => ?_
  unfold Oper.wp execOp
  simp only [ho, resolve, invoke, builtin, Sem.run_bind, Sem.run_pure, Result.andThen_ok, List.map_toArray, List.map_cons, List.map_nil, hd, hx, hrun]
  refine hK' _ _ (hK _ ⟨hown.le, by rw [size_setCells]; exact hown.lt, fun i hi' => ?_, copyF255 hown.by255 off t, hown.len, hown.most, fun j hj => ⟨World.isSome_setCells _ _ _ _ _ (hown.wr j hj).1, by rw [World.frozen?_setCells]; exact (hown.wr j hj).2⟩⟩ (below_setCells' hown.le _ _ _ (Below.refl base w)) (size_setCells _ _ _ _))
  rw [Nat.zero_add]
  unfold copyF
  by_cases e : off ≤ i ∧ i < off + t.size
  · rw [if_pos e]
    have := World.cell?_setCells_in g (t.data.toList.map fun x => Value.int .u8 (x.toNat : Int)) off w (by rw [hl]; exact hin) (i - off) (by rw [hl]; omega)
    rw [show off + (i - off) = i by omega] at this
    rw [this]
    have h2 : i - off < t.data.size := by have : t.data.size = t.size := rfl; omega
    have h3 : i - off < t.size := h2
    unfold PlainAid.bt
    rw [dif_pos h3]
    simp
    rfl
  · rw [if_neg e, World.cell?_setCells_out _ _ _ _ _ (fun _ _ => by rw [hl]; show i < off ∨ off + t.size ≤ i; omega)]
    have := hown.row i hi'
    rwa [Nat.zero_add] at this

/-- put, at numbers. -/
theorem put_at (base b n cap : Nat) (f : Nat → Int) (o' k' : Int) (o k : Nat) (v : Int) (w : World) (h : OwnC w base b n cap f) (hb : base ≤ w.heap.size) (eo : o' = o) (ek : k' = k) (hn : n ≤ 1000000) (k1 : 1 ≤ k) (k8 : k ≤ 8) (ho : o + k ≤ n) (v0 : 0 ≤ v) (v1 : v ≤ 18446744073709551615) :
    Calls Tryz.prog 70 #[.slice (some ⟨b, 0, none⟩) n cap, .int .i64 o', .int .i64 k', .int .u64 v] w fun e w' =>
      ∃ g c, e = .returned (.slice (some ⟨g, 0, none⟩) n c) ∧ OwnC w' base g n c (putI f o v k) ∧ Below w.heap.size w w' := by
  subst eo ek
  refine (put_any b n cap f o k v w h.rowB hn k1 k8 ho v0 v1).mono ?_
  rintro e w' ⟨g, c, rfl, h1, h2⟩
  exact ⟨g, c, rfl, h1.weaken hb, h2⟩

theorem and_3fff (n : Int) : bits .and .i64 n 16383 = n % 16384 := i64_mask n 14 (by omega)
theorem and_1fff (n : Int) : bits .and .i64 n 8191 = n % 8192 := i64_mask n 13 (by omega)

set_option maxRecDepth 100000 in
set_option maxHeartbeats 4000000 in
theorem made_any (AS : Option Addr) (l : List Trip) (cs : Nat) (L : Nat → Trip) (hL : ∀ i, l[i]? = some (L i) ∨ l.length ≤ i) (w : World) (hl : 1 ≤ l.length) (hS : SlT tripC 3 w AS l) :
    Calls Tryz.prog 25 #[.slice AS l.length cs, .slice none 0 0] w fun e w' =>
      ∃ g c F, e = .returned (.slice (some ⟨g, 0, none⟩) (atS L (min l.length 6)) c) ∧ OwnC w' w.heap.size g (atS L (min l.length 6)) c F ∧ MadeP L (min l.length 6) F ∧ Below w.heap.size w w' := by
  have HL := Lib.hid hL
  have hlen : ((l.length : Int) == 0) = false := by rw [beq_eq_false_iff_ne]; omega
  have hmin : min (l.length : Int) 6 = ((min l.length 6 : Nat) : Int) := by omega
  obtain ⟨b, off, hAS, hblt, hcel⟩ : ∃ b off, AS = some ⟨b, off, none⟩ ∧ b < w.heap.size ∧ ∀ (i : Nat) (hi : i < l.length) (j : Nat) (v : Value), (tripC l[i])[j]? = some v → w.cell? ⟨b, off + (i * 3 + j), none⟩ = some v := by
    rcases hS with h | h
    · rw [h] at hl; simp at hl
    · exact h
  subst hAS
  have HCL := Lib.hid hcel
  have HBLT := Lib.hid hblt
  clear hS hL hcel hblt
  go_enter Tryz.func25, Tryz.ntmps25
  go_wp2_with (first
    | (at_make; refine wpList_makeC rfl _ _ rfl w.heap.size .i64 .i64 1024 rfl rfl (by omega) (Nat.le_refl _) ?_; intro w1 ho hb hs; have HO1 := Lib.hid ho; have HB1 := Lib.hid hb; clear ho hb hs)
    | (refine wpList_copyC rfl _ _ rfl (off := 0) (t := ⟨#[77, 90]⟩) HO1.out (by decide) (by decide) rfl rfl ?_; intro w2 ho hb hs; have HO2 := Lib.hid ho; have HB2 := Lib.hid (HB1.out.trans (hb.mono (Nat.le_refl _))); clear ho hb hs HO1 HB1))
  refine (put_at w.heap.size _ _ _ _ _ _ 60 4 64 _ HO2.out HB2.out.size rfl rfl (by omega) (by omega) (by omega) (by omega) (by omega) (by omega)).mono ?_
  rintro e w3 ⟨g3, c3, rfl, ho, hb⟩
  have HO3 := Lib.hid ho
  have HB3 := Lib.hid (HB2.out.trans (hb.mono HB2.out.size))
  clear ho hb HO2 HB2
  have hc3 := HO3.out.len
  go_wp2_with (refine wpList_copyC rfl _ _ rfl (off := 64) (t := ⟨#[80, 69, 0, 0]⟩) HO3.out (by decide) (by decide) rfl rfl ?_; intro w4 ho hb hs; have HO4 := Lib.hid ho; have HB4 := Lib.hid (HB3.out.trans (hb.mono (Nat.le_refl _))); clear ho hb hs HO3 HB3)
  refine (put_at w.heap.size _ _ _ _ _ _ 68 2 34404 _ HO4.out HB4.out.size rfl rfl (by omega) (by omega) (by omega) (by omega) (by omega) (by omega)).mono ?_
  rintro e w5 ⟨g5, c5, rfl, ho, hb⟩
  have HO5 := Lib.hid ho
  have HB5 := Lib.hid (HB4.out.trans (hb.mono HB4.out.size))
  clear ho hb HO4 HB4
  go_wp2_with fail
  refine (put_at w.heap.size _ _ _ _ _ _ 70 2 ((min l.length 6 : Nat) : Int) _ HO5.out HB5.out.size rfl rfl (by omega) (by omega) (by omega) (by omega) (by omega) (by omega)).mono ?_
  rintro e w6 ⟨g6, c6, rfl, ho, hb⟩
  have HO6 := Lib.hid ho
  have HB6 := Lib.hid (HB5.out.trans (hb.mono HB5.out.size))
  clear ho hb HO5 HB5
  go_wp2_with fail
  refine (put_at w.heap.size _ _ _ _ _ _ 72 4 77 _ HO6.out HB6.out.size rfl rfl (by omega) (by omega) (by omega) (by omega) (by omega) (by omega)).mono ?_
  rintro e w7 ⟨g7, c7, rfl, ho, hb⟩
  have HO7 := Lib.hid ho
  have HB7 := Lib.hid (HB6.out.trans (hb.mono HB6.out.size))
  clear ho hb HO6 HB6
  go_wp2_with fail
  refine (put_at w.heap.size _ _ _ _ _ _ 84 2 240 _ HO7.out HB7.out.size rfl rfl (by omega) (by omega) (by omega) (by omega) (by omega) (by omega)).mono ?_
  rintro e w8 ⟨g8, c8, rfl, ho, hb⟩
  have HO8 := Lib.hid ho
  have HB8 := Lib.hid (HB7.out.trans (hb.mono HB7.out.size))
  clear ho hb HO7 HB7
  go_wp2_with fail
  refine (put_at w.heap.size _ _ _ _ _ _ 86 2 8226 _ HO8.out HB8.out.size rfl rfl (by omega) (by omega) (by omega) (by omega) (by omega) (by omega)).mono ?_
  rintro e w9 ⟨g9, c9, rfl, ho, hb⟩
  have HO9 := Lib.hid ho
  have HB9 := Lib.hid (HB8.out.trans (hb.mono HB8.out.size))
  clear ho hb HO8 HB8
  go_wp2_with fail
  refine (put_at w.heap.size _ _ _ _ _ _ 88 2 523 _ HO9.out HB9.out.size rfl rfl (by omega) (by omega) (by omega) (by omega) (by omega) (by omega)).mono ?_
  rintro e w10 ⟨g10, c10, rfl, ho, hb⟩
  have HO10 := Lib.hid ho
  have HB10 := Lib.hid (HB9.out.trans (hb.mono HB9.out.size))
  clear ho hb HO9 HB9
  go_wp2_with fail
  refine (put_at w.heap.size _ _ _ _ _ _ 112 8 65536 _ HO10.out HB10.out.size rfl rfl (by omega) (by omega) (by omega) (by omega) (by omega) (by omega)).mono ?_
  rintro e w11 ⟨g11, c11, rfl, ho, hb⟩
  have HO11 := Lib.hid ho
  have HB11 := Lib.hid (HB10.out.trans (hb.mono HB10.out.size))
  clear ho hb HO10 HB10
  go_wp2_with fail
  refine (put_at w.heap.size _ _ _ _ _ _ 120 4 4096 _ HO11.out HB11.out.size rfl rfl (by omega) (by omega) (by omega) (by omega) (by omega) (by omega)).mono ?_
  rintro e w12 ⟨g12, c12, rfl, ho, hb⟩
  have HO12 := Lib.hid ho
  have HB12 := Lib.hid (HB11.out.trans (hb.mono HB11.out.size))
  clear ho hb HO11 HB11
  go_wp2_with fail
  refine (put_at w.heap.size _ _ _ _ _ _ 124 4 512 _ HO12.out HB12.out.size rfl rfl (by omega) (by omega) (by omega) (by omega) (by omega) (by omega)).mono ?_
  rintro e w13 ⟨g13, c13, rfl, ho, hb⟩
  have HO13 := Lib.hid ho
  have HB13 := Lib.hid (HB12.out.trans (hb.mono HB12.out.size))
  clear ho hb HO12 HB12
  go_wp2_with fail
  refine (put_at w.heap.size _ _ _ _ _ _ 148 4 1024 _ HO13.out HB13.out.size rfl rfl (by omega) (by omega) (by omega) (by omega) (by omega) (by omega)).mono ?_
  rintro e w14 ⟨g14, c14, rfl, ho, hb⟩
  have HO14 := Lib.hid ho
  have HB14 := Lib.hid (HB13.out.trans (hb.mono HB13.out.size))
  clear ho hb HO13 HB13
  go_wp2_with fail
  refine (put_at w.heap.size _ _ _ _ _ _ 196 4 16 _ HO14.out HB14.out.size rfl rfl (by omega) (by omega) (by omega) (by omega) (by omega) (by omega)).mono ?_
  rintro e w15 ⟨g15, c15, rfl, ho, hb⟩
  have HO15 := Lib.hid ho
  have HB15 := Lib.hid (HB14.out.trans (hb.mono HB14.out.size))
  clear ho hb HO14 HB14
  go_wp2_with fail
  have HF := Lib.hid (MadeI.start L ((min l.length 6 : Nat) : Int) (by omega) (by omega))
  have hN1 : min l.length 6 ≤ l.length := by omega
  have hN2 : min l.length 6 ≤ 6 := by omega
  have hN3 : 1 ≤ min l.length 6 := by omega
  have HOL : Hid (OwnC w15 w.heap.size g15 1024 c15 (preF ((min l.length 6 : Nat) : Int))) := HO15
  clear HO15 hmin
  obtain ⟨N, hNN⟩ : ∃ N, min l.length 6 = N := ⟨_, rfl⟩
  have HNN := Lib.hid hNN
  simp only [hNN] at hN1 hN2 hN3 HF HOL ⊢
  clear hNN
  go_loopw [6, 7, 8, 9, 10, 11, 12, 13, 14] (fun o6 o7 o8 _ _ _ _ _ _ wr => ∃ (i g c : Nat) (F : Nat → Int), i ≤ N ∧ o6 = .slice (some ⟨g, 0, none⟩) (atS L i) c ∧ o7 = .int .i64 (rvaS L i) ∧ o8 = .int .i64 i ∧ OwnC wr w.heap.size g (atS L i) c F ∧ MadeI L N i F ∧ Below w.heap.size w wr) (fun _ _ o8 _ _ _ _ _ _ _ => N - (intOf o8).toNat)
  case atStart => exact ⟨0, g15, c15, _, by omega, rfl, rfl, rfl, HOL.out, HF.out, HB15.out⟩
  case round =>
    obtain ⟨i, g, c, F, hi, rfl, rfl, rfl, ho, hF, hb⟩ := hrel
    have HO := Lib.hid ho
    have HF := Lib.hid hF
    have HB := Lib.hid hb
    clear ho hF hb HOL HB15
    by_cases hlt : i < N
    · have hlt' : (i : Int) < N := by omega
      have hil : i < l.length := by omega
      have hLi : l[i] = L i := by
        rcases HL.out i with h | h
        · rw [List.getElem?_eq_getElem hil] at h; injection h
        · omega
      have hcl := HCL.out i hil
      rw [hLi] at hcl
      have d0 : wr.cell? ⟨b, off + i * 3, none⟩ = some (.int .i64 (L i).1) := (HB.out.cell (p := ⟨b, _, none⟩) HBLT.out).trans (hcl 0 _ rfl)
      have d1 : wr.cell? ⟨b, off + i * 3 + 1, none⟩ = some (.int .i64 (L i).2.1) := (HB.out.cell (p := ⟨b, _, none⟩) HBLT.out).trans (hcl 1 _ rfl)
      have d2 : wr.cell? ⟨b, off + i * 3 + 2, none⟩ = some (.int .i64 (L i).2.2) := (HB.out.cell (p := ⟨b, _, none⟩) HBLT.out).trans (hcl 2 _ rfl)
      have HCLI := Lib.hid hcl
      clear hcl hLi
      have hat := atS_bd L i
      have hrv := rvaS_bd L i
      have hv := vS_bd (L i)
      have hfu := fullS_bd (L i)
      have hra := rawS_bd (L i)
      have hri := rightS_bd (L i)
      have m1 := and_3fff (L i).1
      have m2 := and_1fff (L i).2.1
      have m3 := and_7 (L i).2.2
      obtain ⟨p, hp⟩ : ∃ p : Nat, 328 + 40 * (i : Int) = p := ⟨328 + 40 * i, by omega⟩
      have hpn : p = 328 + 40 * i := by omega
      have hp6 : p ≤ 528 := by omega
      have HPN := Lib.hid hpn
      have HRD := Lib.hid (fun W => rround_any (vS (L i)) 4096 W (by omega) (by omega) (by omega) (by omega))
      have hvd : (L i).1 % 16384 + 1 = vS (L i) := rfl
      have hfd : roundS (vS (L i)) 4096 = fullS (L i) := rfl
      rw [hfd] at HRD
      have hrd : (L i).2.1 % 8192 / 512 * 512 % (fullS (L i) + 512) = rawS (L i) := rfl
      have hrr : (L i).2.2 % 8 = rightS (L i) := rfl
      have x0 := HO.out.row p (by omega)
      have x1 := HO.out.row (p + 1) (by omega)
      rw [Nat.zero_add] at x0 x1
      have z0 := (HO.out.wr p (by have := HO.out.len; omega)).2
      have z1 := (HO.out.wr (p + 1) (by have := HO.out.len; omega)).2
      have uw : ∀ x : Int, 0 ≤ x → x ≤ 1000000 → IntKind.u64.wrap x = x := fun x h0 h1 => by rw [IntKind.wrap_u64]; omega
      have wv := uw (vS (L i)) (by omega) (by omega)
      have wr' := uw (rvaS L i) (by omega) (by omega)
      have ww := uw (rawS (L i)) (by omega) (by omega)
      have wa := uw (atS L i) (by omega) (by omega)
      have wg := uw (rightS (L i)) (by omega) (by omega)
      have wi : IntKind.u8.wrap (48 + (i : Int)) = 48 + i := by rw [IntKind.wrap_u8]; omega
      obtain ⟨R, hR⟩ : ∃ R : Nat, rawS (L i) = R := ⟨(rawS (L i)).toNat, by omega⟩
      have HRR := Lib.hid hR
      clear uw hpn
      go_wp2_with (go_fit (HRD.out _); rintro e w' ⟨rfl, rfl⟩)
      have HQ0 := Lib.hid ((HO.out.set p 115 (by omega) (by omega) (by omega)).set (p + 1) (48 + (i : Int)) (by omega) (by omega) (by omega))
      have HB0 := Lib.hid ((HB.out.setCell (p := ⟨g, p, none⟩) HO.out.le (.int .u8 115)).setCell (p := ⟨g, p + 1, none⟩) HO.out.le (.int .u8 (48 + (i : Int))))
      clear HO HB x0 x1 z0 z1
      refine (put_at w.heap.size _ _ _ _ _ _ (p + 8) 4 (vS (L i)) _ HQ0.out HB0.out.size (by omega) rfl (by omega) (by omega) (by omega) (by omega) (by omega) (by omega)).mono ?_
      rintro e v1 ⟨h1, k1, rfl, ho, hb⟩
      have HQ1 := Lib.hid ho
      have HB1 := Lib.hid (HB0.out.trans (hb.mono HB0.out.size))
      clear ho hb HQ0 HB0
      go_wp2_with fail
      refine (put_at w.heap.size _ _ _ _ _ _ (p + 12) 4 (rvaS L i) _ HQ1.out HB1.out.size (by omega) rfl (by omega) (by omega) (by omega) (by omega) (by omega) (by omega)).mono ?_
      rintro e v2 ⟨h2, k2, rfl, ho, hb⟩
      have HQ2 := Lib.hid ho
      have HB2 := Lib.hid (HB1.out.trans (hb.mono HB1.out.size))
      clear ho hb HQ1 HB1
      go_wp2_with fail
      refine (put_at w.heap.size _ _ _ _ _ _ (p + 16) 4 (R : Int) _ HQ2.out HB2.out.size (by omega) rfl (by omega) (by omega) (by omega) (by omega) (by omega) (by omega)).mono ?_
      rintro e v3 ⟨h3, k3, rfl, ho, hb⟩
      have HQ3 := Lib.hid ho
      have HB3 := Lib.hid (HB2.out.trans (hb.mono HB2.out.size))
      clear ho hb HQ2 HB2
      go_wp2_with fail
      refine (put_at w.heap.size _ _ _ _ _ _ (p + 20) 4 ((atS L i : Nat) : Int) _ HQ3.out HB3.out.size (by omega) rfl (by omega) (by omega) (by omega) (by omega) (by omega) (by omega)).mono ?_
      rintro e v4 ⟨h4, k4, rfl, ho, hb⟩
      have HQ4 := Lib.hid ho
      have HB4 := Lib.hid (HB3.out.trans (hb.mono HB3.out.size))
      clear ho hb HQ3 HB3
      have e2 : v4.cell? ⟨b, off + i * 3 + 2, none⟩ = some (.int .i64 (L i).2.2) := (HB4.out.cell (p := ⟨b, _, none⟩) HBLT.out).trans (HCLI.out 2 _ rfl)
      clear d0 d1 d2
      go_wp2_with fail
      refine (put_at w.heap.size _ _ _ _ _ _ (p + 36) 4 (rightS (L i) * 536870912) _ HQ4.out HB4.out.size (by omega) rfl (by omega) (by omega) (by omega) (by omega) (by omega) (by omega)).mono ?_
      rintro e v5 ⟨h5, k5, rfl, ho, hb⟩
      have HQ5 := Lib.hid ho
      have HB5 := Lib.hid (HB4.out.trans (hb.mono HB4.out.size))
      clear ho hb HQ4 HB4
      clear e2
      go_wp2_with (at_make; refine wpList_makeC rfl _ _ rfl w.heap.size .i64 .i64 R rfl rfl (by omega) HB5.out.size ?_; intro v6 ho hb hs)
      have HM := Lib.hid ho
      have HQ6 := Lib.hid (HQ5.out.below hb)
      have HB6 := Lib.hid (HB5.out.trans (hb.mono HB5.out.size))
      have HNE : Hid (h5 ≠ v5.heap.size) := Lib.hid (by have := HQ5.out.lt; omega)
      clear ho hb hs HQ5 HB5
      generalize v5.heap.size = gm at *
      go_loopw [14] (fun o14 wr => ∃ k : Nat, k ≤ R ∧ o14 = .int .i64 k ∧ OwnC wr w.heap.size gm R R (fun q => if q < k then (7 * (q : Int) + i + 1) % 256 else 0) ∧ OwnC wr w.heap.size h5 (atS L i) k5 (putI (putI (putI (putI (putI (setF (setF F p 115) (p + 1) (48 + i)) (p + 8) (vS (L i)) 4) (p + 12) (rvaS L i) 4) (p + 16) (R : Int) 4) (p + 20) (atS L i) 4) (p + 36) (rightS (L i) * 536870912) 4) ∧ Below w.heap.size w wr) (fun o14 _ => R - (intOf o14).toNat)
      case atStart => exact ⟨0, by omega, rfl, HM.out.congr (fun q => by simp) (fun q _ => by simp), HQ6.out, HB6.out⟩
      case round =>
        obtain ⟨k, hk, rfl, ho, hq, hb⟩ := hrel
        have HM := Lib.hid ho
        have HQ := Lib.hid hq
        have HB := Lib.hid hb
        clear ho hq hb
        by_cases hkl : k < R
        · have hkl' : (k : Int) < R := by omega
          have x0 := HM.out.row k hkl
          rw [Nat.zero_add] at x0
          have z0 := (HM.out.wr k hkl).2
          have wk : IntKind.u8.wrap ((k : Int) * 7 + i + 1) = (7 * (k : Int) + i + 1) % 256 := by rw [IntKind.wrap_u8]; omega
          have hRb : R < 8192 := by omega
          go_wp2_with fail
          go_roundw
          case rel => exact ⟨k + 1, by omega, by go_num, (HM.out.set k ((7 * (k : Int) + i + 1) % 256) hkl (by omega) (by omega)).congr (fun q => by split <;> omega) (fun q hq => by
            unfold setF
            by_cases e : q = k
            · subst e; simp
            · rw [if_neg e]
              show (if q < k then (7 * (q : Int) + i + 1) % 256 else 0) = _
              by_cases e2 : q < k
              · rw [if_pos e2, if_pos (by omega)]
              · rw [if_neg e2, if_neg (by omega)]), HQ.out.of_block (by simp) (heap_setCell_other _ _ _ _ HNE.out), HB.out.setCell HM.out.le _⟩
          case measure => simp [intOf]; omega
        · obtain rfl : k = R := by omega
          go_wp2_with (at_builtin; refine wpList_appC rfl _ _ rfl HQ.out (.inr ⟨gm, 0, rfl, HM.out.lt, HM.out.row⟩) HM.out.by255 (by omega) HB.out.size rfl rfl ?_; intro g' cap' w' ho hb)
          have hsum : rvaS L (i + 1) = rvaS L i + fullS (L i) := rfl
          have hatn : atS L (i + 1) = atS L i + k := by simp only [atS]; rw [HRR.out]; rfl
          go_roundw
          case rel =>
            refine ⟨i + 1, g', cap', _, by omega, by rw [hatn], by rw [hsum], by go_num, by rw [hatn]; exact ho, ?_, HB.out.trans hb⟩
            have hn := HF.out.next (by omega) (fun q => if q < k then (7 * (q : Int) + i + 1) % 256 else 0) (fun q hq => if_pos (by rw [HRR.out] at hq; omega))
            unfold secF at hn
            rw [← HPN.out, HRR.out] at hn
            exact hn
          case measure => simp [intOf]; omega
    · obtain rfl : i = N := by omega
      have wr' : IntKind.u64.wrap (rvaS L i) = rvaS L i := by
        have := rvaS_bd L i
        rw [IntKind.wrap_u64]; omega
      have hrv := rvaS_bd L i
      have hat := atS_bd L i
      go_wp2_with fail
      refine (put_at w.heap.size _ _ _ _ _ _ 144 4 (rvaS L i) _ HO.out HB.out.size rfl rfl (by omega) (by omega) (by omega) (by omega) (by omega) (by omega)).mono ?_
      rintro e w' ⟨g', c', rfl, ho, hb⟩
      have HO2 := Lib.hid ho
      have HB2 := Lib.hid (HB.out.trans (hb.mono HB.out.size))
      clear ho hb HO HB
      go_wp2_with fail
      go_loopw [6, 15] (fun o6 o15 wr => wr = w' ∧ o15 = .int .i64 0 ∧ o6 = .slice (some ⟨g', 0, none⟩) (atS L i) c') (fun _ _ _ => 0)
      case atStart => exact ⟨rfl, rfl, rfl⟩
      case round =>
        obtain ⟨rfl, rfl, rfl⟩ := hrel
        go_wp2_with fail
        go_ret
        rw [HNN.out]
        exact ⟨g', c', _, rfl, HO2.out, HF.out.done hN2, HB2.out⟩
end Go.Proofs.YtplgdpjbkdagfaaGreat
namespace Go.Proofs.YtplgdpjbkdagfaaGreat
set_option maxRecDepth 100000
open Go.ChangeShapes Go.WideShapes Go.ChangeAt Go.RowKit
set_option linter.unusedVariables false
set_option linter.unusedSimpArgs false

set_option maxRecDepth 100000 in
set_option maxHeartbeats 4000000 in
theorem made_none (AS : Option Addr) (cs : Nat) (L : Nat → Trip) (hLL : ∀ i, L i = (16, 512, 3)) (w : World) :
    Calls Tryz.prog 25 #[.slice AS 0 cs, .slice none 0 0] w fun e w' =>
      ∃ g c F, e = .returned (.slice (some ⟨g, 0, none⟩) (atS L 1) c) ∧ OwnC w' w.heap.size g (atS L 1) c F ∧ MadeP L 1 F ∧ Below w.heap.size w w' := by
  have HLL := Lib.hid hLL
  have HH0 := Lib.hid (heap_alloc_new w (.cells #[.int .i64 16, .int .i64 512, .int .i64 3] 88))
  have HBW := Lib.hid ((Below.refl w.heap.size w).alloc (Nat.le_refl _) (.cells #[.int .i64 16, .int .i64 512, .int .i64 3] 88))
  have HBLT : Hid (w.heap.size < (w.alloc (.cells #[.int .i64 16, .int .i64 512, .int .i64 3] 88)).heap.size) := Lib.hid (by simp)
  have hmin : min (1 : Int) 6 = 1 := rfl
  clear hLL
  go_enter Tryz.func25, Tryz.ntmps25
  go_wp2_with (first
    | (at_make; generalize w.alloc (.cells #[.int .i64 16, .int .i64 512, .int .i64 3] 88) = w0 at *; refine wpList_makeC rfl _ _ rfl w0.heap.size .i64 .i64 1024 rfl rfl (by omega) (Nat.le_refl _) ?_; intro w1 ho hb hs; have HO1 := Lib.hid ho; have HB1 := Lib.hid hb; clear ho hb hs)
    | (refine wpList_copyC rfl _ _ rfl (off := 0) (t := ⟨#[77, 90]⟩) HO1.out (by decide) (by decide) rfl rfl ?_; intro w2 ho hb hs; have HO2 := Lib.hid ho; have HB2 := Lib.hid (HB1.out.trans (hb.mono (Nat.le_refl _))); clear ho hb hs HO1 HB1))
  refine (put_at w0.heap.size _ _ _ _ _ _ 60 4 64 _ HO2.out HB2.out.size rfl rfl (by omega) (by omega) (by omega) (by omega) (by omega) (by omega)).mono ?_
  rintro e w3 ⟨g3, c3, rfl, ho, hb⟩
  have HO3 := Lib.hid ho
  have HB3 := Lib.hid (HB2.out.trans (hb.mono HB2.out.size))
  clear ho hb HO2 HB2
  have hc3 := HO3.out.len
  go_wp2_with (refine wpList_copyC rfl _ _ rfl (off := 64) (t := ⟨#[80, 69, 0, 0]⟩) HO3.out (by decide) (by decide) rfl rfl ?_; intro w4 ho hb hs; have HO4 := Lib.hid ho; have HB4 := Lib.hid (HB3.out.trans (hb.mono (Nat.le_refl _))); clear ho hb hs HO3 HB3)
  refine (put_at w0.heap.size _ _ _ _ _ _ 68 2 34404 _ HO4.out HB4.out.size rfl rfl (by omega) (by omega) (by omega) (by omega) (by omega) (by omega)).mono ?_
  rintro e w5 ⟨g5, c5, rfl, ho, hb⟩
  have HO5 := Lib.hid ho
  have HB5 := Lib.hid (HB4.out.trans (hb.mono HB4.out.size))
  clear ho hb HO4 HB4
  go_wp2_with fail
  refine (put_at w0.heap.size _ _ _ _ _ _ 70 2 1 _ HO5.out HB5.out.size rfl rfl (by omega) (by omega) (by omega) (by omega) (by omega) (by omega)).mono ?_
  rintro e w6 ⟨g6, c6, rfl, ho, hb⟩
  have HO6 := Lib.hid ho
  have HB6 := Lib.hid (HB5.out.trans (hb.mono HB5.out.size))
  clear ho hb HO5 HB5
  go_wp2_with fail
  refine (put_at w0.heap.size _ _ _ _ _ _ 72 4 77 _ HO6.out HB6.out.size rfl rfl (by omega) (by omega) (by omega) (by omega) (by omega) (by omega)).mono ?_
  rintro e w7 ⟨g7, c7, rfl, ho, hb⟩
  have HO7 := Lib.hid ho
  have HB7 := Lib.hid (HB6.out.trans (hb.mono HB6.out.size))
  clear ho hb HO6 HB6
  go_wp2_with fail
  refine (put_at w0.heap.size _ _ _ _ _ _ 84 2 240 _ HO7.out HB7.out.size rfl rfl (by omega) (by omega) (by omega) (by omega) (by omega) (by omega)).mono ?_
  rintro e w8 ⟨g8, c8, rfl, ho, hb⟩
  have HO8 := Lib.hid ho
  have HB8 := Lib.hid (HB7.out.trans (hb.mono HB7.out.size))
  clear ho hb HO7 HB7
  go_wp2_with fail
  refine (put_at w0.heap.size _ _ _ _ _ _ 86 2 8226 _ HO8.out HB8.out.size rfl rfl (by omega) (by omega) (by omega) (by omega) (by omega) (by omega)).mono ?_
  rintro e w9 ⟨g9, c9, rfl, ho, hb⟩
  have HO9 := Lib.hid ho
  have HB9 := Lib.hid (HB8.out.trans (hb.mono HB8.out.size))
  clear ho hb HO8 HB8
  go_wp2_with fail
  refine (put_at w0.heap.size _ _ _ _ _ _ 88 2 523 _ HO9.out HB9.out.size rfl rfl (by omega) (by omega) (by omega) (by omega) (by omega) (by omega)).mono ?_
  rintro e w10 ⟨g10, c10, rfl, ho, hb⟩
  have HO10 := Lib.hid ho
  have HB10 := Lib.hid (HB9.out.trans (hb.mono HB9.out.size))
  clear ho hb HO9 HB9
  go_wp2_with fail
  refine (put_at w0.heap.size _ _ _ _ _ _ 112 8 65536 _ HO10.out HB10.out.size rfl rfl (by omega) (by omega) (by omega) (by omega) (by omega) (by omega)).mono ?_
  rintro e w11 ⟨g11, c11, rfl, ho, hb⟩
  have HO11 := Lib.hid ho
  have HB11 := Lib.hid (HB10.out.trans (hb.mono HB10.out.size))
  clear ho hb HO10 HB10
  go_wp2_with fail
  refine (put_at w0.heap.size _ _ _ _ _ _ 120 4 4096 _ HO11.out HB11.out.size rfl rfl (by omega) (by omega) (by omega) (by omega) (by omega) (by omega)).mono ?_
  rintro e w12 ⟨g12, c12, rfl, ho, hb⟩
  have HO12 := Lib.hid ho
  have HB12 := Lib.hid (HB11.out.trans (hb.mono HB11.out.size))
  clear ho hb HO11 HB11
  go_wp2_with fail
  refine (put_at w0.heap.size _ _ _ _ _ _ 124 4 512 _ HO12.out HB12.out.size rfl rfl (by omega) (by omega) (by omega) (by omega) (by omega) (by omega)).mono ?_
  rintro e w13 ⟨g13, c13, rfl, ho, hb⟩
  have HO13 := Lib.hid ho
  have HB13 := Lib.hid (HB12.out.trans (hb.mono HB12.out.size))
  clear ho hb HO12 HB12
  go_wp2_with fail
  refine (put_at w0.heap.size _ _ _ _ _ _ 148 4 1024 _ HO13.out HB13.out.size rfl rfl (by omega) (by omega) (by omega) (by omega) (by omega) (by omega)).mono ?_
  rintro e w14 ⟨g14, c14, rfl, ho, hb⟩
  have HO14 := Lib.hid ho
  have HB14 := Lib.hid (HB13.out.trans (hb.mono HB13.out.size))
  clear ho hb HO13 HB13
  go_wp2_with fail
  refine (put_at w0.heap.size _ _ _ _ _ _ 196 4 16 _ HO14.out HB14.out.size rfl rfl (by omega) (by omega) (by omega) (by omega) (by omega) (by omega)).mono ?_
  rintro e w15 ⟨g15, c15, rfl, ho, hb⟩
  have HO15 := Lib.hid ho
  have HB15 := Lib.hid (HB14.out.trans (hb.mono HB14.out.size))
  clear ho hb HO14 HB14
  go_wp2_with fail
  have HF := Lib.hid (MadeI.start L 1 (by omega) (by omega))
  have HOL : Hid (OwnC w15 w0.heap.size g15 1024 c15 (preF 1)) := HO15
  obtain ⟨N, hNN⟩ : ∃ N : Nat, N = 1 := ⟨1, rfl⟩
  have HNN := Lib.hid hNN
  have hN1 : N ≤ 1 := by omega
  have hN2 : N ≤ 6 := by omega
  have hN3 : 1 ≤ N := by omega
  have hNI : (1 : Int) = N := by omega
  have HF2 : Hid (MadeI L N 0 (preF N)) := Lib.hid (by rw [← hNI]; exact HF.out)
  have HOL2 : Hid (OwnC w15 w0.heap.size g15 1024 c15 (preF N)) := Lib.hid (by rw [← hNI]; exact HOL.out)
  clear HO15 hmin HF HOL hNN hNI
  go_loopw [6, 7, 8, 9, 10, 11, 12, 13, 14] (fun o6 o7 o8 _ _ _ _ _ _ wr => ∃ (i g c : Nat) (F : Nat → Int), i ≤ N ∧ o6 = .slice (some ⟨g, 0, none⟩) (atS L i) c ∧ o7 = .int .i64 (rvaS L i) ∧ o8 = .int .i64 i ∧ OwnC wr w0.heap.size g (atS L i) c F ∧ MadeI L N i F ∧ Below w0.heap.size w0 wr) (fun _ _ o8 _ _ _ _ _ _ _ => N - (intOf o8).toNat)
  case atStart => exact ⟨0, g15, c15, _, by omega, rfl, rfl, rfl, HOL2.out, HF2.out, HB15.out⟩
  case round =>
    obtain ⟨i, g, c, F, hi, rfl, rfl, rfl, ho, hF, hb⟩ := hrel
    have HO := Lib.hid ho
    have HF := Lib.hid hF
    have HB := Lib.hid hb
    clear ho hF hb HOL2 HF2 HB15
    by_cases hlt : i < N
    · have hlt' : (i : Int) < N := by omega
      have hlt1 : (i : Int) < 1 := by omega
      have hlt2 : i = 0 := by omega
      have hcl : ∀ j v, (tripC (L i))[j]? = some v → w0.cell? ⟨w.heap.size, i * 3 + j, none⟩ = some v := fun j v hv => by
        rw [HLL.out, ] at hv
        rw [hlt2, cell_of_row _ _ _ _ _ _ HH0.out, Nat.zero_mul, Nat.zero_add, ← hv]
        match j with
        | 0 => rfl
        | 1 => rfl
        | 2 => rfl
        | j + 3 => rfl
      clear hlt2
      have HCLI := Lib.hid hcl
      have d0 : wr.cell? ⟨w.heap.size, i * 3, none⟩ = some (.int .i64 (L i).1) := (HB.out.cell (p := ⟨w.heap.size, _, none⟩) HBLT.out).trans (hcl 0 _ rfl)
      have d1 : wr.cell? ⟨w.heap.size, i * 3 + 1, none⟩ = some (.int .i64 (L i).2.1) := (HB.out.cell (p := ⟨w.heap.size, _, none⟩) HBLT.out).trans (hcl 1 _ rfl)
      have d2 : wr.cell? ⟨w.heap.size, i * 3 + 2, none⟩ = some (.int .i64 (L i).2.2) := (HB.out.cell (p := ⟨w.heap.size, _, none⟩) HBLT.out).trans (hcl 2 _ rfl)
      clear hcl
      have hat := atS_bd L i
      have hrv := rvaS_bd L i
      have hv := vS_bd (L i)
      have hfu := fullS_bd (L i)
      have hra := rawS_bd (L i)
      have hri := rightS_bd (L i)
      have m1 := and_3fff (L i).1
      have m2 := and_1fff (L i).2.1
      have m3 := and_7 (L i).2.2
      obtain ⟨p, hp⟩ : ∃ p : Nat, 328 + 40 * (i : Int) = p := ⟨328 + 40 * i, by omega⟩
      have hpn : p = 328 + 40 * i := by omega
      have hp6 : p ≤ 528 := by omega
      have HPN := Lib.hid hpn
      have HRD := Lib.hid (fun W => rround_any (vS (L i)) 4096 W (by omega) (by omega) (by omega) (by omega))
      have hvd : (L i).1 % 16384 + 1 = vS (L i) := rfl
      have hfd : roundS (vS (L i)) 4096 = fullS (L i) := rfl
      rw [hfd] at HRD
      have hrd : (L i).2.1 % 8192 / 512 * 512 % (fullS (L i) + 512) = rawS (L i) := rfl
      have hrr : (L i).2.2 % 8 = rightS (L i) := rfl
      have x0 := HO.out.row p (by omega)
      have x1 := HO.out.row (p + 1) (by omega)
      rw [Nat.zero_add] at x0 x1
      have z0 := (HO.out.wr p (by have := HO.out.len; omega)).2
      have z1 := (HO.out.wr (p + 1) (by have := HO.out.len; omega)).2
      have uw : ∀ x : Int, 0 ≤ x → x ≤ 1000000 → IntKind.u64.wrap x = x := fun x h0 h1 => by rw [IntKind.wrap_u64]; omega
      have wv := uw (vS (L i)) (by omega) (by omega)
      have wr' := uw (rvaS L i) (by omega) (by omega)
      have ww := uw (rawS (L i)) (by omega) (by omega)
      have wa := uw (atS L i) (by omega) (by omega)
      have wg := uw (rightS (L i)) (by omega) (by omega)
      have wi : IntKind.u8.wrap (48 + (i : Int)) = 48 + i := by rw [IntKind.wrap_u8]; omega
      obtain ⟨R, hR⟩ : ∃ R : Nat, rawS (L i) = R := ⟨(rawS (L i)).toNat, by omega⟩
      have HRR := Lib.hid hR
      clear uw hpn
      go_wp2_with (go_fit (HRD.out _); rintro e w' ⟨rfl, rfl⟩)
      have HQ0 := Lib.hid ((HO.out.set p 115 (by omega) (by omega) (by omega)).set (p + 1) (48 + (i : Int)) (by omega) (by omega) (by omega))
      have HB0 := Lib.hid ((HB.out.setCell (p := ⟨g, p, none⟩) HO.out.le (.int .u8 115)).setCell (p := ⟨g, p + 1, none⟩) HO.out.le (.int .u8 (48 + (i : Int))))
      clear HO HB x0 x1 z0 z1
      refine (put_at w0.heap.size _ _ _ _ _ _ (p + 8) 4 (vS (L i)) _ HQ0.out HB0.out.size (by omega) rfl (by omega) (by omega) (by omega) (by omega) (by omega) (by omega)).mono ?_
      rintro e v1 ⟨h1, k1, rfl, ho, hb⟩
      have HQ1 := Lib.hid ho
      have HB1 := Lib.hid (HB0.out.trans (hb.mono HB0.out.size))
      clear ho hb HQ0 HB0
      go_wp2_with fail
      refine (put_at w0.heap.size _ _ _ _ _ _ (p + 12) 4 (rvaS L i) _ HQ1.out HB1.out.size (by omega) rfl (by omega) (by omega) (by omega) (by omega) (by omega) (by omega)).mono ?_
      rintro e v2 ⟨h2, k2, rfl, ho, hb⟩
      have HQ2 := Lib.hid ho
      have HB2 := Lib.hid (HB1.out.trans (hb.mono HB1.out.size))
      clear ho hb HQ1 HB1
      go_wp2_with fail
      refine (put_at w0.heap.size _ _ _ _ _ _ (p + 16) 4 (R : Int) _ HQ2.out HB2.out.size (by omega) rfl (by omega) (by omega) (by omega) (by omega) (by omega) (by omega)).mono ?_
      rintro e v3 ⟨h3, k3, rfl, ho, hb⟩
      have HQ3 := Lib.hid ho
      have HB3 := Lib.hid (HB2.out.trans (hb.mono HB2.out.size))
      clear ho hb HQ2 HB2
      go_wp2_with fail
      refine (put_at w0.heap.size _ _ _ _ _ _ (p + 20) 4 ((atS L i : Nat) : Int) _ HQ3.out HB3.out.size (by omega) rfl (by omega) (by omega) (by omega) (by omega) (by omega) (by omega)).mono ?_
      rintro e v4 ⟨h4, k4, rfl, ho, hb⟩
      have HQ4 := Lib.hid ho
      have HB4 := Lib.hid (HB3.out.trans (hb.mono HB3.out.size))
      clear ho hb HQ3 HB3
      have e2 : v4.cell? ⟨w.heap.size, i * 3 + 2, none⟩ = some (.int .i64 (L i).2.2) := (HB4.out.cell (p := ⟨w.heap.size, _, none⟩) HBLT.out).trans (HCLI.out 2 _ rfl)
      clear d0 d1 d2
      go_wp2_with fail
      refine (put_at w0.heap.size _ _ _ _ _ _ (p + 36) 4 (rightS (L i) * 536870912) _ HQ4.out HB4.out.size (by omega) rfl (by omega) (by omega) (by omega) (by omega) (by omega) (by omega)).mono ?_
      rintro e v5 ⟨h5, k5, rfl, ho, hb⟩
      have HQ5 := Lib.hid ho
      have HB5 := Lib.hid (HB4.out.trans (hb.mono HB4.out.size))
      clear ho hb HQ4 HB4
      clear e2
      go_wp2_with (at_make; refine wpList_makeC rfl _ _ rfl w0.heap.size .i64 .i64 R rfl rfl (by omega) HB5.out.size ?_; intro v6 ho hb hs)
      have HM := Lib.hid ho
      have HQ6 := Lib.hid (HQ5.out.below hb)
      have HB6 := Lib.hid (HB5.out.trans (hb.mono HB5.out.size))
      have HNE : Hid (h5 ≠ v5.heap.size) := Lib.hid (by have := HQ5.out.lt; omega)
      clear ho hb hs HQ5 HB5
      generalize v5.heap.size = gm at *
      go_loopw [14] (fun o14 wr => ∃ k : Nat, k ≤ R ∧ o14 = .int .i64 k ∧ OwnC wr w0.heap.size gm R R (fun q => if q < k then (7 * (q : Int) + i + 1) % 256 else 0) ∧ OwnC wr w0.heap.size h5 (atS L i) k5 (putI (putI (putI (putI (putI (setF (setF F p 115) (p + 1) (48 + i)) (p + 8) (vS (L i)) 4) (p + 12) (rvaS L i) 4) (p + 16) (R : Int) 4) (p + 20) (atS L i) 4) (p + 36) (rightS (L i) * 536870912) 4) ∧ Below w0.heap.size w0 wr) (fun o14 _ => R - (intOf o14).toNat)
      case atStart => exact ⟨0, by omega, rfl, HM.out.congr (fun q => by simp) (fun q _ => by simp), HQ6.out, HB6.out⟩
      case round =>
        obtain ⟨k, hk, rfl, ho, hq, hb⟩ := hrel
        have HM := Lib.hid ho
        have HQ := Lib.hid hq
        have HB := Lib.hid hb
        clear ho hq hb
        by_cases hkl : k < R
        · have hkl' : (k : Int) < R := by omega
          have x0 := HM.out.row k hkl
          rw [Nat.zero_add] at x0
          have z0 := (HM.out.wr k hkl).2
          have wk : IntKind.u8.wrap ((k : Int) * 7 + i + 1) = (7 * (k : Int) + i + 1) % 256 := by rw [IntKind.wrap_u8]; omega
          have hRb : R < 8192 := by omega
          go_wp2_with fail
          go_roundw
          case rel => exact ⟨k + 1, by omega, by go_num, (HM.out.set k ((7 * (k : Int) + i + 1) % 256) hkl (by omega) (by omega)).congr (fun q => by split <;> omega) (fun q hq => by
            unfold setF
            by_cases e : q = k
            · subst e; simp
            · rw [if_neg e]
              show (if q < k then (7 * (q : Int) + i + 1) % 256 else 0) = _
              by_cases e2 : q < k
              · rw [if_pos e2, if_pos (by omega)]
              · rw [if_neg e2, if_neg (by omega)]), HQ.out.of_block (by simp) (heap_setCell_other _ _ _ _ HNE.out), HB.out.setCell HM.out.le _⟩
          case measure => simp [intOf]; omega
        · obtain rfl : k = R := by omega
          go_wp2_with (at_builtin; refine wpList_appC rfl _ _ rfl HQ.out (.inr ⟨gm, 0, rfl, HM.out.lt, HM.out.row⟩) HM.out.by255 (by omega) HB.out.size rfl rfl ?_; intro g' cap' w' ho hb)
          have hsum : rvaS L (i + 1) = rvaS L i + fullS (L i) := rfl
          have hatn : atS L (i + 1) = atS L i + k := by simp only [atS]; rw [HRR.out]; rfl
          go_roundw
          case rel =>
            refine ⟨i + 1, g', cap', _, by omega, by rw [hatn], by rw [hsum], by go_num, by rw [hatn]; exact ho, ?_, HB.out.trans hb⟩
            have hn := HF.out.next (by omega) (fun q => if q < k then (7 * (q : Int) + i + 1) % 256 else 0) (fun q hq => if_pos (by rw [HRR.out] at hq; omega))
            unfold secF at hn
            rw [← HPN.out, HRR.out] at hn
            exact hn
          case measure => simp [intOf]; omega
    · obtain rfl : i = N := by omega
      have wr' : IntKind.u64.wrap (rvaS L i) = rvaS L i := by
        have := rvaS_bd L i
        rw [IntKind.wrap_u64]; omega
      have hrv := rvaS_bd L i
      have hat := atS_bd L i
      go_wp2_with fail
      refine (put_at w0.heap.size _ _ _ _ _ _ 144 4 (rvaS L i) _ HO.out HB.out.size rfl rfl (by omega) (by omega) (by omega) (by omega) (by omega) (by omega)).mono ?_
      rintro e w' ⟨g', c', rfl, ho, hb⟩
      have HO2 := Lib.hid ho
      have HB2 := Lib.hid (HB.out.trans (hb.mono HB.out.size))
      clear ho hb HO HB
      go_wp2_with fail
      go_loopw [6, 15] (fun o6 o15 wr => wr = w' ∧ o15 = .int .i64 0 ∧ o6 = .slice (some ⟨g', 0, none⟩) (atS L i) c') (fun _ _ _ => 0)
      case atStart => exact ⟨rfl, rfl, rfl⟩
      case round =>
        obtain ⟨rfl, rfl, rfl⟩ := hrel
        go_wp2_with fail
        go_ret
        have hN := HNN.out
        have hb0 := HBW.out
        have e1 : atS L 1 = atS L i := by rw [hN]
        have hm := HF.out.done hN2
        have e2 : MadeP L 1 (putI F 144 (rvaS L i) 4) := by have h := hm; rw [hN] at h ⊢; exact h
        exact ⟨g', c', _, by rw [e1]; rfl, by rw [e1]; exact HO2.out.weaken hb0.size, e2, hb0.trans (HB2.out.mono hb0.size)⟩
end Go.Proofs.YtplgdpjbkdagfaaGreat
namespace Go.Proofs.YtplgdpjbkdagfaaGreat
set_option maxRecDepth 100000
open Go.ChangeShapes Go.WideShapes Go.ChangeAt Go.RowKit
set_option linter.unusedVariables false
set_option linter.unusedSimpArgs false

theorem MadeI.sect {L : Nat → Trip} {n : Int} {m i : Nat} {f : Nat → Int} (x : MadeI L n m f) (h : i < m) : sectS f (328 + 40 * i) = ⟨nameS f (328 + 40 * i), vS (L i), rvaS L i, rawS (L i), atS L i, rightS (L i) * 536870912⟩ := by
  have s := x.sec i h
  unfold sectS
  rw [s.v, s.rva, s.raw, s.spot, s.r]

theorem MadeP.begin' {L : Nat → Trip} {n : Nat} {f : Nat → Int} (x : MadeP L n f) (N : Nat) (hN : 328 ≤ N) : beginS N f = (64, 0) := by
  have h := x.all.hd
  unfold beginS
  rw [h.pe, h.m0, h.m1, if_neg (by omega), if_neg (by omega), if_neg (by omega)]
  show (if f 64 ≠ 80 ∨ f (64 + 1) ≠ 69 ∨ f (64 + 2) ≠ 0 ∨ f (64 + 3) ≠ 0 then ((0 : Int), (3 : Int)) else (64, 0)) = _
  rw [h.p0, h.p1, h.p2, h.p3, if_neg (by omega)]

theorem MadeP.opt {L : Nat → Trip} {n : Nat} {f : Nat → Int} (x : MadeP L n f) : optS f 64 = 0 := by
  have h := x.all.hd
  unfold optS
  rw [h.mach, h.opt, h.mg, h.nd, if_neg (by omega), if_neg (by omega)]

theorem rvaS_mono (L : Nat → Trip) {i j : Nat} (h : i ≤ j) : rvaS L i ≤ rvaS L j := by
  induction j with
  | zero => obtain rfl : i = 0 := by omega
            exact Int.le_refl _
  | succ j ih =>
    rcases Nat.lt_or_ge j i with h1 | h1
    · obtain rfl : i = j + 1 := by omega
      exact Int.le_refl _
    · have := ih h1
      have := fullS_bd (L j)
      simp only [rvaS]
      omega

theorem MadeI.chain {L : Nat → Trip} {n : Int} {f : Nat → Int} {t : Nat} (x : MadeI L n t f) (N : Nat) (hN : atS L t ≤ N) : ∀ (m i : Nat), i + m = t → chainP (rvaS L t) N (rvaS L i) ((List.range' i m).map fun j => sectS f (328 + 40 * j))
  | 0, i, h => by
    obtain rfl : i = t := by omega
    rfl
  | m + 1, i, h => by
    rw [List.range'_succ, List.map_cons]
    refine ⟨?_, ?_⟩
    · rw [x.sect (by omega)]
      have h1 := vS_bd (L i)
      have h2 := fullS_bd (L i)
      have h3 := rawS_bd (L i)
      have h4 := rvaS_mono L (show i + 1 ≤ t by omega)
      have h5 := atS_mono L (show i + 1 ≤ t by omega)
      have h6 := rvaS_bd L i
      simp only [rvaS, atS] at h4 h5
      refine ⟨rfl, by show vS (L i) ≠ 0; omega, by show vS (L i) ≤ _; omega, h3.2.2.1, h3.2.2.2, ?_⟩
      show ¬ (0 < rawS (L i) ∧ (N : Int) < (atS L i : Int) + rawS (L i))
      omega
    · rw [x.sect (by omega)]
      exact x.chain N hN m (i + 1) (by omega)

theorem MadeP.headP {L : Nat → Trip} {n : Nat} {f : Nat → Int} (x : MadeP L n f) (N : Nat) (hN : 328 ≤ N) : headP N f = 64 := by
  unfold YtplgdpjbkdagfaaGreat.headP
  rw [x.begin' N hN]
  rfl
theorem MadeP.headK {L : Nat → Trip} {n : Nat} {f : Nat → Int} (x : MadeP L n f) (N : Nat) (hN : 328 ≤ N) : headK N f = n := by
  unfold YtplgdpjbkdagfaaGreat.headK
  rw [x.headP N hN, x.all.hd.cnt]
  omega

theorem MadeP.sectsS {L : Nat → Trip} {n : Nat} {f : Nat → Int} (x : MadeP L n f) : chainP (rvaS L n) (atS L n) 4096 (YtplgdpjbkdagfaaGreat.sectsS f 328 n) := by
  have h := x.all.chain (atS L n) (Nat.le_refl _) n 0 (by omega)
  rw [← List.range_eq_range'] at h
  exact h

/-- It is an image. -/
theorem MadeP.ok {L : Nat → Trip} {n : Nat} {f : Nat → Int} (x : MadeP L n f) (N : Nat) (hN : atS L n ≤ N) (h1 : 1 ≤ n) (h6 : n ≤ 6) : headE N f = 0 := by
  have ha := atS_bd L n
  have hr := rvaS_bd L n
  have h0 := rvaS_mono L (show 1 ≤ n by omega)
  have hf := fullS_bd (L 0)
  have h := x.all.hd
  have hb : (beginS N f).1 = 64 := by rw [x.begin' N (by omega)]
  have hb2 : (beginS N f).2 = 0 := by rw [x.begin' N (by omega)]
  have hal : alignS f 64 (readS f 64).base (readS f 64).size := by
    refine ⟨h.al, h.fal, ?_⟩
    simp only [readS]
    rw [h.base, x.size]
    omega
  have hhp : headersP N 64 (readS f 64).headers (rdF f (64 + 6) 2) := by
    simp only [readS]
    rw [h.hdrs, h.cnt]
    unfold headersP
    omega
  have hch : chainP (readS f 64).size N (roundS (readS f 64).headers 4096) (YtplgdpjbkdagfaaGreat.sectsS f (64 + 264) (rdF f (64 + 6) 2).toNat) := by
    simp only [readS]
    rw [h.hdrs, h.cnt, x.size, show roundS 1024 4096 = 4096 by rfl, Int.toNat_natCast]
    have h := x.all.chain N hN n 0 (by omega)
    rw [← List.range_eq_range'] at h
    exact h
  unfold headE
  rw [if_neg (by omega), hb, show ((64 : Int).toNat) = 64 from rfl, if_neg (by rw [x.opt]; omega), if_neg (fun k => k hal), if_neg (fun k => k hhp), if_neg (fun k => k hch), if_neg]
  simp only [readS]
  rw [x.size, h.ent]
  simp only [rvaS] at h0
  omega
end Go.Proofs.YtplgdpjbkdagfaaGreat
namespace Go.Proofs.YtplgdpjbkdagfaaGreat
set_option maxRecDepth 100000
open Go.ChangeShapes Go.WideShapes Go.ChangeAt Go.RowKit
set_option linter.unusedVariables false
set_option linter.unusedSimpArgs false

theorem HeadR.ok {w : World} {N : Nat} {f : Nat → Int} {v : Value} (h : HeadR w N f v) {L : Nat → Trip} {n : Nat} (x : MadeP L n f) (hN : atS L n ≤ N) (h1 : 1 ≤ n) (h6 : n ≤ 6) :
    ∃ cs g, v = .tuple #[.agg cs, .int .i64 0] ∧ HeadV cs (readS f 64) (.slice (some ⟨g, 0, none⟩) n n) ∧ SlT SectN.cells 6 w (some ⟨g, 0, none⟩) (sectsS f 328 n) ∧ g < w.heap.size := by
  have ha := atS_bd L n
  have h0 := x.ok N hN h1 h6
  obtain ⟨cs, hv, h | ⟨_, g, h2, h3, h4⟩⟩ := h
  · exact (h.1 h0).elim
  · rw [h0] at hv
    rw [x.headP N (by omega), x.headK N (by omega)] at h2 h3
    exact ⟨cs, g, hv, h2, h3, h4⟩

end Go.Proofs.YtplgdpjbkdagfaaGreat
